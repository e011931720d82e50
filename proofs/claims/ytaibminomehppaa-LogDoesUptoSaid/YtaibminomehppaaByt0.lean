import Derived.Test.YtaibminomehppaaDiskF
import Derived.WalkKit
import Derived.ProofKit
import Derived.BigQuiet
import Derived.Deep.QuietTactic
import Derived.WalkSpells
import Derived.WalkLawsBesides
import Derived.Lib.Hide
import Derived.Deep.MidRow
import Derived.Deep.RegionLaw
import Derived.BigRegion
import Derived.Laws.AppendOwnNone
import Derived.Deep.DeepMust
import Derived.Deep.AppendLies
import Derived.RegionTactic
import Derived.Deep.WholeRow
import Derived.BigFrame
import Derived.Deep.RegionWith
import Derived.Deep.RegionHeld3
import Derived.Maps.RangeWalk
import Derived.Laws.CopyOwn
import Derived.StillTailTactics

namespace Go.Proofs.Ytaibminomehppaa
open Go.RowKit
def beAt (k : Nat) (j : Nat) : Int := (k : Int) / 2 ^ (56 - 8 * j) % 256
/-- a number's eight bytes -/
def be8 (k : Nat) : List Int := (List.range 8).map (beAt k)
theorem be8_take_succ (k j : Nat) (h : j < 8) : (be8 k).take (j + 1) = (be8 k).take j ++ [beAt k j] := by
  rw [List.take_succ_eq_append_getElem (by simpa [be8] using h)]; simp [be8]
theorem be8_len (k : Nat) : (be8 k).length = 8 := by simp [be8]
def Rng (l : List Int) : Prop := ∀ x ∈ l, 0 ≤ x ∧ x < 256
theorem Rng.get {l : List Int} (h : Rng l) (i : Nat) : 0 ≤ l[i]?.getD 0 ∧ l[i]?.getD 0 < 256 := by
  by_cases hi : i < l.length
  · rw [List.getElem?_eq_getElem hi]; exact h _ (List.getElem_mem hi)
  · rw [List.getElem?_eq_none (by omega)]; exact ⟨by decide, by decide⟩
theorem Rng.drop {l : List Int} (h : Rng l) (k : Nat) : Rng (l.drop k) := fun x hx => h x (List.mem_of_mem_drop hx)
theorem Rng.take {l : List Int} (h : Rng l) (k : Nat) : Rng (l.take k) := fun x hx => h x (List.mem_of_mem_take hx)
def beI (l : List Int) : Nat := l.foldl (fun n x => n * 256 + x.toNat) 0
theorem beI_snoc (l : List Int) (x : Int) : beI (l ++ [x]) = beI l * 256 + x.toNat := by simp [beI]
theorem beI_lt' (l : List Int) (h : Rng l) : ∀ n : Nat, l.foldl (fun n x => n * 256 + x.toNat) n < (n + 1) * 256 ^ l.length := by
  induction l with
  | nil => intro n; simp
  | cons x l ih =>
    intro n
    have h1 := ih (fun y hy => h y (by simp [hy])) (n * 256 + x.toNat)
    have h2 := h x (by simp)
    rw [List.foldl_cons, List.length_cons, Nat.pow_succ]
    refine Nat.lt_of_lt_of_le h1 ?_
    have h3 : n * 256 + x.toNat + 1 ≤ (n + 1) * 256 := by omega
    calc (n * 256 + x.toNat + 1) * 256 ^ l.length ≤ ((n + 1) * 256) * 256 ^ l.length := Nat.mul_le_mul_right _ h3
      _ = (n + 1) * (256 ^ l.length * 256) := by rw [Nat.mul_assoc, Nat.mul_comm 256]
theorem beI_lt (l : List Int) (h : Rng l) : beI l < 256 ^ l.length := by
  have := beI_lt' l h 0
  simpa [beI] using this
theorem be_step (l : List Int) (h : Rng l) (k : Nat) (hk : k < 8) (hl : k < l.length) :
    bits BinOp.or IntKind.u64 (IntKind.u64.wrap ((beI (l.take k) : Int) * 256)) (IntKind.u64.wrap (l[k]?.getD 0)) = (beI (l.take (k + 1)) : Int) := by
  have h1 := beI_lt (l.take k) (h.take k)
  have h2 := h.get k
  have h3 : (l.take k).length = k := by simp; omega
  rw [h3] at h1
  have h4 : 256 ^ k ≤ 256 ^ 7 := Nat.pow_le_pow_right (by decide) (by omega)
  have h5 : (256 : Nat) ^ 7 = 72057594037927936 := by decide
  have e1 : IntKind.u64.wrap ((beI (l.take k) : Int) * 256) = (beI (l.take k) : Int) * 256 := by rw [IntKind.wrap_u64]; omega
  have e2 : IntKind.u64.wrap (l[k]?.getD 0) = l[k]?.getD 0 := by rw [IntKind.wrap_u64]; omega
  rw [e1, e2, bits_join .u64 64 (by decide) (fun n h0 h1 => by rw [IntKind.wrap_u64]; omega) 8 _ _ (by omega) (by omega) (by omega) h2.1 (by omega) (by omega)]
  rw [List.take_succ_eq_append_getElem hl, beI_snoc]
  have : (l[k]?.getD 0) = l[k] := by rw [List.getElem?_eq_getElem hl]; rfl
  rw [this] at h2 ⊢
  omega
theorem below_drew_grown {w w1 w2 : World} (h : w1.drew.grownBy w2 (Value.slice none 0 0).ownBlock) (hs : w.heap.size ≤ w1.heap.size) : Below w.heap.size w1 w2 :=
  ⟨h.os, h.tape, h.output, h.size, fun k hk => h.block k (Nat.lt_of_lt_of_le hk hs) (by simp [Value.ownBlock])⟩
theorem info5 : (Try.prog.info? 5).map (fun i => (i.zero, i.size, i.bytes)) = some (some (.int .u8 0), 1, 1) := by kernel_rfl
/-- the slice v reads as the bytes l -/
def Bs (w : World) (v : Value) (l : List Int) : Prop :=
  ∃ (a : Option Addr) (cap : Nat), v = .slice a l.length cap ∧ (l.length ≤ cap ∧ (a = none → cap = 0)) ∧ (0 < l.length → ∃ b off, a = some ⟨b, off, none⟩ ∧ b < w.heap.size ∧ ∀ i, i < l.length → w.cell? ⟨b, off + i, none⟩ = some (.int .u8 (l[i]?.getD 0)))
theorem Bs.below {w w' : World} {v : Value} {l : List Int} (h : Bs w v l) (hb : Below w.heap.size w w') : Bs w' v l := by
  obtain ⟨a, cap, hv, hc, h⟩ := h
  refine ⟨a, cap, hv, hc, fun hl => ?_⟩
  obtain ⟨b, off, ha, hbs, hcell⟩ := h hl
  exact ⟨b, off, ha, Nat.lt_of_lt_of_le hbs hb.size, fun i hi => (hb.cell (p := ⟨b, off + i, none⟩) hbs).trans (hcell i hi)⟩
theorem Bs.nil (w : World) : Bs w (.slice none 0 0) [] := ⟨none, 0, rfl, ⟨Nat.le_refl _, fun _ => rfl⟩, fun h => by simp at h⟩
theorem Bs_of_own {w : World} {B n : Nat} {v : Value} {l : List Int} {T : TypeId} (h : w.ownsRow B T 1 v n (l.map (Value.int .u8))) : Bs w v l := by
  have hn : n = l.length := by have := h.1; simp at this; omega
  subst hn
  rcases h.2 with ⟨rfl, h0⟩ | ⟨g, cap, cur, rfl, hg, hh, hle, _, _, _⟩
  · have h1 : l = [] := List.eq_nil_of_length_eq_zero h0
    subst h1
    exact Bs.nil w
  · refine ⟨some ⟨g, 0, none⟩, cap, rfl, ⟨hle, fun e => by cases e⟩, fun hl => ⟨g, 0, rfl, (h.lt g rfl).2, fun i hi => ?_⟩⟩
    have := h.cells (g := g) rfl i (.int .u8 (l[i]?.getD 0)) (by simp [hi])
    rw [Addr.add_mid] at this
    exact this
theorem beAt_nat (n j : Nat) : beAt n j = ((n / 2 ^ (56 - 8 * j) % 256 : Nat) : Int) := by
  simp [beAt]
theorem be8_nat (n : Nat) : be8 n = ([n / 256 / 256 / 256 / 256 / 256 / 256 / 256 % 256, n / 256 / 256 / 256 / 256 / 256 / 256 % 256, n / 256 / 256 / 256 / 256 / 256 % 256, n / 256 / 256 / 256 / 256 % 256, n / 256 / 256 / 256 % 256, n / 256 / 256 % 256, n / 256 % 256, n % 256].map fun x : Nat => (x : Int)) := by
  have e : be8 n = [beAt n 0, beAt n 1, beAt n 2, beAt n 3, beAt n 4, beAt n 5, beAt n 6, beAt n 7] := rfl
  rw [e]
  simp only [beAt_nat, List.map_cons, List.map_nil, Nat.div_div_eq_div_mul, Nat.reducePow, Nat.reduceMul, Nat.reduceSub, Nat.div_one]
theorem beI_nat (l : List Nat) : beI (l.map fun x : Nat => (x : Int)) = l.foldl (fun n x => n * 256 + x) 0 := by
  simp [beI, List.foldl_map]
theorem hstep (m q : Nat) (h : m / 256 = q) : q * 256 + m % 256 = m := by subst h; omega
set_option maxRecDepth 10000 in
theorem beI_be8 (n : Nat) (h : n < 18446744073709551616) : beI (be8 n) = n := by
  rw [be8_nat, beI_nat]
  simp only [List.foldl_cons, List.foldl_nil]
  have h7 : n / 256 / 256 / 256 / 256 / 256 / 256 / 256 < 256 := by omega
  clear h
  generalize h1 : n / 256 = m1 at *
  generalize h2 : m1 / 256 = m2 at *
  generalize h3 : m2 / 256 = m3 at *
  generalize h4 : m3 / 256 = m4 at *
  generalize h5 : m4 / 256 = m5 at *
  generalize h6 : m5 / 256 = m6 at *
  generalize h8 : m6 / 256 = m7 at *
  have e7 : (0 * 256 + m7 % 256) = m7 := by rw [Nat.zero_mul, Nat.zero_add, Nat.mod_eq_of_lt h7]
  have e6 : m7 * 256 + m6 % 256 = m6 := hstep _ _ h8
  have e5 : m6 * 256 + m5 % 256 = m5 := hstep _ _ h6
  have e4 : m5 * 256 + m4 % 256 = m4 := hstep _ _ h5
  have e3 : m4 * 256 + m3 % 256 = m3 := hstep _ _ h4
  have e2 : m3 * 256 + m2 % 256 = m2 := hstep _ _ h3
  have e1 : m2 * 256 + m1 % 256 = m1 := hstep _ _ h2
  have e0 : m1 * 256 + n % 256 = n := hstep _ _ h1
  rw [e7, e6, e5, e4, e3, e2, e1, e0]
set_option maxRecDepth 10000 in
theorem be8_fold (a b c d e f g i : Nat) (ha : a < 256) (hb : b < 256) (hc : c < 256) (hd : d < 256) (he : e < 256) (hf : f < 256) (hg : g < 256) (hi : i < 256) :
    be8 (beI ([a, b, c, d, e, f, g, i].map fun x : Nat => (x : Int))) = [a, b, c, d, e, f, g, i].map fun x : Nat => (x : Int) := by
  rw [beI_nat, be8_nat]
  simp only [List.foldl_cons, List.foldl_nil, Nat.zero_mul, Nat.zero_add]
  generalize h1 : a * 256 + b = m1
  generalize h2 : m1 * 256 + c = m2
  generalize h3 : m2 * 256 + d = m3
  generalize h4 : m3 * 256 + e = m4
  generalize h5 : m4 * 256 + f = m5
  generalize h6 : m5 * 256 + g = m6
  generalize h7 : m6 * 256 + i = m7
  have q6 : m7 / 256 = m6 := by omega
  have q5 : m6 / 256 = m5 := by omega
  have q4 : m5 / 256 = m4 := by omega
  have q3 : m4 / 256 = m3 := by omega
  have q2 : m3 / 256 = m2 := by omega
  have q1 : m2 / 256 = m1 := by omega
  have q0 : m1 / 256 = a := by omega
  rw [q6, q5, q4, q3, q2, q1, q0]
  have r7 : m7 % 256 = i := by omega
  have r6 : m6 % 256 = g := by omega
  have r5 : m5 % 256 = f := by omega
  have r4 : m4 % 256 = e := by omega
  have r3 : m3 % 256 = d := by omega
  have r2 : m2 % 256 = c := by omega
  have r1 : m1 % 256 = b := by omega
  have r0 : a % 256 = a := by omega
  rw [r7, r6, r5, r4, r3, r2, r1, r0]
theorem be8_rng (n : Nat) : Rng (be8 n) := by
  intro x hx
  simp only [be8, List.mem_map] at hx
  obtain ⟨j, _, rfl⟩ := hx
  rw [beAt_nat]
  omega
theorem rng_append {a b : List Int} (ha : Rng a) (hb : Rng b) : Rng (a ++ b) := fun x hx => (List.mem_append.1 hx).elim (ha x) (hb x)
theorem be8_beI {l : List Int} (hl : l.length = 8) (h : Rng l) : be8 (beI l) = l := by
  match l, hl with
  | [a, b, c, d, e, f, g, i], _ =>
    have ha := h a (by simp)
    have hb := h b (by simp)
    have hc := h c (by simp)
    have hd := h d (by simp)
    have he := h e (by simp)
    have hf := h f (by simp)
    have hg := h g (by simp)
    have hi := h i (by simp)
    have key := be8_fold a.toNat b.toNat c.toNat d.toNat e.toNat f.toNat g.toNat i.toNat (by omega) (by omega) (by omega) (by omega) (by omega) (by omega) (by omega) (by omega)
    have e2 : ([a.toNat, b.toNat, c.toNat, d.toNat, e.toNat, f.toNat, g.toNat, i.toNat].map fun x : Nat => (x : Int)) = [a, b, c, d, e, f, g, i] := by
      simp only [List.map_cons, List.map_nil]
      rw [Int.toNat_of_nonneg ha.1, Int.toNat_of_nonneg hb.1, Int.toNat_of_nonneg hc.1, Int.toNat_of_nonneg hd.1, Int.toNat_of_nonneg he.1, Int.toNat_of_nonneg hf.1, Int.toNat_of_nonneg hg.1, Int.toNat_of_nonneg hi.1]
    rw [e2] at key
    exact key
/-- append of a slice that reads as bytes to one's own row -/
theorem wpList_append_bs {P : Program} {ops : Array Oper} {rest : List Oper} {o : Oper} {a : Act} {w : World} {Q : Exit → Act → World → Prop} (hgd : o.guard = none) (s x : Operand) (t : TypeId)
    (ho : o.op = .call { callee := .builtin .append, args := #[s, x], argTypes := #[t, t] })
    (base : Nat) (e : TypeId) (i : TypeInfo) (ht : P.underlying t = some (.slice e)) (hi : P.info? e = some i) (hz : i.zero = some (.int .u8 0))
    (hsize : i.size = 1) (hby : i.bytes = 1)
    (v : Value) (n : Nat) (xs : List Value) (hs : a.eval s = v) (hown : w.ownsRow base e 1 v n xs)
    (v2 : Value) (l : List Int) (hx : a.eval x = v2) (hbs : Bs w v2 l) (h63 : n + l.length ≤ 1099511627776) (hbase : base ≤ w.heap.size)
    (h : ∀ v' w', w'.ownsRow base e 1 v' (n + l.length) (xs ++ l.map (Value.int .u8)) → w.grownBy w' v.ownBlock → wpList P ops Q rest (a.put o.dst v') w') : wpList P ops Q (o :: rest) a w := by
  obtain ⟨ad, cap, rfl, hcap, hc⟩ := hbs
  cases ad with
  | none =>
    have h0 : cap = 0 := hcap.2 rfl
    have h1 : l = [] := List.eq_nil_of_length_eq_zero (by omega)
    subst h0 h1
    refine wpList_append_own_none hgd s x t ho base e i 1 ht hi v n xs hs hown hx ?_
    exact h v w (by simpa using hown) (World.grownBy.refl _ _)
  | some ad =>
    refine wpList_append_own w hgd s x t ho base e i (.int .u8 0) 1 1 ht hi hz hsize hby rfl (by decide) v n xs hs hown ad l.length cap (l.map (Value.int .u8)) hx (by simp) ?_ (by intro v hv; obtain ⟨x, _, rfl⟩ := List.mem_map.1 hv; rfl) (by unfold maxLen; omega) (by omega) hbase (fun v' w' h1 h2 _ => h v' w' h1 h2)
    intro q u hu
    rw [List.getElem?_map, Option.map_eq_some_iff] at hu
    obtain ⟨y, hy, rfl⟩ := hu
    have hq : q < l.length := (List.getElem?_eq_some_iff.1 hy).1
    obtain ⟨pb, po, e1, e2, e3⟩ := hc (by omega)
    injection e1 with e1
    have e4 := e3 q hq
    rw [hy] at e4
    rw [e1, Addr.add_mid]
    exact e4
theorem run_append_bs {P : Program} {w : World} (t ty e : TypeId) (base : Nat) (i : TypeInfo) (ht : P.underlying t = some (.slice e)) (hi : P.info? e = some i) (hz : i.zero = some (.int .u8 0))
    (hsize : i.size = 1) (hby : i.bytes = 1) (v : Value) (n : Nat) (xs : List Value) (hown : w.ownsRow base e 1 v n xs)
    (v2 : Value) (l : List Int) (hbs : Bs w v2 l) (h63 : n + l.length ≤ 1099511627776) (hbase : base ≤ w.heap.size) :
    ∃ v' w', (Builtin.append_ #[t, t] ty #[v, v2]).run P w = .ok v' w' ∧ w'.ownsRow base e 1 v' (n + l.length) (xs ++ l.map (Value.int .u8)) ∧ w.grownBy w' v.ownBlock := by
  obtain ⟨ad, cap, rfl, hcap, hc⟩ := hbs
  cases ad with
  | none =>
    have h0 : cap = 0 := hcap.2 rfl
    have h1 : l = [] := List.eq_nil_of_length_eq_zero (by omega)
    subst h0 h1
    exact ⟨v, w, run_append_owned_none (P := P) (w := w) base t ty e i 1 ht hi v n xs hown, by simpa using hown, World.grownBy.refl _ _⟩
  | some ad =>
    obtain ⟨v', w', h1, h2, h3, _⟩ := run_append_own (P := P) w base t ty e i (.int .u8 0) 1 1 ht hi hz hsize hby rfl (by decide) v n xs hown ad l.length cap (l.map (Value.int .u8)) (by simp) (by
      intro q u hu
      rw [List.getElem?_map, Option.map_eq_some_iff] at hu
      obtain ⟨y, hy, rfl⟩ := hu
      have hq : q < l.length := (List.getElem?_eq_some_iff.1 hy).1
      obtain ⟨pb, po, e1, e2, e3⟩ := hc (by omega)
      injection e1 with e1
      have e4 := e3 q hq
      rw [hy] at e4
      rw [e1, Addr.add_mid]
      exact e4) (by intro v hv; obtain ⟨x, _, rfl⟩ := List.mem_map.1 hv; rfl) (by unfold maxLen; omega) (by omega) hbase
    exact ⟨v', w', h1, h2, h3⟩
/-- a literal of no elements: a new block of one's own, the value kept unwritten -/
theorem wpList_build_empty {P : Program} {w : World} {ops : Array Oper} {rest : List Oper} {o : Oper} {a : Act} {Q : Exit → Act → World → Prop} (hgd : o.guard = none) (t e : TypeId) (size : Nat)
    (ho : o.op = .buildSlice t 0 #[]) (hrun : ∀ w : World, (Instr.buildSlice t 0 #[]).run P w = .ok (.slice (some ⟨w.heap.size, 0, none⟩) 0 0) (w.alloc (.cells #[] e)))
    (h : ∀ v w', w'.ownsRow w.heap.size e size v 0 [] → Below w.heap.size w w' → v.ownBlock = some w.heap.size → w'.heap.size = w.heap.size + 1 → wpList P ops Q rest (a.put o.dst v) w') : wpList P ops Q (o :: rest) a w := by
  refine wpList_plain hgd fun K hK => ?_
  unfold Oper.wp
  simp [execOp, ho, hrun, Result.andThen, Oper.upon]
  refine hK _ _ (h _ _ (World.ownsRow_lit w #[] 0 (Nat.le_refl _) (Nat.zero_le _) (by simp)) ((Below.refl _ _).alloc (Nat.le_refl _) _) rfl (by simp))
def Own (w : World) (B : Nat) (v : Value) (l : List Int) : Prop := w.ownsRow B 5 1 v l.length (l.map (Value.int .u8))
theorem Own.bs {w : World} {B : Nat} {v : Value} {l : List Int} (h : Own w B v l) : Bs w v l := Bs_of_own h
theorem Own.below {w w' : World} {B B' : Nat} {v : Value} {l : List Int} (h : Own w B v l) (hb : Below B' w w') (hB : w.heap.size ≤ B') : Own w' B v l := by
  have hg : w.grownBy w' none := ⟨hb.os, hb.tape, hb.output, hb.size, fun k hk _ => hb.block k (by omega)⟩
  refine World.ownsRow.kept h hg ?_
  cases hv : v.ownBlock with
  | none => exact .inl rfl
  | some g => exact .inr (by simp)
theorem Own.alloc {w : World} {B : Nat} {v : Value} {l : List Int} (h : Own w B v l) (o : Obj) : Own (w.alloc o) B v l := World.ownsRow.alloc h o
theorem Own.nil (w : World) (B : Nat) : Own w B (.slice none 0 0) [] := World.ownsRow_nil _ _ _ _
theorem Own.eq {w : World} {B : Nat} {v : Value} {l m : List Int} (h : Own w B v l) (e : l = m) : Own w B v m := e ▸ h
theorem lit_bs (w : World) (T : TypeId) (C : List Int) (fr : Nat × Nat) (n c : Nat) (hn : C.length = n) (hc : n ≤ c) : Bs (w.alloc (.cells (C.map (Value.int .u8)).toArray T fr)) (.slice (some ⟨w.heap.size, 0, none⟩) n c) C := by
  subst hn
  refine ⟨some ⟨w.heap.size, 0, none⟩, c, rfl, ⟨hc, fun e => by cases e⟩, fun hl => ⟨w.heap.size, 0, rfl, by simp, fun i hi => ?_⟩⟩
  rw [cell_of_row _ w.heap.size _ _ _ _ (heap_alloc_new _ _)]
  simp [hi]
theorem wpList_append_Own {ops : Array Oper} {rest : List Oper} {o : Oper} {a : Act} {w : World} {Q : Exit → Act → World → Prop} (hgd : o.guard = none) (s x : Operand)
    (ho : o.op = .call { callee := .builtin .append, args := #[s, x], argTypes := #[39, 39] }) (B : Nat)
    (v : Value) (l : List Int) (hs : a.eval s = v) (hown : Own w B v l) (v2 : Value) (m : List Int) (hx : a.eval x = v2) (hbs : Bs w v2 m) (h63 : l.length + m.length ≤ 1099511627776) (hbase : B ≤ w.heap.size)
    (h : ∀ v' w', Own w' B v' (l ++ m) → Below B w w' → wpList Try.prog ops Q rest (a.put o.dst v') w') : wpList Try.prog ops Q (o :: rest) a w := by
  obtain ⟨i0, hi, hz0, hz1, hz2⟩ := info_parts info5
  refine wpList_append_bs hgd s x 39 ho B 5 i0 Try.underlying39 hi hz0 hz1 hz2 v l.length _ hs hown v2 m hx hbs h63 hbase fun v' w' h1 h2 => h v' w' ?_ ?_
  · unfold Own; rw [List.length_append, List.map_append]; exact h1
  · exact (Below.refl _ _).grown h2 hbase (fun g hg => (hown.lt g hg).1)
end Go.Proofs.Ytaibminomehppaa
