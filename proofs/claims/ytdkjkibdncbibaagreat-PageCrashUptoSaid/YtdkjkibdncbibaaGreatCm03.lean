import Derived.Test.YtdkjkibdncbibaaGreatCm02
import Derived.Test.YtdkjkibdncbibaaGreatRows
import Derived.OpenShut
import Derived.Deep.DeepHandedRow
import Derived.Deep.DeepWitnessRowRef
import Derived.Deep.Matrix
import Derived.Deep.Slices
import Derived.Deep.Grids
import Derived.Deep.Fields
import Derived.ChangeSame
import Derived.ChangeMaps5
namespace Go.Proofs.YtdkjkibdncbibaaGreat
open Go.ChangeShapes Go.WideShapes Go.ChangeAt Go.RowKit Go.Deep
open Go.Lib (hid)
/-- arguments read again behind a call that has only made memory -/
theorem trodAll_below {H : Type} {enc : TypeId × Value → H} {P : Program} (hl : laidOutB P = true) {W W' : World} (hb : Below W.heap.size W W') :
  ∀ {ts : List TypeId} {vs : List Value} {ds : List (DataW H)} {ps : List MemPlace}, (∀ t ∈ ts, P.readableRec t = true ∧ t < P.types.size) →
   DataW.TrodAll enc P W 0 (fun _ => true) true ts vs ds ps → (∀ x ∈ ps, x.block < W.heap.size) → DataW.TrodAll enc P W' 0 (fun b => decide (b < W.heap.size)) true ts vs ds ps := by
 intro ts
 induction ts with
 | nil =>
  intro vs ds ps _ h _
  obtain ⟨rfl, rfl, rfl⟩ := trodAll_nil h
  exact trodAll_mk0
 | cons t ts ih =>
  intro vs ds ps hr h hlt
  obtain ⟨v, vs', d, ds', p, q, rfl, rfl, rfl, h1, h2⟩ := trodAll_cons h
  have ht := hr t (by simp)
  exact trodAll_cons_mk (Below.trod hl ht.1 ht.2 h1 hb (fun x hx => hlt x (by simp [hx]))) (ih (fun t ht => hr t (by simp [ht])) h2 (fun x hx => hlt x (by simp [hx])))
/-- the post of a law: true, and the arguments read as before -/
theorem law_post {H : Type} {enc : TypeId × Value → H} {P : Program} {f : Func} {s : ChangeSpec} {apart fresh handsOn : Bool} {W W' : World} {args : Array Value} {ds gs : List (DataW H)} {before : List MemPlace} {T : TypeId}
  (hl : laidOutB P = true) (hr : ∀ t ∈ f.params.toList, P.readableRec t = true ∧ t < P.types.size) (hv : s.vars = []) (hres : f.resultTypes = #[T]) (hT : P.underlying T = some .bool)
  (hfn : ∀ gs : List (DataW H), gs = [] → s.fn H (ds ++ gs) = { results := [.lit (.bool true)], args := ds })
  (hW : DataW.Whole enc P f.params.toList s.vars apart W args.toList ds gs before) (hb : Below W.heap.size W W') :
  s.post enc P f apart fresh handsOn false W args (.bool true) W' := by
 have hlt := hW.lt
 have hW' := hW
 obtain ⟨p, q, hA, hV, rfl, _, _⟩ := hW
 rw [hv] at hV
 obtain ⟨rfl, rfl⟩ := trodVars_none hV
 have e := hfn [] rfl
 refine ⟨ds, [], _, [], p, [], hW', ?_, ?_, ?_, hb.frame _, fun h => by cases h⟩
 ·rw [e, hres]
  exact trodAll_cons_mk (shut_bool hT _) trodAll_mk0
 ·rw [e]
  exact trodAll_below hl hb hr hA (fun x hx => hlt x (by simp [hx]))
 ·rw [e, hv]
  exact rfl
section
variable {H : Type} {enc : TypeId × Value → H} {P : Program} {w : World} {base : Nat} {spare : Nat → Bool} {held : Bool}
theorem open_slice_fields {t e : TypeId} {fs : Array Field} {fuel : Nat} {cs : List Value} {x : DataW H × List MemPlace} (ht : P.underlying t = some (.slice e)) (he : P.underlying e = some (.struct fs))
  (hone : oneCellFields P fs = true) (hC : P.cellsOf e = fs.size) (h : DataW.trod enc P w base spare held fuel t cs = some x) :
  (cs = [.slice none 0 0] ∧ x = (.nil, [])) ∨
  ∃ (a : Addr) (len cap m : Nat) (D : Nat → DataW H) (Pl : Nat → List MemPlace), cs = [.slice (some a) len cap] ∧ base ≤ a.block ∧ len ≤ cap ∧ cap ≤ maxLen ∧ m = (if spare a.block then cap else len) ∧
   x = (.slice ((List.range len).map D) ((List.range (m - len)).map fun j => D (len + j)), MemPlace.row a (m * fs.size) ++ (List.range m).flatMap Pl) ∧
   ∀ i, i < m → ∃ (ys : List (DataW H × List MemPlace)) (n : Nat), D i = .agg (ys.map (·.1)) ∧ Pl i = ys.flatMap (·.2) ∧ ys.length = fs.size ∧
    ∀ (j : Nat) (f : Field), fs[j]? = some f → ∃ (v : Value) (y : DataW H × List MemPlace), w.cell? (a.add (i * fs.size + j)) = some v ∧ ys[j]? = some y ∧ DataW.trod enc P w base spare held n f.type [v] = some y := by
 rcases open_slice ht h with h0 | ⟨a, len, cap, m, n, D, Pl, hcs, hb, hl, hm, hmm, hx, hi⟩
 ·exact .inl h0
 ·refine .inr ⟨a, len, cap, m, D, Pl, hcs, hb, hl, hm, hmm, by rw [hC] at hx; exact hx, fun i him => ?_⟩
  obtain ⟨cs', hc, ht'⟩ := hi i him
  rw [hC] at hc
  obtain ⟨ys, n', hn', hy, hlen, hyl, hf⟩ := DataW.trod_struct he ht'
  obtain ⟨_, hcl, hat⟩ := World.cells?_some hc
  simp only [Prod.mk.injEq] at hy
  refine ⟨ys, n', hy.1, hy.2, hyl, fun j f hj => ?_⟩
  obtain ⟨ho, hk⟩ := hone_of hone j f hj
  have hjl : j < fs.size := (Array.getElem?_eq_some_iff.1 hj).1
  have hcell := hat j hjl
  have hv : cs'[j]? = some (cs'[j]'(by omega)) := List.getElem?_eq_getElem (by omega)
  have h1 := hf j f hj
  rw [ho, hk] at h1
  have hone' : (cs'.drop j).take 1 = [cs'[j]'(by omega)] := by
   rw [List.drop_eq_getElem_cons (by omega)]
   rfl
  rw [hone'] at h1
  have hys : ys[j]? = some (ys[j]'(by omega)) := List.getElem?_eq_getElem (by omega)
  refine ⟨_, _, ?_, hys, h1.trans hys⟩
  rw [← Go.Deep.add_add, hcell, hv]
end
theorem i64_of_wf {n : Int} (h : (Lit.int .i64 n).wf = true) : -9223372036854775808 ≤ n ∧ n ≤ 9223372036854775807 := by
 simp [Lit.wf, IntKind.min, IntKind.max, IntKind.signed, IntKind.bits] at h
 omega
theorem own : ownKnob Tryz.prog.godebug = none := by kernel_rfl
theorem laidOut : laidOutB Tryz.prog = true := by kernel_rfl
theorem bulk_pos {H : Type} (d : DataW H) : 1 ≤ Rows.uptoBulk d := by
 cases d with
 | lit l => cases l <;> simp [Rows.uptoBulk]
 | _ => simp [Rows.uptoBulk] <;> omega
theorem bulk_len {H : Type} : ∀ (l : List (DataW H)), l.length ≤ Rows.uptoBulkAll l
 | [] => Nat.zero_le _
 | e :: l => by
  have h1 := bulk_pos e
  have h2 := bulk_len l
  simp only [Rows.uptoBulkAll, List.length_cons]
  omega
theorem u8_of_wf {n : Int} (h : (Lit.int .u8 n).wf = true) : 0 ≤ n ∧ n ≤ 255 := by
 simp [Lit.wf, IntKind.min, IntKind.max, IntKind.signed, IntKind.bits] at h
 omega
theorem add_none (b o k : Nat) : (⟨b, o, none⟩ : Addr).add k = ⟨b, o + k, none⟩ := Addr.add_mid b o k
section
variable {H : Type} {enc : TypeId × Value → H} {W : World}
set_option maxRecDepth 100000 in
theorem bools_of_trod {fuel : Nat} {v : Value} {y : DataW H × List MemPlace} (h : DataW.trod enc Tryz.prog W 0 (fun _ => true) true fuel 40 [v] = some y) : ∃ ks : List Bool, Bools W v ks ∧ ks.length ≤ Rows.uptoBulk y.1 := by
  rcases open_bools Tryz.underlying40 Tryz.underlying4 (by kernel_rfl) h with ⟨hcs, rfl⟩ | ⟨a, len, cap, Bf, hcs, _, hl, _, rfl, hc⟩
  · simp only [List.cons.injEq, and_true] at hcs
    subst hcs
    exact ⟨[], ⟨none, 0, rfl, fun h => by simp at h⟩, Nat.zero_le _⟩
  · simp only [List.cons.injEq, and_true] at hcs
    subst hcs
    refine ⟨(List.range len).map Bf, ⟨some a, cap, by simp, fun h0 => ?_⟩, ?_⟩
    · simp only [List.length_map, List.length_range] at h0
      have h1 := hc 0 (by omega)
      have hsp := World.cell?_spot h1
      have hlt := World.block_lt_of_cell? _ _ h1
      obtain ⟨ab, ao, asp⟩ := a
      have hsp' : asp = none := by simpa [Addr.add] using hsp
      subst hsp'
      refine ⟨ab, ao, rfl, by simpa [Addr.add] using hlt, fun i hi => ?_⟩
      simp only [List.length_map, List.length_range] at hi
      have h2 := hc i (by omega)
      rw [add_none] at h2
      rw [h2, List.getElem?_map, List.getElem?_range hi]
      rfl
    · simp only [boolRow, Rows.uptoBulk]
      have := bulk_len (H := H) ((List.range len).map fun i => DataW.lit (.bool (Bf i)))
      simp only [List.length_map, List.length_range] at this ⊢
      omega
end
end Go.Proofs.YtdkjkibdncbibaaGreat
namespace Go.Proofs.YtdkjkibdncbibaaGreat
open Go.RowKit
open Go.Lib (hid)
def beAt (k : Nat) (j : Nat) : Int := (k : Int) / 2 ^ (56 - 8 * j) % 256
/-- a number's eight bytes -/
def be8 (k : Nat) : List Int := (List.range 8).map (beAt k)
theorem be8_take_succ (k j : Nat) (h : j < 8) : (be8 k).take (j + 1) = (be8 k).take j ++ [beAt k j] := by
 rw [List.take_succ_eq_append_getElem (by simpa [be8] using h)]; simp [be8]
theorem be8_len (k : Nat) : (be8 k).length = 8 := by simp [be8]
def Rng (l : List Int) : Prop := ∀ x ∈ l, 0 ≤ x ∧ x < 256
theorem Rng.get {l : List Int} (h : Rng l) (i : Nat) : 0 ≤ l[i]?.getD 0 ∧ l[i]?.getD 0 < 256 := by
 by_cases hi : i < l.length
 ·rw [List.getElem?_eq_getElem hi]; exact h _ (List.getElem_mem hi)
 ·rw [List.getElem?_eq_none (by omega)]; exact ⟨by decide, by decide⟩
theorem Rng.drop {l : List Int} (h : Rng l) (k : Nat) : Rng (l.drop k) := fun x hx => h x (List.mem_of_mem_drop hx)
theorem Rng.take {l : List Int} (h : Rng l) (k : Nat) : Rng (l.take k) := fun x hx => h x (List.mem_of_mem_take hx)
def beI (l : List Int) : Nat := l.foldl (fun n x => n * 256 + x.toNat) 0
theorem beI_snoc (l : List Int) (x : Int) : beI (l ++ [x]) = beI l * 256 + x.toNat := by simp [beI]
theorem beI_lt' (l : List Int) (h : Rng l) : ∀ n : Nat, l.foldl (fun n x => n * 256 + x.toNat) n < (n + 1) * 256 ^ l.length := by
 induction l with
 | nil => intro n; simp
 | cons x l ih =>
  intro n
  have h1 := ih (fun y hy => h y (by simp [hy])) (n * 256 + x.toNat)
  have h2 := h x (by simp)
  rw [List.foldl_cons, List.length_cons, Nat.pow_succ]
  refine Nat.lt_of_lt_of_le h1 ?_
  have h3 : n * 256 + x.toNat + 1 ≤ (n + 1) * 256 := by omega
  calc (n * 256 + x.toNat + 1) * 256 ^ l.length ≤ ((n + 1) * 256) * 256 ^ l.length := Nat.mul_le_mul_right _ h3
   _ = (n + 1) * (256 ^ l.length * 256) := by rw [Nat.mul_assoc, Nat.mul_comm 256]
theorem beI_lt (l : List Int) (h : Rng l) : beI l < 256 ^ l.length := by
  have := beI_lt' l h 0
  simpa [beI] using this
theorem be_step (l : List Int) (h : Rng l) (k : Nat) (hk : k < 8) (hl : k < l.length) :
  bits BinOp.or IntKind.u64 (IntKind.u64.wrap ((beI (l.take k) : Int) * 256)) (IntKind.u64.wrap (l[k]?.getD 0)) = (beI (l.take (k + 1)) : Int) := by
 have h1 := beI_lt (l.take k) (h.take k)
 have h2 := h.get k
 have h3 : (l.take k).length = k := by simp; omega
 rw [h3] at h1
 have h4 : 256 ^ k ≤ 256 ^ 7 := Nat.pow_le_pow_right (by decide) (by omega)
 have h5 : (256 : Nat) ^ 7 = 72057594037927936 := by decide
 have e1 : IntKind.u64.wrap ((beI (l.take k) : Int) * 256) = (beI (l.take k) : Int) * 256 := by rw [IntKind.wrap_u64]; omega
 have e2 : IntKind.u64.wrap (l[k]?.getD 0) = l[k]?.getD 0 := by rw [IntKind.wrap_u64]; omega
 rw [e1, e2, bits_join .u64 64 (by decide) (fun n h0 h1 => by rw [IntKind.wrap_u64]; omega) 8 _ _ (by omega) (by omega) (by omega) h2.1 (by omega) (by omega)]
 rw [List.take_succ_eq_append_getElem hl, beI_snoc]
 have : (l[k]?.getD 0) = l[k] := by rw [List.getElem?_eq_getElem hl]; rfl
 rw [this] at h2 ⊢
 omega
theorem info5 : (Tryz.prog.info? 5).map (fun i => (i.zero, i.size, i.bytes)) = some (some (.int .u8 0), 1, 1) := by kernel_rfl
/-- the slice v reads as the bytes l -/
def Bs (w : World) (v : Value) (l : List Int) : Prop :=
 ∃ (a : Option Addr) (cap : Nat), v = .slice a l.length cap ∧ (l.length ≤ cap ∧ (a = none → cap = 0)) ∧ (0 < l.length → ∃ b off, a = some ⟨b, off, none⟩ ∧ b < w.heap.size ∧ ∀ i, i < l.length → w.cell? ⟨b, off + i, none⟩ = some (.int .u8 (l[i]?.getD 0)))
theorem Bs.below {w w' : World} {v : Value} {l : List Int} (h : Bs w v l) (hb : Below w.heap.size w w') : Bs w' v l := by
 obtain ⟨a, cap, hv, hc, h⟩ := h
 refine ⟨a, cap, hv, hc, fun hl => ?_⟩
 obtain ⟨b, off, ha, hbs, hcell⟩ := h hl
 exact ⟨b, off, ha, Nat.lt_of_lt_of_le hbs hb.size, fun i hi => (hb.cell (p := ⟨b, off + i, none⟩) hbs).trans (hcell i hi)⟩
theorem Bs.nil (w : World) : Bs w (.slice none 0 0) [] := ⟨none, 0, rfl, ⟨Nat.le_refl _, fun _ => rfl⟩, fun h => by simp at h⟩
theorem Bs_of_own {w : World} {B n : Nat} {v : Value} {l : List Int} {T : TypeId} (h : w.ownsRow B T 1 v n (l.map (Value.int .u8))) : Bs w v l := by
  have hn : n = l.length := by have := h.1; simp at this; omega
  subst hn
  rcases h.2 with ⟨rfl, h0⟩ | ⟨g, cap, cur, rfl, hg, hh, hle, _, _, _⟩
  · have h1 : l = [] := List.eq_nil_of_length_eq_zero h0
    subst h1
    exact Bs.nil w
  · refine ⟨some ⟨g, 0, none⟩, cap, rfl, ⟨hle, fun e => by cases e⟩, fun hl => ⟨g, 0, rfl, (h.lt g rfl).2, fun i hi => ?_⟩⟩
    have := h.cells (g := g) rfl i (.int .u8 (l[i]?.getD 0)) (by simp [hi])
    rw [Addr.add_mid] at this
    exact this
theorem beAt_nat (n j : Nat) : beAt n j = ((n / 2 ^ (56 - 8 * j) % 256 : Nat) : Int) := by
 simp [beAt]
theorem be8_nat (n : Nat) : be8 n = ([n / 256 / 256 / 256 / 256 / 256 / 256 / 256 % 256, n / 256 / 256 / 256 / 256 / 256 / 256 % 256, n / 256 / 256 / 256 / 256 / 256 % 256, n / 256 / 256 / 256 / 256 % 256, n / 256 / 256 / 256 % 256, n / 256 / 256 % 256, n / 256 % 256, n % 256].map fun x : Nat => (x : Int)) := by
 have e : be8 n = [beAt n 0, beAt n 1, beAt n 2, beAt n 3, beAt n 4, beAt n 5, beAt n 6, beAt n 7] := rfl
 rw [e]
 simp only [beAt_nat, List.map_cons, List.map_nil, Nat.div_div_eq_div_mul, Nat.reducePow, Nat.reduceMul, Nat.reduceSub, Nat.div_one]
theorem beI_nat (l : List Nat) : beI (l.map fun x : Nat => (x : Int)) = l.foldl (fun n x => n * 256 + x) 0 := by
 simp [beI, List.foldl_map]
theorem hstep (m q : Nat) (h : m / 256 = q) : q * 256 + m % 256 = m := by subst h; omega
set_option maxRecDepth 10000 in
theorem beI_be8 (n : Nat) (h : n < 18446744073709551616) : beI (be8 n) = n := by
 rw [be8_nat, beI_nat]
 simp only [List.foldl_cons, List.foldl_nil]
 have h7 : n / 256 / 256 / 256 / 256 / 256 / 256 / 256 < 256 := by omega
 clear h
 generalize h1 : n / 256 = m1 at *
 generalize h2 : m1 / 256 = m2 at *
 generalize h3 : m2 / 256 = m3 at *
 generalize h4 : m3 / 256 = m4 at *
 generalize h5 : m4 / 256 = m5 at *
 generalize h6 : m5 / 256 = m6 at *
 generalize h8 : m6 / 256 = m7 at *
 have e7 : (0 * 256 + m7 % 256) = m7 := by rw [Nat.zero_mul, Nat.zero_add, Nat.mod_eq_of_lt h7]
 have e6 : m7 * 256 + m6 % 256 = m6 := hstep _ _ h8
 have e5 : m6 * 256 + m5 % 256 = m5 := hstep _ _ h6
 have e4 : m5 * 256 + m4 % 256 = m4 := hstep _ _ h5
 have e3 : m4 * 256 + m3 % 256 = m3 := hstep _ _ h4
 have e2 : m3 * 256 + m2 % 256 = m2 := hstep _ _ h3
 have e1 : m2 * 256 + m1 % 256 = m1 := hstep _ _ h2
 have e0 : m1 * 256 + n % 256 = n := hstep _ _ h1
 rw [e7, e6, e5, e4, e3, e2, e1, e0]
set_option maxRecDepth 10000 in
theorem be8_fold (a b c d e f g i : Nat) (ha : a < 256) (hb : b < 256) (hc : c < 256) (hd : d < 256) (he : e < 256) (hf : f < 256) (hg : g < 256) (hi : i < 256) :
  be8 (beI ([a, b, c, d, e, f, g, i].map fun x : Nat => (x : Int))) = [a, b, c, d, e, f, g, i].map fun x : Nat => (x : Int) := by
 rw [beI_nat, be8_nat]
 simp only [List.foldl_cons, List.foldl_nil, Nat.zero_mul, Nat.zero_add]
 generalize h1 : a * 256 + b = m1
 generalize h2 : m1 * 256 + c = m2
 generalize h3 : m2 * 256 + d = m3
 generalize h4 : m3 * 256 + e = m4
 generalize h5 : m4 * 256 + f = m5
 generalize h6 : m5 * 256 + g = m6
 generalize h7 : m6 * 256 + i = m7
 have q6 : m7 / 256 = m6 := by omega
 have q5 : m6 / 256 = m5 := by omega
 have q4 : m5 / 256 = m4 := by omega
 have q3 : m4 / 256 = m3 := by omega
 have q2 : m3 / 256 = m2 := by omega
 have q1 : m2 / 256 = m1 := by omega
 have q0 : m1 / 256 = a := by omega
 rw [q6, q5, q4, q3, q2, q1, q0]
 have r7 : m7 % 256 = i := by omega
 have r6 : m6 % 256 = g := by omega
 have r5 : m5 % 256 = f := by omega
 have r4 : m4 % 256 = e := by omega
 have r3 : m3 % 256 = d := by omega
 have r2 : m2 % 256 = c := by omega
 have r1 : m1 % 256 = b := by omega
 have r0 : a % 256 = a := by omega
 rw [r7, r6, r5, r4, r3, r2, r1, r0]
theorem be8_rng (n : Nat) : Rng (be8 n) := by
 intro x hx
 simp only [be8, List.mem_map] at hx
 obtain ⟨j, _, rfl⟩ := hx
 rw [beAt_nat]
 omega
theorem rng_append {a b : List Int} (ha : Rng a) (hb : Rng b) : Rng (a ++ b) := fun x hx => (List.mem_append.1 hx).elim (ha x) (hb x)
theorem be8_beI {l : List Int} (hl : l.length = 8) (h : Rng l) : be8 (beI l) = l := by
 match l, hl with
 | [a, b, c, d, e, f, g, i], _ =>
  have ha := h a (by simp)
  have hb := h b (by simp)
  have hc := h c (by simp)
  have hd := h d (by simp)
  have he := h e (by simp)
  have hf := h f (by simp)
  have hg := h g (by simp)
  have hi := h i (by simp)
  have key := be8_fold a.toNat b.toNat c.toNat d.toNat e.toNat f.toNat g.toNat i.toNat (by omega) (by omega) (by omega) (by omega) (by omega) (by omega) (by omega) (by omega)
  have e2 : ([a.toNat, b.toNat, c.toNat, d.toNat, e.toNat, f.toNat, g.toNat, i.toNat].map fun x : Nat => (x : Int)) = [a, b, c, d, e, f, g, i] := by
   simp only [List.map_cons, List.map_nil]
   rw [Int.toNat_of_nonneg ha.1, Int.toNat_of_nonneg hb.1, Int.toNat_of_nonneg hc.1, Int.toNat_of_nonneg hd.1, Int.toNat_of_nonneg he.1, Int.toNat_of_nonneg hf.1, Int.toNat_of_nonneg hg.1, Int.toNat_of_nonneg hi.1]
  rw [e2] at key
  exact key
def Own (w : World) (B : Nat) (v : Value) (l : List Int) : Prop := w.ownsRow B 5 1 v l.length (l.map (Value.int .u8))
theorem Own.bs {w : World} {B : Nat} {v : Value} {l : List Int} (h : Own w B v l) : Bs w v l := Bs_of_own h
theorem Own.below {w w' : World} {B B' : Nat} {v : Value} {l : List Int} (h : Own w B v l) (hb : Below B' w w') (hB : w.heap.size ≤ B') : Own w' B v l := by
 have hg : w.grownBy w' none := ⟨hb.os, hb.tape, hb.output, hb.size, fun k hk _ => hb.block k (by omega)⟩
 refine World.ownsRow.kept h hg ?_
 cases hv : v.ownBlock with
 | none => exact .inl rfl
 | some g => exact .inr (by simp)
theorem Own.alloc {w : World} {B : Nat} {v : Value} {l : List Int} (h : Own w B v l) (o : Obj) : Own (w.alloc o) B v l := World.ownsRow.alloc h o
theorem Own.nil (w : World) (B : Nat) : Own w B (.slice none 0 0) [] := World.ownsRow_nil _ _ _ _
theorem lit_bs (w : World) (T : TypeId) (C : List Int) (fr : Nat × Nat) (n c : Nat) (hn : C.length = n) (hc : n ≤ c) : Bs (w.alloc (.cells (C.map (Value.int .u8)).toArray T fr)) (.slice (some ⟨w.heap.size, 0, none⟩) n c) C := by
 subst hn
 refine ⟨some ⟨w.heap.size, 0, none⟩, c, rfl, ⟨hc, fun e => by cases e⟩, fun hl => ⟨w.heap.size, 0, rfl, by simp, fun i hi => ?_⟩⟩
 rw [cell_of_row _ w.heap.size _ _ _ _ (heap_alloc_new _ _)]
 simp [hi]
end Go.Proofs.YtdkjkibdncbibaaGreat
namespace Go.Proofs.YtdkjkibdncbibaaGreat
open Go.RowKit
open Go.Lib (hid)
set_option maxHeartbeats 400000 in
theorem number_any (v : Value) (l : List Int) (w : World) (hv : Bs w v l) (hr : Rng l) (h8 : 8 ≤ l.length) (hl : l.length ≤ 1099511627776) :
  Calls Tryz.prog 92 #[v] w fun e w' => w = w' ∧ e = .returned (.int .u64 (beI (l.take 8))) := by
 obtain ⟨a, cap, rfl, hcap, hcells⟩ := hv
 obtain ⟨b, off, rfl, hbw, hc⟩ := hcells (by omega)
 have HC := hid hc
 have HR := hid hr
 have hcap8 : 8 ≤ cap := by omega
 clear hc hr hcells
 generalize hn : l.length = n at *
 have HN := hid hn
 clear hn
 go_enter Tryz.func92, Tryz.ntmps92
 go_wp2_with fail
 go_loop [3, 9] (fun t i => ∃ k : Nat, k ≤ 8 ∧ i = .int .i64 k ∧ t = .int .u64 (beI (l.take k))) (fun _ i => 8 - (intOf i).toNat)
 case atStart => exact ⟨0, Nat.zero_le _, rfl, rfl⟩
 case round =>
  obtain ⟨k, hk, rfl, rfl⟩ := hrel
  by_cases hlt : k < 8
  ·have hce := HC.out k (by omega)
   have HST := hid (be_step l HR.out k hlt (by rw [HN.out]; omega))
   go_wp2
   go_round
   case rel => exact ⟨k + 1, by omega, by go_num, by rw [HST.out]⟩
   case measure => simp [intOf]; omega
  ·have hk8 : 8 ≤ k := by omega
   have hk8' : k = 8 := by omega
   have HK := hid hk8'
   clear hlt hk8'
   go_wp2
   go_ret
   rw [HK.out]
   exact ⟨rfl, rfl⟩
/-- a row's block stays, or is new -/
def OwnTo (w : World) (v v' : Value) : Prop := ∀ g, v'.ownBlock = some g → v.ownBlock = some g ∨ w.heap.size ≤ g
theorem OwnTo.refl (w : World) (v : Value) : OwnTo w v v := fun _ h => .inl h
theorem OwnTo.trans {w w1 : World} {v v1 v2 : Value} (h : OwnTo w v v1) (k : OwnTo w1 v1 v2) (hs : w.heap.size ≤ w1.heap.size) : OwnTo w v v2 := fun g hg => by
 rcases k g hg with h1 | h1
 ·exact h g h1
 ·exact .inr (by omega)
theorem Chg.own {w w1 w2 : World} {v v1 : Value} (h : Chg (fun g => v.ownBlock = some g) w w1) (ho : OwnTo w v v1) (k : Chg (fun g => v1.ownBlock = some g) w1 w2) : Chg (fun g => v.ownBlock = some g) w w2 :=
 h.trans k (fun g hg => ho g hg)
set_option maxRecDepth 100000 in
theorem run_append_OwnT {w : World} {B : Nat} {v : Value} {l : List Int} (hown : Own w B v l) {v2 : Value} {m : List Int} (hbs : Bs w v2 m) (h63 : l.length + m.length ≤ 1099511627776) (hbase : B ≤ w.heap.size) (ty : TypeId) :
  ∃ v' w', (Builtin.append_ #[83, 83] ty #[v, v2]).run Tryz.prog w = .ok v' w' ∧ Own w' B v' (l ++ m) ∧ Chg (fun g => v.ownBlock = some g) w w' ∧ OwnTo w v v' := by
 obtain ⟨i0, hi, hz0, hz1, hz2⟩ := info_parts info5
 obtain ⟨ad, cap, rfl, hcap, hc⟩ := hbs
 cases ad with
 | none =>
  have h0 : cap = 0 := hcap.2 rfl
  have h1 : m = [] := List.eq_nil_of_length_eq_zero (by omega)
  subst h0 h1
  refine ⟨v, w, run_append_owned_none (P := Tryz.prog) (w := w) B 83 ty 5 i0 1 Tryz.underlying83 hi v _ _ hown, by simpa using hown, Chg.refl _ _, OwnTo.refl _ _⟩
 | some ad =>
  obtain ⟨v', w', h1, h2, h3, _, h5⟩ := run_append_own_at (P := Tryz.prog) w B 83 ty 5 i0 (.int .u8 0) 1 1 Tryz.underlying83 hi hz0 hz1 hz2 rfl (by decide) v l.length (l.map (Value.int .u8)) hown ad m.length cap (m.map (Value.int .u8)) (by simp) (by
   intro q u hu
   rw [List.getElem?_map, Option.map_eq_some_iff] at hu
   obtain ⟨y, hy, rfl⟩ := hu
   have hq : q < m.length := (List.getElem?_eq_some_iff.1 hy).1
   obtain ⟨pb, po, e1, e2, e3⟩ := hc (by omega)
   injection e1 with e1
   have e4 := e3 q hq
   rw [hy] at e4
   rw [e1, Addr.add_mid]
   exact e4) (by intro v hv; obtain ⟨x, _, rfl⟩ := List.mem_map.1 hv; rfl) (by unfold maxLen; omega) (by omega) hbase
  refine ⟨v', w', h1, by unfold Own; rw [List.length_append, List.map_append]; exact h2, Chg.grown h3 (fun k hk => hk), fun g hg => ?_⟩
  rcases h5 with h5 | h5
  ·exact .inl (by rw [← h5]; exact hg)
  ·rw [h5] at hg; injection hg with hg; exact .inr (by omega)
theorem wpList_append_OwnT {ops : Array Oper} {rest : List Oper} {o : Oper} {a : Act} {w : World} {Q : Exit → Act → World → Prop} (hgd : o.guard = none) (s x : Operand)
  (ho : o.op = .call { callee := .builtin .append, args := #[s, x], argTypes := #[83, 83] }) (B : Nat)
  (v : Value) (l : List Int) (hs : a.eval s = v) (hown : Own w B v l) (v2 : Value) (m : List Int) (hx : a.eval x = v2) (hbs : Bs w v2 m) (h63 : l.length + m.length ≤ 1099511627776) (hbase : B ≤ w.heap.size)
  (h : ∀ v' w', Own w' B v' (l ++ m) → Chg (fun g => v.ownBlock = some g) w w' → OwnTo w v v' → wpList Tryz.prog ops Q rest (a.put o.dst v') w') : wpList Tryz.prog ops Q (o :: rest) a w := by
 obtain ⟨v', w', h1, h2, h3, h4⟩ := run_append_OwnT hown hbs h63 hbase o.type
 refine wpList_plain hgd fun K hK => ?_
 unfold Oper.wp
 simp [execOp, ho, resolve, invoke, builtin, hs, hx, h1, Result.andThen]
 exact hK _ _ (h v' w' h2 h3 h4)
theorem be8_succ (k j : Nat) (h : j < 8) : (be8 k).take (j + 1) = (be8 k).take j ++ [(k : Int) / 2 ^ (56 - 8 * j) % 256] := be8_take_succ k j h
set_option maxHeartbeats 400000 in
theorem appendNumber_any (v : Value) (l : List Int) (B k : Nat) (w : World) (hown : Own w B v l) (hB : B ≤ w.heap.size) (hn : l.length ≤ 1099511627768) (hk : k < 18446744073709551616) :
  Calls Tryz.prog 88 #[v, .int .u64 k] w fun e w' => ∃ v', e = .returned v' ∧ Own w' B v' (l ++ be8 k) ∧ Chg (fun g => v.ownBlock = some g) w w' ∧ OwnTo w v v' := by
 have HO := hid hown
 have HK := hid hk
 have h8 := be8_len k
 clear hown hk
 go_enter Tryz.func88, Tryz.ntmps88
 go_wp2_with fail
 go_loopw [0, 5] (fun v0 s wr => ∃ j : Nat, j ≤ 8 ∧ s = .int .i64 (56 - 8 * (j : Int)) ∧ Own wr B v0 (l ++ (be8 k).take j) ∧ Chg (fun g => v.ownBlock = some g) w wr ∧ OwnTo w v v0)
  (fun _ s _ => (intOf s + 8).toNat)
 case atStart => exact ⟨0, by omega, by simp, by simpa using HO.out, Chg.refl _ _, OwnTo.refl _ _⟩
 case round =>
  obtain ⟨j, hj, rfl, hown, hbw, hot⟩ := hrel
  have hsz := hbw.size
  by_cases hlt : j < 8
  ·have HB := hid (be8_succ k j hlt)
   have HBW := hid hbw
   have HOW := hid hown
   have HOT := hid hot
   have H8 := hid h8
   clear hbw hown h8 hot
   go_wp2_with (at_builtin; refine wpList_append_OwnT rfl (Operand.tmp 10) (Operand.tmp 15) rfl B _ (l ++ (be8 k).take j) rfl (HOW.out.alloc _) _ [(k : Int) / 2 ^ (56 - 8 * j) % 256] rfl (lit_bs wr _ [_] _ 1 1 rfl (Nat.le_refl 1)) (by simp [H8.out]; omega) (by simp; omega) ?_; intro v' w1 hown' hgrow hto; have HO1 := hid hown'; have HG1 := hid hgrow; have HT1 := hid hto; clear hown' hgrow hto)
   go_roundw
   case rel =>
    refine ⟨j + 1, by omega, by congr 1; omega, ?_, ?_, ?_⟩
    ·rw [HB.out, ← List.append_assoc]; exact HO1.out
    ·exact (HBW.out.alloc _).trans HG1.out (fun g hg => HOT.out g hg)
    ·exact HOT.out.trans HT1.out (by simp; omega)
   case measure => simp [intOf]; omega
  ·have hj8 : j = 8 := by omega
   rw [hj8] at hown
   rw [List.take_of_length_le (by omega)] at hown
   have hj9 : 8 ≤ j := by omega
   have HBW := hid hbw
   have HOW := hid hown
   have HOT := hid hot
   clear hbw hown hj8 hlt h8 hot
   go_wp2_with fail
   go_ret
   exact ⟨_, rfl, HOW.out, HBW.out, HOT.out⟩
theorem Bs.chg {w w' : World} {v : Value} {l : List Int} {F : Nat → Prop} (h : Bs w v l) (hc : Chg F w w') (hF : ∀ ad n c, v = .slice (some ad) n c → 0 < l.length → ¬ F ad.block) : Bs w' v l := by
 obtain ⟨a, cap, hv, hcap, h⟩ := h
 refine ⟨a, cap, hv, hcap, fun hl => ?_⟩
 obtain ⟨b, off, ha, hbs, hcell⟩ := h hl
 subst ha
 exact ⟨b, off, rfl, Nat.lt_of_lt_of_le hbs hc.size, fun i hi => (World.cell?_of_block (a := ⟨b, off + i, none⟩) (hc.block b hbs (hF _ _ _ hv hl))).trans (hcell i hi)⟩
set_option maxHeartbeats 400000 in
theorem appendRecord_any (v v2 : Value) (l m : List Int) (B : Nat) (w : World) (hown : Own w B v l) (hbs : Bs w v2 m) (hne : ∀ ad n c, v2 = .slice (some ad) n c → 0 < m.length → v.ownBlock ≠ some ad.block) (hB : B ≤ w.heap.size) (hn : l.length + m.length ≤ 1099511627000) :
  Calls Tryz.prog 110 #[v, v2] w fun e w' => ∃ v', e = .returned v' ∧ Own w' B v' (l ++ be8 m.length ++ m) ∧ Chg (fun g => v.ownBlock = some g) w w' ∧ OwnTo w v v' := by
 have HO := hid hown
 have HB := hid hbs
 have HNE := hid hne
 have hml : m.length < 1099511627776 := by omega
 obtain ⟨a2, cap2, hv2, _, _⟩ := hbs
 subst hv2
 clear hown hne
 go_enter Tryz.func110, Tryz.ntmps110
 go_wp2_with fail
 refine (appendNumber_any v l B m.length w HO.out hB (by omega) (by omega)).mono ?_
 rintro e w1 ⟨v1, rfl, ho1, hc1, ht1⟩
 have HO1 := hid ho1
 have HC1 := hid hc1
 have HT1 := hid ht1
 have HB1 := hid (HB.out.chg hc1 (fun ad n c e h0 he => HNE.out ad n c e h0 he))
 have hs1 := hc1.size
 have h8 := be8_len m.length
 clear ho1 hc1 ht1
 go_wp2_with (at_builtin; refine wpList_append_OwnT rfl (Operand.tmp 9) (Operand.tmp 10) rfl B _ (l ++ be8 m.length) rfl HO1.out _ m rfl HB1.out (by simp [h8]; omega) (by omega) ?_; intro v' w2 hown' hgrow hto; have HO2 := hid hown'; have HC2 := hid hgrow; have HT2 := hid hto; clear hown' hgrow hto)
 go_ret
 exact ⟨_, rfl, HO2.out, HC1.out.own HT1.out HC2.out, HT1.out.trans HT2.out hs1⟩
theorem place_any (a b c : Nat) (w : World) (ha : a < 18446744073709551616) :
  Calls Tryz.prog 91 #[.agg #[.int .u64 a, .int .u64 b, .int .u64 c]] w fun e w' => e = .returned (.int .i64 ((a % 2 : Nat) : Int)) ∧ Below w.heap.size w w' := by
 have hc0 := cell_of_row (w.alloc (.cells #[.int .u64 a, .int .u64 b, .int .u64 c] 107)) w.heap.size 0 _ _ _ (heap_alloc_new _ _)
 have hc0 : (w.alloc (.cells #[.int .u64 a, .int .u64 b, .int .u64 c] 107)).cell? ⟨w.heap.size, 0, none⟩ = some (.int .u64 a) := hc0
 have hm : ((a : Int)).tmod 2 = ((a % 2 : Nat) : Int) := by rw [Int.tmod_eq_emod_of_nonneg (by omega)]; omega
 have hr : ((a % 2 : Nat) : Int) < 2 := by omega
 go_enter Tryz.func91, Tryz.ntmps91
 go_wp2_with fail
 go_ret
 exact ⟨rfl, (Below.refl _ _).alloc (Nat.le_refl _) _⟩
theorem lroom_any (D : Nat) (fi sz : Int) (w : World) (h1 : 0 ≤ sz) (h2 : sz ≤ 4096) :
  Calls Tryz.prog 70 #[.agg #[.pointer (some ⟨D, 0, none⟩), .int .i64 fi, .int .i64 sz]] w fun e w' => e = .returned (.int .i64 ((sz - 2) * 256)) ∧ Below w.heap.size w w' := by
 have hc2 : (w.alloc (.cells #[.pointer (some ⟨D, 0, none⟩), .int .i64 fi, .int .i64 sz] 103)).cell? ⟨w.heap.size, 2, none⟩ = some (.int .i64 sz) := cell_of_row (w.alloc (.cells #[.pointer (some ⟨D, 0, none⟩), .int .i64 fi, .int .i64 sz] 103)) w.heap.size 2 _ _ _ (heap_alloc_new _ _)
 go_enter Tryz.func70, Tryz.ntmps70
 go_wp2_with fail
 go_ret
 exact ⟨rfl, (Below.refl _ _).alloc (Nat.le_refl _) _⟩
end Go.Proofs.YtdkjkibdncbibaaGreat
namespace Go.Proofs.YtdkjkibdncbibaaGreat
open Go.RowKit
open Go.Lib (hid)
set_option maxRecDepth 100000 in
set_option maxHeartbeats 1000000 in
theorem lread_any (B D M : Nat) (nb rm fz fi sz n : Int) (dn : Bool) (f : Int → List Int) (L : List WR) (lv : Value) (w : World) (h : Dk w B D M nb rm fz dn f L lv) (hfi : 0 ≤ fi ∧ fi ≤ 4096) (hn : 0 ≤ n ∧ n ≤ 4096) :
  Calls Tryz.prog 89 #[.agg #[.pointer (some ⟨D, 0, none⟩), .int .i64 fi, .int .i64 sz], .int .i64 n] w fun e w' => e = .returned (.tuple #[.agg (ArrU8 (rdF nb (fi + n) dn f)), .int .i64 (readErr nb (fi + n) dn)]) ∧ Below w.heap.size w w' := by
 have hz := zero35
 have HI35 := hid (show (Tryz.prog.info? 50).map (·.size) = some 256 by kernel_rfl)
 have SZ := hid (show (ArrU8 (zeros 256)).size = 256 by rw [ArrU8_size, zeros, List.length_replicate])
 have HG := hid (rdF_len nb (fi + n) dn f h.2.2.2.2.2.2.1)
 have hb1 : Below w.heap.size w (w.alloc (.cells #[.pointer (some ⟨D, 0, none⟩), .int .i64 fi, .int .i64 sz] 103)) := (Below.refl _ _).alloc (Nat.le_refl _) _
 have hb2 : Below w.heap.size w ((w.alloc (.cells #[.pointer (some ⟨D, 0, none⟩), .int .i64 fi, .int .i64 sz] 103)).alloc (.cells (ArrU8 (zeros 256)) 50)) := hb1.alloc (by simp) _
 have hx := heap_alloc_new (w.alloc (.cells #[.pointer (some ⟨D, 0, none⟩), .int .i64 fi, .int .i64 sz] 103)) (.cells (ArrU8 (zeros 256)) 50)
 have hs1 : (w.alloc (.cells #[.pointer (some ⟨D, 0, none⟩), .int .i64 fi, .int .i64 sz] 103)).heap.size = w.heap.size + 1 := by simp
 have hx0 : ((w.alloc (.cells #[.pointer (some ⟨D, 0, none⟩), .int .i64 fi, .int .i64 sz] 103)).alloc (.cells (ArrU8 (zeros 256)) 50)).heap[w.heap.size]? = some (.cells #[.pointer (some ⟨D, 0, none⟩), .int .i64 fi, .int .i64 sz] 103 (0, 0)) := (heap_alloc_old _ _ (by simp)).trans (heap_alloc_new _ _)
 have c0 := (cell_of_row _ w.heap.size 0 _ _ _ hx0).trans (show (#[Value.pointer (some ⟨D, 0, none⟩), .int .i64 fi, .int .i64 sz] : Array Value)[0]? = some (.pointer (some ⟨D, 0, none⟩)) from rfl)
 have c1 := (cell_of_row _ w.heap.size 1 _ _ _ hx0).trans (show (#[Value.pointer (some ⟨D, 0, none⟩), .int .i64 fi, .int .i64 sz] : Array Value)[1]? = some (.int .i64 fi) from rfl)
 rw [hs1] at hx
 have HL2 := hid (show w.heap.size + 1 < ((w.alloc (.cells #[.pointer (some ⟨D, 0, none⟩), .int .i64 fi, .int .i64 sz] 103)).alloc (.cells (ArrU8 (zeros 256)) 50)).heap.size by simp)
 have HD2 := hid (h.chg (Chg.fresh (F := fun _ => False) hb2) (fun _ _ h => h))
 have HB2 := hid hb2
 have HX := hid hx
 clear hb1 hb2 hx hs1 hx0 h
 have HRD := fun u (h : Dk u B D M nb rm fz dn f L lv) => read_dk B D M nb rm fz (fi + n) dn f L lv u h
 generalize rdF nb (fi + n) dn f = g at *
 generalize readErr nb (fi + n) dn = E at *
 have HRD := hid HRD
 go_enter Tryz.func89, Tryz.ntmps89
 generalize hw2 : (w.alloc (.cells #[.pointer (some ⟨D, 0, none⟩), .int .i64 fi, .int .i64 sz] 103)).alloc (.cells (ArrU8 (zeros 256)) 50) = w2 at *
 have HW2 := hid hw2
 go_wp2_with fail
 refine (HRD.out w2 HD2.out).mono ?_
 rintro e wa ⟨rfl, hb⟩
 have XA := hid hb
 have HXA := hid ((hb.block _ HL2.out).trans HX.out)
 have SG := hid (show (ArrU8 g).size = 256 by rw [ArrU8_size, HG.out])
 clear hb c0 c1 hz
 go_wp2_with (refine wpList_store_row rfl 50 (Operand.tmp 4) (Operand.tmp 13) rfl (w.heap.size + 1) (ArrU8 g) rfl rfl 50 (ArrU8 (zeros 256)) HXA.out (by rw [HI35.out, SG.out]) (by rw [SZ.out, SG.out]) (ArrU8_one _) ?_)
 have hbb := HB2.out.trans (XA.out.mono HB2.out.size)
 refine bodyPost_ret (results_cell_tmp (p := 4) (q := 5) (ty := 50) rfl _ _ (w.heap.size + 1) 50 (ArrU8 g) (0, 0) _ rfl (setRow_heap _ _ _ _ _ _ HXA.out) Tryz.underlying50 rfl (by rw [HI35.out, SG.out])) rfl ⟨rfl, ?_⟩
 exact below_setRow hbb (by omega) _
def LWrEnds (B D M : Nat) (nb rm fz : Int) (dn : Bool) (f : Int → List Int) (L : List WR) (lv : Value) (n : Int) (b : List Int) (w : World) (e : Ending) (w' : World) : Prop :=
 e = .returned (.int .i64 (wErr nb rm fz n dn)) ∧ ∃ lv', Dk w' B D M nb rm (opFz fz dn) (opDn fz dn) (if wErr nb rm fz n dn = 0 then fput f n b else f) (if wErr nb rm fz n dn = 0 then L ++ [(n, f n, b)] else L) lv' ∧
  Chg (Foot D M lv) w w' ∧ (∀ k, Foot D M lv' k → Foot D M lv k ∨ w.heap.size ≤ k)
set_option maxRecDepth 100000 in
set_option maxHeartbeats 1000000 in
theorem lwrite_any (B D M : Nat) (nb rm fz fi sz n : Int) (dn : Bool) (f : Int → List Int) (L : List WR) (lv : Value) (b : List Int) (w : World) (h : Dk w B D M nb rm fz dn f L lv) (hb : b.length = 256) (hL : L.length ≤ 268435456) (hfi : 0 ≤ fi ∧ fi ≤ 4096) (hn : 0 ≤ n ∧ n ≤ 4096) :
  Calls Tryz.prog 67 #[.agg #[.pointer (some ⟨D, 0, none⟩), .int .i64 fi, .int .i64 sz], .int .i64 n, .agg (ArrU8 b)] w (LWrEnds B D M nb rm fz dn f L lv (fi + n) b w) := by
 have HI35 := hid (show (Tryz.prog.info? 50).map (·.size) = some 256 by kernel_rfl)
 have SB := hid (show (ArrU8 b).size = 256 by rw [ArrU8_size, hb])
 have HB := hid hb
 have hb1 : Below w.heap.size w (w.alloc (.cells #[.pointer (some ⟨D, 0, none⟩), .int .i64 fi, .int .i64 sz] 103)) := (Below.refl _ _).alloc (Nat.le_refl _) _
 have hb2 : Below w.heap.size w ((w.alloc (.cells #[.pointer (some ⟨D, 0, none⟩), .int .i64 fi, .int .i64 sz] 103)).alloc (.cells (ArrU8 b) 50)) := hb1.alloc (by simp) _
 have hx := heap_alloc_new (w.alloc (.cells #[.pointer (some ⟨D, 0, none⟩), .int .i64 fi, .int .i64 sz] 103)) (.cells (ArrU8 b) 50)
 have hs1 : (w.alloc (.cells #[.pointer (some ⟨D, 0, none⟩), .int .i64 fi, .int .i64 sz] 103)).heap.size = w.heap.size + 1 := by simp
 have hx0 : ((w.alloc (.cells #[.pointer (some ⟨D, 0, none⟩), .int .i64 fi, .int .i64 sz] 103)).alloc (.cells (ArrU8 b) 50)).heap[w.heap.size]? = some (.cells #[.pointer (some ⟨D, 0, none⟩), .int .i64 fi, .int .i64 sz] 103 (0, 0)) := (heap_alloc_old _ _ (by simp)).trans (heap_alloc_new _ _)
 have c0 := (cell_of_row _ w.heap.size 0 _ _ _ hx0).trans (show (#[Value.pointer (some ⟨D, 0, none⟩), .int .i64 fi, .int .i64 sz] : Array Value)[0]? = some (.pointer (some ⟨D, 0, none⟩)) from rfl)
 have c1 := (cell_of_row _ w.heap.size 1 _ _ _ hx0).trans (show (#[Value.pointer (some ⟨D, 0, none⟩), .int .i64 fi, .int .i64 sz] : Array Value)[1]? = some (.int .i64 fi) from rfl)
 rw [hs1] at hx
 have HD2 := hid (h.chg (Chg.fresh (F := fun _ => False) hb2) (fun _ _ h => h))
 have HB2 := hid hb2
 have HX := hid hx
 clear hb1 hb2 hx hs1 hx0 h hb
 go_enter Tryz.func67, Tryz.ntmps67
 generalize hw2 : (w.alloc (.cells #[.pointer (some ⟨D, 0, none⟩), .int .i64 fi, .int .i64 sz] 103)).alloc (.cells (ArrU8 b) 50) = w2 at *
 have HW2 := hid hw2
 go_wp2_with (refine wpList_load_row rfl 50 (Operand.tmp 5) rfl (w.heap.size + 1) rfl 50 (ArrU8 b) (0, 0) _ HX.out Tryz.underlying50 rfl (by rw [HI35.out, SB.out]) ?_)
 refine (write_any B D M nb rm fz (fi + n) dn f L lv b w2 HD2.out HB.out hL).mono ?_
 rintro e w3 ⟨rfl, lv', hdk, hch, hft⟩
 have HR := hid (show LWrEnds B D M nb rm fz dn f L lv (fi + n) b w (.returned (.int .i64 (wErr nb rm fz (fi + n) dn))) w3 from ⟨rfl, lv', hdk, (Chg.fresh (F := Foot D M lv) HB2.out).trans hch (fun _ h => .inl h), fun k hk => (hft k hk).elim .inl (fun h => .inr (by have := HB2.out.size; omega))⟩)
 clear hdk hch hft c0 c1
 generalize wErr nb rm fz (fi + n) dn = E at *
 go_wp2_with fail
 go_ret
 exact HR.out
def putL (l : List Int) (n : Nat) (xs : List Int) : List Int := l.take n ++ xs ++ l.drop (n + xs.length)
theorem putL_set (l xs : List Int) (n : Nat) (x : Int) (h : n + xs.length < l.length) : (putL l n xs).set (n + xs.length) x = putL l n (xs ++ [x]) := by
 unfold putL
 have hlen : (l.take n ++ xs).length = n + xs.length := by simp; omega
 rw [List.set_append_right _ _ (by rw [hlen]; exact Nat.le_refl _), hlen, Nat.sub_self, List.drop_eq_getElem_cons h, sB]
 simp [List.append_assoc, Nat.add_assoc]
theorem putL_len (l xs : List Int) (n : Nat) (h : n + xs.length ≤ l.length) : (putL l n xs).length = l.length := by
 simp [putL]; omega
theorem map_set_arr (L : List Int) (o : Nat) (x : Int) : (L.map (Value.int .u8)).toArray.setIfInBounds o (.int .u8 x) = ((L.set o x).map (Value.int .u8)).toArray := by
 simp [List.map_set]
set_option maxRecDepth 100000 in
theorem append_in {u : World} (X n : Nat) (l : List Int) (T : TypeId) (hX : u.heap[X]? = some (.cells (l.map (Value.int .u8)).toArray T (0, 0))) (hl : l.length = 256) (hn : n < 256) (a : Nat) (x : Int) (c : Nat) (ha : u.cell? ⟨a, 0, none⟩ = some (.int .u8 x)) (ty : TypeId) :
  (Builtin.append_ #[83, 83] ty #[.slice (some ⟨X, 0, none⟩) n 256, .slice (some ⟨a, 0, none⟩) 1 c]).run Tryz.prog u = .ok (.slice (some ⟨X, 0, none⟩) (n + 1) 256) (u.setCell ⟨X, n, none⟩ (.int .u8 x)) := by
 obtain ⟨i0, hi, hz0, hz1, hz2⟩ := info_parts info5
 have h := run_append_room_cells (P := Tryz.prog) u 83 ty 5 i0 Tryz.underlying83 hi X 0 n 256 ⟨a, 0, none⟩ 1 c [.int .u8 x] (by rw [hz1]; rfl) (by
  intro j v hv
  match j, hv with
  | 0, hv => simp only [List.getElem?_cons_zero, Option.some.injEq] at hv; subst hv; exact ha) (by intro v hv; rw [List.mem_singleton.1 hv]; rfl) (by omega) (by
  intro j hj
  rw [cell_of_row _ _ _ _ _ _ hX, hz1]
  simp at hj ⊢
  omega) (by
  intro j hj
  exact frozen_of_row _ _ _ _ _ hX)
 rw [h, hz1]
 simp [World.setCells]
set_option maxRecDepth 100000 in
set_option maxHeartbeats 400000 in
theorem appendNumber_in (X n k : Nat) (l : List Int) (T : TypeId) (w : World) (hX : w.heap[X]? = some (.cells (l.map (Value.int .u8)).toArray T (0, 0))) (hl : l.length = 256) (hn : n + 8 ≤ 256) (hk : k < 18446744073709551616) :
  Calls Tryz.prog 88 #[.slice (some ⟨X, 0, none⟩) n 256, .int .u64 k] w fun e w' => e = .returned (.slice (some ⟨X, 0, none⟩) (n + 8 : Nat) 256) ∧ w'.heap[X]? = some (.cells ((putL l n (be8 k)).map (Value.int .u8)).toArray T (0, 0)) ∧ Chg (fun g => g = X) w w' := by
 have HO := hid hX
 have HK := hid hk
 have HL := hid hl
 have h8 := be8_len k
 clear hX hk hl
 go_enter Tryz.func88, Tryz.ntmps88
 go_wp2_with fail
 go_loopw [0, 5] (fun v0 s wr => ∃ j : Nat, j ≤ 8 ∧ s = .int .i64 (56 - 8 * (j : Int)) ∧ v0 = .slice (some ⟨X, 0, none⟩) (n + j : Nat) 256 ∧ wr.heap[X]? = some (.cells ((putL l n ((be8 k).take j)).map (Value.int .u8)).toArray T (0, 0)) ∧ Chg (fun g => g = X) w wr)
  (fun _ s _ => (intOf s + 8).toNat)
 case atStart => exact ⟨0, by omega, by simp, rfl, by simpa [putL] using HO.out, Chg.refl _ _⟩
 case round =>
  obtain ⟨j, hj, rfl, rfl, hown, hbw⟩ := hrel
  have hsz := hbw.size
  have hXlt : X < wr.heap.size := (Array.getElem?_eq_some_iff.1 hown).1
  by_cases hlt : j < 8
  ·have HB := hid (be8_succ k j hlt)
   have HBW := hid hbw
   have HOW := hid hown
   have H8 := hid h8
   have HXL := hid hXlt
   have HTJ := hid (show ((be8 k).take j).length = j by simp [h8]; omega)
   clear hbw hown h8 hXlt
   go_wp2_with (at_builtin; refine wpList_of_run rfl (exec_append (Operand.tmp 10) (Operand.tmp 15) 83 rfl _ _ rfl rfl (append_in X (n + j) _ T ((heap_alloc_old _ _ HXL.out).trans HOW.out) (by rw [putL_len _ _ _ (by rw [HTJ.out, HL.out]; omega), HL.out]) (by omega) wr.heap.size ((k : Int) / 2 ^ (56 - 8 * j) % 256) _ (by rw [cell_of_row _ _ _ _ _ _ (heap_alloc_new _ _)]; rfl) _)) ?_)
   go_roundw
   case rel =>
    refine ⟨j + 1, by omega, by congr 1; omega, rfl, ?_, ?_⟩
    ·have h2 := putL_set l ((be8 k).take j) n ((k : Int) / 2 ^ (56 - 8 * j) % 256) (by rw [HTJ.out, HL.out]; omega)
     rw [HTJ.out] at h2
     refine (heap_setCell_same _ X (n + j) _ T _ ((heap_alloc_old wr _ HXL.out).trans HOW.out)).trans ?_
     rw [map_set_arr, h2, ← HB.out]
    ·exact (HBW.out.alloc _).setCell _ _ (.inl rfl)
   case measure => simp [intOf]; omega
  ·have hj8 : j = 8 := by omega
   rw [hj8] at hown
   rw [List.take_of_length_le (by omega)] at hown
   have hj9 : 8 ≤ j := by omega
   have HBW := hid hbw
   have HOW := hid hown
   subst hj8
   clear hbw hown hlt h8
   go_wp2_with fail
   go_ret
   exact ⟨rfl, HOW.out, HBW.out⟩
end Go.Proofs.YtdkjkibdncbibaaGreat
