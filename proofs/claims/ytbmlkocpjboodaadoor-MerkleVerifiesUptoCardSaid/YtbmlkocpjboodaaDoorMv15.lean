/- stage 7: ascends, whole -/
import Derived.Test.YtbmlkocpjboodaaDoorMv14
namespace Go.Proofs.YtbmlkocpjboodaaDoor
open Go.RowKit
open Go.Lib (hid)
/-- are the keys strictly ascending? -/
def MT.ascends (t : MT) : Bool := (eachM asM t (none, true)).2
set_option maxRecDepth 100000 in
set_option maxHeartbeats 4000000 in
theorem ascends_any {S : Nat → Prop} (w : World) (p : Value) (t : MT) (hp : MIs w S p t) (hg : t.Good) :
  Calls Tryd.prog 54 #[p] w fun d w' => d = .returned (.bool t.ascends) ∧ Below w.heap.size w w' := by
 have hmf : ∀ (fn : Fn) (first cap : Array Value) (w : World), (Instr.makeFunc fn first cap).run Tryd.prog w = .ok (.func fn first cap) w := fun _ _ _ _ => rfl
 have hbb : Below w.heap.size w ((w.alloc (.cells #[.pointer none] 68)).alloc (.cells #[.bool true] 4)) := ((Below.refl _ _).alloc (Nat.le_refl _) _).alloc (by simp) _
 have hx0 : ((w.alloc (.cells #[.pointer none] 68)).alloc (.cells #[.bool true] 4)).heap[w.heap.size]? = some (.cells #[.pointer none] 68 (0, 0)) := (heap_alloc_old _ _ (by simp)).trans (heap_alloc_new _ _)
 have hx1 : ((w.alloc (.cells #[.pointer none] 68)).alloc (.cells #[.bool true] 4)).heap[w.heap.size + 1]? = some (.cells #[.bool true] 4 (0, 0)) := by
  have q := heap_alloc_new (w.alloc (.cells #[.pointer none] 68)) (.cells #[.bool true] 4)
  rwa [World.size_alloc] at q
 have hI : AI w.heap.size (w.heap.size + 1) w.heap.size (fun b => b < w.heap.size) ((w.alloc (.cells #[.pointer none] 68)).alloc (.cells #[.bool true] 4)) (none, true) (fun q => q = w.heap.size + 1 ∨ q = w.heap.size) := ⟨hx1, ⟨_, hx0, rfl⟩, by omega, ⟨by omega, by omega⟩, fun _ h => h, fun _ => Iff.rfl⟩
 have HV := hid (each_any (me := asM) (Bd := fun _ => True) (fm := 88) (cm := #[.pointer (some ⟨w.heap.size + 1, 0, none⟩), .pointer (some ⟨w.heap.size, 0, none⟩)]) (fun _ _ _ _ => trivial) goA1 (fun _ _ _ h => h.low) (fun _ _ _ _ h hb => h.keep hb)
  (fun u s J p k n rk d l r hI hp hg _ => by
   rw [show (#[p] ++ #[Value.pointer (some ⟨w.heap.size + 1, 0, none⟩), Value.pointer (some ⟨w.heap.size, 0, none⟩)] : Array Value) = #[p, Value.pointer (some ⟨w.heap.size + 1, 0, none⟩), Value.pointer (some ⟨w.heap.size, 0, none⟩)] by simp]
   exact asMeet_any u s J p k n rk d l r hI hp hg.2.2.2.2.1) t ((w.alloc (.cells #[.pointer none] 68)).alloc (.cells #[.bool true] 4)) (none, true) _ p hI (hp.bound.below hbb) hg trivial)
 have HBB := hid hbb
 obtain ⟨ap, rfl⟩ := hp.form
 have HR := hid (show t.ascends = (eachM asM t (none, true)).2 from rfl)
 generalize eachM asM t (none, true) = R at *
 generalize t.ascends = T at *
 clear hbb hx0 hx1 hI hp hg
 go_enter Tryd.func54, Tryd.ntmps54
 go_wp2_with fail
 generalize ((w.alloc (.cells #[.pointer none] 68)).alloc (.cells #[.bool true] 4)) = w2 at *
 refine HV.out.mono ?_
 rintro d w3 ⟨rfl, hst⟩
 obtain ⟨J', h1, h2, h3⟩ := hst
 have c0 := cell_of_row _ (w.heap.size + 1) 0 _ _ _ h1.box
 have HF := hid (HBB.out.trans (h2.below (B := w.heap.size) (fun q hq => by have : q = w.heap.size + 1 ∨ q = w.heap.size := hq; omega) HBB.out.size))
 clear h1 h2 h3
 go_wp2_with fail
 go_ret
 rw [HR.out]
 exact ⟨rfl, HF.out⟩
end Go.Proofs.YtbmlkocpjboodaaDoor
/- stage 7: lists of entries; entries under way -/
namespace Go.Proofs.YtbmlkocpjboodaaDoor
open Go.RowKit
open Go.Lib (hid)
/-- the cells of a list of entries -/
def enL (xs : List (Value × Nat)) : List Value := xs.flatMap fun x => [x.1, Value.int .i64 (x.2 : Int)]
theorem enL_snoc (xs : List (Value × Nat)) (x : Value × Nat) : enL (xs ++ [x]) = enL xs ++ [x.1, Value.int .i64 (x.2 : Int)] := by simp [enL]
/-- an own row of entries, whose keys lie in blocks K -/
def EnR (w : World) (B : Nat) (K : Nat → Prop) (v : Value) (es : List (List Int × Nat)) : Prop :=
 ∃ xs : List (Value × Nat), xs.length = es.length ∧ w.ownsRow B 33 2 v es.length (enL xs) ∧ (∀ g, v.ownBlock = some g → ¬ K g) ∧ ∀ (i : Nat) (x : Value × Nat) (y : List Int × Nat), xs[i]? = some x → es[i]? = some y → x.2 = y.2 ∧ KIs w K x.1 y.1
theorem EnR.nil (w : World) (B : Nat) (K : Nat → Prop) : EnR w B K (.slice none 0 0) [] := ⟨[], rfl, World.ownsRow_nil _ _ _ _, (fun g h => by cases h), (fun i x y h => by simp at h)⟩
theorem ownsRow_slc {w : World} {B e s n : Nat} {v : Value} {xs : List Value} (h : w.ownsRow B e s v n xs) : ∃ a c, v = .slice a n c := by
 obtain ⟨-, ⟨rfl, hn⟩ | ⟨g, cap, cur, rfl, -⟩⟩ := h
 ·exact ⟨none, 0, by rw [hn]⟩
 ·exact ⟨_, _, rfl⟩
theorem EnR.keep {w w' : World} {B : Nat} {K : Nat → Prop} {v : Value} {es : List (List Int × Nat)} (h : EnR w B K v es) (hb : Below w.heap.size w w') : EnR w' B K v es := by
 obtain ⟨xs, h1, h2, h3, h4⟩ := h
 have hg : w.grownBy w' none := ⟨hb.os, hb.tape, hb.output, hb.size, fun k hk _ => hb.block k hk⟩
 refine ⟨xs, h1, World.ownsRow.kept h2 hg ?_, h3, fun i x y hx hy => ⟨(h4 i x y hx hy).1, (h4 i x y hx hy).2.below hb⟩⟩
 cases hv : v.ownBlock with
 | none => exact .inl rfl
 | some g => exact .inr (by simp)
theorem info33 : ∃ i, Tryd.prog.info? 33 = some i ∧ i.zero = some (.agg #[.slice none 0 0, .int .i64 0]) ∧ i.size = 2 ∧ i.bytes ≤ 64 := by
 have h : (Tryd.prog.info? 33).map (fun i => (i.zero, i.size, decide (i.bytes ≤ 64))) = some (some (.agg #[.slice none 0 0, .int .i64 0]), 2, true) := by kernel_rfl
 cases hi : Tryd.prog.info? 33 with
 | none => rw [hi] at h; cases h
 | some i =>
  rw [hi] at h
  simp only [Option.map_some, Option.some.injEq, Prod.mk.injEq] at h
  exact ⟨i, rfl, h.1, h.2.1, of_decide_eq_true h.2.2⟩
/-- an entry is appended -/
theorem EnR.app {w : World} {B : Nat} {K K' : Nat → Prop} {v : Value} {es : List (List Int × Nat)} (h : EnR w B K v es) (hb : B ≤ w.heap.size) (b : Nat) (kv : Value) (k : List Int) (n : Nat) (hx : w.heap[b]? = some (.cells #[kv, .int .i64 (n : Int)] 33 (0, 0))) (hk : KIs w K kv k) (hn : es.length ≤ 1099511627776) (ty : TypeId) (h1 : kv.oneCell' = true)
    (hK : ∀ q, K q → q < w.heap.size → K' q) (hK0 : ∀ g, v.ownBlock = some g → ¬ K' g) (hK1 : ¬ K' w.heap.size) :
    ∃ v' w', (Builtin.append_ #[26, 26] ty #[v, .slice (some ⟨b, 0, none⟩) 1 1]).run Tryd.prog w = .ok v' w' ∧ EnR w' B K' v' (es ++ [(k, n)]) ∧ Chg (fun g => v.ownBlock = some g) w w' ∧ OwnTo w v v' := by
  obtain ⟨i, hi, hz, hs, hby⟩ := info33
  obtain ⟨xs, e1, e2, e3, e4⟩ := h
  obtain ⟨v', w', r1, r2, r3, -, r5⟩ := run_append_own_at (P := Tryd.prog) w B 26 ty 33 i _ 2 i.bytes Tryd.underlying26 hi hz hs rfl rfl (by decide) v es.length (enL xs) e2 ⟨b, 0, none⟩ 1 1 [kv, .int .i64 (n : Int)] rfl (by
    intro j u hj
    rw [Addr.add_mid, cell_of_row _ b _ _ _ _ hx]
    rw [Nat.zero_add]
    simpa using hj) (by intro u hu; simp only [List.mem_cons, List.not_mem_nil, or_false] at hu; rcases hu with rfl | rfl; exact h1; rfl) (by unfold maxLen; omega) (by
    have : (es.length + 1) * i.bytes ≤ (es.length + 1) * 64 := Nat.mul_le_mul_left _ hby
    omega) hb
  have hc : Chg (fun g => v.ownBlock = some g) w w' := Chg.grown r3 (fun k hk => hk)
  have ho : OwnTo w v v' := fun g hg => by
    rcases r5 with h5 | h5
    · exact .inl (by rw [← h5]; exact hg)
    · rw [h5] at hg; injection hg with hg; exact .inr (by omega)
  have hkeep : ∀ {u : Value} {l : List Int}, KIs w K u l → KIs w' K' u l := fun hk => ((hk.bound).cg hc (fun q _ hq hj => e3 q hj hq.1)).mono (fun q hq => hK q hq.1 hq.2)
  refine ⟨v', w', r1, ⟨xs ++ [(kv, n)], by simp [e1], by rw [List.length_append, enL_snoc]; exact r2, fun g hg => ?_, fun j x y hx hy => ?_⟩, hc, ho⟩
  · rcases r5 with h5 | h5
    · exact hK0 g (by rw [← h5]; exact hg)
    · rw [h5] at hg
      injection hg with hg
      subst hg
      exact hK1
  · by_cases hj : j < es.length
    · rw [List.getElem?_append_left (by omega)] at hx
      rw [List.getElem?_append_left hj] at hy
      exact ⟨(e4 j x y hx hy).1, hkeep (e4 j x y hx hy).2⟩
    · have hj2 : j = es.length := by
        have := (List.getElem?_eq_some_iff.1 hy).1
        simp at this
        omega
      subst hj2
      rw [List.getElem?_append_right (by omega), e1, Nat.sub_self] at hx
      rw [List.getElem?_append_right (by omega), Nat.sub_self] at hy
      injection hx with hx
      injection hy with hy
      subst hx hy
      exact ⟨rfl, hkeep hk⟩
end Go.Proofs.YtbmlkocpjboodaaDoor
/- stage 7: entries under way -/
namespace Go.Proofs.YtbmlkocpjboodaaDoor
open Go.RowKit
open Go.Lib (hid)
/-- what entries' meet does -/
def enM (fr to : List Int) (e : Bool) (s : List (List Int × Nat)) (k : List Int) (n : Nat) : List (List Int × Nat) := if hasQ fr to e k = true then s ++ [(k, n)] else s
theorem EnR.mono {w : World} {B : Nat} {K K' : Nat → Prop} {v : Value} {es : List (List Int × Nat)} (h : EnR w B K v es) (hs : ∀ q, K q → K' q) (h3 : ∀ g, v.ownBlock = some g → ¬ K' g) : EnR w B K' v es := by
 obtain ⟨xs, e1, e2, e3, e4⟩ := h
 exact ⟨xs, e1, e2, h3, fun i x y hx hy => ⟨(e4 i x y hx hy).1, (e4 i x y hx hy).2.mono hs⟩⟩
theorem EnR.set {w : World} {B : Nat} {K : Nat → Prop} {v : Value} {es : List (List Int × Nat)} (h : EnR w B K v es) (L : Nat) (u : Value) (h0 : ∀ g, v.ownBlock = some g → g ≠ L) (hK : ∀ q, K q → q ≠ L) (hx : ∃ o, w.heap[L]? = some o) : EnR (w.setCell ⟨L, 0, none⟩ u) B K v es := by
 obtain ⟨xs, e1, e2, e3, e4⟩ := h
 obtain ⟨o, hx⟩ := hx
 have hc : Chg (fun q => q = L) w (w.setCell ⟨L, 0, none⟩ u) := cell_chg _ hx
 refine ⟨xs, e1, World.ownsRow.kept e2 (grownBy_setCell w ⟨L, 0, none⟩ u) ?_, e3, fun i x y hx hy => ⟨(e4 i x y hx hy).1, (e4 i x y hx hy).2.cg hc (fun q _ hq => hK q hq)⟩⟩
 cases hv : v.ownBlock with
 | none => exact .inl rfl
 | some g => exact .inr (fun hh => h0 g hv (by injection hh))
/-- where the keys of a list of entries lie -/
def KK (B Lb Sb : Nat) (v : Value) (q : Nat) : Prop := B ≤ q ∧ q ≠ Lb ∧ q ≠ Sb ∧ v.ownBlock ≠ some q
/-- entries under way: the list's box Lb, the range's box Sb -/
structure NI (B Lb Sb : Nat) (S : Nat → Prop) (fv tv : Value) (fr to : List Int) (e : Bool) (w : World) (s : List (List Int × Nat)) (J : Nat → Prop) : Prop where
 box : ∃ v, w.heap[Lb]? = some (.cells #[v] 26 (0, 0)) ∧ EnR w B (KK B Lb Sb v) v s ∧ (∀ g, v.ownBlock = some g → g ≠ Lb ∧ g ≠ Sb ∧ B ≤ g ∧ g < w.heap.size) ∧ ∀ q, J q ↔ q = Lb ∨ v.ownBlock = some q
 span : w.heap[Sb]? = some (.cells #[fv, tv, .bool e] 74 (0, 0))
 fr' : KIs w S fv fr
 to' : KIs w S tv to
 ne : Lb ≠ Sb
 lo : B ≤ Lb ∧ B ≤ Sb
 s : ∀ q, S q → q < B
theorem NI.keep {B Lb Sb : Nat} {S : Nat → Prop} {fv tv : Value} {fr to : List Int} {e : Bool} {w w' : World} {s : List (List Int × Nat)} {J : Nat → Prop} (h : NI B Lb Sb S fv tv fr to e w s J) (hb : Below w.heap.size w w') : NI B Lb Sb S fv tv fr to e w' s J := by
 obtain ⟨⟨v, h1, h2, h3, h4⟩, h5, h6, h7, h8, h9, h10⟩ := h
 exact ⟨⟨v, (hb.block _ (blk_lt h1)).trans h1, h2.keep hb, fun g hg => ⟨(h3 g hg).1, (h3 g hg).2.1, (h3 g hg).2.2.1, Nat.lt_of_lt_of_le (h3 g hg).2.2.2 hb.size⟩, h4⟩, (hb.block _ (blk_lt h5)).trans h5, h6.below hb, h7.below hb, h8, h9, h10⟩
theorem NI.low {B Lb Sb : Nat} {S : Nat → Prop} {fv tv : Value} {fr to : List Int} {e : Bool} {w : World} {s : List (List Int × Nat)} {J : Nat → Prop} (h : NI B Lb Sb S fv tv fr to e w s J) : ∀ b, J b → b < w.heap.size ∧ ¬ S b := by
 obtain ⟨⟨v, h1, h2, h3, h4⟩, h5, h6, h7, h8, h9, h10⟩ := h
 intro b hb
 rcases (h4 b).1 hb with rfl | hb
 ·exact ⟨blk_lt h1, fun hs => by have := h10 _ hs; omega⟩
 ·have := h3 b hb
  exact ⟨this.2.2.2, fun hs => by have := h10 _ hs; omega⟩
/-- an entry is appended and the slice is stored -/
theorem NI.app {B Lb Sb : Nat} {S : Nat → Prop} {fv tv : Value} {fr to : List Int} {e : Bool} {w w1 : World} {s : List (List Int × Nat)} {J : Nat → Prop} {v : Value} (h : NI B Lb Sb S fv tv fr to e w s J) (hx : w.heap[Lb]? = some (.cells #[v] 26 (0, 0)))
  (hb : Below w.heap.size w w1) (b : Nat) (kv : Value) (k : List Int) (n : Nat) (hbk : w1.heap[b]? = some (.cells #[kv, .int .i64 (n : Int)] 33 (0, 0))) (hk : KIs w1 (fun q => w.heap.size ≤ q) kv k) (hn : s.length ≤ 1099511627776) (ty : TypeId) (hone : kv.oneCell' = true) :
  ∃ v' w2, (Builtin.append_ #[26, 26] ty #[v, .slice (some ⟨b, 0, none⟩) 1 1]).run Tryd.prog w1 = .ok v' w2 ∧ (∃ a m c, v' = .slice a m c) ∧ w2.heap[Lb]? = some (.cells #[v] 26 (0, 0)) ∧ Chg J w w2 ∧ Stp (NI B Lb Sb S fv tv fr to e) J w (w2.setCell ⟨Lb, 0, none⟩ v') (s ++ [(k, n)]) := by
 obtain ⟨⟨v0, h1, h2, h3, h4⟩, h5, h6, h7, h8, h9, h10⟩ := id h
 obtain rfl : v = v0 := by rw [hx] at h1; injection h1 with h1; injection h1 with h1; injection h1 with h1; injection h1 with h1
 have hP1 : w1.heap[Lb]? = some (.cells #[v] 26 (0, 0)) := (hb.block _ (blk_lt hx)).trans hx
 have hS1 : w1.heap[Sb]? = _ := (hb.block _ (blk_lt h5)).trans h5
 have hLs := blk_lt hP1
 have hSs := blk_lt hS1
 have hws := hb.size
 have hLw := blk_lt hx
 have hSw := blk_lt h5
 obtain ⟨v', w2, r1, r2, hc, ht⟩ := (h2.keep hb).app (K' := fun q => B ≤ q ∧ q ≠ Lb ∧ q ≠ Sb ∧ v.ownBlock ≠ some q ∧ q ≠ w1.heap.size) (by have := h9.1; omega) b kv k n hbk ((hk.bound).mono (fun q hq => ⟨by have := hq.1; have := h9.1; omega, by have := hq.1; omega, by have := hq.1; omega, fun hh => by have := (h3 q hh).2.2.2; have := hq.1; omega⟩)) hn ty hone
  (fun q hq hlt => ⟨hq.1, hq.2.1, hq.2.2.1, hq.2.2.2, by omega⟩) (fun g hg hk => hk.2.2.2.1 hg) (fun hk => hk.2.2.2.2 rfl)
 have r3 : ∀ g, v'.ownBlock = some g → ¬ (B ≤ g ∧ g ≠ Lb ∧ g ≠ Sb ∧ v.ownBlock ≠ some g ∧ g ≠ w1.heap.size) := by
  obtain ⟨_, _, _, q, _⟩ := r2
  exact q
 have hsl : ∃ a m c, v' = .slice a m c := by
  obtain ⟨_, _, q, _, _⟩ := id r2
  obtain ⟨a, c, q⟩ := ownsRow_slc q
  exact ⟨a, _, c, q⟩
 have hP2 : w2.heap[Lb]? = some (.cells #[v] 26 (0, 0)) := (hc.block _ hLs (fun hh => (h3 Lb hh).1 rfl)).trans hP1
 have hS2 : w2.heap[Sb]? = _ := (hc.block _ hSs (fun hh => (h3 Sb hh).2.1 rfl)).trans hS1
 have hcs : Chg (fun q => q = Lb) w2 (w2.setCell ⟨Lb, 0, none⟩ v') := cell_chg _ hP2
 have hJ2 : Chg J w w2 := (Chg.fresh (F := J) hb).trans hc (fun i hi => .inl ((h4 i).2 (.inr hi)))
 have hall : Chg J w (w2.setCell ⟨Lb, 0, none⟩ v') := hJ2.trans hcs (fun i hi => .inl ((h4 i).2 (.inl hi)))
 have hnJ : ∀ q, S q → ¬ J q := fun q hq hj => (h.low q hj).2 hq
 have hown : ∀ g, v'.ownBlock = some g → g ≠ Lb ∧ g ≠ Sb ∧ B ≤ g ∧ g < (w2.setCell ⟨Lb, 0, none⟩ v').heap.size := fun g hg => by
  have hlt : g < w2.heap.size := by
   obtain ⟨_, _, q, _, _⟩ := id r2
   exact (q.lt g hg).2
  have hlt2 := Nat.lt_of_lt_of_le hlt hcs.size
  rcases ht g hg with hh | hh
  ·exact ⟨(h3 g hh).1, (h3 g hh).2.1, (h3 g hh).2.2.1, hlt2⟩
  ·exact ⟨by omega, by omega, by have := h9.1; omega, hlt2⟩
 refine ⟨v', w2, r1, hsl, hP2, hJ2, fun q => q = Lb ∨ v'.ownBlock = some q, ⟨⟨v', one_setCell hP2, ?_, hown, fun q => Iff.rfl⟩, (hcs.block _ (blk_lt hS2) (fun hh => h8 hh.symm)).trans hS2, h6.cg hall (fun q _ hq => hnJ q hq), h7.cg hall (fun q _ hq => hnJ q hq), h8, h9, h10⟩, hall, fun q hq => ?_⟩
 ·refine EnR.set (r2.mono (K' := KK B Lb Sb v') (fun q hq => ⟨hq.1, hq.2.1, hq.2.2.1, fun hh => r3 q hh hq⟩) (fun g hg hk => hk.2.2.2 hg)) Lb v' (fun g hg => (hown g hg).1) (fun q hq => hq.2.1) ⟨_, hP2⟩
 ·rcases hq with rfl | hq
  ·exact .inl ((h4 _).2 (.inl rfl))
  ·rcases ht q hq with hh | hh
   ·exact .inl ((h4 q).2 (.inr hh))
   ·exact .inr (Nat.le_trans hb.size hh)
end Go.Proofs.YtbmlkocpjboodaaDoor
/- stage 7: entries' meet -/
namespace Go.Proofs.YtbmlkocpjboodaaDoor
open Go.RowKit
open Go.Lib (hid)
theorem step_append_run {ops : Array Oper} {o : Oper} {a : Act} {w : World} {K : Act → World → Prop} {Q : Exit → Act → World → Prop} {E : Prop}
  (hg : o.guard = none) (s x : Operand) (hop : o.op = Op.call { callee := Callee.builtin Builtin.append, args := #[s, x], argTypes := #[26, 26] })
  (v v2 : Value) (hs : a.eval s = v) (hx : a.eval x = v2) {v' : Value} {w' : World} (h1 : (Builtin.append_ #[26, 26] o.type #[v, v2]).run Tryd.prog w = .ok v' w') (hK : K (a.put o.dst v') w') :
  if Region.wanted o (yielded ops a.tmps) = true then Oper.wp Tryd.prog o a w K Q else E := by
 have hw : Region.wanted o (yielded ops a.tmps) = true := by simp [Region.wanted, hg]
 rw [if_pos hw]
 unfold Oper.wp
 simp [execOp, hop, resolve, invoke, builtin, hs, hx, h1, Result.andThen]
 exact hK
set_option maxRecDepth 100000 in
theorem goN1 (args : Array Value) (u : World) : (callFunc 63 args).run Tryd.prog u = .ok (.enter 63 args) u := by kernel_rfl
set_option maxRecDepth 100000 in
set_option maxHeartbeats 8000000 in
theorem enMeet_any {B Lb Sb : Nat} {S : Nat → Prop} {fv tv : Value} {fr to : List Int} {e : Bool} (gf : Rng fr) (gt : Rng to) (w : World) (s : List (List Int × Nat)) (J : Nat → Prop) (p : Value) (k : List Int) (n : Nat) (rk dg : List Int) (l r : MT) (h : NI B Lb Sb S fv tv fr to e w s J) (hp : MIs w S p (.nd k n rk dg l r)) (gk : Rng k) (hkl : k.length ≤ 65535) (hbd : s.length ≤ 1099511627776) :
  Calls Tryd.prog 63 #[p, .pointer (some ⟨Sb, 0, none⟩), .pointer (some ⟨Lb, 0, none⟩)] w fun d w' => d = .returned (.tuple #[]) ∧ Stp (NI B Lb Sb S fv tv fr to e) J w w' (enM fr to e s k n) := by
 obtain ⟨b, kv, lp, rp, rfl, hSb, h1, h2, hx, hk, -, -⟩ := hp
 obtain ⟨ak, ck, rfl⟩ := hk.form
 have hnJ : ¬ J b := fun hj => (h.low b hj).2 hSb
 have HHA := hid (fun u (hu : Below w.heap.size w u) => has_any fv tv (.slice ak k.length ck) fr to k e u (h.fr'.below hu).1 (h.to'.below hu).1 (hk.below hu).1 gf gt gk)
 have HS := hid (fun u (hu : Below w.heap.size w u) => (show u.rangeAt Sb 0 [fv, tv, .bool e] from fun j x hj => by
  rw [cell_of_row u Sb (0 + j) _ _ _ ((hu.block _ (blk_lt h.span)).trans h.span), Nat.zero_add]
  simpa using hj))
 have HN := hid (fun u (hu : Below w.heap.size w u) => (show u.cell? ⟨b, 0, none⟩ = some (.slice ak k.length ck) from (cell_of_row u b 0 _ _ _ ((hu.block _ (blk_lt hx)).trans hx)).trans ndC_0))
 have HH := hid (And.intro h (And.intro (fun u (hu : Chg J w u) => (show u.rangeAt b 0 [.slice ak k.length ck, .int .i64 (n : Int)] from fun j x hj => nd_rng0 ((hu.block b (blk_lt hx) hnJ).trans hx) h1 j x (by
  have hj2 : j < 2 := by have := (List.getElem?_eq_some_iff.1 hj).1; simpa using this
  unfold rkL
  rw [List.getElem?_append_left (by simpa using hj2)]
  exact hj))) (And.intro hk hkl)))
 have HR := hid (show enM fr to e s k n = if hasQ fr to e k = true then s ++ [(k, n)] else s from rfl)
 have HLEN := hid hbd
 have hb0 := (Below.refl w.heap.size w).drew
 generalize enM fr to e s k n = R at *
 clear h hx hk gf gt gk hkl hbd h1 h2 hSb hnJ
 go_enter Tryd.func63, Tryd.ntmps63
 go_wp2_with fail
 refine wp_region_held_drew (S := fun u => Below w.heap.size w u) (by kernel_rfl) (hb0) (fun hHeld => ?_)
 refine tk (i := 0) (oi := ⟨some 4, .load 74 (.tmp 1), 74, "visit.go:51", #[], none⟩) (v := .agg #[fv, tv, .bool e]) (Or.inl ⟨by rfl, ?_⟩) ?_
 ·intro u hSw
  exact exec_load_mid 74 (Operand.tmp 1) rfl Sb 0 rfl _ _ (HS.out _ hSw) Tryd.underlying74 rfl (by kernel_rfl)
 try simp only [Act.put, sA, sB, sC]
 refine tk (i := 1) (oi := ⟨some 5, .move (.tmp 0), 68, "visit.go:51", #[], none⟩) (v := ?_) (Or.inl ⟨by rfl, ?_⟩) ?_
 rotate_left 1
 ·(intro u hSw; go_simp; try with_reducible rfl)
 try simp only [Act.put, sA, sB, sC]
 refine tk (i := 2) (oi := ⟨some 6, .nilCheck (.tmp 5), 0, "visit.go:51", #[⟨1, .data⟩], none⟩) (v := ?_) (Or.inl ⟨by rfl, ?_⟩) ?_
 rotate_left 1
 ·(intro u hSw; go_simp; try with_reducible rfl)
 try simp only [Act.put, sA, sB, sC]
 refine tk (i := 3) (oi := ⟨some 7, .fieldAddr 115 (.tmp 6) 0, 0, "visit.go:51", #[⟨2, .data⟩], none⟩) (v := ?_) (Or.inl ⟨by rfl, ?_⟩) ?_
 rotate_left 1
 ·(intro u hSw; go_simp; try with_reducible rfl)
 try simp only [Act.put, sA, sB, sC]
 refine tk (i := 4) (oi := ⟨some 8, .fieldAddr 66 (.tmp 7) 0, 0, "visit.go:51", #[⟨3, .data⟩], none⟩) (v := ?_) (Or.inl ⟨by rfl, ?_⟩) ?_
 rotate_left 1
 ·(intro u hSw; go_simp; try with_reducible rfl)
 try simp only [Act.put, sA, sB, sC]
 refine tk (i := 5) (oi := ⟨some 9, .fieldAddr 33 (.tmp 8) 0, 0, "visit.go:51", #[⟨4, .data⟩], none⟩) (v := ?_) (Or.inl ⟨by rfl, ?_⟩) ?_
 rotate_left 1
 ·(intro u hSw; go_simp; try with_reducible rfl)
 try simp only [Act.put, sA, sB, sC]
 refine tk (i := 6) (oi := ⟨some 10, .load 31 (.tmp 9), 31, "visit.go:51", #[⟨5, .data⟩], none⟩) (v := ?_) (Or.inl ⟨by rfl, ?_⟩) ?_
 rotate_left 1
 ·(intro u hSw; have y1 := HN.out _ hSw; go_simp; try with_reducible rfl)
 try simp only [Act.put, sA, sB, sC]
 refine wpAnyH_ready (rs := [7]) (by kernel_rfl) (by simp) ?_
 refine (AllReadyH.cons (o := ⟨some 11, .call ⟨.value (.func 64), #[.tmp 4, .tmp 10], #[74, 31]⟩, 4, "visit.go:51", #[⟨0, .data⟩, ⟨6, .data⟩], none⟩) rfl (fun K hK => ?_) AllReadyH.nil)
 go_simp
 refine (HHA.out _ hb0).mono ?_
 rintro d w1 ⟨rfl, hb1⟩
 have hb1' := hb0.trans (hb1.mono hb0.size)
 clear hb1
 go_wp2_with fail
 refine hK.out _ _ hb1' (fun hHeld => ?_)
 clear hK K
 try simp only [Act.put, sA, sB, sC]
 refine wpAnyH_done (by kernel_rfl) ?_ _
 have hb1 := hb1'
 have HST0 := hid (Stp.below (I := NI B Lb Sb S fv tv fr to e) (fun _ _ _ _ h hb => NI.keep h hb) (Stp.refl (I := NI B Lb Sb S fv tv fr to e) HH.out.1) hb1)
 generalize hasQ fr to e k = q at *
 cases q with
 | false =>
  go_wp2_with fail
  go_end0
  rw [HR.out]
  exact ⟨rfl, HST0.out⟩
 | true =>
  have hbd := hb1.drew
  have hI1 := HH.out.1.keep hbd
  obtain ⟨v, e1, e2, e3, e4⟩ := id hI1.box
  have HI1 := hid (And.intro hI1 e1)
  have HRG := hid (fun u (hu : Chg J w1.drew u) => HH.out.2.1 u ((Chg.fresh (F := J) hbd).trans hu (fun i hi => .inl hi)))
  have HCP := hid (fun u (hu : Below w1.drew.heap.size w1.drew u) => (show Calls Tryd.prog 57 #[.agg #[.slice ak k.length ck, .int .i64 (n : Int)]] u fun d w' => ∃ kv', d = .returned (.agg #[kv', .int .i64 (n : Int)]) ∧ KIs w' (fun b => u.heap.size ≤ b) kv' k ∧ Below u.heap.size u w' from copied_any u (.slice ak k.length ck) n k ((HH.out.2.2.1.below (hbd.trans (hu.mono hbd.size))).1) HH.out.2.2.2))
  have HPC := hid (fun u (hu : Below w1.drew.heap.size w1.drew u) => (show u.cell? ⟨Lb, 0, none⟩ = some v from cell_of_row _ Lb 0 _ _ _ ((hu.block _ (blk_lt e1)).trans e1)))
  have HAF := hid hbd
  have hbl : Below w1.drew.heap.size w1.drew w1.drew := Below.refl _ _
  have cP := HPC.out _ hbl
  have hch : Chg J w1.drew w1.drew := Chg.refl _ _
  clear hb1 hbd hI1 e1 e2 e3 e4
  go_wp2_with fail
  refine wp_region_held_drew (S := fun u => Chg J w1.drew u) (by kernel_rfl) (hch) (fun hHeld => ?_)
  refine tk (i := 1) (oi := ⟨some 13, .move (.tmp 0), 68, "visit.go:52", #[], none⟩) (v := ?_) (Or.inl ⟨by rfl, ?_⟩) ?_
  rotate_left 1
  ·(intro u hSw; go_simp; try with_reducible rfl)
  try simp only [Act.put, sA, sB, sC]
  refine tk (i := 2) (oi := ⟨some 14, .nilCheck (.tmp 13), 0, "visit.go:52", #[⟨1, .data⟩], none⟩) (v := ?_) (Or.inl ⟨by rfl, ?_⟩) ?_
  rotate_left 1
  ·(intro u hSw; go_simp; try with_reducible rfl)
  try simp only [Act.put, sA, sB, sC]
  refine tk (i := 3) (oi := ⟨some 15, .fieldAddr 115 (.tmp 14) 0, 0, "visit.go:52", #[⟨2, .data⟩], none⟩) (v := ?_) (Or.inl ⟨by rfl, ?_⟩) ?_
  rotate_left 1
  ·(intro u hSw; go_simp; try with_reducible rfl)
  try simp only [Act.put, sA, sB, sC]
  refine tk (i := 4) (oi := ⟨some 16, .fieldAddr 66 (.tmp 15) 0, 0, "visit.go:52", #[⟨3, .data⟩], none⟩) (v := ?_) (Or.inl ⟨by rfl, ?_⟩) ?_
  rotate_left 1
  ·(intro u hSw; go_simp; try with_reducible rfl)
  try simp only [Act.put, sA, sB, sC]
  refine tk (i := 5) (oi := ⟨some 17, .load 33 (.tmp 16), 33, "visit.go:52", #[⟨4, .data⟩], none⟩) (v := .agg #[.slice ak k.length ck, .int .i64 (n : Int)]) (Or.inl ⟨by rfl, ?_⟩) ?_
  ·intro u hSw
   exact exec_load_mid 33 (Operand.tmp 16) rfl b 0 rfl _ _ (HRG.out _ hSw) Tryd.underlying33 rfl (by kernel_rfl)
  try simp only [Act.put, sA, sB, sC]
  refine wpAnyH_ready (rs := [0, 6]) (by kernel_rfl) (by simp) ?_
  refine (AllReadyH.cons (o := ⟨some 12, .load 26 (.tmp 2), 26, "visit.go:52", #[], none⟩) rfl (fun K hK => ?_) (AllReadyH.cons (o := ⟨some 18, .call ⟨.value (.func 57), #[.tmp 17], #[33]⟩, 33, "visit.go:52", #[⟨5, .data⟩], none⟩) rfl (fun K hK => ?_) AllReadyH.nil))
  ·go_simp
   refine hK.out _ _ hch (fun hHeld => ?_)
   clear hK K
   try simp only [Act.put, sA, sB, sC]
   refine wpAnyH_ready (rs := [6]) (by kernel_rfl) (by simp) ?_
   refine (AllReadyH.cons (o := ⟨some 18, .call ⟨.value (.func 57), #[.tmp 17], #[33]⟩, 33, "visit.go:52", #[⟨5, .data⟩], none⟩) rfl (fun K hK => ?_) AllReadyH.nil)
   go_simp
   refine (HCP.out _ hbl).mono ?_
   rintro d w3 ⟨kv3, rfl, hk3, hb3⟩
   obtain ⟨a3, c3, rfl⟩ := hk3.form
   have HK3 := hid (hk3.mono (S' := fun q => w1.drew.heap.size ≤ q) (fun q hq => Nat.le_trans hbl.size hq))
   have hbl := hbl.trans (hb3.mono hbl.size)
   have hch : Chg J w1.drew w3 := Chg.fresh hbl
   have cP := HPC.out _ hbl
   clear hk3 hb3
   go_wp2_with fail
   refine hK.out _ _ hch (fun hHeld => ?_)
   clear hK K
   try simp only [Act.put, sA, sB, sC]
   refine wpAnyH_ready (rs := [7]) (by kernel_rfl) (by simp) ?_
   refine (AllReadyH.cons (o := ⟨some 19, .buildSlice 26 1 #[(0, .tmp 18)], 26, "visit.go:52", #[⟨6, .data⟩], none⟩) rfl (fun K hK => ?_) AllReadyH.nil)
   go_simp
   refine al_step2 hbl (fun nu hbn q hcn => ?_)
   have HQ4 := hid (And.intro q (HK3.out.below hcn))
   have hbl := hbn
   have hch : Chg J w1.drew nu := Chg.fresh hbl
   have cP := HPC.out _ hbl
   clear q hcn hbn
   refine hK.out _ _ hch (fun hHeld => ?_)
   clear hK K
   try simp only [Act.put, sA, sB, sC]
   refine wpAnyH_ready (rs := [8]) (by kernel_rfl) (by simp) ?_
   refine (AllReadyH.cons (o := ⟨some 20, .call ⟨.builtin .append, #[.tmp 12, .tmp 19], #[26, 26]⟩, 26, "visit.go:52", #[⟨0, .data⟩, ⟨7, .data⟩, ⟨6, .chain⟩], none⟩) rfl (fun K hK => ?_) AllReadyH.nil)
   obtain ⟨v5, w5, hr, ⟨a5, m5, c5, rfl⟩, hp5, hj5, hst⟩ := HI1.out.1.app HI1.out.2 hbl w3.heap.size (.slice a3 k.length c3) k n HQ4.out.1 HQ4.out.2 HLEN.out 26 rfl
   refine step_append_run (by rfl) (Operand.tmp 12) (Operand.tmp 19) (by rfl) v (.slice (some ⟨w3.heap.size, 0, none⟩) 1 1) (by rfl) (by rfl) hr ?_
   have cQ := cell_of_row _ Lb 0 _ _ _ hp5
   have fQ := frozen_of_row _ Lb 0 _ _ hp5
   have HST := hid hst
   have hch := hj5
   clear hp5 hj5 hst hr
   refine hK.out _ _ hch (fun hHeld => ?_)
   clear hK K
   try simp only [Act.put, sA, sB, sC]
   refine wpAnyH_ready (rs := [9]) (by kernel_rfl) (by simp) ?_
   refine (AllReadyH.cons (o := ⟨none, .store 26 (.tmp 2) (.tmp 20), 0, "visit.go:52", #[⟨8, .data⟩, ⟨8, .chain⟩, ⟨0, .phase⟩, ⟨1, .phase⟩, ⟨2, .phase⟩, ⟨3, .phase⟩, ⟨4, .phase⟩, ⟨5, .phase⟩, ⟨6, .phase⟩, ⟨7, .phase⟩, ⟨8, .phase⟩], none⟩) rfl (fun K hK => ?_) AllReadyH.nil)
   go_simp
   refine hK.out _ _ HST.out.chg (fun hHeld => ?_)
   clear hK K
   try simp only [Act.put]
   refine wpAnyH_done (by kernel_rfl) ?_ _
   go_wp2_with fail
   go_end0
   rw [HR.out]
   exact ⟨rfl, HST.out.after HAF.out⟩
  ·go_simp
   refine (HCP.out _ hbl).mono ?_
   rintro d w3 ⟨kv3, rfl, hk3, hb3⟩
   obtain ⟨a3, c3, rfl⟩ := hk3.form
   have HK3 := hid (hk3.mono (S' := fun q => w1.drew.heap.size ≤ q) (fun q hq => Nat.le_trans hbl.size hq))
   have hbl := hbl.trans (hb3.mono hbl.size)
   have hch : Chg J w1.drew w3 := Chg.fresh hbl
   have cP := HPC.out _ hbl
   clear hk3 hb3
   go_wp2_with fail
   refine hK.out _ _ hch (fun hHeld => ?_)
   clear hK K
   try simp only [Act.put, sA, sB, sC]
   refine wpAnyH_ready (rs := [0, 7]) (by kernel_rfl) (by simp) ?_
   refine (AllReadyH.cons (o := ⟨some 12, .load 26 (.tmp 2), 26, "visit.go:52", #[], none⟩) rfl (fun K hK => ?_) (AllReadyH.cons (o := ⟨some 19, .buildSlice 26 1 #[(0, .tmp 18)], 26, "visit.go:52", #[⟨6, .data⟩], none⟩) rfl (fun K hK => ?_) AllReadyH.nil))
   ·go_simp
    refine hK.out _ _ hch (fun hHeld => ?_)
    clear hK K
    try simp only [Act.put, sA, sB, sC]
    refine wpAnyH_ready (rs := [7]) (by kernel_rfl) (by simp) ?_
    refine (AllReadyH.cons (o := ⟨some 19, .buildSlice 26 1 #[(0, .tmp 18)], 26, "visit.go:52", #[⟨6, .data⟩], none⟩) rfl (fun K hK => ?_) AllReadyH.nil)
    go_simp
    refine al_step2 hbl (fun nu hbn q hcn => ?_)
    have HQ4 := hid (And.intro q (HK3.out.below hcn))
    have hbl := hbn
    have hch : Chg J w1.drew nu := Chg.fresh hbl
    have cP := HPC.out _ hbl
    clear q hcn hbn
    refine hK.out _ _ hch (fun hHeld => ?_)
    clear hK K
    try simp only [Act.put, sA, sB, sC]
    refine wpAnyH_ready (rs := [8]) (by kernel_rfl) (by simp) ?_
    refine (AllReadyH.cons (o := ⟨some 20, .call ⟨.builtin .append, #[.tmp 12, .tmp 19], #[26, 26]⟩, 26, "visit.go:52", #[⟨0, .data⟩, ⟨7, .data⟩, ⟨6, .chain⟩], none⟩) rfl (fun K hK => ?_) AllReadyH.nil)
    obtain ⟨v5, w5, hr, ⟨a5, m5, c5, rfl⟩, hp5, hj5, hst⟩ := HI1.out.1.app HI1.out.2 hbl w3.heap.size (.slice a3 k.length c3) k n HQ4.out.1 HQ4.out.2 HLEN.out 26 rfl
    refine step_append_run (by rfl) (Operand.tmp 12) (Operand.tmp 19) (by rfl) v (.slice (some ⟨w3.heap.size, 0, none⟩) 1 1) (by rfl) (by rfl) hr ?_
    have cQ := cell_of_row _ Lb 0 _ _ _ hp5
    have fQ := frozen_of_row _ Lb 0 _ _ hp5
    have HST := hid hst
    have hch := hj5
    clear hp5 hj5 hst hr
    refine hK.out _ _ hch (fun hHeld => ?_)
    clear hK K
    try simp only [Act.put, sA, sB, sC]
    refine wpAnyH_ready (rs := [9]) (by kernel_rfl) (by simp) ?_
    refine (AllReadyH.cons (o := ⟨none, .store 26 (.tmp 2) (.tmp 20), 0, "visit.go:52", #[⟨8, .data⟩, ⟨8, .chain⟩, ⟨0, .phase⟩, ⟨1, .phase⟩, ⟨2, .phase⟩, ⟨3, .phase⟩, ⟨4, .phase⟩, ⟨5, .phase⟩, ⟨6, .phase⟩, ⟨7, .phase⟩, ⟨8, .phase⟩], none⟩) rfl (fun K hK => ?_) AllReadyH.nil)
    go_simp
    refine hK.out _ _ HST.out.chg (fun hHeld => ?_)
    clear hK K
    try simp only [Act.put]
    refine wpAnyH_done (by kernel_rfl) ?_ _
    go_wp2_with fail
    go_end0
    rw [HR.out]
    exact ⟨rfl, HST.out.after HAF.out⟩
   ·go_simp
    refine al_step2 hbl (fun nu hbn q hcn => ?_)
    have HQ4 := hid (And.intro q (HK3.out.below hcn))
    have hbl := hbn
    have hch : Chg J w1.drew nu := Chg.fresh hbl
    have cP := HPC.out _ hbl
    clear q hcn hbn
    refine hK.out _ _ hch (fun hHeld => ?_)
    clear hK K
    try simp only [Act.put, sA, sB, sC]
    refine wpAnyH_ready (rs := [0]) (by kernel_rfl) (by simp) ?_
    refine (AllReadyH.cons (o := ⟨some 12, .load 26 (.tmp 2), 26, "visit.go:52", #[], none⟩) rfl (fun K hK => ?_) AllReadyH.nil)
    go_simp
    refine hK.out _ _ hch (fun hHeld => ?_)
    clear hK K
    try simp only [Act.put, sA, sB, sC]
    refine wpAnyH_ready (rs := [8]) (by kernel_rfl) (by simp) ?_
    refine (AllReadyH.cons (o := ⟨some 20, .call ⟨.builtin .append, #[.tmp 12, .tmp 19], #[26, 26]⟩, 26, "visit.go:52", #[⟨0, .data⟩, ⟨7, .data⟩, ⟨6, .chain⟩], none⟩) rfl (fun K hK => ?_) AllReadyH.nil)
    obtain ⟨v5, w5, hr, ⟨a5, m5, c5, rfl⟩, hp5, hj5, hst⟩ := HI1.out.1.app HI1.out.2 hbl w3.heap.size (.slice a3 k.length c3) k n HQ4.out.1 HQ4.out.2 HLEN.out 26 rfl
    refine step_append_run (by rfl) (Operand.tmp 12) (Operand.tmp 19) (by rfl) v (.slice (some ⟨w3.heap.size, 0, none⟩) 1 1) (by rfl) (by rfl) hr ?_
    have cQ := cell_of_row _ Lb 0 _ _ _ hp5
    have fQ := frozen_of_row _ Lb 0 _ _ hp5
    have HST := hid hst
    have hch := hj5
    clear hp5 hj5 hst hr
    refine hK.out _ _ hch (fun hHeld => ?_)
    clear hK K
    try simp only [Act.put, sA, sB, sC]
    refine wpAnyH_ready (rs := [9]) (by kernel_rfl) (by simp) ?_
    refine (AllReadyH.cons (o := ⟨none, .store 26 (.tmp 2) (.tmp 20), 0, "visit.go:52", #[⟨8, .data⟩, ⟨8, .chain⟩, ⟨0, .phase⟩, ⟨1, .phase⟩, ⟨2, .phase⟩, ⟨3, .phase⟩, ⟨4, .phase⟩, ⟨5, .phase⟩, ⟨6, .phase⟩, ⟨7, .phase⟩, ⟨8, .phase⟩], none⟩) rfl (fun K hK => ?_) AllReadyH.nil)
    go_simp
    refine hK.out _ _ HST.out.chg (fun hHeld => ?_)
    clear hK K
    try simp only [Act.put]
    refine wpAnyH_done (by kernel_rfl) ?_ _
    go_wp2_with fail
    go_end0
    rw [HR.out]
    exact ⟨rfl, HST.out.after HAF.out⟩
end Go.Proofs.YtbmlkocpjboodaaDoor
/- stage 7: entries, All -/
namespace Go.Proofs.YtbmlkocpjboodaaDoor
open Go.RowKit
open Go.Lib (hid)
/-- a tree's entries in a range -/
def MT.ents (fr to : List Int) (e : Bool) (t : MT) : List (List Int × Nat) := eachM (enM fr to e) t []
/-- a list of entries made since w -/
def EnN (w w' : World) (v : Value) (es : List (List Int × Nat)) : Prop := ∃ K : Nat → Prop, EnR w' w.heap.size K v es ∧ ∀ q, K q → w.heap.size ≤ q
theorem EnN.slc {w w' : World} {v : Value} {es : List (List Int × Nat)} (h : EnN w w' v es) : ∃ a c, v = .slice a es.length c := by
 obtain ⟨K, ⟨_, _, q, _⟩, _⟩ := h
 exact ownsRow_slc q
theorem EnN.after {w w1 w' : World} {v : Value} {es : List (List Int × Nat)} (h : EnN w1 w' v es) (hb : Below w.heap.size w w1) : EnN w w' v es := by
 obtain ⟨K, ⟨xs, e1, e2, e3, e4⟩, hk⟩ := h
 exact ⟨K, ⟨xs, e1, ⟨e2.1, e2.2.imp id (fun ⟨g, cap, cur, a, b, c⟩ => ⟨g, cap, cur, a, Nat.le_trans hb.size b, c⟩)⟩, e3, e4⟩, fun q hq => Nat.le_trans hb.size (hk q hq)⟩
set_option maxRecDepth 100000 in
set_option maxHeartbeats 4000000 in
theorem entries_any {S : Nat → Prop} (w : World) (p fv tv : Value) (fr to : List Int) (e : Bool) (t : MT) (hp : MIs w S p t) (hg : t.Good) (hf : Bs w fv fr) (ht : Bs w tv to) (gf : Rng fr) (gt : Rng to) (hbd : (t.ents fr to e).length ≤ 1099511627776) :
  Calls Tryd.prog 33 #[p, .agg #[fv, tv, .bool e]] w fun d w' => ∃ v', d = .returned v' ∧ EnN w w' v' (t.ents fr to e) ∧ Below w.heap.size w w' := by
 have hmf : ∀ (fn : Fn) (first cap : Array Value) (w : World), (Instr.makeFunc fn first cap).run Tryd.prog w = .ok (.func fn first cap) w := fun _ _ _ _ => rfl
 have hbb : Below w.heap.size w ((w.alloc (.cells #[fv, tv, .bool e] 74)).alloc (.cells #[.slice none 0 0] 26)) := ((Below.refl _ _).alloc (Nat.le_refl _) _).alloc (by simp) _
 have hx0 : ((w.alloc (.cells #[fv, tv, .bool e] 74)).alloc (.cells #[.slice none 0 0] 26)).heap[w.heap.size]? = some (.cells #[fv, tv, .bool e] 74 (0, 0)) := (heap_alloc_old _ _ (by simp)).trans (heap_alloc_new _ _)
 have hx1 : ((w.alloc (.cells #[fv, tv, .bool e] 74)).alloc (.cells #[.slice none 0 0] 26)).heap[w.heap.size + 1]? = some (.cells #[.slice none 0 0] 26 (0, 0)) := by
  have q := heap_alloc_new (w.alloc (.cells #[fv, tv, .bool e] 74)) (.cells #[.slice none 0 0] 26)
  rwa [World.size_alloc] at q
 have hI : NI w.heap.size (w.heap.size + 1) w.heap.size (fun b => b < w.heap.size) fv tv fr to e ((w.alloc (.cells #[fv, tv, .bool e] 74)).alloc (.cells #[.slice none 0 0] 26)) [] (fun q => q = w.heap.size + 1) := ⟨⟨.slice none 0 0, hx1, EnR.nil _ _ _, (fun g h => by cases h), fun q => ⟨.inl, fun h => h.elim id (fun h => by cases h)⟩⟩, hx0, (hf.kis).below hbb, (ht.kis).below hbb, by omega, ⟨by omega, by omega⟩, fun _ h => h⟩
 have HV := hid (each_any (me := enM fr to e) (Bd := fun s => s.length ≤ 1099511627776) (fm := 63) (cm := #[.pointer (some ⟨w.heap.size, 0, none⟩), .pointer (some ⟨w.heap.size + 1, 0, none⟩)])
  (fun s k n h => by
   unfold enM at h
   split at h
   ·rw [List.length_append] at h; omega
   ·exact h) goN1 (fun _ _ _ h => h.low) (fun _ _ _ _ h hb => h.keep hb)
  (fun u s J p k n rk d l r hI hp hg hbd => by
   rw [show (#[p] ++ #[Value.pointer (some ⟨w.heap.size, 0, none⟩), Value.pointer (some ⟨w.heap.size + 1, 0, none⟩)] : Array Value) = #[p, Value.pointer (some ⟨w.heap.size, 0, none⟩), Value.pointer (some ⟨w.heap.size + 1, 0, none⟩)] by simp]
   exact enMeet_any gf gt u s J p k n rk d l r hI hp hg.2.2.2.2.1 hg.2.2.2.1 (by
    unfold enM at hbd
    split at hbd
    ·rw [List.length_append] at hbd; omega
    ·exact hbd)) t ((w.alloc (.cells #[fv, tv, .bool e] 74)).alloc (.cells #[.slice none 0 0] 26)) [] _ p hI (hp.bound.below hbb) hg hbd)
 have HBB := hid hbb
 obtain ⟨ap, rfl⟩ := hp.form
 rw [show eachM (enM fr to e) t [] = t.ents fr to e from rfl] at HV
 generalize t.ents fr to e = R at *
 clear hbb hx0 hx1 hI hp hg hf ht gf gt hbd
 go_enter Tryd.func33, Tryd.ntmps33
 go_wp2_with fail
 generalize ((w.alloc (.cells #[fv, tv, .bool e] 74)).alloc (.cells #[.slice none 0 0] 26)) = w2 at *
 refine HV.out.mono ?_
 rintro d w3 ⟨rfl, hst⟩
 obtain ⟨J', h1, h2, h3⟩ := hst
 obtain ⟨v, k1, k2, k3, k4⟩ := h1.box
 have c0 := cell_of_row _ (w.heap.size + 1) 0 _ _ _ k1
 have HF := hid (And.intro (show EnN w w3 v R from ⟨_, k2, fun q hq => hq.1⟩) (HBB.out.trans (h2.below (B := w.heap.size) (fun q hq => by have : q = w.heap.size + 1 := hq; omega) HBB.out.size)))
 clear h1 h2 h3 k1 k2 k3 k4
 go_wp2_with fail
 go_ret
 exact ⟨_, rfl, HF.out.1, HF.out.2⟩
set_option maxRecDepth 100000 in
set_option maxHeartbeats 4000000 in
theorem treeAll_any {S : Nat → Prop} (X : Nat) (w : World) (p : Value) (t : MT) (hx : TIs w X p) (hp : MIs w S p t) (hg : t.Good) (hbd : (t.ents [] [] false).length ≤ 1099511627776) :
  Calls Tryd.prog 13 #[.pointer (some ⟨X, 0, none⟩)] w fun d w' => ∃ v', d = .returned v' ∧ EnN w w' v' (t.ents [] [] false) ∧ Below w.heap.size w w' := by
 have HE := hid (entries_any w p (.slice none 0 0) (.slice none 0 0) [] [] false t hp hg (Bs.nil w) (Bs.nil w) (fun x hx => by cases hx) (fun x hx => by cases hx) hbd)
 obtain ⟨ap, rfl⟩ := hp.form
 have c0 := cell_of_row _ X 0 _ _ _ hx
 generalize t.ents [] [] false = R at *
 clear hx hp hg hbd
 go_enter Tryd.func13, Tryd.ntmps13
 go_wp2_with fail
 refine HE.out.mono ?_
 rintro d w1 ⟨v, rfl, he, hb⟩
 have HF := hid (And.intro he hb)
 obtain ⟨a, c, rfl⟩ := he.slc
 clear he hb
 go_wp2_with fail
 go_ret
 exact ⟨_, rfl, HF.out.1, HF.out.2⟩
end Go.Proofs.YtbmlkocpjboodaaDoor
