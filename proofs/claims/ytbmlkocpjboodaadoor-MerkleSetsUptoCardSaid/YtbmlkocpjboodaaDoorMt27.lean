/- stage 7: Root of the reference -/
import Derived.Test.YtbmlkocpjboodaaDoorMt26
namespace Go.Proofs.YtbmlkocpjboodaaDoor
open Go.RowKit
open Go.Lib (hid)
/-- a slice of the reference's entries that may be cut again -/
def RfC (w : World) (v : Value) (l : List (List Int × Nat)) : Prop :=
 ∃ a c, v = .slice a l.length c ∧ l.length ≤ c ∧ ∀ (i : Nat) (x : List Int × Nat), l[i]? = some x → ∃ g o, a = some ⟨g, o, none⟩ ∧ g < w.heap.size ∧ w.cell? ⟨g, o + i * 2, none⟩ = some (.string (str x.1)) ∧ w.cell? ⟨g, o + (i * 2 + 1), none⟩ = some (.int .i64 (x.2 : Int))
theorem RfC.rfs {w : World} {v : Value} {l : List (List Int × Nat)} (h : RfC w v l) : RfS w v (l.map toI) := by
 obtain ⟨a, c, rfl, -, h⟩ := h
 refine ⟨a, c, by rw [List.length_map], fun i x hx => ?_⟩
 rw [List.getElem?_map, Option.map_eq_some_iff] at hx
 obtain ⟨y, hy, rfl⟩ := hx
 exact h i y hy
theorem RfC.below {w w' : World} {v : Value} {l : List (List Int × Nat)} (h : RfC w v l) (hb : Below w.heap.size w w') : RfC w' v l := by
 obtain ⟨a, c, e, hc, h⟩ := h
 refine ⟨a, c, e, hc, fun i x hx => ?_⟩
 obtain ⟨g, o, rfl, hg, h0, h1⟩ := h i x hx
 exact ⟨g, o, rfl, Nat.lt_of_lt_of_le hg hb.size, (World.cell?_of_block (a := ⟨g, o + i * 2, none⟩) (hb.block g hg)).trans h0, (World.cell?_of_block (a := ⟨g, o + (i * 2 + 1), none⟩) (hb.block g hg)).trans h1⟩
theorem undLE : Tryd.prog.underlying 22 = some (.slice (Tryd.prog.elem 22)) := by kernel_rfl
theorem sizeLE (u : World) : (sizeOf (Tryd.prog.elem 22)).run Tryd.prog u = .ok 2 u := by kernel_rfl
theorem run_upto (u : World) (a : Option Addr) (n c i : Nat) (hi : i ≤ n) (hc : n ≤ c) : (Instr.sliceAt 22 (.slice a n c) none (some (.int .i64 (i : Int))) none).run Tryd.prog u = .ok (.slice a i c) u := by
 rw [run_sliceAt_slice u 22 _ _ _ _ undLE, run_slice_h u 22 a n c undLE .i64 (i : Int) (by omega) (by omega), sizeLE]
 show Result.ok (sliced a 0 ((i : Int)).toNat c 2) u = _
 unfold sliced
 rw [Int.toNat_natCast, Nat.sub_zero, Nat.sub_zero]
 cases a with
 | none => simp
 | some x => simp [Addr.add]
theorem run_on (u : World) (a : Option Addr) (n c i : Nat) (hi : i ≤ n) : (Instr.sliceAt 22 (.slice a n c) (some (.int .i64 (i : Int))) none none).run Tryd.prog u = .ok (sliced a i n c 2) u := by
 rw [run_sliceAt_slice u 22 _ _ _ _ undLE, run_slice_l u 22 a n c undLE .i64 (i : Int) (by omega) (by omega), sizeLE]
 show Result.ok (sliced a ((i : Int)).toNat n c 2) u = _
 rw [Int.toNat_natCast]
theorem exec_upto {ρ : Operand → Value} {o : Oper} {w : World} (x hi : Operand) (ho : o.op = .slice 22 x none (some hi) none) (v vh : Value) (hx : ρ x = v) (hh : ρ hi = vh) (r : Value) (h : (Instr.sliceAt 22 v none (some vh) none).run Tryd.prog w = .ok r w) : (execOp ρ o).run Tryd.prog w = .ok (.value r) w := by
 unfold execOp
 rw [ho]
 simp only [hx, hh, Option.map_some, Option.map_none, Sem.run_bind, h, Result.andThen_ok, Sem.run_pure]
theorem exec_on {ρ : Operand → Value} {o : Oper} {w : World} (x lo : Operand) (ho : o.op = .slice 22 x (some lo) none none) (v vl : Value) (hx : ρ x = v) (hl : ρ lo = vl) (r : Value) (h : (Instr.sliceAt 22 v (some vl) none none).run Tryd.prog w = .ok r w) : (execOp ρ o).run Tryd.prog w = .ok (.value r) w := by
 unfold execOp
 rw [ho]
 simp only [hx, hl, Option.map_some, Option.map_none, Sem.run_bind, h, Result.andThen_ok, Sem.run_pure]
theorem RfC.take {w : World} {a : Option Addr} {n c : Nat} {l : List (List Int × Nat)} (h : RfC w (.slice a n c) l) (i : Nat) (hi : i ≤ n) : RfC w (.slice a i c) (l.take i) := by
 obtain ⟨a', c', e, hc, h⟩ := h
 injection e with e1 e2 e3
 subst e1 e2 e3
 have hl : (l.take i).length = i := by rw [List.length_take]; omega
 refine ⟨a, c, by rw [hl], by omega, fun j x hx => ?_⟩
 rw [List.getElem?_take] at hx
 split at hx
 ·exact h j x hx
 ·cases hx
theorem RfC.drop {w : World} {a : Option Addr} {n c : Nat} {l : List (List Int × Nat)} (h : RfC w (.slice a n c) l) (i : Nat) (hi : i ≤ n) : ∃ a2, sliced a i n c 2 = .slice a2 (n - i) (c - i) ∧ RfC w (.slice a2 (n - i) (c - i)) (l.drop i) := by
 obtain ⟨a', c', e, hc, h⟩ := h
 injection e with e1 e2 e3
 subst e1 e2 e3
 refine ⟨_, rfl, _, _, by rw [List.length_drop], by rw [List.length_drop]; omega, fun j x hx => ?_⟩
 rw [List.getElem?_drop] at hx
 have hj := (List.getElem?_eq_some_iff.1 hx).1
 obtain ⟨g, o, rfl, hg, h0, h1⟩ := h (i + j) x hx
 rw [if_neg (by omega), Option.map_some, Addr.add_mid]
 exact ⟨g, o + i * 2, rfl, hg, by rw [show o + i * 2 + j * 2 = o + (i + j) * 2 by omega]; exact h0, by rw [show o + i * 2 + (j * 2 + 1) = o + ((i + j) * 2 + 1) by omega]; exact h1⟩
set_option maxRecDepth 100000 in
set_option maxHeartbeats 8000000 in
theorem refRoot_nil (w : World) (v : Value) (hv : RfC w v []) :
  Calls Tryd.prog 16 #[v] w fun d w' => d = .returned (.agg (ArrU8 (rRoot []))) ∧ Below w.heap.size w w' := by
 obtain ⟨a, c, rfl, -, -⟩ := hv
 rw [List.length_nil]
 rw [rRoot_nil]
 go_enter Tryd.func16, Tryd.ntmps16
 go_wp2_with fail
 have b1 : Below w.heap.size w (w.alloc (.cells #[.int .u8 0, .int .u8 0, .int .u8 0, .int .u8 0, .int .u8 0, .int .u8 0, .int .u8 0, .int .u8 0, .int .u8 0, .int .u8 0, .int .u8 0, .int .u8 0, .int .u8 0, .int .u8 0, .int .u8 0, .int .u8 0, .int .u8 0, .int .u8 0, .int .u8 0, .int .u8 0, .int .u8 0, .int .u8 0, .int .u8 0, .int .u8 0, .int .u8 0, .int .u8 0, .int .u8 0, .int .u8 0, .int .u8 0, .int .u8 0, .int .u8 0, .int .u8 0] 35)) := (Below.refl _ _).alloc (Nat.le_refl _) _
 have hX : (w.alloc (.cells #[.int .u8 0, .int .u8 0, .int .u8 0, .int .u8 0, .int .u8 0, .int .u8 0, .int .u8 0, .int .u8 0, .int .u8 0, .int .u8 0, .int .u8 0, .int .u8 0, .int .u8 0, .int .u8 0, .int .u8 0, .int .u8 0, .int .u8 0, .int .u8 0, .int .u8 0, .int .u8 0, .int .u8 0, .int .u8 0, .int .u8 0, .int .u8 0, .int .u8 0, .int .u8 0, .int .u8 0, .int .u8 0, .int .u8 0, .int .u8 0, .int .u8 0, .int .u8 0] 35)).heap[w.heap.size]? = some (.cells #[.int .u8 0, .int .u8 0, .int .u8 0, .int .u8 0, .int .u8 0, .int .u8 0, .int .u8 0, .int .u8 0, .int .u8 0, .int .u8 0, .int .u8 0, .int .u8 0, .int .u8 0, .int .u8 0, .int .u8 0, .int .u8 0, .int .u8 0, .int .u8 0, .int .u8 0, .int .u8 0, .int .u8 0, .int .u8 0, .int .u8 0, .int .u8 0, .int .u8 0, .int .u8 0, .int .u8 0, .int .u8 0, .int .u8 0, .int .u8 0, .int .u8 0, .int .u8 0] 35 (0, 0)) := heap_alloc_new _ _
 generalize w.alloc (.cells #[.int .u8 0, .int .u8 0, .int .u8 0, .int .u8 0, .int .u8 0, .int .u8 0, .int .u8 0, .int .u8 0, .int .u8 0, .int .u8 0, .int .u8 0, .int .u8 0, .int .u8 0, .int .u8 0, .int .u8 0, .int .u8 0, .int .u8 0, .int .u8 0, .int .u8 0, .int .u8 0, .int .u8 0, .int .u8 0, .int .u8 0, .int .u8 0, .int .u8 0, .int .u8 0, .int .u8 0, .int .u8 0, .int .u8 0, .int .u8 0, .int .u8 0, .int .u8 0] 35) = w1 at *
 refine (refEmpty_any w1).mono ?_
 rintro e w2 ⟨v2, rfl, hbs, hb2⟩
 obtain ⟨a2, c2, rfl⟩ : ∃ a c, v2 = .slice a txt0.length c := by obtain ⟨a, c, h, _⟩ := hbs; exact ⟨a, c, h⟩
 have HX := hid (And.intro ((hb2.block _ (blk_lt hX)).trans hX) (b1.trans (hb2.mono b1.size)))
 have HBS := hid hbs
 clear b1 hX hbs hb2
 go_wp2_with fail
 refine (refSum_any _ txt0 w2 HBS.out (by decide)).mono ?_
 rintro e w3 ⟨rfl, hb3⟩
 have HX3 := hid (And.intro ((hb3.block _ (blk_lt HX.out.1)).trans HX.out.1) (HX.out.2.trans (hb3.mono HX.out.2.size)))
 have HI := hid (info_re32 (sha txt0) (sha_len _))
 have HS := hid (sz32 (sha txt0) (sha_len _))
 clear hb3
 go_wp2_with (first | (refine wpList_store_row rfl 35 (Operand.tmp 2) (Operand.tmp 8) rfl w.heap.size (ArrU8 (sha txt0)) rfl rfl 35 _ HX3.out.1 HI.out HS.out.symm (ArrU8_one _) ?_) | fail)
 refine bodyPost_ret (results_cell_row rfl _ _ w.heap.size 35 (ArrU8 (sha txt0)) (0,0) _ rfl (setRow_heap _ _ _ _ _ _ HX3.out.1) Tryd.underlying35 rfl HI.out) rfl ⟨rfl, ?_⟩
 exact below_setRow HX3.out.2 (Nat.le_refl _) _
set_option maxRecDepth 100000 in
set_option maxHeartbeats 8000000 in
theorem refRoot_any : ∀ (m : Nat) (w : World) (v : Value) (es : List (List Int × Nat)), es.length ≤ m → RfC w v es → (∀ x ∈ es, Rng x.1 ∧ x.1.length ≤ 65535 ∧ x.2 < 9223372036854775808) → es.length ≤ 1048576 →
  Calls Tryd.prog 16 #[v] w fun d w' => d = .returned (.agg (ArrU8 (rRoot es))) ∧ Below w.heap.size w w' := by
 intro m
 induction m with
 | zero =>
  intro w v es hm hv _ _
  have he : es = [] := List.eq_nil_of_length_eq_zero (by omega)
  subst he
  exact refRoot_nil w v hv
 | succ m ih =>
  intro w v es hm hv hes hn
  by_cases h0 : es.length = 0
  ·have he : es = [] := List.eq_nil_of_length_eq_zero h0
   subst he
   exact refRoot_nil w v hv
  have hT := topI_lt (l := es) (by omega)
  have hx : es[topI es]? = some (es[topI es]'hT) := List.getElem?_eq_getElem hT
  generalize es[topI es]'hT = x at hx
  have hR := rRoot_at hx
  have hTOP := fun u (hu : Below w.heap.size w u) => refTop_any u v es (hv.below hu).rfs (fun y hy => ⟨(hes y hy).1, (hes y hy).2.1⟩) (by omega) hn
  have gx := hes x (List.mem_of_getElem? hx)
  have hl1 : (es.take (topI es)).length = topI es := by rw [List.length_take]; omega
  obtain ⟨av, cv, rfl, hcv, hall⟩ := id hv
  obtain ⟨g, o, rfl, hgl, hc0, hc1⟩ := hall _ x hx
  obtain ⟨a2, hsl, hvd⟩ := hv.drop (topI es + 1) (by omega)
  have hvt := hv.take (topI es) (by omega)
  have HL1 := hid (fun u (hu : Below w.heap.size w u) => ih u _ (es.take (topI es)) (by rw [List.length_take]; omega) (hvt.below hu) (fun y hy => hes y (List.mem_of_mem_take hy)) (by rw [List.length_take]; omega))
  have HL2 := hid (fun u (hu : Below w.heap.size w u) => ih u _ (es.drop (topI es + 1)) (by rw [List.length_drop]; omega) (hvd.below hu) (fun y hy => hes y (List.mem_of_mem_drop hy)) (by rw [List.length_drop]; omega))
  have HU := hid (fun (u : World) => run_upto u (some ⟨g, o, none⟩) es.length cv (topI es) (by omega) hcv)
  have HO := hid (fun (u : World) => (run_on u (some ⟨g, o, none⟩) es.length cv (topI es + 1) (by omega)).trans (by rw [hsl]))
  have hd1 := rRoot_len (es.take (topI es))
  have hd2 := rRoot_len (es.drop (topI es + 1))
  generalize rRoot (es.take (topI es)) = dl at *
  generalize rRoot (es.drop (topI es + 1)) = dr at *
  have HRL := hid (rRoot_len es)
  generalize rRoot es = R at *
  generalize es.length - (topI es + 1) = n2 at *
  generalize topI es = T at *
  generalize es.length = n at *
  have HR := hid hR
  have HTOP := hid hTOP
  have HGX := hid (And.intro gx (And.intro hd1 hd2))
  have HC := hid (fun u (hu : Below w.heap.size w u) => (show u.cell? ⟨g, o + T * 2, none⟩ = some (.string (str x.1)) ∧ u.cell? ⟨g, o + T * 2 + 1, none⟩ = some (.int .i64 (x.2 : Int)) from ⟨(World.cell?_of_block (a := ⟨g, o + T * 2, none⟩) (hu.block g hgl)).trans hc0, (World.cell?_of_block (a := ⟨g, o + T * 2 + 1, none⟩) (hu.block g hgl)).trans hc1⟩))
  have ht0 : (0 : Int) ≤ (T : Int) := by omega
  have ht1 : (T : Int) < (n : Int) := by omega
  have hn0 : ¬ ((n : Int) = 0) := by omega
  have HN := hid hn
  clear hR hTOP gx hd1 hd2 hc0 hc1 hgl hall hv hvd hvt hsl hx hes hl1 hT h0 hm ih hcv
  go_enter Tryd.func16, Tryd.ntmps16
  go_wp2_with fail
  have b1 : Below w.heap.size w (w.alloc (.cells #[.int .u8 0, .int .u8 0, .int .u8 0, .int .u8 0, .int .u8 0, .int .u8 0, .int .u8 0, .int .u8 0, .int .u8 0, .int .u8 0, .int .u8 0, .int .u8 0, .int .u8 0, .int .u8 0, .int .u8 0, .int .u8 0, .int .u8 0, .int .u8 0, .int .u8 0, .int .u8 0, .int .u8 0, .int .u8 0, .int .u8 0, .int .u8 0, .int .u8 0, .int .u8 0, .int .u8 0, .int .u8 0, .int .u8 0, .int .u8 0, .int .u8 0, .int .u8 0] 35)) := (Below.refl _ _).alloc (Nat.le_refl _) _
  have hX : (w.alloc (.cells #[.int .u8 0, .int .u8 0, .int .u8 0, .int .u8 0, .int .u8 0, .int .u8 0, .int .u8 0, .int .u8 0, .int .u8 0, .int .u8 0, .int .u8 0, .int .u8 0, .int .u8 0, .int .u8 0, .int .u8 0, .int .u8 0, .int .u8 0, .int .u8 0, .int .u8 0, .int .u8 0, .int .u8 0, .int .u8 0, .int .u8 0, .int .u8 0, .int .u8 0, .int .u8 0, .int .u8 0, .int .u8 0, .int .u8 0, .int .u8 0, .int .u8 0, .int .u8 0] 35)).heap[w.heap.size]? = some (.cells #[.int .u8 0, .int .u8 0, .int .u8 0, .int .u8 0, .int .u8 0, .int .u8 0, .int .u8 0, .int .u8 0, .int .u8 0, .int .u8 0, .int .u8 0, .int .u8 0, .int .u8 0, .int .u8 0, .int .u8 0, .int .u8 0, .int .u8 0, .int .u8 0, .int .u8 0, .int .u8 0, .int .u8 0, .int .u8 0, .int .u8 0, .int .u8 0, .int .u8 0, .int .u8 0, .int .u8 0, .int .u8 0, .int .u8 0, .int .u8 0, .int .u8 0, .int .u8 0] 35 (0, 0)) := heap_alloc_new _ _
  generalize w.alloc (.cells #[.int .u8 0, .int .u8 0, .int .u8 0, .int .u8 0, .int .u8 0, .int .u8 0, .int .u8 0, .int .u8 0, .int .u8 0, .int .u8 0, .int .u8 0, .int .u8 0, .int .u8 0, .int .u8 0, .int .u8 0, .int .u8 0, .int .u8 0, .int .u8 0, .int .u8 0, .int .u8 0, .int .u8 0, .int .u8 0, .int .u8 0, .int .u8 0, .int .u8 0, .int .u8 0, .int .u8 0, .int .u8 0, .int .u8 0, .int .u8 0, .int .u8 0, .int .u8 0] 35) = w1 at *
  refine (HTOP.out w1 b1).mono ?_
  rintro e w2 ⟨rfl, hb2⟩
  have hX := (hb2.block _ (blk_lt hX)).trans hX
  have hb2 := b1.trans (hb2.mono b1.size)
  have HX := hid hX
  have HB := hid hb2
  clear b1 hX hb2
  have hn := HN.out
  go_wp2_with fail
  have hb : Below w.heap.size w w2.drew := HB.out.drew
  have hX : w2.drew.heap[w.heap.size]? = some (.cells #[.int .u8 0, .int .u8 0, .int .u8 0, .int .u8 0, .int .u8 0, .int .u8 0, .int .u8 0, .int .u8 0, .int .u8 0, .int .u8 0, .int .u8 0, .int .u8 0, .int .u8 0, .int .u8 0, .int .u8 0, .int .u8 0, .int .u8 0, .int .u8 0, .int .u8 0, .int .u8 0, .int .u8 0, .int .u8 0, .int .u8 0, .int .u8 0, .int .u8 0, .int .u8 0, .int .u8 0, .int .u8 0, .int .u8 0, .int .u8 0, .int .u8 0, .int .u8 0] 35 (0, 0)) := HX.out
  clear hn
  refine wp_region_held_drew (S := fun u => Below w.heap.size w u) (by kernel_rfl) (hb) (fun hHeld => ?_)
  refine tk (i := 0) (oi := ⟨some 11, .move (.tmp 0), 22, "ref.go:65", #[], none⟩) (v := ?_) (Or.inl ⟨by rfl, ?_⟩) ?_
  rotate_left 1
  ·(intro u hSw; go_simp; try with_reducible rfl)
  try simp only [Act.put, sA, sB, sC]
  refine tk (i := 1) (oi := ⟨some 12, .move (.tmp 3), 3, "ref.go:65", #[], none⟩) (v := ?_) (Or.inl ⟨by rfl, ?_⟩) ?_
  rotate_left 1
  ·(intro u hSw; go_simp; try with_reducible rfl)
  try simp only [Act.put, sA, sB, sC]
  refine tk (i := 2) (oi := ⟨some 13, .slice 22 (.tmp 11) none (some (.tmp 12)) none, 22, "ref.go:65", #[⟨0, .data⟩, ⟨1, .data⟩], none⟩) (v := .slice (some ⟨g, o, none⟩) T cv) (Or.inl ⟨by rfl, ?_⟩) ?_
  ·intro u hSw
   exact exec_upto (Operand.tmp 11) (Operand.tmp 12) rfl _ _ rfl rfl _ (HU.out u)
  try simp only [Act.put, sA, sB, sC]
  refine tk (i := 4) (oi := ⟨some 15, .move (.tmp 0), 22, "ref.go:65", #[], none⟩) (v := ?_) (Or.inl ⟨by rfl, ?_⟩) ?_
  rotate_left 1
  ·(intro u hSw; go_simp; try with_reducible rfl)
  try simp only [Act.put, sA, sB, sC]
  refine tk (i := 5) (oi := ⟨some 16, .move (.tmp 3), 3, "ref.go:65", #[], none⟩) (v := ?_) (Or.inl ⟨by rfl, ?_⟩) ?_
  rotate_left 1
  ·(intro u hSw; go_simp; try with_reducible rfl)
  try simp only [Act.put, sA, sB, sC]
  refine tk (i := 6) (oi := ⟨some 17, .indexAddr 22 (.tmp 15) (.tmp 16), 0, "ref.go:65", #[⟨4, .data⟩, ⟨5, .data⟩], none⟩) (v := ?_) (Or.inl ⟨by rfl, ?_⟩) ?_
  rotate_left 1
  ·(intro u hSw; go_simp; try with_reducible rfl)
  try simp only [Act.put, sA, sB, sC]
  refine tk (i := 7) (oi := ⟨some 18, .fieldAddr 45 (.tmp 17) 0, 0, "ref.go:65", #[⟨6, .data⟩], none⟩) (v := ?_) (Or.inl ⟨by rfl, ?_⟩) ?_
  rotate_left 1
  ·(intro u hSw; go_simp; try with_reducible rfl)
  try simp only [Act.put, sA, sB, sC]
  refine tk (i := 8) (oi := ⟨some 19, .load 9 (.tmp 18), 9, "ref.go:65", #[⟨7, .data⟩], none⟩) (v := ?_) (Or.inl ⟨by rfl, ?_⟩) ?_
  rotate_left 1
  ·(intro u hSw; have y0 := (HC.out _ hSw).1; have y1 := (HC.out _ hSw).2; go_simp; try with_reducible rfl)
  try simp only [Act.put, sA, sB, sC]
  refine tk (i := 9) (oi := ⟨some 20, .move (.tmp 0), 22, "ref.go:65", #[], none⟩) (v := ?_) (Or.inl ⟨by rfl, ?_⟩) ?_
  rotate_left 1
  ·(intro u hSw; go_simp; try with_reducible rfl)
  try simp only [Act.put, sA, sB, sC]
  refine tk (i := 10) (oi := ⟨some 21, .move (.tmp 3), 3, "ref.go:65", #[], none⟩) (v := ?_) (Or.inl ⟨by rfl, ?_⟩) ?_
  rotate_left 1
  ·(intro u hSw; go_simp; try with_reducible rfl)
  try simp only [Act.put, sA, sB, sC]
  refine tk (i := 11) (oi := ⟨some 22, .indexAddr 22 (.tmp 20) (.tmp 21), 0, "ref.go:65", #[⟨9, .data⟩, ⟨10, .data⟩], none⟩) (v := ?_) (Or.inl ⟨by rfl, ?_⟩) ?_
  rotate_left 1
  ·(intro u hSw; go_simp; try with_reducible rfl)
  try simp only [Act.put, sA, sB, sC]
  refine tk (i := 12) (oi := ⟨some 23, .fieldAddr 45 (.tmp 22) 1, 0, "ref.go:65", #[⟨11, .data⟩], none⟩) (v := ?_) (Or.inl ⟨by rfl, ?_⟩) ?_
  rotate_left 1
  ·(intro u hSw; go_simp; try with_reducible rfl)
  try simp only [Act.put, sA, sB, sC]
  refine tk (i := 13) (oi := ⟨some 24, .load 2 (.tmp 23), 2, "ref.go:65", #[⟨12, .data⟩], none⟩) (v := ?_) (Or.inl ⟨by rfl, ?_⟩) ?_
  rotate_left 1
  ·(intro u hSw; have y0 := (HC.out _ hSw).1; have y1 := (HC.out _ hSw).2; go_simp; try with_reducible rfl)
  try simp only [Act.put, sA, sB, sC]
  refine tk (i := 14) (oi := ⟨some 25, .move (.tmp 0), 22, "ref.go:65", #[], none⟩) (v := ?_) (Or.inl ⟨by rfl, ?_⟩) ?_
  rotate_left 1
  ·(intro u hSw; go_simp; try with_reducible rfl)
  try simp only [Act.put, sA, sB, sC]
  refine tk (i := 15) (oi := ⟨some 26, .move (.tmp 3), 3, "ref.go:65", #[], none⟩) (v := ?_) (Or.inl ⟨by rfl, ?_⟩) ?_
  rotate_left 1
  ·(intro u hSw; go_simp; try with_reducible rfl)
  try simp only [Act.put, sA, sB, sC]
  refine tk (i := 16) (oi := ⟨some 27, .binOp BinOp.add 3 (.tmp 26) (.const (Value.int IntKind.i64 1)) 3, 3, "ref.go:65", #[⟨15, .data⟩], none⟩) (v := .int .i64 ((T + 1 : Nat) : Int)) (Or.inl ⟨by rfl, ?_⟩) ?_
  ·intro u hSw
   have hn := HN.out; go_simp; exact IntWalk.i64_in _ (by omega)
  try simp only [Act.put, sA, sB, sC]
  refine tk (i := 17) (oi := ⟨some 28, .slice 22 (.tmp 25) (some (.tmp 27)) none none, 22, "ref.go:65", #[⟨14, .data⟩, ⟨16, .data⟩], none⟩) (v := .slice a2 n2 (cv - (T + 1))) (Or.inl ⟨by rfl, ?_⟩) ?_
  ·intro u hSw
   exact exec_on (Operand.tmp 25) (Operand.tmp 27) rfl _ _ rfl rfl _ (HO.out u)
  try simp only [Act.put, sA, sB, sC]
  refine wpAnyH_ready (rs := [3]) (by kernel_rfl) (by simp) ?_
  refine (AllReadyH.cons (o := ⟨some 14, .call ⟨.value (.func 16), #[.tmp 13], #[22]⟩, 35, "ref.go:65", #[⟨2, .data⟩], none⟩) rfl (fun K hK => ?_) AllReadyH.nil)
  try (generalize World.drew w2 = ud at *)
  go_simp
  refine (HL1.out _ hb).mono ?_
  rintro e cu ⟨rfl, hb4⟩
  have hX := (hb4.block _ (blk_lt hX)).trans hX
  have hb := hb.trans (hb4.mono hb.size)
  clear hb4
  go_wp2_with fail
  refine hK.out _ _ hb (fun hHeld => ?_)
  clear hK K
  try simp only [Act.put, sA, sB, sC]
  refine wpAnyH_ready (rs := [18]) (by kernel_rfl) (by simp) ?_
  refine (AllReadyH.cons (o := ⟨some 29, .call ⟨.value (.func 16), #[.tmp 28], #[22]⟩, 35, "ref.go:65", #[⟨17, .data⟩, ⟨3, .chain⟩], none⟩) rfl (fun K hK => ?_) AllReadyH.nil)
  try (generalize World.drew w2 = ud at *)
  go_simp
  refine (HL2.out _ hb).mono ?_
  rintro e cu ⟨rfl, hb4⟩
  have hX := (hb4.block _ (blk_lt hX)).trans hX
  have hb := hb.trans (hb4.mono hb.size)
  clear hb4
  go_wp2_with fail
  refine hK.out _ _ hb (fun hHeld => ?_)
  clear hK K
  try simp only [Act.put, sA, sB, sC]
  refine wpAnyH_ready (rs := [19]) (by kernel_rfl) (by simp) ?_
  refine (AllReadyH.cons (o := ⟨some 30, .call ⟨.value (.func 37), #[.tmp 14, .tmp 19, .tmp 24, .tmp 29], #[35, 9, 2, 35]⟩, 31, "ref.go:65", #[⟨3, .data⟩, ⟨8, .data⟩, ⟨13, .data⟩, ⟨18, .data⟩, ⟨18, .chain⟩], none⟩) rfl (fun K hK => ?_) AllReadyH.nil)
  go_simp
  refine (refText_any _ dl dr x.1 x.2 HGX.out.2.1 HGX.out.2.2 HGX.out.1.1 HGX.out.1.2.1 HGX.out.1.2.2).mono ?_
  rintro e cu ⟨v30, rfl, hbs, hb4⟩
  have HBS := hid hbs
  obtain ⟨a30, c30, rfl⟩ : ∃ a c, v30 = .slice a (txtN x.1 x.2 dl dr).length c := by obtain ⟨a, c, h, _⟩ := hbs; exact ⟨a, c, h⟩
  have hX := (hb4.block _ (blk_lt hX)).trans hX
  have hb := hb.trans (hb4.mono hb.size)
  clear hb4 hbs
  go_wp2_with fail
  refine hK.out _ _ hb (fun hHeld => ?_)
  clear hK K
  try simp only [Act.put, sA, sB, sC]
  refine wpAnyH_ready (rs := [20]) (by kernel_rfl) (by simp) ?_
  refine (AllReadyH.cons (o := ⟨some 31, .call ⟨.value (.func 26), #[.tmp 30], #[31]⟩, 35, "ref.go:65", #[⟨19, .data⟩, ⟨19, .chain⟩], none⟩) rfl (fun K hK => ?_) AllReadyH.nil)
  go_simp
  refine (refSum_any _ _ _ HBS.out (by have e1 := HGX.out.2.1; have e2 := HGX.out.2.2; have e3 := HGX.out.1.2.1; unfold txtN; rw [joined_len]; simp only [jlen, List.length_cons, List.length_nil, be8_len, e1, e2]; omega)).mono ?_
  rw [← HR.out]
  rintro e cu ⟨rfl, hb4⟩
  have hX := (hb4.block _ (blk_lt hX)).trans hX
  have hb := hb.trans (hb4.mono hb.size)
  clear hb4
  go_wp2_with fail
  refine hK.out _ _ hb (fun hHeld => ?_)
  clear hK K
  try simp only [Act.put, sA, sB, sC]
  refine wpAnyH_ready (rs := [21]) (by kernel_rfl) (by simp) ?_
  refine (AllReadyH.cons (o := ⟨none, .store 35 (.tmp 2) (.tmp 31), 0, "ref.go:65", #[⟨20, .data⟩, ⟨20, .chain⟩, ⟨0, .phase⟩, ⟨1, .phase⟩, ⟨2, .phase⟩, ⟨3, .phase⟩, ⟨4, .phase⟩, ⟨5, .phase⟩, ⟨6, .phase⟩, ⟨7, .phase⟩, ⟨8, .phase⟩, ⟨9, .phase⟩, ⟨10, .phase⟩, ⟨11, .phase⟩, ⟨12, .phase⟩, ⟨13, .phase⟩, ⟨14, .phase⟩, ⟨15, .phase⟩, ⟨16, .phase⟩, ⟨17, .phase⟩, ⟨18, .phase⟩, ⟨19, .phase⟩, ⟨20, .phase⟩], none⟩) rfl (fun K hK => ?_) AllReadyH.nil)
  rw [if_pos (by rfl)]
  refine wp_store_row 35 (Operand.tmp 2) (Operand.tmp 31) rfl _ (ArrU8 R) rfl rfl 35 _ hX (info_re32 R HRL.out) (by rw [sz32 R HRL.out]; rfl) (ArrU8_one _) ?_
  have hX := setRow_heap _ _ _ (ArrU8 R) _ _ hX
  have hb := below_setRow hb (Nat.le_refl _) (ArrU8 R)
  generalize World.setRow _ _ _ = nu at *
  refine hK.out _ _ hb (fun hHeld => ?_)
  clear hK K
  try simp only [Act.put]
  refine wpAnyH_done (by kernel_rfl) ?_ _
  have HE := hid (And.intro hX hb)
  clear hX hb hHeld
  go_wp2_with fail
  refine bodyPost_ret (results_cell_row rfl _ _ w.heap.size 35 (ArrU8 R) (0,0) _ rfl HE.out.1 Tryd.underlying35 rfl (info_re32 R HRL.out)) rfl ⟨rfl, HE.out.2⟩
end Go.Proofs.YtbmlkocpjboodaaDoor
/- stage 7: valid of a rising list -/
namespace Go.Proofs.YtbmlkocpjboodaaDoor
open Go.RowKit
open Go.Lib (hid)
theorem asc_at {es : List (List Int × Nat)} (h : Asc es) {i j : Nat} {x y : List Int × Nat} (hi : es[i]? = some x) (hj : es[j]? = some y) (hij : i < j) : cmpI x.1 y.1 < 0 := by
 obtain ⟨h1, rfl⟩ := List.getElem?_eq_some_iff.1 hi
 obtain ⟨h2, rfl⟩ := List.getElem?_eq_some_iff.1 hj
 exact (List.pairwise_iff_getElem.1 h) i j h1 h2 hij
set_option maxRecDepth 100000 in
set_option maxHeartbeats 8000000 in
theorem valid_asc (w : World) (v : Value) (es : List (List Int × Nat)) (hes : EnS w v es) (ha : Asc es) (hok : ∀ x ∈ es, x.1.length ≤ 65535 ∧ Rng x.1 ∧ 1 ≤ x.2 ∧ x.2 < 9223372036854775808) (hn : es.length ≤ 1048576) :
  Calls Tryd.prog 30 #[v] w fun d w' => d = .returned (.bool true) ∧ Below w.heap.size w w' := by
 have HE := hid hes
 have HA := hid ha
 have HOK := hid hok
 obtain ⟨al, cl, rfl, -⟩ := hes
 generalize hL : es.length = n at *
 have HL := hid hL
 clear ha hok hL
 go_enter Tryd.func30, Tryd.ntmps30
 go_wp2_with fail
 go_loopw [7] (fun i wr => ∃ j : Nat, i = .int .i64 (j : Int) ∧ j ≤ n ∧ Below w.heap.size w wr) (fun i _ => n - (intOf i).toNat)
 case atStart => exact ⟨0, rfl, Nat.zero_le _, Below.refl _ _⟩
 case round =>
  obtain ⟨j, rfl, hj, hbw⟩ := hrel
  by_cases hjl : j < n
  ·have hx : es[j]? = some (es[j]'(by rw [HL.out]; exact hjl)) := List.getElem?_eq_getElem _
   generalize es[j]'(by rw [HL.out]; exact hjl) = x at hx
   have hox := HOK.out x (List.mem_of_getElem? hx)
   obtain ⟨a', c', he, hall⟩ := HE.out
   injection he with e1 e0 e2
   clear e0
   subst e1 e2
   obtain ⟨g, kv, hag, hgl, hc0, hc1, hbs⟩ := hall j x hx
   subst hag
   have hbs2 := hbs.below hbw
   obtain ⟨ak, ck, rfl⟩ : ∃ a c, kv = .slice a x.1.length c := by obtain ⟨a, c, h, _⟩ := hbs; exact ⟨a, c, h⟩
   have c0 : wr.cell? ⟨g, j * 2, none⟩ = some (.slice ak x.1.length ck) := (World.cell?_of_block (a := ⟨g, j * 2, none⟩) (hbw.block g hgl)).trans hc0
   have c1 : wr.cell? ⟨g, j * 2 + 1, none⟩ = some (.int .i64 (x.2 : Int)) := (World.cell?_of_block (a := ⟨g, j * 2 + 1, none⟩) (hbw.block g hgl)).trans hc1
   have h1 : ¬ (x.2 : Int) < 1 := by omega
   have h2 : ¬ (x.1.length : Int) > 65535 := by omega
   have hj0 : (0 : Int) ≤ (j : Int) := by omega
   have hj1 : (j : Int) < (n : Int) := by omega
   have HX := hid (And.intro hx (And.intro hbs (And.intro hbw hjl)))
   clear hx hbs hbs2 hbw hall hc0 hc1 hox hgl hj hjl
   by_cases hz : j = 0
   ·subst hz
    go_wp2_with fail
    have hX : (wr.alloc (.cells #[.slice ak x.1.length ck, .int .i64 (x.2 : Int)] 33)).heap[wr.heap.size]? = some (.cells #[.slice ak x.1.length ck, .int .i64 (x.2 : Int)] 33 (0, 0)) := heap_alloc_new _ _
    have hb : Below w.heap.size w (wr.alloc (.cells #[.slice ak x.1.length ck, .int .i64 (x.2 : Int)] 33)) := HX.out.2.2.1.alloc HX.out.2.2.1.size _
    generalize wr.alloc (.cells #[.slice ak x.1.length ck, .int .i64 (x.2 : Int)] 33) = wq at *
    refine wp_region_held_drew (S := fun _ => True) (by kernel_rfl) (trivial) (fun hHeld => ?_)
    refine tk (i := 0) (oi := ⟨some 21, .move (.tmp 3), 3, "merkle.go:41", #[], none⟩) (v := ?_) (Or.inl ⟨by rfl, ?_⟩) ?_
    rotate_left 1
    ·(intro u hSw; go_simp; try with_reducible rfl)
    try simp only [Act.put, sA, sB, sC]
    refine tk (i := 1) (oi := ⟨some 22, .binOp BinOp.gtr 3 (.tmp 21) (.const (Value.int IntKind.i64 0)) 3, 4, "merkle.go:41", #[⟨0, .data⟩], none⟩) (v := ?_) (Or.inl ⟨by rfl, ?_⟩) ?_
    rotate_left 1
    ·(intro u hSw; go_simp; try with_reducible rfl)
    try simp only [Act.put, sA, sB, sC]
    refine tk (i := 2) (oi := ⟨some 23, .move (.tmp 22), 4, "merkle.go:41", #[⟨1, .data⟩], none⟩) (v := ?_) (Or.inl ⟨by rfl, ?_⟩) ?_
    rotate_left 1
    ·(intro u hSw; go_simp; try with_reducible rfl)
    try simp only [Act.put, sA, sB, sC]
    refine tk (i := 3) (oi := ⟨some 24, .move (.tmp 0), 26, "merkle.go:41", #[⟨2, .guard⟩], some (2, true)⟩) (v := undef) (by exact .inr ⟨by rfl, rfl⟩) ?_
    try simp only [Act.put, sA, sB, sC]
    refine tk (i := 4) (oi := ⟨some 25, .move (.tmp 3), 3, "merkle.go:41", #[⟨2, .guard⟩], some (2, true)⟩) (v := undef) (by exact .inr ⟨by rfl, rfl⟩) ?_
    try simp only [Act.put, sA, sB, sC]
    refine tk (i := 5) (oi := ⟨some 26, .binOp BinOp.sub 3 (.tmp 25) (.const (Value.int IntKind.i64 1)) 3, 3, "merkle.go:41", #[⟨4, .data⟩, ⟨2, .guard⟩], some (2, true)⟩) (v := undef) (by exact .inr ⟨by rfl, rfl⟩) ?_
    try simp only [Act.put, sA, sB, sC]
    refine tk (i := 6) (oi := ⟨some 27, .indexAddr 26 (.tmp 24) (.tmp 26), 0, "merkle.go:41", #[⟨3, .data⟩, ⟨5, .data⟩, ⟨2, .guard⟩], some (2, true)⟩) (v := undef) (by exact .inr ⟨by rfl, rfl⟩) ?_
    try simp only [Act.put, sA, sB, sC]
    refine tk (i := 7) (oi := ⟨some 28, .fieldAddr 33 (.tmp 27) 0, 0, "merkle.go:41", #[⟨6, .data⟩, ⟨2, .guard⟩], some (2, true)⟩) (v := undef) (by exact .inr ⟨by rfl, rfl⟩) ?_
    try simp only [Act.put, sA, sB, sC]
    refine tk (i := 8) (oi := ⟨some 29, .load 31 (.tmp 28), 31, "merkle.go:41", #[⟨7, .data⟩, ⟨2, .guard⟩], some (2, true)⟩) (v := undef) (by exact .inr ⟨by rfl, rfl⟩) ?_
    try simp only [Act.put, sA, sB, sC]
    refine tk (i := 9) (oi := ⟨some 30, .fieldAddr 33 (.tmp 4) 0, 0, "merkle.go:41", #[⟨2, .guard⟩], some (2, true)⟩) (v := undef) (by exact .inr ⟨by rfl, rfl⟩) ?_
    try simp only [Act.put, sA, sB, sC]
    refine tk (i := 10) (oi := ⟨some 31, .load 31 (.tmp 30), 31, "merkle.go:41", #[⟨9, .data⟩, ⟨2, .guard⟩], some (2, true)⟩) (v := undef) (by exact .inr ⟨by rfl, rfl⟩) ?_
    try simp only [Act.put, sA, sB, sC]
    refine tk (i := 11) (oi := ⟨some 32, .call ⟨.value (.func 56), #[.tmp 29, .tmp 31], #[31, 31]⟩, 3, "merkle.go:41", #[⟨8, .data⟩, ⟨10, .data⟩, ⟨2, .chain⟩, ⟨2, .guard⟩], some (2, true)⟩) (v := undef) (by exact .inr ⟨by rfl, rfl⟩) ?_
    try simp only [Act.put, sA, sB, sC]
    refine tk (i := 12) (oi := ⟨some 33, .binOp BinOp.geq 3 (.tmp 32) (.const (Value.int IntKind.i64 0)) 3, 4, "merkle.go:41", #[⟨11, .data⟩, ⟨2, .guard⟩], some (2, true)⟩) (v := undef) (by exact .inr ⟨by rfl, rfl⟩) ?_
    try simp only [Act.put, sA, sB, sC]
    refine tk (i := 13) (oi := ⟨some 34, .pick (.tmp 23) (.tmp 33) (.const (Value.bool false)), 4, "merkle.go:41", #[⟨2, .data⟩, ⟨12, .data⟩], none⟩) (v := ?_) (Or.inl ⟨by rfl, ?_⟩) ?_
    rotate_left 1
    ·(intro u hSw; go_simp; try with_reducible rfl)
    try simp only [Act.put, sA, sB, sC]
    refine wpAnyH_done (by kernel_rfl) ?_ _
    have HB2 := hid hb.drew
    clear hb hX
    go_wp2_with fail
    go_roundw
    case rel => exact ⟨1, rfl, HX.out.2.2.2, HB2.out⟩
    case measure => have := HX.out.2.2.2; simp [intOf]; omega
   ·obtain ⟨i, rfl⟩ : ∃ i, j = i + 1 := ⟨j - 1, by omega⟩
    obtain ⟨y, hy⟩ : ∃ y, es[i]? = some y := ⟨_, List.getElem?_eq_getElem (by have := HX.out.2.2.2; rw [HL.out]; omega)⟩
    have hlt := asc_at HA.out hy HX.out.1 (Nat.lt_succ_self i)
    have goy := HOK.out y (List.mem_of_getElem? hy)
    have gox := HOK.out x (List.mem_of_getElem? HX.out.1)
    obtain ⟨a', c', he, hall⟩ := HE.out
    injection he with e1 e0 e2
    clear e0
    subst e1 e2
    obtain ⟨g', kv', hag, hgl, hc0, -, hbs⟩ := hall i y hy
    injection hag with hag
    injection hag with hg1 _ _
    subst hg1
    obtain ⟨ay, cy, rfl⟩ : ∃ a c, kv' = .slice a y.1.length c := by obtain ⟨a, c, h, _⟩ := hbs; exact ⟨a, c, h⟩
    have HCC := hid (fun u (hu : Below w.heap.size w u) => (World.cell?_of_block (a := ⟨g, i * 2, none⟩) (hu.block g hgl)).trans hc0)
    have HCM := hid (fun u (hu : Below w.heap.size w u) => compare_any _ _ y.1 x.1 u (hbs.below hu) (HX.out.2.1.below hu) goy.2.1 gox.2.1)
    generalize cmpI y.1 x.1 = cm at *
    have hc2 : ¬ cm ≥ 0 := by omega
    have hc3 : ¬ 0 ≤ cm := by omega
    have hi0 : (0 : Int) ≤ (i : Int) := by omega
    have hi1 : (i : Int) < (n : Int) := by omega
    clear hlt goy gox hall hgl hc0 hbs hy hz
    go_wp2_with fail
    have hX : (wr.alloc (.cells #[.slice ak x.1.length ck, .int .i64 (x.2 : Int)] 33)).heap[wr.heap.size]? = some (.cells #[.slice ak x.1.length ck, .int .i64 (x.2 : Int)] 33 (0, 0)) := heap_alloc_new _ _
    have hb : Below w.heap.size w (wr.alloc (.cells #[.slice ak x.1.length ck, .int .i64 (x.2 : Int)] 33)) := HX.out.2.2.1.alloc HX.out.2.2.1.size _
    generalize wr.alloc (.cells #[.slice ak x.1.length ck, .int .i64 (x.2 : Int)] 33) = wq at *
    have hS := And.intro hb.drew (show wq.drew.cell? ⟨wr.heap.size, 0, none⟩ = some (.slice ak x.1.length ck) from cell_of_row wq wr.heap.size 0 _ _ _ hX)
    have hb := hb.drew
    generalize wr.heap.size = X at *
    refine wp_region_held_drew (S := fun u => Below w.heap.size w u ∧ u.cell? ⟨X, 0, none⟩ = some (.slice ak x.1.length ck)) (by kernel_rfl) (hS) (fun hHeld => ?_)
    refine tk (i := 0) (oi := ⟨some 21, .move (.tmp 3), 3, "merkle.go:41", #[], none⟩) (v := ?_) (Or.inl ⟨by rfl, ?_⟩) ?_
    rotate_left 1
    ·(intro u hSw; go_simp; try with_reducible rfl)
    try simp only [Act.put, sA, sB, sC]
    refine tk (i := 1) (oi := ⟨some 22, .binOp BinOp.gtr 3 (.tmp 21) (.const (Value.int IntKind.i64 0)) 3, 4, "merkle.go:41", #[⟨0, .data⟩], none⟩) (v := .bool true) (Or.inl ⟨by rfl, ?_⟩) ?_
    ·intro u hSw
     go_simp
    try simp only [Act.put, sA, sB, sC]
    refine tk (i := 2) (oi := ⟨some 23, .move (.tmp 22), 4, "merkle.go:41", #[⟨1, .data⟩], none⟩) (v := ?_) (Or.inl ⟨by rfl, ?_⟩) ?_
    rotate_left 1
    ·(intro u hSw; go_simp; try with_reducible rfl)
    try simp only [Act.put, sA, sB, sC]
    refine tk (i := 3) (oi := ⟨some 24, .move (.tmp 0), 26, "merkle.go:41", #[⟨2, .guard⟩], some (2, true)⟩) (v := ?_) (Or.inl ⟨by rfl, ?_⟩) ?_
    rotate_left 1
    ·(intro u hSw; go_simp; try with_reducible rfl)
    try simp only [Act.put, sA, sB, sC]
    refine tk (i := 4) (oi := ⟨some 25, .move (.tmp 3), 3, "merkle.go:41", #[⟨2, .guard⟩], some (2, true)⟩) (v := ?_) (Or.inl ⟨by rfl, ?_⟩) ?_
    rotate_left 1
    ·(intro u hSw; go_simp; try with_reducible rfl)
    try simp only [Act.put, sA, sB, sC]
    refine tk (i := 5) (oi := ⟨some 26, .binOp BinOp.sub 3 (.tmp 25) (.const (Value.int IntKind.i64 1)) 3, 3, "merkle.go:41", #[⟨4, .data⟩, ⟨2, .guard⟩], some (2, true)⟩) (v := .int .i64 (i : Int)) (Or.inl ⟨by rfl, ?_⟩) ?_
    ·intro u hSw
     go_simp; first | done | exact IntWalk.i64_in _ (by omega) | (rw [IntWalk.i64_in _ (by omega)]; omega)
    try simp only [Act.put, sA, sB, sC]
    refine tk (i := 6) (oi := ⟨some 27, .indexAddr 26 (.tmp 24) (.tmp 26), 0, "merkle.go:41", #[⟨3, .data⟩, ⟨5, .data⟩, ⟨2, .guard⟩], some (2, true)⟩) (v := ?_) (Or.inl ⟨by rfl, ?_⟩) ?_
    rotate_left 1
    ·(intro u hSw; go_simp; try with_reducible rfl)
    try simp only [Act.put, sA, sB, sC]
    refine tk (i := 7) (oi := ⟨some 28, .fieldAddr 33 (.tmp 27) 0, 0, "merkle.go:41", #[⟨6, .data⟩, ⟨2, .guard⟩], some (2, true)⟩) (v := ?_) (Or.inl ⟨by rfl, ?_⟩) ?_
    rotate_left 1
    ·(intro u hSw; go_simp; try with_reducible rfl)
    try simp only [Act.put, sA, sB, sC]
    refine tk (i := 8) (oi := ⟨some 29, .load 31 (.tmp 28), 31, "merkle.go:41", #[⟨7, .data⟩, ⟨2, .guard⟩], some (2, true)⟩) (v := ?_) (Or.inl ⟨by rfl, ?_⟩) ?_
    rotate_left 1
    ·(intro u hSw; have y0 := HCC.out _ hSw.1; have y1 := hSw.2; go_simp; try with_reducible rfl)
    try simp only [Act.put, sA, sB, sC]
    refine tk (i := 9) (oi := ⟨some 30, .fieldAddr 33 (.tmp 4) 0, 0, "merkle.go:41", #[⟨2, .guard⟩], some (2, true)⟩) (v := ?_) (Or.inl ⟨by rfl, ?_⟩) ?_
    rotate_left 1
    ·(intro u hSw; go_simp; try with_reducible rfl)
    try simp only [Act.put, sA, sB, sC]
    refine tk (i := 10) (oi := ⟨some 31, .load 31 (.tmp 30), 31, "merkle.go:41", #[⟨9, .data⟩, ⟨2, .guard⟩], some (2, true)⟩) (v := ?_) (Or.inl ⟨by rfl, ?_⟩) ?_
    rotate_left 1
    ·(intro u hSw; have y0 := HCC.out _ hSw.1; have y1 := hSw.2; go_simp; try with_reducible rfl)
    try simp only [Act.put, sA, sB, sC]
    refine wpAnyH_ready (rs := [11]) (by kernel_rfl) (by simp) ?_
    refine (AllReadyH.cons (o := ⟨some 32, .call ⟨.value (.func 56), #[.tmp 29, .tmp 31], #[31, 31]⟩, 3, "merkle.go:41", #[⟨8, .data⟩, ⟨10, .data⟩, ⟨2, .chain⟩, ⟨2, .guard⟩], some (2, true)⟩) rfl (fun K hK => ?_) AllReadyH.nil)
    try (generalize World.drew wq = ud at *)
    go_simp
    refine (HCM.out _ hb).mono ?_
    rintro e w9 ⟨rfl, rfl⟩
    go_wp2_with fail
    refine hK.out _ _ hS (fun hHeld => ?_)
    clear hK K
    try simp only [Act.put, sA, sB, sC]
    refine tk (i := 12) (oi := ⟨some 33, .binOp BinOp.geq 3 (.tmp 32) (.const (Value.int IntKind.i64 0)) 3, 4, "merkle.go:41", #[⟨11, .data⟩, ⟨2, .guard⟩], some (2, true)⟩) (v := .bool false) (Or.inl ⟨by rfl, ?_⟩) ?_
    ·(intro u hSw; go_simp; try with_reducible rfl)
    try simp only [Act.put, sA, sB, sC]
    refine tk (i := 13) (oi := ⟨some 34, .pick (.tmp 23) (.tmp 33) (.const (Value.bool false)), 4, "merkle.go:41", #[⟨2, .data⟩, ⟨12, .data⟩], none⟩) (v := ?_) (Or.inl ⟨by rfl, ?_⟩) ?_
    rotate_left 1
    ·(intro u hSw; go_simp; try with_reducible rfl)
    try simp only [Act.put, sA, sB, sC]
    refine wpAnyH_done (by kernel_rfl) ?_ _
    have HB2 := hid hb
    clear hb hX hS
    go_wp2_with fail
    go_roundw
    case rel => exact ⟨i + 2, by go_num, HX.out.2.2.2, HB2.out⟩
    case measure => have := HX.out.2.2.2; simp [intOf]; omega
  ·have hje : j = n := by omega
   subst hje
   have HB := hid hbw
   clear hbw
   go_wp2_with fail
   go_ret
   exact ⟨rfl, HB.out⟩
end Go.Proofs.YtbmlkocpjboodaaDoor
