/- stage 7: Root of the reference -/
import Derived.Test.YtbmlkocpjboodaaDoorMb19
import Derived.Test.YtbmlkocpjboodaaDoorMb21
namespace Go.Proofs.YtbmlkocpjboodaaDoor
open Go.RowKit
open Go.Lib (hid)
/-- a slice of the reference's entries that may be cut again -/
def RfC (w : World) (v : Value) (l : List (List Int × Nat)) : Prop :=
 ∃ a c, v = .slice a l.length c ∧ l.length ≤ c ∧ ∀ (i : Nat) (x : List Int × Nat), l[i]? = some x → ∃ g o, a = some ⟨g, o, none⟩ ∧ g < w.heap.size ∧ w.cell? ⟨g, o + i * 2, none⟩ = some (.string (str x.1)) ∧ w.cell? ⟨g, o + (i * 2 + 1), none⟩ = some (.int .i64 (x.2 : Int))
theorem RfC.rfs {w : World} {v : Value} {l : List (List Int × Nat)} (h : RfC w v l) : RfS w v (l.map toI) := by
 obtain ⟨a, c, rfl, -, h⟩ := h
 refine ⟨a, c, by rw [List.length_map], fun i x hx => ?_⟩
 rw [List.getElem?_map, Option.map_eq_some_iff] at hx
 obtain ⟨y, hy, rfl⟩ := hx
 exact h i y hy
theorem RfC.below {w w' : World} {v : Value} {l : List (List Int × Nat)} (h : RfC w v l) (hb : Below w.heap.size w w') : RfC w' v l := by
 obtain ⟨a, c, e, hc, h⟩ := h
 refine ⟨a, c, e, hc, fun i x hx => ?_⟩
 obtain ⟨g, o, rfl, hg, h0, h1⟩ := h i x hx
 exact ⟨g, o, rfl, Nat.lt_of_lt_of_le hg hb.size, (World.cell?_of_block (a := ⟨g, o + i * 2, none⟩) (hb.block g hg)).trans h0, (World.cell?_of_block (a := ⟨g, o + (i * 2 + 1), none⟩) (hb.block g hg)).trans h1⟩
theorem undLE : Tryd.prog.underlying 22 = some (.slice (Tryd.prog.elem 22)) := by kernel_rfl
theorem sizeLE (u : World) : (sizeOf (Tryd.prog.elem 22)).run Tryd.prog u = .ok 2 u := by kernel_rfl
theorem run_upto (u : World) (a : Option Addr) (n c i : Nat) (hi : i ≤ n) (hc : n ≤ c) : (Instr.sliceAt 22 (.slice a n c) none (some (.int .i64 (i : Int))) none).run Tryd.prog u = .ok (.slice a i c) u := by
 rw [run_sliceAt_slice u 22 _ _ _ _ undLE, run_slice_h u 22 a n c undLE .i64 (i : Int) (by omega) (by omega), sizeLE]
 show Result.ok (sliced a 0 ((i : Int)).toNat c 2) u = _
 unfold sliced
 rw [Int.toNat_natCast, Nat.sub_zero, Nat.sub_zero]
 cases a with
 | none => simp
 | some x => simp [Addr.add]
theorem run_on (u : World) (a : Option Addr) (n c i : Nat) (hi : i ≤ n) : (Instr.sliceAt 22 (.slice a n c) (some (.int .i64 (i : Int))) none none).run Tryd.prog u = .ok (sliced a i n c 2) u := by
 rw [run_sliceAt_slice u 22 _ _ _ _ undLE, run_slice_l u 22 a n c undLE .i64 (i : Int) (by omega) (by omega), sizeLE]
 show Result.ok (sliced a ((i : Int)).toNat n c 2) u = _
 rw [Int.toNat_natCast]
theorem exec_upto {ρ : Operand → Value} {o : Oper} {w : World} (x hi : Operand) (ho : o.op = .slice 22 x none (some hi) none) (v vh : Value) (hx : ρ x = v) (hh : ρ hi = vh) (r : Value) (h : (Instr.sliceAt 22 v none (some vh) none).run Tryd.prog w = .ok r w) : (execOp ρ o).run Tryd.prog w = .ok (.value r) w := by
 unfold execOp
 rw [ho]
 simp only [hx, hh, Option.map_some, Option.map_none, Sem.run_bind, h, Result.andThen_ok, Sem.run_pure]
theorem exec_on {ρ : Operand → Value} {o : Oper} {w : World} (x lo : Operand) (ho : o.op = .slice 22 x (some lo) none none) (v vl : Value) (hx : ρ x = v) (hl : ρ lo = vl) (r : Value) (h : (Instr.sliceAt 22 v (some vl) none none).run Tryd.prog w = .ok r w) : (execOp ρ o).run Tryd.prog w = .ok (.value r) w := by
 unfold execOp
 rw [ho]
 simp only [hx, hl, Option.map_some, Option.map_none, Sem.run_bind, h, Result.andThen_ok, Sem.run_pure]
theorem RfC.take {w : World} {a : Option Addr} {n c : Nat} {l : List (List Int × Nat)} (h : RfC w (.slice a n c) l) (i : Nat) (hi : i ≤ n) : RfC w (.slice a i c) (l.take i) := by
 obtain ⟨a', c', e, hc, h⟩ := h
 injection e with e1 e2 e3
 subst e1 e2 e3
 have hl : (l.take i).length = i := by rw [List.length_take]; omega
 refine ⟨a, c, by rw [hl], by omega, fun j x hx => ?_⟩
 rw [List.getElem?_take] at hx
 split at hx
 ·exact h j x hx
 ·cases hx
theorem RfC.drop {w : World} {a : Option Addr} {n c : Nat} {l : List (List Int × Nat)} (h : RfC w (.slice a n c) l) (i : Nat) (hi : i ≤ n) : ∃ a2, sliced a i n c 2 = .slice a2 (n - i) (c - i) ∧ RfC w (.slice a2 (n - i) (c - i)) (l.drop i) := by
 obtain ⟨a', c', e, hc, h⟩ := h
 injection e with e1 e2 e3
 subst e1 e2 e3
 refine ⟨_, rfl, _, _, by rw [List.length_drop], by rw [List.length_drop]; omega, fun j x hx => ?_⟩
 rw [List.getElem?_drop] at hx
 have hj := (List.getElem?_eq_some_iff.1 hx).1
 obtain ⟨g, o, rfl, hg, h0, h1⟩ := h (i + j) x hx
 rw [if_neg (by omega), Option.map_some, Addr.add_mid]
 exact ⟨g, o + i * 2, rfl, hg, by rw [show o + i * 2 + j * 2 = o + (i + j) * 2 by omega]; exact h0, by rw [show o + i * 2 + (j * 2 + 1) = o + ((i + j) * 2 + 1) by omega]; exact h1⟩
set_option maxRecDepth 100000 in
set_option maxHeartbeats 8000000 in
theorem refRoot_nil (w : World) (v : Value) (hv : RfC w v []) :
  Calls Tryd.prog 16 #[v] w fun d w' => d = .returned (.agg (ArrU8 (rRoot []))) ∧ Below w.heap.size w w' := by
 obtain ⟨a, c, rfl, -, -⟩ := hv
 rw [List.length_nil]
 rw [rRoot_nil]
 go_enter Tryd.func16, Tryd.ntmps16
 go_wp2_with fail
 have b1 : Below w.heap.size w (w.alloc (.cells #[.int .u8 0, .int .u8 0, .int .u8 0, .int .u8 0, .int .u8 0, .int .u8 0, .int .u8 0, .int .u8 0, .int .u8 0, .int .u8 0, .int .u8 0, .int .u8 0, .int .u8 0, .int .u8 0, .int .u8 0, .int .u8 0, .int .u8 0, .int .u8 0, .int .u8 0, .int .u8 0, .int .u8 0, .int .u8 0, .int .u8 0, .int .u8 0, .int .u8 0, .int .u8 0, .int .u8 0, .int .u8 0, .int .u8 0, .int .u8 0, .int .u8 0, .int .u8 0] 35)) := (Below.refl _ _).alloc (Nat.le_refl _) _
 have hX : (w.alloc (.cells #[.int .u8 0, .int .u8 0, .int .u8 0, .int .u8 0, .int .u8 0, .int .u8 0, .int .u8 0, .int .u8 0, .int .u8 0, .int .u8 0, .int .u8 0, .int .u8 0, .int .u8 0, .int .u8 0, .int .u8 0, .int .u8 0, .int .u8 0, .int .u8 0, .int .u8 0, .int .u8 0, .int .u8 0, .int .u8 0, .int .u8 0, .int .u8 0, .int .u8 0, .int .u8 0, .int .u8 0, .int .u8 0, .int .u8 0, .int .u8 0, .int .u8 0, .int .u8 0] 35)).heap[w.heap.size]? = some (.cells #[.int .u8 0, .int .u8 0, .int .u8 0, .int .u8 0, .int .u8 0, .int .u8 0, .int .u8 0, .int .u8 0, .int .u8 0, .int .u8 0, .int .u8 0, .int .u8 0, .int .u8 0, .int .u8 0, .int .u8 0, .int .u8 0, .int .u8 0, .int .u8 0, .int .u8 0, .int .u8 0, .int .u8 0, .int .u8 0, .int .u8 0, .int .u8 0, .int .u8 0, .int .u8 0, .int .u8 0, .int .u8 0, .int .u8 0, .int .u8 0, .int .u8 0, .int .u8 0] 35 (0, 0)) := heap_alloc_new _ _
 generalize w.alloc (.cells #[.int .u8 0, .int .u8 0, .int .u8 0, .int .u8 0, .int .u8 0, .int .u8 0, .int .u8 0, .int .u8 0, .int .u8 0, .int .u8 0, .int .u8 0, .int .u8 0, .int .u8 0, .int .u8 0, .int .u8 0, .int .u8 0, .int .u8 0, .int .u8 0, .int .u8 0, .int .u8 0, .int .u8 0, .int .u8 0, .int .u8 0, .int .u8 0, .int .u8 0, .int .u8 0, .int .u8 0, .int .u8 0, .int .u8 0, .int .u8 0, .int .u8 0, .int .u8 0] 35) = w1 at *
 refine (refEmpty_any w1).mono ?_
 rintro e w2 ⟨v2, rfl, hbs, hb2⟩
 obtain ⟨a2, c2, rfl⟩ : ∃ a c, v2 = .slice a txt0.length c := by obtain ⟨a, c, h, _⟩ := hbs; exact ⟨a, c, h⟩
 have HX := hid (And.intro ((hb2.block _ (blk_lt hX)).trans hX) (b1.trans (hb2.mono b1.size)))
 have HBS := hid hbs
 clear b1 hX hbs hb2
 go_wp2_with fail
 refine (refSum_any _ txt0 w2 HBS.out (by decide)).mono ?_
 rintro e w3 ⟨rfl, hb3⟩
 have HX3 := hid (And.intro ((hb3.block _ (blk_lt HX.out.1)).trans HX.out.1) (HX.out.2.trans (hb3.mono HX.out.2.size)))
 have HI := hid (info_re32 (sha txt0) (sha_len _))
 have HS := hid (sz32 (sha txt0) (sha_len _))
 clear hb3
 go_wp2_with (first | (refine wpList_store_row rfl 35 (Operand.tmp 2) (Operand.tmp 8) rfl w.heap.size (ArrU8 (sha txt0)) rfl rfl 35 _ HX3.out.1 HI.out HS.out.symm (ArrU8_one _) ?_) | fail)
 refine bodyPost_ret (results_cell_row rfl _ _ w.heap.size 35 (ArrU8 (sha txt0)) (0,0) _ rfl (setRow_heap _ _ _ _ _ _ HX3.out.1) Tryd.underlying35 rfl HI.out) rfl ⟨rfl, ?_⟩
 exact below_setRow HX3.out.2 (Nat.le_refl _) _
set_option maxRecDepth 100000 in
set_option maxHeartbeats 8000000 in
theorem refRoot_any : ∀ (m : Nat) (w : World) (v : Value) (es : List (List Int × Nat)), es.length ≤ m → RfC w v es → (∀ x ∈ es, Rng x.1 ∧ x.1.length ≤ 65535 ∧ x.2 < 9223372036854775808) → es.length ≤ 1048576 →
  Calls Tryd.prog 16 #[v] w fun d w' => d = .returned (.agg (ArrU8 (rRoot es))) ∧ Below w.heap.size w w' := by
 intro m
 induction m with
 | zero =>
  intro w v es hm hv _ _
  have he : es = [] := List.eq_nil_of_length_eq_zero (by omega)
  subst he
  exact refRoot_nil w v hv
 | succ m ih =>
  intro w v es hm hv hes hn
  by_cases h0 : es.length = 0
  ·have he : es = [] := List.eq_nil_of_length_eq_zero h0
   subst he
   exact refRoot_nil w v hv
  have hT := topI_lt (l := es) (by omega)
  have hx : es[topI es]? = some (es[topI es]'hT) := List.getElem?_eq_getElem hT
  generalize es[topI es]'hT = x at hx
  have hR := rRoot_at hx
  have hTOP := fun u (hu : Below w.heap.size w u) => refTop_any u v es (hv.below hu).rfs (fun y hy => ⟨(hes y hy).1, (hes y hy).2.1⟩) (by omega) hn
  have gx := hes x (List.mem_of_getElem? hx)
  have hl1 : (es.take (topI es)).length = topI es := by rw [List.length_take]; omega
  obtain ⟨av, cv, rfl, hcv, hall⟩ := id hv
  obtain ⟨g, o, rfl, hgl, hc0, hc1⟩ := hall _ x hx
  obtain ⟨a2, hsl, hvd⟩ := hv.drop (topI es + 1) (by omega)
  have hvt := hv.take (topI es) (by omega)
  have HL1 := hid (fun u (hu : Below w.heap.size w u) => ih u _ (es.take (topI es)) (by rw [List.length_take]; omega) (hvt.below hu) (fun y hy => hes y (List.mem_of_mem_take hy)) (by rw [List.length_take]; omega))
  have HL2 := hid (fun u (hu : Below w.heap.size w u) => ih u _ (es.drop (topI es + 1)) (by rw [List.length_drop]; omega) (hvd.below hu) (fun y hy => hes y (List.mem_of_mem_drop hy)) (by rw [List.length_drop]; omega))
  have HU := hid (fun (u : World) => run_upto u (some ⟨g, o, none⟩) es.length cv (topI es) (by omega) hcv)
  have HO := hid (fun (u : World) => (run_on u (some ⟨g, o, none⟩) es.length cv (topI es + 1) (by omega)).trans (by rw [hsl]))
  have hd1 := rRoot_len (es.take (topI es))
  have hd2 := rRoot_len (es.drop (topI es + 1))
  generalize rRoot (es.take (topI es)) = dl at *
  generalize rRoot (es.drop (topI es + 1)) = dr at *
  have HRL := hid (rRoot_len es)
  generalize rRoot es = R at *
  generalize es.length - (topI es + 1) = n2 at *
  generalize topI es = T at *
  generalize es.length = n at *
  have HR := hid hR
  have HTOP := hid hTOP
  have HGX := hid (And.intro gx (And.intro hd1 hd2))
  have HC := hid (fun u (hu : Below w.heap.size w u) => (show u.cell? ⟨g, o + T * 2, none⟩ = some (.string (str x.1)) ∧ u.cell? ⟨g, o + T * 2 + 1, none⟩ = some (.int .i64 (x.2 : Int)) from ⟨(World.cell?_of_block (a := ⟨g, o + T * 2, none⟩) (hu.block g hgl)).trans hc0, (World.cell?_of_block (a := ⟨g, o + T * 2 + 1, none⟩) (hu.block g hgl)).trans hc1⟩))
  have ht0 : (0 : Int) ≤ (T : Int) := by omega
  have ht1 : (T : Int) < (n : Int) := by omega
  have hn0 : ¬ ((n : Int) = 0) := by omega
  have HN := hid hn
  clear hR hTOP gx hd1 hd2 hc0 hc1 hgl hall hv hvd hvt hsl hx hes hl1 hT h0 hm ih hcv
  go_enter Tryd.func16, Tryd.ntmps16
  go_wp2_with fail
  have b1 : Below w.heap.size w (w.alloc (.cells #[.int .u8 0, .int .u8 0, .int .u8 0, .int .u8 0, .int .u8 0, .int .u8 0, .int .u8 0, .int .u8 0, .int .u8 0, .int .u8 0, .int .u8 0, .int .u8 0, .int .u8 0, .int .u8 0, .int .u8 0, .int .u8 0, .int .u8 0, .int .u8 0, .int .u8 0, .int .u8 0, .int .u8 0, .int .u8 0, .int .u8 0, .int .u8 0, .int .u8 0, .int .u8 0, .int .u8 0, .int .u8 0, .int .u8 0, .int .u8 0, .int .u8 0, .int .u8 0] 35)) := (Below.refl _ _).alloc (Nat.le_refl _) _
  have hX : (w.alloc (.cells #[.int .u8 0, .int .u8 0, .int .u8 0, .int .u8 0, .int .u8 0, .int .u8 0, .int .u8 0, .int .u8 0, .int .u8 0, .int .u8 0, .int .u8 0, .int .u8 0, .int .u8 0, .int .u8 0, .int .u8 0, .int .u8 0, .int .u8 0, .int .u8 0, .int .u8 0, .int .u8 0, .int .u8 0, .int .u8 0, .int .u8 0, .int .u8 0, .int .u8 0, .int .u8 0, .int .u8 0, .int .u8 0, .int .u8 0, .int .u8 0, .int .u8 0, .int .u8 0] 35)).heap[w.heap.size]? = some (.cells #[.int .u8 0, .int .u8 0, .int .u8 0, .int .u8 0, .int .u8 0, .int .u8 0, .int .u8 0, .int .u8 0, .int .u8 0, .int .u8 0, .int .u8 0, .int .u8 0, .int .u8 0, .int .u8 0, .int .u8 0, .int .u8 0, .int .u8 0, .int .u8 0, .int .u8 0, .int .u8 0, .int .u8 0, .int .u8 0, .int .u8 0, .int .u8 0, .int .u8 0, .int .u8 0, .int .u8 0, .int .u8 0, .int .u8 0, .int .u8 0, .int .u8 0, .int .u8 0] 35 (0, 0)) := heap_alloc_new _ _
  generalize w.alloc (.cells #[.int .u8 0, .int .u8 0, .int .u8 0, .int .u8 0, .int .u8 0, .int .u8 0, .int .u8 0, .int .u8 0, .int .u8 0, .int .u8 0, .int .u8 0, .int .u8 0, .int .u8 0, .int .u8 0, .int .u8 0, .int .u8 0, .int .u8 0, .int .u8 0, .int .u8 0, .int .u8 0, .int .u8 0, .int .u8 0, .int .u8 0, .int .u8 0, .int .u8 0, .int .u8 0, .int .u8 0, .int .u8 0, .int .u8 0, .int .u8 0, .int .u8 0, .int .u8 0] 35) = w1 at *
  refine (HTOP.out w1 b1).mono ?_
  rintro e w2 ⟨rfl, hb2⟩
  have hX := (hb2.block _ (blk_lt hX)).trans hX
  have hb2 := b1.trans (hb2.mono b1.size)
  have HX := hid hX
  have HB := hid hb2
  clear b1 hX hb2
  have hn := HN.out
  go_wp2_with fail
  have hb : Below w.heap.size w w2.drew := HB.out.drew
  have hX : w2.drew.heap[w.heap.size]? = some (.cells #[.int .u8 0, .int .u8 0, .int .u8 0, .int .u8 0, .int .u8 0, .int .u8 0, .int .u8 0, .int .u8 0, .int .u8 0, .int .u8 0, .int .u8 0, .int .u8 0, .int .u8 0, .int .u8 0, .int .u8 0, .int .u8 0, .int .u8 0, .int .u8 0, .int .u8 0, .int .u8 0, .int .u8 0, .int .u8 0, .int .u8 0, .int .u8 0, .int .u8 0, .int .u8 0, .int .u8 0, .int .u8 0, .int .u8 0, .int .u8 0, .int .u8 0, .int .u8 0] 35 (0, 0)) := HX.out
  clear hn
  refine wp_region_held_drew (S := fun u => Below w.heap.size w u) (by kernel_rfl) (hb) (fun hHeld => ?_)
  refine tk (i := 0) (oi := ⟨some 11, .move (.tmp 0), 22, "ref.go:65", #[], none⟩) (v := ?_) (Or.inl ⟨by rfl, ?_⟩) ?_
  rotate_left 1
  ·(intro u hSw; go_simp; try with_reducible rfl)
  try simp only [Act.put, sA, sB, sC]
  refine tk (i := 1) (oi := ⟨some 12, .move (.tmp 3), 3, "ref.go:65", #[], none⟩) (v := ?_) (Or.inl ⟨by rfl, ?_⟩) ?_
  rotate_left 1
  ·(intro u hSw; go_simp; try with_reducible rfl)
  try simp only [Act.put, sA, sB, sC]
  refine tk (i := 2) (oi := ⟨some 13, .slice 22 (.tmp 11) none (some (.tmp 12)) none, 22, "ref.go:65", #[⟨0, .data⟩, ⟨1, .data⟩], none⟩) (v := .slice (some ⟨g, o, none⟩) T cv) (Or.inl ⟨by rfl, ?_⟩) ?_
  ·intro u hSw
   exact exec_upto (Operand.tmp 11) (Operand.tmp 12) rfl _ _ rfl rfl _ (HU.out u)
  try simp only [Act.put, sA, sB, sC]
  refine tk (i := 4) (oi := ⟨some 15, .move (.tmp 0), 22, "ref.go:65", #[], none⟩) (v := ?_) (Or.inl ⟨by rfl, ?_⟩) ?_
  rotate_left 1
  ·(intro u hSw; go_simp; try with_reducible rfl)
  try simp only [Act.put, sA, sB, sC]
  refine tk (i := 5) (oi := ⟨some 16, .move (.tmp 3), 3, "ref.go:65", #[], none⟩) (v := ?_) (Or.inl ⟨by rfl, ?_⟩) ?_
  rotate_left 1
  ·(intro u hSw; go_simp; try with_reducible rfl)
  try simp only [Act.put, sA, sB, sC]
  refine tk (i := 6) (oi := ⟨some 17, .indexAddr 22 (.tmp 15) (.tmp 16), 0, "ref.go:65", #[⟨4, .data⟩, ⟨5, .data⟩], none⟩) (v := ?_) (Or.inl ⟨by rfl, ?_⟩) ?_
  rotate_left 1
  ·(intro u hSw; go_simp; try with_reducible rfl)
  try simp only [Act.put, sA, sB, sC]
  refine tk (i := 7) (oi := ⟨some 18, .fieldAddr 45 (.tmp 17) 0, 0, "ref.go:65", #[⟨6, .data⟩], none⟩) (v := ?_) (Or.inl ⟨by rfl, ?_⟩) ?_
  rotate_left 1
  ·(intro u hSw; go_simp; try with_reducible rfl)
  try simp only [Act.put, sA, sB, sC]
  refine tk (i := 8) (oi := ⟨some 19, .load 9 (.tmp 18), 9, "ref.go:65", #[⟨7, .data⟩], none⟩) (v := ?_) (Or.inl ⟨by rfl, ?_⟩) ?_
  rotate_left 1
  ·(intro u hSw; have y0 := (HC.out _ hSw).1; have y1 := (HC.out _ hSw).2; go_simp; try with_reducible rfl)
  try simp only [Act.put, sA, sB, sC]
  refine tk (i := 9) (oi := ⟨some 20, .move (.tmp 0), 22, "ref.go:65", #[], none⟩) (v := ?_) (Or.inl ⟨by rfl, ?_⟩) ?_
  rotate_left 1
  ·(intro u hSw; go_simp; try with_reducible rfl)
  try simp only [Act.put, sA, sB, sC]
  refine tk (i := 10) (oi := ⟨some 21, .move (.tmp 3), 3, "ref.go:65", #[], none⟩) (v := ?_) (Or.inl ⟨by rfl, ?_⟩) ?_
  rotate_left 1
  ·(intro u hSw; go_simp; try with_reducible rfl)
  try simp only [Act.put, sA, sB, sC]
  refine tk (i := 11) (oi := ⟨some 22, .indexAddr 22 (.tmp 20) (.tmp 21), 0, "ref.go:65", #[⟨9, .data⟩, ⟨10, .data⟩], none⟩) (v := ?_) (Or.inl ⟨by rfl, ?_⟩) ?_
  rotate_left 1
  ·(intro u hSw; go_simp; try with_reducible rfl)
  try simp only [Act.put, sA, sB, sC]
  refine tk (i := 12) (oi := ⟨some 23, .fieldAddr 45 (.tmp 22) 1, 0, "ref.go:65", #[⟨11, .data⟩], none⟩) (v := ?_) (Or.inl ⟨by rfl, ?_⟩) ?_
  rotate_left 1
  ·(intro u hSw; go_simp; try with_reducible rfl)
  try simp only [Act.put, sA, sB, sC]
  refine tk (i := 13) (oi := ⟨some 24, .load 2 (.tmp 23), 2, "ref.go:65", #[⟨12, .data⟩], none⟩) (v := ?_) (Or.inl ⟨by rfl, ?_⟩) ?_
  rotate_left 1
  ·(intro u hSw; have y0 := (HC.out _ hSw).1; have y1 := (HC.out _ hSw).2; go_simp; try with_reducible rfl)
  try simp only [Act.put, sA, sB, sC]
  refine tk (i := 14) (oi := ⟨some 25, .move (.tmp 0), 22, "ref.go:65", #[], none⟩) (v := ?_) (Or.inl ⟨by rfl, ?_⟩) ?_
  rotate_left 1
  ·(intro u hSw; go_simp; try with_reducible rfl)
  try simp only [Act.put, sA, sB, sC]
  refine tk (i := 15) (oi := ⟨some 26, .move (.tmp 3), 3, "ref.go:65", #[], none⟩) (v := ?_) (Or.inl ⟨by rfl, ?_⟩) ?_
  rotate_left 1
  ·(intro u hSw; go_simp; try with_reducible rfl)
  try simp only [Act.put, sA, sB, sC]
  refine tk (i := 16) (oi := ⟨some 27, .binOp BinOp.add 3 (.tmp 26) (.const (Value.int IntKind.i64 1)) 3, 3, "ref.go:65", #[⟨15, .data⟩], none⟩) (v := .int .i64 ((T + 1 : Nat) : Int)) (Or.inl ⟨by rfl, ?_⟩) ?_
  ·intro u hSw
   have hn := HN.out; go_simp; exact IntWalk.i64_in _ (by omega)
  try simp only [Act.put, sA, sB, sC]
  refine tk (i := 17) (oi := ⟨some 28, .slice 22 (.tmp 25) (some (.tmp 27)) none none, 22, "ref.go:65", #[⟨14, .data⟩, ⟨16, .data⟩], none⟩) (v := .slice a2 n2 (cv - (T + 1))) (Or.inl ⟨by rfl, ?_⟩) ?_
  ·intro u hSw
   exact exec_on (Operand.tmp 25) (Operand.tmp 27) rfl _ _ rfl rfl _ (HO.out u)
  try simp only [Act.put, sA, sB, sC]
  refine wpAnyH_ready (rs := [3]) (by kernel_rfl) (by simp) ?_
  refine (AllReadyH.cons (o := ⟨some 14, .call ⟨.value (.func 16), #[.tmp 13], #[22]⟩, 35, "ref.go:65", #[⟨2, .data⟩], none⟩) rfl (fun K hK => ?_) AllReadyH.nil)
  try (generalize World.drew w2 = ud at *)
  go_simp
  refine (HL1.out _ hb).mono ?_
  rintro e cu ⟨rfl, hb4⟩
  have hX := (hb4.block _ (blk_lt hX)).trans hX
  have hb := hb.trans (hb4.mono hb.size)
  clear hb4
  go_wp2_with fail
  refine hK.out _ _ hb (fun hHeld => ?_)
  clear hK K
  try simp only [Act.put, sA, sB, sC]
  refine wpAnyH_ready (rs := [18]) (by kernel_rfl) (by simp) ?_
  refine (AllReadyH.cons (o := ⟨some 29, .call ⟨.value (.func 16), #[.tmp 28], #[22]⟩, 35, "ref.go:65", #[⟨17, .data⟩, ⟨3, .chain⟩], none⟩) rfl (fun K hK => ?_) AllReadyH.nil)
  try (generalize World.drew w2 = ud at *)
  go_simp
  refine (HL2.out _ hb).mono ?_
  rintro e cu ⟨rfl, hb4⟩
  have hX := (hb4.block _ (blk_lt hX)).trans hX
  have hb := hb.trans (hb4.mono hb.size)
  clear hb4
  go_wp2_with fail
  refine hK.out _ _ hb (fun hHeld => ?_)
  clear hK K
  try simp only [Act.put, sA, sB, sC]
  refine wpAnyH_ready (rs := [19]) (by kernel_rfl) (by simp) ?_
  refine (AllReadyH.cons (o := ⟨some 30, .call ⟨.value (.func 37), #[.tmp 14, .tmp 19, .tmp 24, .tmp 29], #[35, 9, 2, 35]⟩, 31, "ref.go:65", #[⟨3, .data⟩, ⟨8, .data⟩, ⟨13, .data⟩, ⟨18, .data⟩, ⟨18, .chain⟩], none⟩) rfl (fun K hK => ?_) AllReadyH.nil)
  go_simp
  refine (refText_any _ dl dr x.1 x.2 HGX.out.2.1 HGX.out.2.2 HGX.out.1.1 HGX.out.1.2.1 HGX.out.1.2.2).mono ?_
  rintro e cu ⟨v30, rfl, hbs, hb4⟩
  have HBS := hid hbs
  obtain ⟨a30, c30, rfl⟩ : ∃ a c, v30 = .slice a (txtN x.1 x.2 dl dr).length c := by obtain ⟨a, c, h, _⟩ := hbs; exact ⟨a, c, h⟩
  have hX := (hb4.block _ (blk_lt hX)).trans hX
  have hb := hb.trans (hb4.mono hb.size)
  clear hb4 hbs
  go_wp2_with fail
  refine hK.out _ _ hb (fun hHeld => ?_)
  clear hK K
  try simp only [Act.put, sA, sB, sC]
  refine wpAnyH_ready (rs := [20]) (by kernel_rfl) (by simp) ?_
  refine (AllReadyH.cons (o := ⟨some 31, .call ⟨.value (.func 26), #[.tmp 30], #[31]⟩, 35, "ref.go:65", #[⟨19, .data⟩, ⟨19, .chain⟩], none⟩) rfl (fun K hK => ?_) AllReadyH.nil)
  go_simp
  refine (refSum_any _ _ _ HBS.out (by have e1 := HGX.out.2.1; have e2 := HGX.out.2.2; have e3 := HGX.out.1.2.1; unfold txtN; rw [joined_len]; simp only [jlen, List.length_cons, List.length_nil, be8_len, e1, e2]; omega)).mono ?_
  rw [← HR.out]
  rintro e cu ⟨rfl, hb4⟩
  have hX := (hb4.block _ (blk_lt hX)).trans hX
  have hb := hb.trans (hb4.mono hb.size)
  clear hb4
  go_wp2_with fail
  refine hK.out _ _ hb (fun hHeld => ?_)
  clear hK K
  try simp only [Act.put, sA, sB, sC]
  refine wpAnyH_ready (rs := [21]) (by kernel_rfl) (by simp) ?_
  refine (AllReadyH.cons (o := ⟨none, .store 35 (.tmp 2) (.tmp 31), 0, "ref.go:65", #[⟨20, .data⟩, ⟨20, .chain⟩, ⟨0, .phase⟩, ⟨1, .phase⟩, ⟨2, .phase⟩, ⟨3, .phase⟩, ⟨4, .phase⟩, ⟨5, .phase⟩, ⟨6, .phase⟩, ⟨7, .phase⟩, ⟨8, .phase⟩, ⟨9, .phase⟩, ⟨10, .phase⟩, ⟨11, .phase⟩, ⟨12, .phase⟩, ⟨13, .phase⟩, ⟨14, .phase⟩, ⟨15, .phase⟩, ⟨16, .phase⟩, ⟨17, .phase⟩, ⟨18, .phase⟩, ⟨19, .phase⟩, ⟨20, .phase⟩], none⟩) rfl (fun K hK => ?_) AllReadyH.nil)
  rw [if_pos (by rfl)]
  refine wp_store_row 35 (Operand.tmp 2) (Operand.tmp 31) rfl _ (ArrU8 R) rfl rfl 35 _ hX (info_re32 R HRL.out) (by rw [sz32 R HRL.out]; rfl) (ArrU8_one _) ?_
  have hX := setRow_heap _ _ _ (ArrU8 R) _ _ hX
  have hb := below_setRow hb (Nat.le_refl _) (ArrU8 R)
  generalize World.setRow _ _ _ = nu at *
  refine hK.out _ _ hb (fun hHeld => ?_)
  clear hK K
  try simp only [Act.put]
  refine wpAnyH_done (by kernel_rfl) ?_ _
  have HE := hid (And.intro hX hb)
  clear hX hb hHeld
  go_wp2_with fail
  refine bodyPost_ret (results_cell_row rfl _ _ w.heap.size 35 (ArrU8 R) (0,0) _ rfl HE.out.1 Tryd.underlying35 rfl (info_re32 R HRL.out)) rfl ⟨rfl, HE.out.2⟩
end Go.Proofs.YtbmlkocpjboodaaDoor
/- stage 7: valid of a rising list -/
namespace Go.Proofs.YtbmlkocpjboodaaDoor
open Go.RowKit
open Go.Lib (hid)
end Go.Proofs.YtbmlkocpjboodaaDoor
/- stage 7: the law's list -/
namespace Go.Proofs.YtbmlkocpjboodaaDoor
open Go.RowKit
open Go.Lib (hid)
theorem EnR.lt {w : World} {B : Nat} {K : Nat → Prop} {v : Value} {es : List (List Int × Nat)} (h : EnR w B K v es) : ∀ g, v.ownBlock = some g → B ≤ g ∧ g < w.heap.size ∧ ¬ K g := by
 obtain ⟨xs, e1, e2, e3, e4⟩ := h
 exact fun g hg => ⟨(World.ownsRow.lt e2 g hg).1, (World.ownsRow.lt e2 g hg).2, e3 g hg⟩
theorem EnR.slc {w : World} {B : Nat} {K : Nat → Prop} {v : Value} {es : List (List Int × Nat)} (h : EnR w B K v es) : ∃ a c, v = .slice a es.length c := by
 obtain ⟨xs, e1, e2, e3, e4⟩ := h
 exact ownsRow_slc e2
/-- a new key beside the list -/
theorem EnR.key {w w1 : World} {B : Nat} {K : Nat → Prop} {v kv : Value} {k : List Int} {es : List (List Int × Nat)} (h : EnR w B K v es) (hb : Below w.heap.size w w1) (hk : KIs w1 (fun q => w.heap.size ≤ q) kv k) (hB : B ≤ w.heap.size) (hK : ∀ q, K q → B ≤ q ∧ q < w.heap.size) : ∃ K2 : Nat → Prop, EnR w1 B K2 v es ∧ KIs w1 K2 kv k ∧ ∀ q, K2 q → B ≤ q ∧ q < w1.heap.size := by
 have hs := hb.size
 refine ⟨fun q => K q ∨ (w.heap.size ≤ q ∧ q < w1.heap.size), (h.keep hb).mono (fun q h => .inl h) (fun g hg hc => ?_), hk.bound.mono (fun q h => .inr h), fun q hq => ?_⟩
 ·have := h.lt g hg
  rcases hc with hc | hc
  ·exact this.2.2 hc
  ·omega
 ·rcases hq with hq | hq
  ·have := hK q hq; omega
  ·omega
theorem step_append_me {ops : Array Oper} {o : Oper} {a : Act} {w : World} {K : Act → World → Prop} {Q : Exit → Act → World → Prop} {E : Prop}
  (hg : o.guard = none) (s x : Operand) (hop : o.op = Op.call { callee := Callee.builtin Builtin.append, args := #[s, x], argTypes := #[26, 26] })
  (v v2 : Value) (hs : a.eval s = v) (hx : a.eval x = v2) {v' : Value} {w' : World} (h1 : (Builtin.append_ #[26, 26] o.type #[v, v2]).run Tryd.prog w = .ok v' w') (hK : K (a.put o.dst v') w') :
  if Region.wanted o (yielded ops a.tmps) = true then Oper.wp Tryd.prog o a w K Q else E := by
 have hw : Region.wanted o (yielded ops a.tmps) = true := by simp [Region.wanted, hg]
 rw [if_pos hw]
 unfold Oper.wp
 simp [execOp, hop, resolve, invoke, builtin, hs, hx, h1, Result.andThen]
 exact hK
end Go.Proofs.YtbmlkocpjboodaaDoor
/- stage 7: the tree made anew is the tree that was set; Set beside any other memory -/
namespace Go.Proofs.YtbmlkocpjboodaaDoor
open Go.RowKit
open Go.Lib (hid)
theorem rkE_rkOf (l : List (List Int × Nat)) : (l.map rkOf).map rkE = l := by
 rw [List.map_map]
 conv => rhs; rw [← List.map_id l]
 exact List.map_congr_left (fun x _ => rfl)
end Go.Proofs.YtbmlkocpjboodaaDoor
/- stage 7: Misses of the reference -/
namespace Go.Proofs.YtbmlkocpjboodaaDoor
open Go.RowKit
open Go.Lib (hid)
/-- does what lies between two keys miss a range? -/
def missQ (lo hi : List Int) (low up : Bool) (fr to : List Int) (e : Bool) : Bool := (e && decide (cmpI to fr ≤ 0)) || (up && decide (cmpI hi fr ≤ 0)) || (low && e && decide (0 ≤ cmpI lo to))
theorem cmp_three {a b : List Int} (ha : Rng a) (hb : Rng b) : (Op.bytesLess (str a).toList (str b).toList = true ∧ cmpI a b ≤ 0) ∨ (Op.bytesLess (str a).toList (str b).toList = false ∧ ((str a).toList == (str b).toList) = true ∧ cmpI a b ≤ 0) ∨ (Op.bytesLess (str a).toList (str b).toList = false ∧ ((str a).toList == (str b).toList) = false ∧ ¬ cmpI a b ≤ 0) := by
 rw [bl ha hb, str_beq ha hb]
 have hf := cmp_flip a b
 rcases cmp_tri a b with h | h | h
 ·exact .inl ⟨decide_eq_true h, by omega⟩
 ·subst h
  have hz : cmpI a a = 0 := (cmpI_zero _ _).2 rfl
  exact .inr (.inl ⟨decide_eq_false (by omega), decide_eq_true rfl, by omega⟩)
 ·refine .inr (.inr ⟨decide_eq_false (by omega), decide_eq_false (fun e => ?_), by omega⟩)
  subst e
  exact cmp_irr _ h
set_option maxRecDepth 100000 in
set_option maxHeartbeats 8000000 in
theorem refMisses_any (w : World) (lo hi fr to : List Int) (low up e : Bool) (g1 : Rng lo) (g2 : Rng hi) (g3 : Rng fr) (g4 : Rng to) :
  Calls Tryd.prog 38 #[.string (str lo), .string (str hi), .bool low, .bool up, .string (str fr), .string (str to), .bool e] w fun d w' => d = .returned (.bool (missQ lo hi low up fr to e)) ∧ w' = w := by
 rcases Bool.eq_false_or_eq_true e with he | he
 ·rcases cmp_three g4 g3 with ⟨l1, c1⟩ | ⟨l1, m1, c1⟩ | ⟨l1, m1, c1⟩
  ·rcases Bool.eq_false_or_eq_true up with hup | hup <;> rcases Bool.eq_false_or_eq_true low with hlow | hlow
   all_goals
    have HA := hid (show missQ lo hi low up fr to e = true from by subst low up e; unfold missQ; simp [c1])
    rw [HA.out]
    subst low up e
    clear HA c1
    go_enter Tryd.func38, Tryd.ntmps38
    go_wp2_with fail
    go_ret
    exact ⟨rfl, rfl⟩
  ·rcases Bool.eq_false_or_eq_true up with hup | hup <;> rcases Bool.eq_false_or_eq_true low with hlow | hlow
   all_goals
    have HA := hid (show missQ lo hi low up fr to e = true from by subst low up e; unfold missQ; simp [c1])
    rw [HA.out]
    subst low up e
    clear HA c1
    go_enter Tryd.func38, Tryd.ntmps38
    go_wp2_with fail
    go_ret
    exact ⟨rfl, rfl⟩
  ·rcases Bool.eq_false_or_eq_true up with hup | hup
   ·rcases cmp_three g2 g3 with ⟨l2, c2⟩ | ⟨l2, m2, c2⟩ | ⟨l2, m2, c2⟩
    ·rcases Bool.eq_false_or_eq_true low with hlow | hlow
     ·have HA := hid (show missQ lo hi low up fr to e = true from by subst low up e; unfold missQ; simp [c1, c2])
      rw [HA.out]
      subst low up e
      clear HA c1 c2
      go_enter Tryd.func38, Tryd.ntmps38
      go_wp2_with fail
      go_ret
      exact ⟨rfl, rfl⟩
     ·have HA := hid (show missQ lo hi low up fr to e = true from by subst low up e; unfold missQ; simp [c1, c2])
      rw [HA.out]
      subst low up e
      clear HA c1 c2
      go_enter Tryd.func38, Tryd.ntmps38
      go_wp2_with fail
      go_ret
      exact ⟨rfl, rfl⟩
    ·rcases Bool.eq_false_or_eq_true low with hlow | hlow
     ·have HA := hid (show missQ lo hi low up fr to e = true from by subst low up e; unfold missQ; simp [c1, c2])
      rw [HA.out]
      subst low up e
      clear HA c1 c2
      go_enter Tryd.func38, Tryd.ntmps38
      go_wp2_with fail
      go_ret
      exact ⟨rfl, rfl⟩
     ·have HA := hid (show missQ lo hi low up fr to e = true from by subst low up e; unfold missQ; simp [c1, c2])
      rw [HA.out]
      subst low up e
      clear HA c1 c2
      go_enter Tryd.func38, Tryd.ntmps38
      go_wp2_with fail
      go_ret
      exact ⟨rfl, rfl⟩
    ·rcases Bool.eq_false_or_eq_true low with hlow | hlow
     ·have l3 := bl g1 g4
      by_cases c3 : cmpI lo to < 0
      ·rw [decide_eq_true c3] at l3
       have d3 : ¬ 0 ≤ cmpI lo to := by omega
       clear c3
       have HA := hid (show missQ lo hi low up fr to e = false from by subst low up e; unfold missQ; simp [c1, c2, d3])
       rw [HA.out]
       subst low up e
       clear HA c1 c2 d3
       go_enter Tryd.func38, Tryd.ntmps38
       go_wp2_with fail
       go_ret
       exact ⟨rfl, rfl⟩
      ·rw [decide_eq_false c3] at l3
       have d3 : 0 ≤ cmpI lo to := by omega
       clear c3
       have HA := hid (show missQ lo hi low up fr to e = true from by subst low up e; unfold missQ; simp [c1, c2, d3])
       rw [HA.out]
       subst low up e
       clear HA c1 c2 d3
       go_enter Tryd.func38, Tryd.ntmps38
       go_wp2_with fail
       go_ret
       exact ⟨rfl, rfl⟩
     ·have HA := hid (show missQ lo hi low up fr to e = false from by subst low up e; unfold missQ; simp [c1, c2])
      rw [HA.out]
      subst low up e
      clear HA c1 c2
      go_enter Tryd.func38, Tryd.ntmps38
      go_wp2_with fail
      go_ret
      exact ⟨rfl, rfl⟩
   ·rcases Bool.eq_false_or_eq_true low with hlow | hlow
    ·have l3 := bl g1 g4
     by_cases c3 : cmpI lo to < 0
     ·rw [decide_eq_true c3] at l3
      have d3 : ¬ 0 ≤ cmpI lo to := by omega
      clear c3
      have HA := hid (show missQ lo hi low up fr to e = false from by subst low up e; unfold missQ; simp [c1, d3])
      rw [HA.out]
      subst low up e
      clear HA c1 d3
      go_enter Tryd.func38, Tryd.ntmps38
      go_wp2_with fail
      go_ret
      exact ⟨rfl, rfl⟩
     ·rw [decide_eq_false c3] at l3
      have d3 : 0 ≤ cmpI lo to := by omega
      clear c3
      have HA := hid (show missQ lo hi low up fr to e = true from by subst low up e; unfold missQ; simp [c1, d3])
      rw [HA.out]
      subst low up e
      clear HA c1 d3
      go_enter Tryd.func38, Tryd.ntmps38
      go_wp2_with fail
      go_ret
      exact ⟨rfl, rfl⟩
    ·have HA := hid (show missQ lo hi low up fr to e = false from by subst low up e; unfold missQ; simp [c1])
     rw [HA.out]
     subst low up e
     clear HA c1
     go_enter Tryd.func38, Tryd.ntmps38
     go_wp2_with fail
     go_ret
     exact ⟨rfl, rfl⟩
 ·rcases Bool.eq_false_or_eq_true up with hup | hup
  ·rcases cmp_three g2 g3 with ⟨l2, c2⟩ | ⟨l2, m2, c2⟩ | ⟨l2, m2, c2⟩
   ·rcases Bool.eq_false_or_eq_true low with hlow | hlow
    ·have HA := hid (show missQ lo hi low up fr to e = true from by subst low up e; unfold missQ; simp [c2])
     rw [HA.out]
     subst low up e
     clear HA c2
     go_enter Tryd.func38, Tryd.ntmps38
     go_wp2_with fail
     go_ret
     exact ⟨rfl, rfl⟩
    ·have HA := hid (show missQ lo hi low up fr to e = true from by subst low up e; unfold missQ; simp [c2])
     rw [HA.out]
     subst low up e
     clear HA c2
     go_enter Tryd.func38, Tryd.ntmps38
     go_wp2_with fail
     go_ret
     exact ⟨rfl, rfl⟩
   ·rcases Bool.eq_false_or_eq_true low with hlow | hlow
    ·have HA := hid (show missQ lo hi low up fr to e = true from by subst low up e; unfold missQ; simp [c2])
     rw [HA.out]
     subst low up e
     clear HA c2
     go_enter Tryd.func38, Tryd.ntmps38
     go_wp2_with fail
     go_ret
     exact ⟨rfl, rfl⟩
    ·have HA := hid (show missQ lo hi low up fr to e = true from by subst low up e; unfold missQ; simp [c2])
     rw [HA.out]
     subst low up e
     clear HA c2
     go_enter Tryd.func38, Tryd.ntmps38
     go_wp2_with fail
     go_ret
     exact ⟨rfl, rfl⟩
   ·rcases Bool.eq_false_or_eq_true low with hlow | hlow
    ·have HA := hid (show missQ lo hi low up fr to e = false from by subst low up e; unfold missQ; simp [c2])
     rw [HA.out]
     subst low up e
     clear HA c2
     go_enter Tryd.func38, Tryd.ntmps38
     go_wp2_with fail
     go_ret
     exact ⟨rfl, rfl⟩
    ·have HA := hid (show missQ lo hi low up fr to e = false from by subst low up e; unfold missQ; simp [c2])
     rw [HA.out]
     subst low up e
     clear HA c2
     go_enter Tryd.func38, Tryd.ntmps38
     go_wp2_with fail
     go_ret
     exact ⟨rfl, rfl⟩
  ·rcases Bool.eq_false_or_eq_true low with hlow | hlow
   ·have HA := hid (show missQ lo hi low up fr to e = false from by subst low up e; unfold missQ; simp [])
    rw [HA.out]
    subst low up e
    clear HA 
    go_enter Tryd.func38, Tryd.ntmps38
    go_wp2_with fail
    go_ret
    exact ⟨rfl, rfl⟩
   ·have HA := hid (show missQ lo hi low up fr to e = false from by subst low up e; unfold missQ; simp [])
    rw [HA.out]
    subst low up e
    clear HA 
    go_enter Tryd.func38, Tryd.ntmps38
    go_wp2_with fail
    go_ret
    exact ⟨rfl, rfl⟩
end Go.Proofs.YtbmlkocpjboodaaDoor
