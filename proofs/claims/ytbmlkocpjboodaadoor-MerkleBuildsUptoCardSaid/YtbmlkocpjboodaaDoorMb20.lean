/- stage 7: the law's in, back; Same of the reference -/
import Derived.Test.YtbmlkocpjboodaaDoorMb19
import Derived.Laws.StructEq
namespace Go.Proofs.YtbmlkocpjboodaaDoor
open Go.RowKit
open Go.Lib (hid)
theorem step_append_re {ops : Array Oper} {o : Oper} {a : Act} {w : World} {K : Act → World → Prop} {Q : Exit → Act → World → Prop} {E : Prop}
  (hg : o.guard = none) (s x : Operand) (hop : o.op = Op.call { callee := Callee.builtin Builtin.append, args := #[s, x], argTypes := #[22, 22] })
  (v v2 : Value) (hs : a.eval s = v) (hx : a.eval x = v2) {v' : Value} {w' : World} (h1 : (Builtin.append_ #[22, 22] o.type #[v, v2]).run Tryd.prog w = .ok v' w') (hK : K (a.put o.dst v') w') :
  if Region.wanted o (yielded ops a.tmps) = true then Oper.wp Tryd.prog o a w K Q else E := by
 have hw : Region.wanted o (yielded ops a.tmps) = true := by simp [Region.wanted, hg]
 rw [if_pos hw]
 unfold Oper.wp
 simp [execOp, hop, resolve, invoke, builtin, hs, hx, h1, Result.andThen]
 exact hK
theorem enL_get : ∀ (l : List (Value × Nat)) (i : Nat) (x : Value × Nat) (j : Nat), l[i]? = some x → j < 2 → (enL l)[i * 2 + j]? = ([x.1, Value.int .i64 (x.2 : Int)] : List Value)[j]?
 | [], i, x, j, h, _ => by simp at h
 | y :: l, 0, x, j, h, hj => by
  injection h with h
  subst h
  show ([y.1, Value.int .i64 (y.2 : Int)] ++ enL l)[0 * 2 + j]? = _
  rw [List.getElem?_append_left (by simp; omega), Nat.zero_mul, Nat.zero_add]
 | y :: l, i + 1, x, j, h, hj => by
  have ih := enL_get l i x j (by simpa using h) hj
  show ([y.1, Value.int .i64 (y.2 : Int)] ++ enL l)[(i + 1) * 2 + j]? = _
  rw [List.getElem?_append_right (by simp; omega)]
  rw [← ih]
  congr 1
  simp only [List.length_cons, List.length_nil]
  omega
/-- a made list of entries is read -/
theorem EnN.ens {w w' : World} {v : Value} {es : List (List Int × Nat)} (h : EnN w w' v es) : EnS w' v es := by
 obtain ⟨K, ⟨xs, h1, h2, h3, h4⟩, hK⟩ := h
 obtain ⟨e1, ⟨rfl, hn⟩ | ⟨g, cap, cur, rfl, q1, q2, q3, q4, q5, q6⟩⟩ := h2
 ·exact ⟨none, 0, by rw [hn], fun i x hx => by have := (List.getElem?_eq_some_iff.1 hx).1; omega⟩
 ·refine ⟨some ⟨g, 0, none⟩, cap, rfl, fun i x hx => ?_⟩
  have hi := (List.getElem?_eq_some_iff.1 hx).1
  have hy : xs[i]? = some (xs[i]'(by omega)) := List.getElem?_eq_getElem (by omega)
  generalize xs[i]'(by omega) = y at hy
  obtain ⟨k1, k2⟩ := h4 i y x hy hx
  have hc : ∀ j, j < 2 → w'.cell? ⟨g, i * 2 + j, none⟩ = ([y.1, Value.int .i64 (y.2 : Int)] : List Value)[j]? := fun j hj => by
   rw [cell_of_row _ _ _ _ _ _ q2, ← Array.getElem?_toList, ← enL_get xs i y j hy hj, ← q6, List.getElem?_take, if_pos (by omega)]
  refine ⟨g, y.1, rfl, blk_lt q2, hc 0 (by omega), ?_, k2.1⟩
  rw [← k1]
  exact hc 1 (by omega)
set_option maxRecDepth 100000 in
set_option maxHeartbeats 8000000 in
theorem back_any (w : World) (v : Value) (es : List (List Int × Nat)) (hv : EnS w v es) (hn : es.length ≤ 1048576) :
  Calls Tryd.prog 18 #[v] w fun d w' => ∃ v', d = .returned v' ∧ RfO w' w.heap.size v' es ∧ Below w.heap.size w w' := by
 have HV := hid hv
 obtain ⟨av, cv, rfl, -⟩ := hv
 go_enter Tryd.func18, Tryd.ntmps18
 go_wp2_with fail
 go_loopw [3, 4] (fun ov iv wr => ∃ (j : Nat), j ≤ es.length ∧ RfO wr w.heap.size ov (es.take j) ∧ iv = .int .i64 (j : Int) ∧ Below w.heap.size w wr) (fun _ iv _ => es.length - (intOf iv).toNat)
 case atStart => exact ⟨0, Nat.zero_le _, ⟨rfl, .inr ⟨w.heap.size, 0, #[], rfl, Nat.le_refl _, heap_alloc_new _ _, Nat.le_refl _, Nat.zero_le _, rfl, rfl⟩⟩, rfl, (Below.refl _ _).alloc (Nat.le_refl _) _⟩
 case round =>
  obtain ⟨j, hj, hro, rfl, hbw⟩ := hrel
  obtain ⟨ao, co, rfl⟩ := hro.slc
  have htl : (es.take j).length = j := by rw [List.length_take]; omega
  rw [htl]
  by_cases hjl : j < es.length
  ·have hx : es[j]? = some (es[j]'hjl) := List.getElem?_eq_getElem hjl
   have hts : es.take (j + 1) = es.take j ++ [es[j]'hjl] := by rw [List.take_add_one, hx]; rfl
   generalize es[j]'hjl = x at hx hts
   obtain ⟨a', c', he, hall⟩ := HV.out
   injection he with e1 e0 e2
   clear e0
   subst e1 e2
   obtain ⟨g, kv, hag, hgl, hc0, hc1, hk⟩ := hall j x hx
   subst hag
   obtain ⟨ak, ck, rfl⟩ := (show ∃ a c, kv = .slice a x.1.length c from by obtain ⟨a, c, e, -⟩ := hk; exact ⟨a, c, e⟩)
   have c0 : wr.cell? ⟨g, j * 2, none⟩ = some (.slice ak x.1.length ck) := (World.cell?_of_block (a := ⟨g, j * 2, none⟩) (hbw.block g hgl)).trans hc0
   have c1 : wr.cell? ⟨g, j * 2 + 1, none⟩ = some (.int .i64 (x.2 : Int)) := (World.cell?_of_block (a := ⟨g, j * 2 + 1, none⟩) (hbw.block g hgl)).trans hc1
   have hj0 : (0 : Int) ≤ (j : Int) := by omega
   have hj1 : (j : Int) < (es.length : Int) := by omega
   have HCV := hid (fun u (hu : Below w.heap.size w u) => conv_bs u ak x.1.length ck x.1 (hk.below hu))
   have HC := hid (fun u (hu : Below w.heap.size w u) => (show u.cell? ⟨g, j * 2, none⟩ = some (.slice ak x.1.length ck) ∧ u.cell? ⟨g, j * 2 + 1, none⟩ = some (.int .i64 (x.2 : Int)) from ⟨(World.cell?_of_block (a := ⟨g, j * 2, none⟩) (hu.block g hgl)).trans hc0, (World.cell?_of_block (a := ⟨g, j * 2 + 1, none⟩) (hu.block g hgl)).trans hc1⟩))
   clear c0 c1
   have hb := hbw.drew
   have HX := hid (And.intro hjl (And.intro hro (And.intro hbw (And.intro hts htl))))
   have HTL := hid htl
   rw [htl] at HX hro
   have HXD := hid (show RfO wr.drew w.heap.size (.slice ao j co) (es.take j) from hro)
   clear hro hbw hx hts hall hc0 hc1 hk hjl hgl hj htl
   go_wp2_with fail
   refine wp_region_held_drew (S := fun u => Below w.heap.size w u) (by kernel_rfl) (hb) (fun hHeld => ?_)
   refine tk (i := 0) (oi := ⟨some 12, .move (.tmp 3), 22, "law.go:38", #[], none⟩) (v := ?_) (Or.inl ⟨by rfl, ?_⟩) ?_
   rotate_left 1
   ·(intro u hSw; go_simp; try with_reducible rfl)
   try simp only [Act.put, sA, sB, sC]
   refine tk (i := 1) (oi := ⟨some 13, .move (.tmp 0), 26, "law.go:38", #[], none⟩) (v := ?_) (Or.inl ⟨by rfl, ?_⟩) ?_
   rotate_left 1
   ·(intro u hSw; go_simp; try with_reducible rfl)
   try simp only [Act.put, sA, sB, sC]
   refine tk (i := 2) (oi := ⟨some 14, .move (.tmp 4), 3, "law.go:38", #[], none⟩) (v := ?_) (Or.inl ⟨by rfl, ?_⟩) ?_
   rotate_left 1
   ·(intro u hSw; go_simp; try with_reducible rfl)
   try simp only [Act.put, sA, sB, sC]
   refine tk (i := 3) (oi := ⟨some 15, .indexAddr 26 (.tmp 13) (.tmp 14), 0, "law.go:38", #[⟨1, .data⟩, ⟨2, .data⟩], none⟩) (v := ?_) (Or.inl ⟨by rfl, ?_⟩) ?_
   rotate_left 1
   ·(intro u hSw; go_simp; try with_reducible rfl)
   try simp only [Act.put, sA, sB, sC]
   refine tk (i := 4) (oi := ⟨some 16, .fieldAddr 33 (.tmp 15) 0, 0, "law.go:38", #[⟨3, .data⟩], none⟩) (v := ?_) (Or.inl ⟨by rfl, ?_⟩) ?_
   rotate_left 1
   ·(intro u hSw; go_simp; try with_reducible rfl)
   try simp only [Act.put, sA, sB, sC]
   refine tk (i := 5) (oi := ⟨some 17, .load 31 (.tmp 16), 31, "law.go:38", #[⟨4, .data⟩], none⟩) (v := ?_) (Or.inl ⟨by rfl, ?_⟩) ?_
   rotate_left 1
   ·(intro u hSw; have y0 := (HC.out _ hSw).1; have y1 := (HC.out _ hSw).2; go_simp; try with_reducible rfl)
   try simp only [Act.put, sA, sB, sC]
   refine tk (i := 6) (oi := ⟨some 18, .convert 31 9 (.tmp 17), 9, "law.go:38", #[⟨5, .data⟩], none⟩) (v := .string (str x.1)) (Or.inl ⟨by rfl, ?_⟩) ?_
   ·intro u hSw
    exact exec_convP 31 9 (Operand.tmp 17) rfl _ rfl _ (HCV.out _ hSw)
   try simp only [Act.put, sA, sB, sC]
   refine tk (i := 7) (oi := ⟨some 19, .move (.tmp 0), 26, "law.go:38", #[], none⟩) (v := ?_) (Or.inl ⟨by rfl, ?_⟩) ?_
   rotate_left 1
   ·(intro u hSw; go_simp; try with_reducible rfl)
   try simp only [Act.put, sA, sB, sC]
   refine tk (i := 8) (oi := ⟨some 20, .move (.tmp 4), 3, "law.go:38", #[], none⟩) (v := ?_) (Or.inl ⟨by rfl, ?_⟩) ?_
   rotate_left 1
   ·(intro u hSw; go_simp; try with_reducible rfl)
   try simp only [Act.put, sA, sB, sC]
   refine tk (i := 9) (oi := ⟨some 21, .indexAddr 26 (.tmp 19) (.tmp 20), 0, "law.go:38", #[⟨7, .data⟩, ⟨8, .data⟩], none⟩) (v := ?_) (Or.inl ⟨by rfl, ?_⟩) ?_
   rotate_left 1
   ·(intro u hSw; go_simp; try with_reducible rfl)
   try simp only [Act.put, sA, sB, sC]
   refine tk (i := 10) (oi := ⟨some 22, .fieldAddr 33 (.tmp 21) 1, 0, "law.go:38", #[⟨9, .data⟩], none⟩) (v := ?_) (Or.inl ⟨by rfl, ?_⟩) ?_
   rotate_left 1
   ·(intro u hSw; go_simp; try with_reducible rfl)
   try simp only [Act.put, sA, sB, sC]
   refine tk (i := 11) (oi := ⟨some 23, .load 2 (.tmp 22), 2, "law.go:38", #[⟨10, .data⟩], none⟩) (v := ?_) (Or.inl ⟨by rfl, ?_⟩) ?_
   rotate_left 1
   ·(intro u hSw; have y0 := (HC.out _ hSw).1; have y1 := (HC.out _ hSw).2; go_simp; try with_reducible rfl)
   try simp only [Act.put, sA, sB, sC]
   refine tk (i := 12) (oi := ⟨some 24, .build 45 #[(0, .tmp 18), (1, .tmp 23)], 45, "law.go:38", #[⟨6, .data⟩, ⟨11, .data⟩], none⟩) (v := ?_) (Or.inl ⟨by rfl, ?_⟩) ?_
   rotate_left 1
   ·(intro u hSw; go_simp; try with_reducible rfl)
   try simp only [Act.put, sA, sB, sC]
   refine wpAnyH_ready (rs := [13]) (by kernel_rfl) (by simp) ?_
   refine (AllReadyH.cons (o := ⟨some 25, .buildSlice 22 1 #[(0, .tmp 24)], 22, "law.go:38", #[⟨12, .data⟩], none⟩) rfl (fun K hK => ?_) AllReadyH.nil)
   try (generalize World.drew wr = ud at *)
   go_simp
   refine al_step2 hb (fun nu hbn q1 hcn => ?_)
   have hro := ((show RfO ud w.heap.size (.slice ao j co) (es.take j) from HXD.out).below hcn)
   have hb := hbn
   clear hcn hbn
   refine hK.out _ _ hb (fun hHeld => ?_)
   clear hK K
   try simp only [Act.put, sA, sB, sC]
   refine wpAnyH_ready (rs := [14]) (by kernel_rfl) (by simp) ?_
   refine (AllReadyH.cons (o := ⟨some 26, .call ⟨.builtin .append, #[.tmp 12, .tmp 25], #[22, 22]⟩, 22, "law.go:38", #[⟨0, .data⟩, ⟨13, .data⟩], none⟩) rfl (fun K hK => ?_) AllReadyH.nil)
   obtain ⟨v8, w8, hr8, ho8, hc8, -⟩ := hro.app hb.size _ x.1 x.2 q1 (by rw [HTL.out]; have := HX.out.1; omega) 22
   have hlt8 := hro.lt
   refine step_append_re (by rfl) (Operand.tmp 12) (Operand.tmp 25) (by rfl) _ _ (by rfl) (by rfl) hr8 ?_
   have hb := hb.trans (hc8.below (B := w.heap.size) (fun q e => (hlt8 q e).1) hb.size)
   obtain ⟨a8, c8, rfl⟩ := ho8.slc
   have hl8 : (es.take j ++ [(x.1, x.2)]).length = j + 1 := by rw [List.length_append, HTL.out]; rfl
   rw [hl8] at ho8 ⊢
   clear hc8 hr8 hro hlt8 hl8
   refine hK.out _ _ hb (fun hHeld => ?_)
   clear hK K
   try simp only [Act.put, sA, sB, sC]
   refine tk (i := 15) (oi := ⟨some 3, .assign (.tmp 26), 22, "law.go:38", #[⟨14, .data⟩, ⟨14, .chain⟩, ⟨0, .phase⟩, ⟨1, .phase⟩, ⟨2, .phase⟩, ⟨3, .phase⟩, ⟨4, .phase⟩, ⟨5, .phase⟩, ⟨6, .phase⟩, ⟨7, .phase⟩, ⟨8, .phase⟩, ⟨9, .phase⟩, ⟨10, .phase⟩, ⟨11, .phase⟩, ⟨12, .phase⟩, ⟨13, .phase⟩, ⟨14, .phase⟩], none⟩) (v := ?_) (Or.inl ⟨by rfl, ?_⟩) ?_
   rotate_left 1
   ·(intro u hSw; go_simp; try with_reducible rfl)
   try simp only [Act.put, sA, sB, sC]
   refine wpAnyH_done (by kernel_rfl) ?_ _
   have H8 := hid (And.intro ho8 hb)
   clear ho8 hb hHeld q1
   go_wp2_with fail
   go_roundw
   case rel => exact ⟨j + 1, HX.out.1, by rw [HX.out.2.2.2.1]; exact H8.out.1, by go_num, H8.out.2⟩
   case measure => have := HX.out.1; simp [intOf]; omega
  ·have hj2 : j = es.length := by omega
   subst hj2
   have HX := hid (And.intro hro hbw)
   rw [htl, List.take_length] at HX
   clear hro hbw htl
   go_wp2_with fail
   go_ret
   exact ⟨_, rfl, HX.out.1, HX.out.2⟩
end Go.Proofs.YtbmlkocpjboodaaDoor
/- stage 7: Same of the reference; the law's verify -/
namespace Go.Proofs.YtbmlkocpjboodaaDoor
open Go.RowKit
open Go.Lib (hid)
set_option maxRecDepth 100000 in
theorem run_equalInE (w : World) (x y : List Int × Int) (hx : Rng x.1) (hy : Rng y.1) : (Op.equalIn 10000 45 (.agg #[.string (str x.1), .int .i64 x.2]) (.agg #[.string (str y.1), .int .i64 y.2])).run Tryd.prog w = .ok (decide (x = y)) w := by
 have u2 := Tryd.underlying2
 have u3 := Tryd.underlying9
 have a2 := Tryd.isAgg2
 have a3 := Tryd.isAgg9
 have hS : Tryd.prog.underlying 45 = some (.struct (Tryd.prog.fieldsOf 45)) := by kernel_rfl
 have hp : Tryd.prog.stoodInHeld 45 = false := by kernel_rfl
 have hb := str_beq hx hy
 rw [show (10000 : Nat) = 9999 + 1 from rfl, run_equalIn_agg w 9999 45 _ _ hS hp]
 simp only [Program.fieldsOf, Tryd.underlying45]
 go_simp
 obtain ⟨xs, xn⟩ := x
 obtain ⟨ys, yn⟩ := y
 by_cases h2 : xn = yn <;> by_cases h3 : xs = ys <;> simp [h2, h3]
set_option maxRecDepth 100000 in
theorem exec_neqE {ρ : Operand → Value} {o : Oper} {w : World} (x y : Operand) (U : TypeId) (ho : o.op = .binOp .neq 45 x y U) (a b : List Int × Int) (hx : ρ x = .agg #[.string (str a.1), .int .i64 a.2]) (hy : ρ y = .agg #[.string (str b.1), .int .i64 b.2]) (ga : Rng a.1) (gb : Rng b.1) :
  (execOp ρ o).run Tryd.prog w = .ok (.value (.bool (!decide (a = b)))) w := by
 have h := run_equalInE w a b ga gb
 have hg : Tryd.prog.eqGuardType Tryd.prog.depth 45 = false := by kernel_rfl
 have hgd : ∀ p q : Array Value, (eqGuard .neq 45 x y (.agg p) (.agg q)).run Tryd.prog w = .ok () w := fun p q => by
  unfold eqGuard
  simp [hg]
 unfold execOp
 rw [ho]
 simp only [hx, hy, Sem.run_bind, hgd, Result.andThen_ok, run_neq_struct, h, Sem.run_pure]
set_option maxRecDepth 100000 in
set_option maxHeartbeats 8000000 in
theorem refSame_any (w : World) (va vb : Value) (la lb : List (List Int × Int)) (ha : RfS w va la) (hb : RfS w vb lb) (ga : ∀ x ∈ la, Rng x.1) (gb : ∀ x ∈ lb, Rng x.1) (hla : la.length ≤ 1073741824) :
  Calls Tryd.prog 17 #[va, vb] w fun d w' => d = .returned (.bool (decide (la = lb))) ∧ Below w.heap.size w w' := by
 have HA := hid ha
 have HB := hid hb
 have GA := hid ga
 have GB := hid gb
 obtain ⟨aa, ca, rfl, -⟩ := ha
 obtain ⟨ab, cb, rfl, -⟩ := hb
 by_cases hl : la.length = lb.length
 ·have HL := hid hl
  have hl1 : (la.length : Int) = (lb.length : Int) := by omega
  clear ga gb hl
  generalize hN : la.length = N at *
  have hl2 : lb.length = N := HL.out.symm
  rw [hl2]
  clear hl1
  generalize hQ : decide (la = lb) = Q
  have HQ := hid hQ
  have HN := hid (And.intro hN hl2)
  clear hQ hN hl2 HL
  rw [HN.out.2] at HB
  go_enter Tryd.func17, Tryd.ntmps17
  go_wp2_with fail
  go_loopw [5] (fun iv wr => ∃ (j : Nat), j ≤ N ∧ iv = .int .i64 (j : Int) ∧ (∀ i, i < j → la[i]? = lb[i]?) ∧ Below w.heap.size w wr) (fun iv _ => N - (intOf iv).toNat)
  case atStart => exact ⟨0, Nat.zero_le _, rfl, fun i hi => absurd hi (Nat.not_lt_zero _), Below.refl _ _⟩
  case round =>
   obtain ⟨j, hj, rfl, hso, hbw⟩ := hrel
   by_cases hjl : j < N
   ·have hx : la[j]? = some (la[j]'(by rw [HN.out.1]; exact hjl)) := List.getElem?_eq_getElem _
    have hy : lb[j]? = some (lb[j]'(by rw [HN.out.2]; exact hjl)) := List.getElem?_eq_getElem _
    generalize la[j]'(by rw [HN.out.1]; exact hjl) = x at hx
    generalize lb[j]'(by rw [HN.out.2]; exact hjl) = y at hy
    obtain ⟨a', c', he, hall⟩ := HA.out
    injection he with e1 e0 e2
    clear e0
    subst e1 e2
    obtain ⟨g, o, hag, hgl, hc0, hc1⟩ := hall j x hx
    subst hag
    obtain ⟨a'', c'', he2, hall2⟩ := HB.out
    injection he2 with e1 e0 e2
    clear e0
    subst e1 e2
    obtain ⟨g2, o2, hag2, hgl2, hd0, hd1⟩ := hall2 j y hy
    subst hag2
    have hj0 : (0 : Int) ≤ (j : Int) := by omega
    have hj1 : (j : Int) < (N : Int) := by omega
    have HC := hid (fun u (hu : Below w.heap.size w u) => (show (u.cell? ⟨g, o + j * 2, none⟩ = some (.string (str x.1)) ∧ u.cell? ⟨g, o + j * 2 + 1, none⟩ = some (.int .i64 x.2)) ∧ u.cell? ⟨g2, o2 + j * 2, none⟩ = some (.string (str y.1)) ∧ u.cell? ⟨g2, o2 + j * 2 + 1, none⟩ = some (.int .i64 y.2) from ⟨⟨(World.cell?_of_block (a := ⟨g, o + j * 2, none⟩) (hu.block g hgl)).trans hc0, (World.cell?_of_block (a := ⟨g, o + j * 2 + 1, none⟩) (hu.block g hgl)).trans hc1⟩, (World.cell?_of_block (a := ⟨g2, o2 + j * 2, none⟩) (hu.block g2 hgl2)).trans hd0, (World.cell?_of_block (a := ⟨g2, o2 + j * 2 + 1, none⟩) (hu.block g2 hgl2)).trans hd1⟩))
    have HX := hid (And.intro hjl (And.intro hso (And.intro hx hy)))
    have gx := GA.out x (List.mem_of_getElem? hx)
    have gy := GB.out y (List.mem_of_getElem? hy)
    have HG := hid (And.intro gx gy)
    have hb := hbw.drew
    clear gx gy hso hx hy hjl hj hall hall2 hc0 hc1 hd0 hd1 hgl hgl2 hbw
    go_wp2_with fail
    refine wp_region_held_drew (S := fun u => Below w.heap.size w u) (by kernel_rfl) (hb) (fun hHeld => ?_)
    refine tk (i := 0) (oi := ⟨some 17, .move (.tmp 0), 22, "ref.go:251", #[], none⟩) (v := ?_) (Or.inl ⟨by rfl, ?_⟩) ?_
    rotate_left 1
    ·(intro u hSw; go_simp; try with_reducible rfl)
    try simp only [Act.put, sA, sB, sC]
    refine tk (i := 1) (oi := ⟨some 18, .move (.tmp 5), 3, "ref.go:251", #[], none⟩) (v := ?_) (Or.inl ⟨by rfl, ?_⟩) ?_
    rotate_left 1
    ·(intro u hSw; go_simp; try with_reducible rfl)
    try simp only [Act.put, sA, sB, sC]
    refine tk (i := 2) (oi := ⟨some 19, .indexAddr 22 (.tmp 17) (.tmp 18), 0, "ref.go:251", #[⟨0, .data⟩, ⟨1, .data⟩], none⟩) (v := ?_) (Or.inl ⟨by rfl, ?_⟩) ?_
    rotate_left 1
    ·(intro u hSw; go_simp; try with_reducible rfl)
    try simp only [Act.put, sA, sB, sC]
    refine tk (i := 3) (oi := ⟨some 20, .load 45 (.tmp 19), 45, "ref.go:251", #[⟨2, .data⟩], none⟩) (v := ?_) (Or.inl ⟨by rfl, ?_⟩) ?_
    rotate_left 1
    ·(intro u hSw; have y0 := (HC.out _ hSw).1.1; have y1 := (HC.out _ hSw).1.2; have y2 := (HC.out _ hSw).2.1; have y3 := (HC.out _ hSw).2.2; go_simp; try with_reducible rfl)
    try simp only [Act.put, sA, sB, sC]
    refine tk (i := 4) (oi := ⟨some 21, .move (.tmp 1), 22, "ref.go:251", #[], none⟩) (v := ?_) (Or.inl ⟨by rfl, ?_⟩) ?_
    rotate_left 1
    ·(intro u hSw; go_simp; try with_reducible rfl)
    try simp only [Act.put, sA, sB, sC]
    refine tk (i := 5) (oi := ⟨some 22, .move (.tmp 5), 3, "ref.go:251", #[], none⟩) (v := ?_) (Or.inl ⟨by rfl, ?_⟩) ?_
    rotate_left 1
    ·(intro u hSw; go_simp; try with_reducible rfl)
    try simp only [Act.put, sA, sB, sC]
    refine tk (i := 6) (oi := ⟨some 23, .indexAddr 22 (.tmp 21) (.tmp 22), 0, "ref.go:251", #[⟨4, .data⟩, ⟨5, .data⟩], none⟩) (v := ?_) (Or.inl ⟨by rfl, ?_⟩) ?_
    rotate_left 1
    ·(intro u hSw; go_simp; try with_reducible rfl)
    try simp only [Act.put, sA, sB, sC]
    refine tk (i := 7) (oi := ⟨some 24, .load 45 (.tmp 23), 45, "ref.go:251", #[⟨6, .data⟩], none⟩) (v := ?_) (Or.inl ⟨by rfl, ?_⟩) ?_
    rotate_left 1
    ·(intro u hSw; have y0 := (HC.out _ hSw).1.1; have y1 := (HC.out _ hSw).1.2; have y2 := (HC.out _ hSw).2.1; have y3 := (HC.out _ hSw).2.2; go_simp; try with_reducible rfl)
    try simp only [Act.put, sA, sB, sC]
    refine tk (i := 8) (oi := ⟨some 25, .binOp BinOp.neq 45 (.tmp 20) (.tmp 24) 45, 4, "ref.go:251", #[⟨3, .data⟩, ⟨7, .data⟩], none⟩) (v := .bool (!decide (x = y))) (Or.inl ⟨by rfl, ?_⟩) ?_
    ·intro u hSw
     exact exec_neqE (Operand.tmp 20) (Operand.tmp 24) _ rfl x y rfl rfl HG.out.1 HG.out.2
    try simp only [Act.put, sA, sB, sC]
    refine wpAnyH_done (by kernel_rfl) ?_ _
    clear HC hHeld
    have HBB := hid hb
    clear hb
    by_cases hxy : x = y
    ·have HXY := hid hxy
     have hd : (!decide (x = y)) = false := by rw [decide_eq_true hxy]; rfl
     rw [hd]
     clear hd hxy
     go_wp2_with fail
     go_roundw
     case rel =>
      refine ⟨j + 1, HX.out.1, by go_num, fun i hi => ?_, HBB.out⟩
      by_cases hij : i < j
      ·exact HX.out.2.1 i hij
      ·have : i = j := by omega
       rw [this, HX.out.2.2.1, HX.out.2.2.2, HXY.out]
     case measure => have := HX.out.1; simp [intOf]; omega
    ·have hd : (!decide (x = y)) = true := by rw [decide_eq_false hxy]; rfl
     rw [hd]
     have HF := hid (show Q = false by
      rw [← HQ.out]
      exact decide_eq_false (fun e => hxy (by
       have h1 := HX.out.2.2.1
       rw [e, HX.out.2.2.2] at h1
       injection h1 with h1
       exact h1.symm)))
     clear hd hxy
     go_wp2_with fail
     go_ret
     rw [HF.out]
     exact ⟨rfl, HBB.out⟩
   ·have hj2 : j = N := by omega
    subst hj2
    have HF := hid (show Q = true by
     rw [← HQ.out]
     refine decide_eq_true (List.ext_getElem? (fun i => ?_))
     by_cases hi : i < j
     ·exact hso i hi
     ·rw [List.getElem?_eq_none (by rw [HN.out.1]; omega), List.getElem?_eq_none (by rw [HN.out.2]; omega)])
    have HBB := hid hbw
    clear hso hbw
    go_wp2_with fail
    go_ret
    rw [HF.out]
    exact ⟨rfl, HBB.out⟩
 ·have HF := hid (decide_eq_false (fun e : la = lb => hl (by rw [e])))
  have hl1 : ¬ (la.length : Int) = (lb.length : Int) := by omega
  have hl2 : ¬ la.length = lb.length := hl
  clear hl ga gb
  go_enter Tryd.func17, Tryd.ntmps17
  go_wp2_with fail
  go_ret
  rw [HF.out]
  exact ⟨rfl, Below.refl _ _⟩
end Go.Proofs.YtbmlkocpjboodaaDoor
/- stage 7: the law's verify -/
namespace Go.Proofs.YtbmlkocpjboodaaDoor
open Go.RowKit
open Go.Lib (hid)
end Go.Proofs.YtbmlkocpjboodaaDoor
/- stage 7: MerkleComplete -/
namespace Go.Proofs.YtbmlkocpjboodaaDoor
open Go.RowKit
open Go.Lib (hid)
theorem RfO.cgX {w w' : World} {B X : Nat} {v : Value} {l : List (List Int × Nat)} (h : RfO w B v l) (hc : Chg (fun q => q = X) w w') (hX : X < B) : RfO w' B v l := by
 have hlt := h.lt
 refine ⟨h.1, h.2.imp id ?_⟩
 rintro ⟨g, cap, cur, rfl, q1, q2, q3⟩
 exact ⟨g, cap, cur, rfl, q1, (hc.block g (hlt g rfl).2 (by omega)).trans q2, q3⟩
theorem toI_rng {l : List (List Int × Nat)} (h : ∀ x ∈ l, Rng x.1) : ∀ x ∈ l.map toI, Rng x.1 := fun x hx => by
 obtain ⟨y, hy, rfl⟩ := List.mem_map.1 hx
 exact h y hy
end Go.Proofs.YtbmlkocpjboodaaDoor
/- stage 7, plain: how much a proof's bytes can tell -/
namespace Go.Proofs.YtbmlkocpjboodaaDoor
open Go.RowKit
open Go.Lib (hid)
end Go.Proofs.YtbmlkocpjboodaaDoor
/- stage 7: Empty and number of the reference -/
namespace Go.Proofs.YtbmlkocpjboodaaDoor
open Go.RowKit
open Go.Lib (hid)
set_option maxRecDepth 100000 in
set_option maxHeartbeats 4000000 in
theorem refEmpty_any (w : World) :
  Calls Tryd.prog 35 #[] w fun e w' => ∃ v', e = .returned v' ∧ Bs w' v' txt0 ∧ Below w.heap.size w w' := by
 have kc := fun (w : World) (C : Array Value) (n c : Nat) => Lib.run_convert_bytes_const (P := Tryd.prog) w 31 5 C n c Tryd.underlying31 Tryd.underlying5
 go_enter Tryd.func35, Tryd.ntmps35
 go_wp2_with fail
 have hb0 : Bs (w.alloc (.cells #[.int .u8 101, .int .u8 109, .int .u8 112, .int .u8 116, .int .u8 121] 5 (5, 6))) (.slice (some ⟨w.heap.size, 0, none⟩) 5 5) [101, 109, 112, 116, 121] := lit_bs w 5 [101, 109, 112, 116, 121] (5, 6) 5 5 rfl (Nat.le_refl _)
 have hs1 : (w.alloc (.cells #[.int .u8 101, .int .u8 109, .int .u8 112, .int .u8 116, .int .u8 121] 5 (5, 6))).heap.size = w.heap.size + 1 := by simp
 have hb1 : Below w.heap.size w (w.alloc (.cells #[.int .u8 101, .int .u8 109, .int .u8 112, .int .u8 116, .int .u8 121] 5 (5, 6))) := (Below.refl _ _).alloc (Nat.le_refl _) _
 generalize w.alloc (.cells #[.int .u8 101, .int .u8 109, .int .u8 112, .int .u8 116, .int .u8 121] 5 (5, 6)) = w1 at *
 have hps := pss_lit w1 31 (0, 0) [.slice (some ⟨w.heap.size, 0, none⟩) 5 5] [[101, 109, 112, 116, 121]] 1 (w.heap.size + 1) rfl hs1 rfl rfl (fun i x hi => by
  cases i with
  | zero => injection hi with hi; subst hi; exact hb0
  | succ i => cases hi)
 refine (refJoin_any _ _ _ hps (by decide)).mono ?_
 rintro e w2 ⟨v2, rfl, hk, hb2⟩
 have hbs := Bs_of_own hk
 obtain ⟨a2, c2, rfl⟩ := ownsRow_slc hk
 have hlen : jlen [[101, 109, 112, 116, 121]] = 13 := by decide
 have hb4 : Below w1.heap.size w1 (w1.alloc (.cells #[.slice (some ⟨w.heap.size, 0, none⟩) 5 5] 31)) := (Below.refl _ _).alloc (Nat.le_refl _) _
 have hb3 := hb1.trans ((hb4.trans (hb2.mono hb4.size)).mono (by omega))
 have HK := hid (show Bs w2 _ txt0 from hbs)
 have HB := hid hb3
 clear hk hb0 hb1 hb2 hb3 hb4 hps hs1 hbs hlen
 go_wp2_with fail
 go_ret
 exact ⟨_, rfl, HK.out, HB.out⟩
set_option maxRecDepth 100000 in
set_option maxHeartbeats 4000000 in
theorem refNum7_any (k : Nat) (w : World) (hk : k < 18446744073709551616) :
  Calls Tryd.prog 39 #[.int .u64 k] w fun e w' => ∃ v', e = .returned v' ∧ w'.ownsRow w.heap.size 5 1 v' 8 ((be8 k).map (Value.int .u8)) ∧ Below w.heap.size w w' := by
 obtain ⟨i0, hi, hz0, hz1, hz2⟩ := info_parts info5
 have HK := hid hk
 clear hk
 go_enter Tryd.func39, Tryd.ntmps39
 go_wp2_with fail
 go_loopw [3, 4] (fun v0 s wr => ∃ j : Nat, j ≤ 8 ∧ s = .int .i64 (j : Int) ∧ wr.ownsRow w.heap.size 5 1 v0 j (((be8 k).take j).map (Value.int .u8)) ∧ Below w.heap.size w wr)
  (fun _ s _ => (8 - intOf s).toNat)
 case atStart => exact ⟨0, by omega, by simp, by simpa using World.ownsRow_lit (base := w.heap.size) (size := 1) (e := 5) w #[] 0 (Nat.le_refl _) (Nat.zero_le _) rfl, (Below.refl _ _).alloc (Nat.le_refl _) _⟩
 case round =>
  obtain ⟨j, hj, rfl, hown, hbw⟩ := hrel
  have hsz := hbw.size
  by_cases hlt : j < 8
  ·have hb := be8_take_succ k j hlt
   have HB := hid hb
   have HBW := hid hbw
   have HOW := hid hown
   clear hb hbw hown
   have e0 : IntKind.i64.wrap (8 * (j : Int)) = 8 * (j : Int) := IntWalk.i64_in _ (by omega)
   have e1 : IntKind.i64.wrap (56 - 8 * (j : Int)) = 56 - 8 * (j : Int) := IntWalk.i64_in _ (by omega)
   have e2 : 0 ≤ 56 - 8 * (j : Int) := by omega
   have e3 : (56 - 8 * (j : Int)).toNat = 56 - 8 * j := by omega
   go_wp2_with (at_builtin; refine wpList_append_own _ rfl (Operand.tmp 10) (Operand.tmp 17) 31 rfl w.heap.size 5 i0 (.int .u8 0) 1 1 Tryd.underlying31 hi hz0 hz1 hz2 rfl (by decide) _ _ _ rfl (HOW.out.alloc _) ⟨wr.heap.size, 0, none⟩ 1 1 [.int .u8 (beAt k j)] rfl rfl (cell_one_new _ _ _) (by intro u hu; simp at hu; subst hu; rfl) (by unfold maxLen; omega) (by omega) (by simp; omega) ?_; intro v' w1 hown' hgrow _; have HO1 := hid hown'; have HG1 := hid hgrow; clear hown' hgrow)
   go_roundw
   case rel => exact ⟨j + 1, by omega, by go_num, by rw [HB.out]; simpa [Nat.add_assoc] using HO1.out, (HBW.out.alloc (by omega) _).grown HG1.out (by simp; omega) (fun g hg => (HOW.out.lt g hg).1)⟩
   case measure => simp [intOf]; omega
  ·have hj8 : j = 8 := by omega
   subst hj8
   have e8 : (be8 k).take 8 = be8 k := List.take_of_length_le (by rw [be8_len]; omega)
   rw [e8] at hown
   have HBW := hid hbw
   have HOW := hid hown
   clear hbw hown e8 hlt
   go_wp2_with fail
   go_ret
   exact ⟨_, rfl, HOW.out, HBW.out⟩
end Go.Proofs.YtbmlkocpjboodaaDoor
/- stage 7: top of the reference -/
namespace Go.Proofs.YtbmlkocpjboodaaDoor
open Go.RowKit
open Go.Lib (hid)
theorem und32 : Tryd.prog.underlying 35 = some (.array (Tryd.prog.arrayLen 35) (Tryd.prog.elem 35)) := by kernel_rfl
theorem len32 : Tryd.prog.arrayLen 35 = 32 := by kernel_rfl
theorem size32 (u : World) : (sizeOf (Tryd.prog.elem 35)).run Tryd.prog u = .ok 1 u := by kernel_rfl
theorem slice32_re (u : World) (X : Nat) : (Instr.sliceAt 35 (.pointer (some ⟨X, 0, none⟩)) none none none).run Tryd.prog u = .ok (.slice (some ⟨X, 0, none⟩) 32 32) u := by
 rw [run_sliceAt_array_all u 35 ⟨X, 0, none⟩ und32, size32]
 simp [Result.andThen, slicedAt, len32, Addr.add_mid]
theorem info_re32 (l : List Int) (h : l.length = 32) : (Tryd.prog.info? 35).map (·.size) = some (ArrU8 l).size := by rw [sz32 l h]; kernel_rfl
/-- the bytes of a digest's box as a string -/
theorem str_box {u : World} {X : Nat} {l : List Int} (h : u.heap[X]? = some (.cells (ArrU8 l) 35 (0, 0))) (hl : l.length = 32) : (convert 31 9 (.slice (some ⟨X, 0, none⟩) 32 32)).run Tryd.prog u = .ok (.string (str l)) u := by
 have hb : Bs u (.slice (some ⟨X, 0, none⟩) 32 32) l := box_bs h hl
 have h1 := run_convC u (some ⟨X, 0, none⟩) 32 32 hb.hasBytes
 rw [hb.str] at h1
 exact h1
/-- the rank of a key, as the reference reckons it -/
theorem rank_step (u : World) (k : List Int) (hr : Rng k) (hl : k.length ≤ 65535) : ∃ W1 a c, (convert 9 31 (.string (str k))).run Tryd.prog u = .ok (.slice a k.length c) W1 ∧ Below u.heap.size u W1 ∧
  Calls Tryd.prog 67 #[.slice (some ⟨W1.heap.size, 0, none⟩) 1 1] (W1.alloc (.cells #[.slice a k.length c] 31)) fun e w' => e = .returned (.agg (ArrU8 (rnk k))) ∧ Below u.heap.size u w' := by
 obtain ⟨W1, a, c, q, b, hk⟩ := conv_str u k hr
 refine ⟨W1, a, c, q, b, ?_⟩
 have hps := pss_lit W1 31 (0, 0) [.slice a k.length c] [k] 1 W1.heap.size rfl rfl rfl rfl (fun i x hi => by
  cases i with
  | zero => injection hi with hi; subst hi; exact hk
  | succ i => cases hi)
 refine (refOf_any _ _ _ hps (by simp [jlen]; omega)).mono ?_
 rintro e w' ⟨rfl, hb⟩
 have hb4 : Below W1.heap.size W1 (W1.alloc (.cells #[.slice a k.length c] 31)) := (Below.refl _ _).alloc (Nat.le_refl _) _
 exact ⟨rfl, b.trans ((hb4.trans (hb.mono hb4.size)).mono b.size)⟩
set_option maxRecDepth 100000 in
set_option maxHeartbeats 8000000 in
theorem refTop_any (w : World) (v : Value) (es : List (List Int × Nat)) (hv : RfS w v (es.map toI)) (hes : ∀ x ∈ es, Rng x.1 ∧ x.1.length ≤ 65535) (h0 : 0 < es.length) (hn : es.length ≤ 1048576) :
  Calls Tryd.prog 36 #[v] w fun d w' => d = .returned (.int .i64 (topI es : Int)) ∧ Below w.heap.size w w' := by
 have HV := hid hv
 obtain ⟨av, cv, rfl, hall0⟩ := hv
 rw [List.length_map] at *
 have HES := hid hes
 obtain ⟨x0, l0, he0⟩ : ∃ x l, es = x :: l := by cases es with | nil => cases h0 | cons x l => exact ⟨x, l, rfl⟩
 obtain ⟨g0, o0, hag0, hgl0, hc00, -⟩ := hall0 0 (toI x0) (by rw [he0]; rfl)
 subst hag0
 have hT : topI es = (topF (es.drop 1) 1 0 (rnk x0.1)).1 := by rw [he0]; rfl
 generalize topI es = T at *
 obtain ⟨W1, a1, c1, q1, b1, hr1⟩ := rank_step w x0.1 (hes x0 (by rw [he0]; exact List.mem_cons_self)).1 (hes x0 (by rw [he0]; exact List.mem_cons_self)).2
 have HE0 := hid he0
 have Q1 := hid q1
 have HR1 := hid hr1
 have HT := hid hT
 have h00 : (0 : Int) < (es.length : Int) := by omega
 rw [Nat.zero_mul, Nat.add_zero] at hc00
 have H0 := hid h0
 have HN := hid hn
 clear hes he0 hall0 hT q1 b1 hr1 h0 hn
 replace hc00 : w.cell? ⟨g0, o0, none⟩ = some (.string (str x0.1)) := hc00
 go_enter Tryd.func36, Tryd.ntmps36
 go_wp2_with (first | (refine wpList_of_run (o := ⟨some 11, _, _, _, _, _⟩) rfl (exec_conv (Operand.tmp 10) rfl _ rfl _ Q1.out) ?_) | fail)
 refine HR1.out.mono ?_
 rintro e w2 ⟨rfl, hb2⟩
 have HI := hid (info_re32 (rnk x0.1) (sha_len _))
 have HS := hid (sz32 (rnk x0.1) (sha_len _))
 have HB2 := hid hb2
 clear hb2 hc00 Q1 HR1
 go_wp2_with (first | (refine wpList_store_row rfl 35 (Operand.tmp 4) (Operand.tmp 13) rfl w2.heap.size (ArrU8 (rnk x0.1)) rfl rfl 35 _ (heap_alloc_new _ _) HI.out HS.out.symm (ArrU8_one _) ?_) | fail)
 have hX : ((w2.alloc (.cells ((List.replicate 32 (Value.int .u8 0)).toArray) 35)).setRow w2.heap.size (ArrU8 (rnk x0.1))).heap[w2.heap.size]? = some (.cells (ArrU8 (rnk x0.1)) 35 (0, 0)) := setRow_heap _ _ _ _ _ _ (heap_alloc_new _ _)
 have hbX : Below w.heap.size w ((w2.alloc (.cells ((List.replicate 32 (Value.int .u8 0)).toArray) 35)).setRow w2.heap.size (ArrU8 (rnk x0.1))) := below_setRow (HB2.out.alloc HB2.out.size _) HB2.out.size _
 have hge : w.heap.size ≤ w2.heap.size := HB2.out.size
 generalize w2.heap.size = X at *
 have HT0 : (topF (es.drop 1) 1 0 (rnk x0.1)).1 = T := HT.out.symm
 have hlr : (rnk x0.1).length = 32 := sha_len _
 have hrr : Rng (rnk x0.1) := sha_rng _
 go_loopw [3, 5] (fun pv iv wr => ∃ (j p : Nat) (b : List Int), 1 ≤ j ∧ j ≤ es.length ∧ p < j ∧ pv = .int .i64 (p : Int) ∧ iv = .int .i64 (j : Int) ∧ b.length = 32 ∧ Rng b ∧ wr.heap[X]? = some (.cells (ArrU8 b) 35 (0, 0)) ∧ (topF (es.drop j) j p b).1 = T ∧ Below w.heap.size w wr) (fun _ iv _ => es.length - (intOf iv).toNat)
 case atStart => exact ⟨1, 0, rnk x0.1, Nat.le_refl _, H0.out, Nat.zero_lt_one, rfl, rfl, hlr, hrr, hX, HT0, hbX⟩
 case round =>
  clear hX hbX HT0 hlr hrr
  obtain ⟨j, p, b, hj1, hj, hp, rfl, rfl, hb32, hbr, hX, hTj, hbw⟩ := hrel
  by_cases hjl : j < es.length
  ·have hx : es[j]? = some (es[j]'hjl) := List.getElem?_eq_getElem hjl
   have hdr : es.drop j = es[j]'hjl :: es.drop (j + 1) := List.drop_eq_getElem_cons hjl
   generalize es[j]'hjl = x at hx hdr
   rw [hdr] at hTj
   obtain ⟨a', c', he, hall⟩ := HV.out
   injection he with e1 e0 e2
   clear e0
   subst e1 e2
   obtain ⟨g, o, hag, hgl, hc0, -⟩ := hall j (toI x) (by rw [List.getElem?_map, hx]; rfl)
   injection hag with hag
   injection hag with hg1 hg2 hg3
   subst hg1 hg2
   clear hg3
   have gx := HES.out x (List.mem_of_getElem? hx)
   have c0 : wr.cell? ⟨g0, o0 + j * 2, none⟩ = some (.string (str x.1)) := (World.cell?_of_block (a := ⟨g0, o0 + j * 2, none⟩) (hbw.block g0 hgl)).trans hc0
   obtain ⟨W1, a1, c1, q1, b1, hr1⟩ := rank_step wr x.1 gx.1 gx.2
   have hj0 : (0 : Int) ≤ (j : Int) := by omega
   have hj2 : (j : Int) < (es.length : Int) := by omega
   have hlr : (rnk x.1).length = 32 := sha_len _
   have hrr : Rng (rnk x.1) := sha_rng _
   have HL := hid (And.intro hb32 (And.intro hbr (And.intro hlr hrr)))
   have Q1 := hid q1
   have HR1 := hid hr1
   have hXl := blk_lt hX
   have HX := hid (And.intro hjl (And.intro hX (And.intro hbw hXl)))
   have HJ := hid (And.intro hj1 hp)
   have hbl := bl hbr hrr
   have HB := hid hbl
   have HTJ := hid hTj
   clear hx hdr hall hc0 hgl gx q1 b1 hr1 hb32 hbr hlr hrr hX hbw hbl hTj hj1 hp hj hjl hXl
   go_wp2_with (first | (refine wpList_of_run (o := ⟨some 25, _, _, _, _, _⟩) rfl (exec_conv (Operand.tmp 24) rfl _ rfl _ Q1.out) ?_) | fail)
   refine HR1.out.mono ?_
   rintro e w3 ⟨rfl, hb3⟩
   have HI := hid (info_re32 (rnk x.1) HL.out.2.2.1)
   have HS := hid (sz32 (rnk x.1) HL.out.2.2.1)
   have HB3 := hid hb3
   clear hb3 c0 Q1 HR1
   go_wp2_with (first | (refine wpList_store_row rfl 35 (Operand.tmp 6) (Operand.tmp 27) rfl w3.heap.size (ArrU8 (rnk x.1)) rfl rfl 35 _ (heap_alloc_new _ _) HI.out HS.out.symm (ArrU8_one _) ?_) | fail)
   have hYq : ((w3.alloc (.cells #[.int .u8 0, .int .u8 0, .int .u8 0, .int .u8 0, .int .u8 0, .int .u8 0, .int .u8 0, .int .u8 0, .int .u8 0, .int .u8 0, .int .u8 0, .int .u8 0, .int .u8 0, .int .u8 0, .int .u8 0, .int .u8 0, .int .u8 0, .int .u8 0, .int .u8 0, .int .u8 0, .int .u8 0, .int .u8 0, .int .u8 0, .int .u8 0, .int .u8 0, .int .u8 0, .int .u8 0, .int .u8 0, .int .u8 0, .int .u8 0, .int .u8 0, .int .u8 0] 35)).setRow w3.heap.size (ArrU8 (rnk x.1))).heap[w3.heap.size]? = some (.cells (ArrU8 (rnk x.1)) 35 (0, 0)) := setRow_heap _ _ _ _ _ _ (heap_alloc_new _ _)
   have hbq : Below wr.heap.size wr ((w3.alloc (.cells #[.int .u8 0, .int .u8 0, .int .u8 0, .int .u8 0, .int .u8 0, .int .u8 0, .int .u8 0, .int .u8 0, .int .u8 0, .int .u8 0, .int .u8 0, .int .u8 0, .int .u8 0, .int .u8 0, .int .u8 0, .int .u8 0, .int .u8 0, .int .u8 0, .int .u8 0, .int .u8 0, .int .u8 0, .int .u8 0, .int .u8 0, .int .u8 0, .int .u8 0, .int .u8 0, .int .u8 0, .int .u8 0, .int .u8 0, .int .u8 0, .int .u8 0, .int .u8 0] 35)).setRow w3.heap.size (ArrU8 (rnk x.1))) := below_setRow (HB3.out.alloc HB3.out.size _) HB3.out.size _
   have hXq := (hbq.block X HX.out.2.2.2).trans HX.out.2.1
   have hbw := HX.out.2.2.1.trans (hbq.mono HX.out.2.2.1.size)
   generalize hWW : (w3.alloc (.cells #[.int .u8 0, .int .u8 0, .int .u8 0, .int .u8 0, .int .u8 0, .int .u8 0, .int .u8 0, .int .u8 0, .int .u8 0, .int .u8 0, .int .u8 0, .int .u8 0, .int .u8 0, .int .u8 0, .int .u8 0, .int .u8 0, .int .u8 0, .int .u8 0, .int .u8 0, .int .u8 0, .int .u8 0, .int .u8 0, .int .u8 0, .int .u8 0, .int .u8 0, .int .u8 0, .int .u8 0, .int .u8 0, .int .u8 0, .int .u8 0, .int .u8 0, .int .u8 0] 35)).setRow w3.heap.size (ArrU8 (rnk x.1)) = wq at *
   have hWW2 := hid hWW
   generalize w3.heap.size = Y at *
   have hXY := And.intro hXq hYq
   have SA0 := fun u => slice32_re u X
   have SA1 := fun u => slice32_re u Y
   have HQ := hid (And.intro hbw hXY)
   have HJ2 := hid (show 1 ≤ j ∧ p < j ∧ j < es.length from ⟨HJ.out.1, HJ.out.2, HX.out.1⟩)
   clear hbq hXq hYq hbw HX HJ HI HS HB3
   by_cases cc : cmpI b (rnk x.1) < 0
   ·skip
    have HG := hid (show Op.bytesLess (str (rnk x.1)).toList (str b).toList = false ∧ ¬(str (rnk x.1)).toList = (str b).toList from by
     refine ⟨by rw [bl HL.out.2.2.2 HL.out.2.1]; exact decide_eq_false (cmp_asym cc), fun e => ?_⟩
     have e2 := str_beq HL.out.2.2.2 HL.out.2.1
     rw [e, beq_self_eq_true] at e2
     have e3 := of_decide_eq_true e2.symm
     rw [e3] at cc
     exact cmp_irr _ cc)
    have HTK := hid (show (topF (es.drop (j + 1)) (j + 1) j (rnk x.1)).1 = T from by rw [← HTJ.out]; conv => rhs; unfold topF; rw [if_pos cc])
    clear cc HB HTJ
    refine wp_region_held_drew (S := fun u => u.heap[X]? = some (.cells (ArrU8 b) 35 (0, 0)) ∧ u.heap[Y]? = some (.cells (ArrU8 (rnk x.1)) 35 (0, 0))) (by kernel_rfl) (hXY) (fun hHeld => ?_)
    refine tk (i := 0) (oi := ⟨some 28, .slice 35 (.tmp 6) none none none, 31, "ref.go:51", #[], none⟩) (v := .slice (some ⟨Y, 0, none⟩) 32 32) (Or.inl ⟨by rfl, ?_⟩) ?_
    ·(intro u hSw; go_simp; try with_reducible rfl)
    try simp only [Act.put, sA, sB, sC]
    refine tk (i := 1) (oi := ⟨some 29, .convert 31 9 (.tmp 28), 9, "ref.go:51", #[⟨0, .data⟩], none⟩) (v := .string (str (rnk x.1))) (Or.inl ⟨by rfl, ?_⟩) ?_
    ·intro u hSw
     exact exec_convP 31 9 (Operand.tmp 28) rfl _ rfl _ (str_box hSw.2 HL.out.2.2.1)
    try simp only [Act.put, sA, sB, sC]
    refine tk (i := 2) (oi := ⟨some 30, .slice 35 (.tmp 4) none none none, 31, "ref.go:51", #[], none⟩) (v := .slice (some ⟨X, 0, none⟩) 32 32) (Or.inl ⟨by rfl, ?_⟩) ?_
    ·(intro u hSw; go_simp; try with_reducible rfl)
    try simp only [Act.put, sA, sB, sC]
    refine tk (i := 3) (oi := ⟨some 31, .convert 31 9 (.tmp 30), 9, "ref.go:51", #[⟨2, .data⟩], none⟩) (v := .string (str b)) (Or.inl ⟨by rfl, ?_⟩) ?_
    ·intro u hSw
     exact exec_convP 31 9 (Operand.tmp 30) rfl _ rfl _ (str_box hSw.1 HL.out.1)
    try simp only [Act.put, sA, sB, sC]
    refine tk (i := 4) (oi := ⟨some 32, .binOp BinOp.gtr 9 (.tmp 29) (.tmp 31) 9, 4, "ref.go:51", #[⟨1, .data⟩, ⟨3, .data⟩], none⟩) (v := .bool true) (Or.inl ⟨by rfl, ?_⟩) ?_
    ·intro u hSw
     go_simp; exact HG.out
    try simp only [Act.put, sA, sB, sC]
    refine wpAnyH_done (by kernel_rfl) ?_ _
    clear hXY SA0 SA1
    have hn := HN.out
    have HI := hid (info_re32 (rnk x.1) HL.out.2.2.1)
    have HI2 := hid (info_re32 b HL.out.1)
    have HS := hid (show (ArrU8 b).size = (ArrU8 (rnk x.1)).size by rw [sz32 _ HL.out.1, sz32 _ HL.out.2.2.1])
    go_wp2_with (first
     | (refine wpList_load_row rfl 35 (Operand.tmp 6) rfl Y rfl 35 (ArrU8 (rnk x.1)) (0, 0) _ HQ.out.2.2 Tryd.underlying35 rfl HI.out ?_)
     | (refine wpList_store_row rfl 35 (Operand.tmp 4) (Operand.tmp 34) rfl X (ArrU8 (rnk x.1)) rfl rfl 35 _ HQ.out.2.1 HI.out HS.out (ArrU8_one _) ?_))
    go_roundw
    case rel => exact ⟨j + 1, j, rnk x.1, by omega, HJ2.out.2.2, by omega, rfl, by go_num, HL.out.2.2.1, HL.out.2.2.2, setRow_heap _ _ _ _ _ _ HQ.out.2.1, HTK.out, below_setRow HQ.out.1.drew hge _⟩
    case measure => have := HJ2.out.2.2; simp [intOf]; omega
   ·skip
    have HG := hid (show Op.bytesLess (str (rnk x.1)).toList (str b).toList = false → (str (rnk x.1)).toList = (str b).toList from fun e => by
     rw [bl HL.out.2.2.2 HL.out.2.1] at e
     rcases cmp_tri (rnk x.1) b with h | h | h
     ·exact absurd h (of_decide_eq_false e)
     ·rw [h]
     ·exact absurd h cc)
    have HTK := hid (show (topF (es.drop (j + 1)) (j + 1) p b).1 = T from by rw [← HTJ.out]; conv => rhs; unfold topF; rw [if_neg cc])
    clear cc HB HTJ
    refine wp_region_held_drew (S := fun u => u.heap[X]? = some (.cells (ArrU8 b) 35 (0, 0)) ∧ u.heap[Y]? = some (.cells (ArrU8 (rnk x.1)) 35 (0, 0))) (by kernel_rfl) (hXY) (fun hHeld => ?_)
    refine tk (i := 0) (oi := ⟨some 28, .slice 35 (.tmp 6) none none none, 31, "ref.go:51", #[], none⟩) (v := .slice (some ⟨Y, 0, none⟩) 32 32) (Or.inl ⟨by rfl, ?_⟩) ?_
    ·(intro u hSw; go_simp; try with_reducible rfl)
    try simp only [Act.put, sA, sB, sC]
    refine tk (i := 1) (oi := ⟨some 29, .convert 31 9 (.tmp 28), 9, "ref.go:51", #[⟨0, .data⟩], none⟩) (v := .string (str (rnk x.1))) (Or.inl ⟨by rfl, ?_⟩) ?_
    ·intro u hSw
     exact exec_convP 31 9 (Operand.tmp 28) rfl _ rfl _ (str_box hSw.2 HL.out.2.2.1)
    try simp only [Act.put, sA, sB, sC]
    refine tk (i := 2) (oi := ⟨some 30, .slice 35 (.tmp 4) none none none, 31, "ref.go:51", #[], none⟩) (v := .slice (some ⟨X, 0, none⟩) 32 32) (Or.inl ⟨by rfl, ?_⟩) ?_
    ·(intro u hSw; go_simp; try with_reducible rfl)
    try simp only [Act.put, sA, sB, sC]
    refine tk (i := 3) (oi := ⟨some 31, .convert 31 9 (.tmp 30), 9, "ref.go:51", #[⟨2, .data⟩], none⟩) (v := .string (str b)) (Or.inl ⟨by rfl, ?_⟩) ?_
    ·intro u hSw
     exact exec_convP 31 9 (Operand.tmp 30) rfl _ rfl _ (str_box hSw.1 HL.out.1)
    try simp only [Act.put, sA, sB, sC]
    refine tk (i := 4) (oi := ⟨some 32, .binOp BinOp.gtr 9 (.tmp 29) (.tmp 31) 9, 4, "ref.go:51", #[⟨1, .data⟩, ⟨3, .data⟩], none⟩) (v := .bool false) (Or.inl ⟨by rfl, ?_⟩) ?_
    ·intro u hSw
     go_simp; exact HG.out
    try simp only [Act.put, sA, sB, sC]
    refine wpAnyH_done (by kernel_rfl) ?_ _
    clear hXY SA0 SA1
    have hn := HN.out
    go_wp2_with fail
    go_roundw
    case rel => exact ⟨j + 1, p, b, by omega, HJ2.out.2.2, by have := HJ2.out.2.1; omega, rfl, by go_num, HL.out.1, HL.out.2.1, HQ.out.2.1, HTK.out, HQ.out.1.drew⟩
    case measure => have := HJ2.out.2.2; simp [intOf]; omega
  ·have hje : j = es.length := by omega
   have hTp : p = T := by rw [← hTj, hje, List.drop_length]; rfl
   have HB := hid hbw
   subst hTp
   clear hX hTj hbw
   go_wp2_with fail
   go_ret
   exact ⟨rfl, HB.out⟩
end Go.Proofs.YtbmlkocpjboodaaDoor
