/- stage 7: Same of the reference; the law's verify -/
import Derived.Test.YtmejjjkbbkgioaaDoorMs24
import Derived.Laws.StructEq
namespace Go.Proofs.YtmejjjkbbkgioaaDoor
open Go.RowKit
set_option maxRecDepth 100000 in
theorem run_equalInE (w : World) (x y : List Int × Int) (hx : Rng x.1) (hy : Rng y.1) : (Op.equalIn 10000 45 (.agg #[.string (str x.1), .int .i64 x.2]) (.agg #[.string (str y.1), .int .i64 y.2])).run Tryd.prog w = .ok (decide (x = y)) w := by
 have u2 := Tryd.underlying2
 have u3 := Tryd.underlying9
 have a2 := Tryd.isAgg2
 have a3 := Tryd.isAgg9
 have hS : Tryd.prog.underlying 45 = some (.struct (Tryd.prog.fieldsOf 45)) := by kernel_rfl
 have hp : Tryd.prog.stoodInHeld 45 = false := by kernel_rfl
 have hb := str_beq hx hy
 rw [show (10000 : Nat) = 9999 + 1 from rfl, run_equalIn_agg w 9999 45 _ _ hS hp]
 simp only [Program.fieldsOf, Tryd.underlying45]
 go_simp
 obtain ⟨xs, xn⟩ := x
 obtain ⟨ys, yn⟩ := y
 by_cases h2 : xn = yn <;> by_cases h3 : xs = ys <;> simp [h2, h3]
set_option maxRecDepth 100000 in
theorem exec_neqE {ρ : Operand → Value} {o : Oper} {w : World} (x y : Operand) (U : TypeId) (ho : o.op = .binOp .neq 45 x y U) (a b : List Int × Int) (hx : ρ x = .agg #[.string (str a.1), .int .i64 a.2]) (hy : ρ y = .agg #[.string (str b.1), .int .i64 b.2]) (ga : Rng a.1) (gb : Rng b.1) :
  (execOp ρ o).run Tryd.prog w = .ok (.value (.bool (!decide (a = b)))) w := by
 have h := run_equalInE w a b ga gb
 have hg : Tryd.prog.eqGuardType Tryd.prog.depth 45 = false := by kernel_rfl
 have hgd : ∀ p q : Array Value, (eqGuard .neq 45 x y (.agg p) (.agg q)).run Tryd.prog w = .ok () w := fun p q => by
  unfold eqGuard
  simp [hg]
 unfold execOp
 rw [ho]
 simp only [hx, hy, Sem.run_bind, hgd, Result.andThen_ok, run_neq_struct, h, Sem.run_pure]
set_option maxRecDepth 100000 in
set_option maxHeartbeats 8000000 in
theorem refSame_any (w : World) (va vb : Value) (la lb : List (List Int × Int)) (ha : RfS w va la) (hb : RfS w vb lb) (ga : ∀ x ∈ la, Rng x.1) (gb : ∀ x ∈ lb, Rng x.1) (hla : la.length ≤ 1073741824) :
  Calls Tryd.prog 17 #[va, vb] w fun d w' => d = .returned (.bool (decide (la = lb))) ∧ Below w.heap.size w w' := by
 have HA := Lib.hid ha
 have HB := Lib.hid hb
 have GA := Lib.hid ga
 have GB := Lib.hid gb
 obtain ⟨aa, ca, rfl, -⟩ := ha
 obtain ⟨ab, cb, rfl, -⟩ := hb
 by_cases hl : la.length = lb.length
 ·have HL := Lib.hid hl
  have hl1 : (la.length : Int) = (lb.length : Int) := by omega
  clear ga gb hl
  generalize hN : la.length = N at *
  have hl2 : lb.length = N := HL.out.symm
  rw [hl2]
  clear hl1
  generalize hQ : decide (la = lb) = Q
  have HQ := Lib.hid hQ
  have HN := Lib.hid (And.intro hN hl2)
  clear hQ hN hl2 HL
  rw [HN.out.2] at HB
  go_enter Tryd.func17, Tryd.ntmps17
  go_wp2_with fail
  go_loopw [5] (fun iv wr => ∃ (j : Nat), j ≤ N ∧ iv = .int .i64 (j : Int) ∧ (∀ i, i < j → la[i]? = lb[i]?) ∧ Below w.heap.size w wr) (fun iv _ => N - (intOf iv).toNat)
  case atStart => exact ⟨0, Nat.zero_le _, rfl, fun i hi => absurd hi (Nat.not_lt_zero _), Below.refl _ _⟩
  case round =>
   obtain ⟨j, hj, rfl, hso, hbw⟩ := hrel
   by_cases hjl : j < N
   ·have hx : la[j]? = some (la[j]'(by rw [HN.out.1]; exact hjl)) := List.getElem?_eq_getElem _
    have hy : lb[j]? = some (lb[j]'(by rw [HN.out.2]; exact hjl)) := List.getElem?_eq_getElem _
    generalize la[j]'(by rw [HN.out.1]; exact hjl) = x at hx
    generalize lb[j]'(by rw [HN.out.2]; exact hjl) = y at hy
    obtain ⟨a', c', he, hall⟩ := HA.out
    injection he with e1 e0 e2
    clear e0
    subst e1 e2
    obtain ⟨g, o, hag, hgl, hc0, hc1⟩ := hall j x hx
    subst hag
    obtain ⟨a'', c'', he2, hall2⟩ := HB.out
    injection he2 with e1 e0 e2
    clear e0
    subst e1 e2
    obtain ⟨g2, o2, hag2, hgl2, hd0, hd1⟩ := hall2 j y hy
    subst hag2
    have hj0 : (0 : Int) ≤ (j : Int) := by omega
    have hj1 : (j : Int) < (N : Int) := by omega
    have HC := Lib.hid (fun u (hu : Below w.heap.size w u) => (show (u.cell? ⟨g, o + j * 2, none⟩ = some (.string (str x.1)) ∧ u.cell? ⟨g, o + j * 2 + 1, none⟩ = some (.int .i64 x.2)) ∧ u.cell? ⟨g2, o2 + j * 2, none⟩ = some (.string (str y.1)) ∧ u.cell? ⟨g2, o2 + j * 2 + 1, none⟩ = some (.int .i64 y.2) from ⟨⟨(World.cell?_of_block (a := ⟨g, o + j * 2, none⟩) (hu.block g hgl)).trans hc0, (World.cell?_of_block (a := ⟨g, o + j * 2 + 1, none⟩) (hu.block g hgl)).trans hc1⟩, (World.cell?_of_block (a := ⟨g2, o2 + j * 2, none⟩) (hu.block g2 hgl2)).trans hd0, (World.cell?_of_block (a := ⟨g2, o2 + j * 2 + 1, none⟩) (hu.block g2 hgl2)).trans hd1⟩))
    have HX := Lib.hid (And.intro hjl (And.intro hso (And.intro hx hy)))
    have gx := GA.out x (List.mem_of_getElem? hx)
    have gy := GB.out y (List.mem_of_getElem? hy)
    have HG := Lib.hid (And.intro gx gy)
    have hb := hbw.drew
    clear gx gy hso hx hy hjl hj hall hall2 hc0 hc1 hd0 hd1 hgl hgl2 hbw
    go_wp2_with fail
    refine wp_region_held_drew (S := fun u => Below w.heap.size w u) (by kernel_rfl) (hb) (fun hHeld => ?_)
    refine wpAnyH_take (i := 0) (oi := ({ dst := some 17, op := .move (.tmp 0), type := 22, pos := "ref.go:251", after := #[], guard := none } : Oper)) (v := ?_) rfl (by kernel_rfl) (by kernel_rfl) (by kernel_rfl) (fun _ _ _ h => h) (Or.inl ⟨by rfl, ?_⟩) (by assumption) ?_
    rotate_left 1
    ·(intro u hSw; go_simp; try with_reducible rfl)
    try simp only [Act.put, List.setIfInBounds_toArray, List.set_cons_zero, List.set_cons_succ]
    refine wpAnyH_take (i := 1) (oi := ({ dst := some 18, op := .move (.tmp 5), type := 3, pos := "ref.go:251", after := #[], guard := none } : Oper)) (v := ?_) rfl (by kernel_rfl) (by kernel_rfl) (by kernel_rfl) (fun _ _ _ h => h) (Or.inl ⟨by rfl, ?_⟩) (by assumption) ?_
    rotate_left 1
    ·(intro u hSw; go_simp; try with_reducible rfl)
    try simp only [Act.put, List.setIfInBounds_toArray, List.set_cons_zero, List.set_cons_succ]
    refine wpAnyH_take (i := 2) (oi := ({ dst := some 19, op := .indexAddr 22 (.tmp 17) (.tmp 18), type := 0, pos := "ref.go:251", after := #[{ on := 0, ground := .data }, { on := 1, ground := .data }], guard := none } : Oper)) (v := ?_) rfl (by kernel_rfl) (by kernel_rfl) (by kernel_rfl) (fun _ _ _ h => h) (Or.inl ⟨by rfl, ?_⟩) (by assumption) ?_
    rotate_left 1
    ·(intro u hSw; go_simp; try with_reducible rfl)
    try simp only [Act.put, List.setIfInBounds_toArray, List.set_cons_zero, List.set_cons_succ]
    refine wpAnyH_take (i := 3) (oi := ({ dst := some 20, op := .load 45 (.tmp 19), type := 45, pos := "ref.go:251", after := #[{ on := 2, ground := .data }], guard := none } : Oper)) (v := ?_) rfl (by kernel_rfl) (by kernel_rfl) (by kernel_rfl) (fun _ _ _ h => h) (Or.inl ⟨by rfl, ?_⟩) (by assumption) ?_
    rotate_left 1
    ·(intro u hSw; have y0 := (HC.out _ hSw).1.1; have y1 := (HC.out _ hSw).1.2; have y2 := (HC.out _ hSw).2.1; have y3 := (HC.out _ hSw).2.2; go_simp; try with_reducible rfl)
    try simp only [Act.put, List.setIfInBounds_toArray, List.set_cons_zero, List.set_cons_succ]
    refine wpAnyH_take (i := 4) (oi := ({ dst := some 21, op := .move (.tmp 1), type := 22, pos := "ref.go:251", after := #[], guard := none } : Oper)) (v := ?_) rfl (by kernel_rfl) (by kernel_rfl) (by kernel_rfl) (fun _ _ _ h => h) (Or.inl ⟨by rfl, ?_⟩) (by assumption) ?_
    rotate_left 1
    ·(intro u hSw; go_simp; try with_reducible rfl)
    try simp only [Act.put, List.setIfInBounds_toArray, List.set_cons_zero, List.set_cons_succ]
    refine wpAnyH_take (i := 5) (oi := ({ dst := some 22, op := .move (.tmp 5), type := 3, pos := "ref.go:251", after := #[], guard := none } : Oper)) (v := ?_) rfl (by kernel_rfl) (by kernel_rfl) (by kernel_rfl) (fun _ _ _ h => h) (Or.inl ⟨by rfl, ?_⟩) (by assumption) ?_
    rotate_left 1
    ·(intro u hSw; go_simp; try with_reducible rfl)
    try simp only [Act.put, List.setIfInBounds_toArray, List.set_cons_zero, List.set_cons_succ]
    refine wpAnyH_take (i := 6) (oi := ({ dst := some 23, op := .indexAddr 22 (.tmp 21) (.tmp 22), type := 0, pos := "ref.go:251", after := #[{ on := 4, ground := .data }, { on := 5, ground := .data }], guard := none } : Oper)) (v := ?_) rfl (by kernel_rfl) (by kernel_rfl) (by kernel_rfl) (fun _ _ _ h => h) (Or.inl ⟨by rfl, ?_⟩) (by assumption) ?_
    rotate_left 1
    ·(intro u hSw; go_simp; try with_reducible rfl)
    try simp only [Act.put, List.setIfInBounds_toArray, List.set_cons_zero, List.set_cons_succ]
    refine wpAnyH_take (i := 7) (oi := ({ dst := some 24, op := .load 45 (.tmp 23), type := 45, pos := "ref.go:251", after := #[{ on := 6, ground := .data }], guard := none } : Oper)) (v := ?_) rfl (by kernel_rfl) (by kernel_rfl) (by kernel_rfl) (fun _ _ _ h => h) (Or.inl ⟨by rfl, ?_⟩) (by assumption) ?_
    rotate_left 1
    ·(intro u hSw; have y0 := (HC.out _ hSw).1.1; have y1 := (HC.out _ hSw).1.2; have y2 := (HC.out _ hSw).2.1; have y3 := (HC.out _ hSw).2.2; go_simp; try with_reducible rfl)
    try simp only [Act.put, List.setIfInBounds_toArray, List.set_cons_zero, List.set_cons_succ]
    refine wpAnyH_take (i := 8) (oi := ({ dst := some 25, op := .binOp BinOp.neq 45 (.tmp 20) (.tmp 24) 45, type := 4, pos := "ref.go:251", after := #[{ on := 3, ground := .data }, { on := 7, ground := .data }], guard := none } : Oper)) (v := .bool (!decide (x = y))) rfl (by kernel_rfl) (by kernel_rfl) (by kernel_rfl) (fun _ _ _ h => h) (Or.inl ⟨by rfl, ?_⟩) (by assumption) ?_
    ·intro u hSw
     exact exec_neqE (Operand.tmp 20) (Operand.tmp 24) _ rfl x y rfl rfl HG.out.1 HG.out.2
    try simp only [Act.put, List.setIfInBounds_toArray, List.set_cons_zero, List.set_cons_succ]
    refine wpAnyH_done (by kernel_rfl) ?_ _
    clear HC hHeld
    have HBB := Lib.hid hb
    clear hb
    by_cases hxy : x = y
    ·have HXY := Lib.hid hxy
     have hd : (!decide (x = y)) = false := by rw [decide_eq_true hxy]; rfl
     rw [hd]
     clear hd hxy
     go_wp2_with fail
     go_roundw
     case rel =>
      refine ⟨j + 1, HX.out.1, by go_num, fun i hi => ?_, HBB.out⟩
      by_cases hij : i < j
      ·exact HX.out.2.1 i hij
      ·have : i = j := by omega
       rw [this, HX.out.2.2.1, HX.out.2.2.2, HXY.out]
     case measure => have := HX.out.1; simp [intOf]; omega
    ·have hd : (!decide (x = y)) = true := by rw [decide_eq_false hxy]; rfl
     rw [hd]
     have HF := Lib.hid (show Q = false by
      rw [← HQ.out]
      exact decide_eq_false (fun e => hxy (by
       have h1 := HX.out.2.2.1
       rw [e, HX.out.2.2.2] at h1
       injection h1 with h1
       exact h1.symm)))
     clear hd hxy
     go_wp2_with fail
     go_ret
     rw [HF.out]
     exact ⟨rfl, HBB.out⟩
   ·have hj2 : j = N := by omega
    subst hj2
    have HF := Lib.hid (show Q = true by
     rw [← HQ.out]
     refine decide_eq_true (List.ext_getElem? (fun i => ?_))
     by_cases hi : i < j
     ·exact hso i hi
     ·rw [List.getElem?_eq_none (by rw [HN.out.1]; omega), List.getElem?_eq_none (by rw [HN.out.2]; omega)])
    have HBB := Lib.hid hbw
    clear hso hbw
    go_wp2_with fail
    go_ret
    rw [HF.out]
    exact ⟨rfl, HBB.out⟩
 ·have HF := Lib.hid (decide_eq_false (fun e : la = lb => hl (by rw [e])))
  have hl1 : ¬ (la.length : Int) = (lb.length : Int) := by omega
  have hl2 : ¬ la.length = lb.length := hl
  clear hl ga gb
  go_enter Tryd.func17, Tryd.ntmps17
  go_wp2_with fail
  go_ret
  rw [HF.out]
  exact ⟨rfl, Below.refl _ _⟩
end Go.Proofs.YtmejjjkbbkgioaaDoor
/- stage 7: the law's verify -/
namespace Go.Proofs.YtmejjjkbbkgioaaDoor
open Go.RowKit
set_option maxRecDepth 100000 in
set_option maxHeartbeats 8000000 in
theorem lawVerify_any (w : World) (root fr to : List Int) (e : Bool) (pv : Value) (pf : List Int) (hr : root.length = 32) (hp : Bs w pv pf) (gf : Rng fr) (gt : Rng to) (gp : Rng pf) (hK : KC w) (hbd : ∀ t, rdAll pf = .inr t → (t.ents fr to e).length ≤ 1099511627776) :
  Calls Tryd.prog 22 #[.agg (ArrU8 root), .agg #[.string (str fr), .string (str to), .bool e], pv] w fun d w' => VEnd w d w' (verO root fr to e pf) := by
 have hbb : Below w.heap.size w ((w.alloc (.cells (ArrU8 root) 36)).alloc (.cells #[.string (str fr), .string (str to), .bool e] 24)) := ((Below.refl _ _).alloc (Nat.le_refl _) _).alloc (by simp) _
 have hx0 : (((w.alloc (.cells (ArrU8 root) 36)).alloc (.cells #[.string (str fr), .string (str to), .bool e] 24))).heap[w.heap.size]? = some (.cells (ArrU8 root) 36 (0, 0)) := (heap_alloc_old _ _ (by simp)).trans (heap_alloc_new _ _)
 have hx1 : (((w.alloc (.cells (ArrU8 root) 36)).alloc (.cells #[.string (str fr), .string (str to), .bool e] 24))).heap[w.heap.size + 1]? = some (.cells #[.string (str fr), .string (str to), .bool e] 24 (0, 0)) := by
  have h := heap_alloc_new (w.alloc (.cells (ArrU8 root) 36)) (.cells #[.string (str fr), .string (str to), .bool e] 24)
  rwa [World.size_alloc] at h
 generalize hWW : ((w.alloc (.cells (ArrU8 root) 36)).alloc (.cells #[.string (str fr), .string (str to), .bool e] 24)) = w1 at *
 obtain ⟨U1, a1, c1, q1, b1, k1⟩ := conv_str w1 fr gf
 obtain ⟨U2, a2, c2, q2, b2, k2⟩ := conv_str U1 to gt
 have hb1 := hbb.trans (b1.mono hbb.size)
 have hb2 := hb1.trans (b2.mono hb1.size)
 have HP := Lib.hid (Verify_any U2 root (.slice a1 fr.length c1) (.slice a2 to.length c2) pv fr to e pf hr (k1.below b2) k2 (hp.below hb2) gf gt gp (hK.below hb2 hK.1) hbd)
 have HB := Lib.hid hb2
 have Q1 := Lib.hid q1
 have Q2 := Lib.hid q2
 have hS := sz32 _ hr
 have HIR := Lib.hid (show (Tryd.prog.info? 36).map (·.size) = some (ArrU8 root).size by rw [hS]; exact info_dg)
 have HX0 := Lib.hid hx0
 have c10 : w1.cell? ⟨w.heap.size + 1, 0, none⟩ = some (.string (str fr)) := cell_of_row _ _ 0 _ _ _ hx1
 have hy1 := (b1.block _ (blk_lt hx1)).trans hx1
 have hy2 := (b2.block _ (blk_lt hy1)).trans hy1
 have c11 : U1.cell? ⟨w.heap.size + 1, 1, none⟩ = some (.string (str to)) := cell_of_row _ _ 1 _ _ _ hy1
 have c12 : U2.cell? ⟨w.heap.size + 1, 2, none⟩ = some (.bool e) := cell_of_row _ _ 2 _ _ _ hy2
 obtain ⟨ap, cp, rfl⟩ := (show ∃ a c, pv = .slice a pf.length c from by obtain ⟨a, c, e, -⟩ := hp; exact ⟨a, c, e⟩)
 generalize verO root fr to e pf = R at *
 clear hbb b1 k1 b2 k2 hb1 hb2 hp gf gt gp hK hbd hx0 hx1 hy1 hy2 q1 q2 hS
 go_enter Tryd.func22, Tryd.ntmps22
 go_wp2_with (first
  | (refine wpList_load_row rfl 36 (Operand.tmp 3) rfl w.heap.size rfl 36 (ArrU8 root) (0, 0) _ HX0.out Tryd.underlying36 rfl HIR.out ?_)
  | (refine wpList_of_run (o := ⟨some 11, _, _, _, _, _⟩) rfl (exec_conv (Operand.tmp 10) rfl _ rfl _ Q1.out) ?_)
  | (refine wpList_of_run (o := ⟨some 14, _, _, _, _, _⟩) rfl (exec_conv (Operand.tmp 13) rfl _ rfl _ Q2.out) ?_))
 clear hWW c10 c11 c12
 refine HP.out.mono ?_
 rintro d w3 hv
 cases R with
 | inl c =>
  obtain ⟨hc, rfl, hb⟩ := hv
  have HF := Lib.hid (And.intro hc (HB.out.trans (hb.mono HB.out.size)))
  clear hc hb
  go_wp2_with fail
  go_ret2
  exact ⟨HF.out.1, rfl, HF.out.2⟩
 | inr es =>
  obtain ⟨v, rfl, hen, hb⟩ := hv
  obtain ⟨av, cv, rfl⟩ := hen.slc
  have HF := Lib.hid (And.intro (hen.after HB.out) (HB.out.trans (hb.mono HB.out.size)))
  clear hen hb
  go_wp2_with fail
  go_ret2
  exact ⟨_, rfl, HF.out.1, HF.out.2⟩
end Go.Proofs.YtmejjjkbbkgioaaDoor
/- stage 7: MerkleComplete -/
namespace Go.Proofs.YtmejjjkbbkgioaaDoor
open Go.RowKit
theorem ino_len : ∀ t : MT, t.ino.length ≤ t.size
 | .nil => Nat.le_refl _
 | .cut _ => Nat.le_refl _
 | .nd k n rk d l r => by
  have h1 := ino_len l
  have h2 := ino_len r
  simp only [MT.ino, MT.size, List.length_append, List.length_cons]
  omega
theorem ino_rng : ∀ t : MT, t.Good → ∀ x ∈ t.ino, Rng x.1
 | .nil, _, x, h => by cases h
 | .cut _, _, x, h => by cases h
 | .nd k n rk d l r, g, x, h => by
  obtain ⟨-, gl, gr, -, hk, -⟩ := g
  unfold MT.ino at h
  rcases List.mem_append.1 h with h | h
  ·exact ino_rng l gl x h
  ·rcases List.mem_cons.1 h with rfl | h
   ·exact hk
   ·exact ino_rng r gr x h
theorem RfO.cgX {w w' : World} {B X : Nat} {v : Value} {l : List (List Int × Nat)} (h : RfO w B v l) (hc : Chg (fun q => q = X) w w') (hX : X < B) : RfO w' B v l := by
 have hlt := h.lt
 refine ⟨h.1, h.2.imp id ?_⟩
 rintro ⟨g, cap, cur, rfl, q1, q2, q3⟩
 exact ⟨g, cap, cur, rfl, q1, (hc.block g (hlt g rfl).2 (by omega)).trans q2, q3⟩
theorem toI_rng {l : List (List Int × Nat)} (h : ∀ x ∈ l, Rng x.1) : ∀ x ∈ l.map toI, Rng x.1 := fun x hx => by
 obtain ⟨y, hy, rfl⟩ := List.mem_map.1 hx
 exact h y hy
/-- the law's tree and list under way, behind j entries; the list lies from block B on -/
def TV2 (w : World) (X B : Nat) (l : List (List Int × Int)) (j : Nat) (wv : Value) (u : World) : Prop :=
 ∃ x t, t = putsE (l.take j) .nil ∧ TIs u X x ∧ MIs u (fun q => q ≠ X) x t ∧ Wh2 t j ∧ RfO u B wv t.ino ∧ KC u ∧ B ≤ u.heap.size ∧ Below w.heap.size w u
end Go.Proofs.YtmejjjkbbkgioaaDoor
/- stage 7, plain: how much a proof's bytes can tell -/
namespace Go.Proofs.YtmejjjkbbkgioaaDoor
open Go.RowKit
theorem rdEnt_len {l : List Int} {k : List Int} {n : Nat} {r : List Int} (h : rdEnt l = .inr ((k, n), r)) : r.length + 1 ≤ l.length := by
 unfold rdEnt at h
 split at h
 ·cases h
 ·rename_i h1
  split at h
  ·cases h
  ·rename_i h2
   split at h
   ·cases h
   ·rename_i h3
    split at h
    ·cases h
    ·simp only [Sum.inr.injEq, Prod.mk.injEq] at h
     obtain ⟨-, rfl⟩ := h
     simp only [List.length_drop] at *
     omega
theorem rdT_len : ∀ (D : Nat) (l : List Int) (t : MT) (r : List Int), rdT D l = .inr (t, r) → t.size + r.length ≤ l.length
 | 0, _, _, _, h => by cases h
 | _ + 1, [], _, _, h => by cases h
 | D + 1, x :: l, t, r, h => by
  unfold rdT at h
  split at h
  ·simp only [Sum.inr.injEq, Prod.mk.injEq] at h
   obtain ⟨rfl, rfl⟩ := h
   simp only [MT.size, List.length_cons]; omega
  ·split at h
   ·unfold rdP at h
    split at h
    ·cases h
    ·simp only [Sum.inr.injEq, Prod.mk.injEq] at h
     obtain ⟨rfl, rfl⟩ := h
     simp only [MT.size, List.length_cons, List.length_drop]; omega
   ·split at h
    ·unfold rdNd at h
     cases h1 : rdT D l with
     | inl c => rw [h1] at h; cases h
     | inr p =>
      obtain ⟨tl, r1⟩ := p
      have i1 := rdT_len D l tl r1 h1
      rw [h1] at h
      simp only at h
      cases h2 : rdEnt r1 with
      | inl c => rw [h2] at h; cases h
      | inr p2 =>
       obtain ⟨⟨k, n⟩, r2⟩ := p2
       have i2 := rdEnt_len h2
       rw [h2] at h
       simp only at h
       cases h3 : rdT D r2 with
       | inl c => rw [h3] at h; cases h
       | inr p3 =>
        obtain ⟨tr, r3⟩ := p3
        have i3 := rdT_len D r2 tr r3 h3
        rw [h3] at h
        simp only [Sum.inr.injEq, Prod.mk.injEq] at h
        obtain ⟨rfl, rfl⟩ := h
        simp only [mkN, MT.size, List.length_cons]; omega
    ·cases h
theorem rdAll_len {l : List Int} {t : MT} (h : rdAll l = .inr t) : t.size ≤ l.length := by
  unfold rdAll at h
  cases h1 : rdT 4097 l with
  | inl c => rw [h1] at h; cases h
  | inr p =>
    obtain ⟨y, r⟩ := p
    have := rdT_len 4097 l y r h1
    rw [h1] at h
    simp only at h
    split at h
    · injection h with h
      subst h
      omega
    · cases h
theorem verO_inr {root fr to : List Int} {e : Bool} {pf : List Int} {es : List (List Int × Nat)} (h : verO root fr to e pf = .inr es) : ∃ y, rdAll pf = .inr y ∧ es = y.ents fr to e := by
 unfold verO at h
 cases hr : rdAll pf with
 | inl c => rw [hr] at h; cases h
 | inr y =>
  rw [hr] at h
  have h' : (if y.ascends = false then (.inl 9 : Int ⊕ List (List Int × Nat)) else if y.tells fr to e = false then .inl 50 else if y.dg = root then .inr (y.ents fr to e) else .inl 51) = .inr es := h
  split at h'
  ·cases h'
  ·split at h'
   ·cases h'
   ·split at h'
    ·injection h' with h'
     exact ⟨y, rfl, h'.symm⟩
    ·cases h'
end Go.Proofs.YtmejjjkbbkgioaaDoor
