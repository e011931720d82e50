/-
  ValueOrder: of any three values (of bulk at most 1048576 together, such as may not be, too) none is ahead of itself, and who is ahead of another one is ahead of those behind: the law says true and leaves its arguments as they were. Condition: the second form's bound.
-/
import Derived.Test.YtkcjegdmcboohaaVo00
import Derived.Test.YtkcjegdmcboohaaVo01
import Derived.Test.YtkcjegdmcboohaaVo05
import Derived.WalkKit
import Derived.ProofKit
import Derived.OpenShut
namespace Go.Proofs.Ytkcjegdmcboohaa
open Go.RowKit
def lexI (a b : Int) : Int := if a ≠ 0 then a else b
theorem orI_lex (a b c : Int) : orI a b c = lexI a (lexI b c) := by simp [orI, lexI]
/-- three comparisons of three things, as an order has them -/
def Tr3 (ab bc ac : Int) : Prop := (-1 ≤ ab ∧ ab ≤ 1) ∧ (-1 ≤ bc ∧ bc ≤ 1) ∧ (-1 ≤ ac ∧ ac ≤ 1) ∧ (0 < ab ∨ 0 < bc ∨ (ac < 0 ∧ (ab < 0 ∨ bc < 0)) ∨ (ac = 0 ∧ ab = 0 ∧ bc = 0)) ∧ (ab < 0 ∨ bc < 0 ∨ (0 < ac ∧ (0 < ab ∨ 0 < bc)) ∨ (ac = 0 ∧ ab = 0 ∧ bc = 0)) ∧ (ab ≠ 0 ∨ ac = bc) ∧ (bc ≠ 0 ∨ ac = ab)
theorem lex_two (a b : Int) : (a ≠ 0 ∧ lexI a b = a) ∨ (a = 0 ∧ lexI a b = b) := by
  by_cases h : a = 0
  · exact .inr ⟨h, by simp [lexI, h]⟩
  · exact .inl ⟨h, by simp [lexI, h]⟩
theorem tr_lex {a1 a2 a3 b1 b2 b3 : Int} (ha : Tr3 a1 a2 a3) (hb : Tr3 b1 b2 b3) : Tr3 (lexI a1 b1) (lexI a2 b2) (lexI a3 b3) := by
  have k1 := lex_two a1 b1
  have k2 := lex_two a2 b2
  have k3 := lex_two a3 b3
  generalize lexI a1 b1 = p1 at *
  generalize lexI a2 b2 = p2 at *
  generalize lexI a3 b3 = p3 at *
  unfold Tr3 at *
  rcases k1 with ⟨u1, rfl⟩ | ⟨u1, rfl⟩ <;> rcases k2 with ⟨u2, rfl⟩ | ⟨u2, rfl⟩ <;> rcases k3 with ⟨u3, rfl⟩ | ⟨u3, rfl⟩ <;> (refine ⟨⟨?_, ?_⟩, ⟨?_, ?_⟩, ⟨?_, ?_⟩, ?_, ?_, ?_, ?_⟩ <;> omega)
theorem tr_sg (x y z : Int) : Tr3 (sgI x y) (sgI y z) (sgI x z) := by
  unfold Tr3 sgI
  split <;> split <;> split <;> (try split) <;> (try split) <;> (try split) <;> (refine ⟨⟨?_, ?_⟩, ⟨?_, ?_⟩, ⟨?_, ?_⟩, ?_, ?_, ?_, ?_⟩ <;> omega)
theorem cmpI_rng : ∀ l m : List Int, -1 ≤ cmpI l m ∧ cmpI l m ≤ 1
  | [], [] => by simp [cmpI]
  | [], _ :: _ => by simp [cmpI]
  | _ :: _, [] => by simp [cmpI]
  | x :: l, y :: m => by
    have := cmpI_rng l m
    simp only [cmpI]; split; omega; split <;> omega
theorem tr_cmp : ∀ l m n : List Int, Tr3 (cmpI l m) (cmpI m n) (cmpI l n)
  | [], [], n => by have := cmpI_rng [] n; unfold Tr3; simp only [cmpI]; cases n <;> simp [cmpI]
  | [], y :: m, [] => by unfold Tr3; simp [cmpI]
  | [], y :: m, z :: n => by have := cmpI_rng (y :: m) (z :: n); unfold Tr3; rw [show cmpI [] (y :: m) = -1 from rfl, show cmpI [] (z :: n) = -1 from rfl]; refine ⟨⟨?_, ?_⟩, ⟨?_, ?_⟩, ⟨?_, ?_⟩, ?_, ?_, ?_, ?_⟩ <;> omega
  | x :: l, [], [] => by unfold Tr3; simp [cmpI]
  | x :: l, [], z :: n => by have := cmpI_rng (x :: l) (z :: n); unfold Tr3; rw [show cmpI (x :: l) [] = 1 from rfl, show cmpI [] (z :: n) = -1 from rfl]; refine ⟨⟨?_, ?_⟩, ⟨?_, ?_⟩, ⟨?_, ?_⟩, ?_, ?_, ?_, ?_⟩ <;> omega
  | x :: l, y :: m, [] => by have := cmpI_rng (x :: l) (y :: m); unfold Tr3; rw [show cmpI (x :: l) [] = 1 from rfl, show cmpI (y :: m) [] = 1 from rfl]; refine ⟨⟨?_, ?_⟩, ⟨?_, ?_⟩, ⟨?_, ?_⟩, ?_, ?_, ?_, ?_⟩ <;> omega
  | x :: l, y :: m, z :: n => by
    have h := tr_lex (tr_sg x y z) (tr_cmp l m n)
    have e : ∀ (a b : Int) (p q : List Int), lexI (sgI a b) (cmpI p q) = cmpI (a :: p) (b :: q) := by
      intro a b p q
      simp only [lexI, sgI, cmpI]
      by_cases h1 : a < b
      · simp [h1]
      · by_cases h2 : b < a <;> simp [h1, h2]
    rw [e, e, e] at h
    exact h
theorem tr_cmpV (a b c : Val) : Tr3 (cmpV a b) (cmpV b c) (cmpV a c) := by
  simp only [cmpV, ordV, orI_lex]
  exact tr_lex (tr_sg _ _ _) (tr_lex (tr_sg _ _ _) (tr_cmp _ _ _))
theorem sgI_neg (x y : Int) : sgI y x = - sgI x y := by unfold sgI; split <;> split <;> omega
theorem cmpI_neg : ∀ l m : List Int, cmpI m l = - cmpI l m
  | [], [] => rfl
  | [], _ :: _ => rfl
  | _ :: _, [] => rfl
  | x :: l, y :: m => by
    have ih := cmpI_neg l m
    simp only [cmpI]
    by_cases h1 : x < y
    · rw [if_pos h1, if_neg (by omega), if_pos h1]; rfl
    · by_cases h2 : y < x
      · rw [if_pos h2, if_neg h1, if_pos h2]
      · rw [if_neg h2, if_neg h1, if_neg h1, if_neg h2, ih]
theorem lexI_neg (a b : Int) : lexI (-a) (-b) = - lexI a b := by unfold lexI; split <;> split <;> omega
theorem cmpV_neg (a b : Val) : cmpV b a = - cmpV a b := by
  simp only [cmpV, ordV, orI_lex]
  rw [sgI_neg, sgI_neg (normV a).n, cmpI_neg (normV a).s, lexI_neg, lexI_neg]
theorem cmpV_self (a : Val) : cmpV a a = 0 := by
  have h := cmpV_neg a a
  omega
end Go.Proofs.Ytkcjegdmcboohaa
namespace Go.Proofs.Ytkcjegdmcboohaa
open Go.RowKit
def Thr (w u : World) (x y z : Val) : Prop := u.heap[w.heap.size]? = some (BX x.k x.n (str x.s)) ∧ u.heap[w.heap.size + 1]? = some (BX y.k y.n (str y.s)) ∧ u.heap[w.heap.size + 1 + 1]? = some (BX z.k z.n (str z.s)) ∧ Below w.heap.size w u
theorem Thr.drew {w u : World} {x y z : Val} (h : Thr w u x y z) : Thr w u.drew x y z := ⟨h.1, h.2.1, h.2.2.1, h.2.2.2.drew⟩
theorem Thr.below {w u v : World} {x y z : Val} (h : Thr w u x y z) (hb : Below u.heap.size u v) : Thr w v x y z :=
  ⟨(hb.block _ (bx_lt h.1)).trans h.1, (hb.block _ (bx_lt h.2.1)).trans h.2.1, (hb.block _ (bx_lt h.2.2.1)).trans h.2.2.1, bl_tr h.2.2.2 hb⟩
theorem thr_1 {w u : World} {x y z : Val} (h : Thr w u x y z) : u.cell? ⟨w.heap.size, 0, none⟩ = some (.int .i64 x.k) ∧ u.cell? ⟨w.heap.size, 1, none⟩ = some (.int .i64 x.n) ∧ u.cell? ⟨w.heap.size, 2, none⟩ = some (.string (str x.s)) := bx_cells h.1
theorem thr_new (w : World) (x y z : Val) : Thr w (((w.alloc (BX x.k x.n (str x.s))).alloc (BX y.k y.n (str y.s))).alloc (BX z.k z.n (str z.s))) x y z :=
  ⟨hp_al (two_new w x y).1 _, hp_al (two_new w x y).2.1 _, hp_3 w _ _ _, bl_al (two_new w x y).2.2 _⟩
set_option maxRecDepth 100000 in
set_option maxHeartbeats 6400000 in
theorem order_walk (a b c : Val) (w : World) (ha : a.OK) (hb : b.OK) (hc : c.OK) : Calls Try.prog 7 #[.agg #[.int .i64 a.k, .int .i64 a.n, .string (str a.s)], .agg #[.int .i64 b.k, .int .i64 b.n, .string (str b.s)], .agg #[.int .i64 c.k, .int .i64 c.n, .string (str c.s)]] w fun e w' => e = .returned (.bool true) ∧ Below w.heap.size w w' := by
  have hT := thr_new w a b c
  have HT := Lib.hid hT
  have h3 := tr_cmpV a b c
  have HAB := Lib.hid (fun u => compare_any a b u ha.1 hb.1)
  have HBC := Lib.hid (fun u => compare_any b c u hb.1 hc.1)
  have HAC := Lib.hid (fun u => compare_any a c u ha.1 hc.1)
  have HBA := Lib.hid (fun u => cmpV_neg a b ▸ compare_any b a u hb.1 ha.1)
  have HAA := Lib.hid (fun u => cmpV_self a ▸ compare_any a a u ha.1 ha.1)
  generalize cmpV a b = p at *
  generalize cmpV b c = q at *
  generalize cmpV a c = r at *
  have H3 := Lib.hid h3
  have w1 : wrap64 (-p) = -p := w64_in (by unfold Tr3 at h3; unfold I64; omega)
  have g1 : decide (p < -1) = false := decide_eq_false (by unfold Tr3 at h3; omega)
  have g2 : decide (1 < p) = false := decide_eq_false (by unfold Tr3 at h3; omega)
  have g3 : (-p != -p) = false := by simp
  clear hT h3 ha hb hc
  go_enter Try.func7, Try.ntmps7
  go_wp2_with (go_at_call 12; refine (awake_any _).mono ?_; rintro e w2 ⟨rfl, hb2⟩; have HT2 := Lib.hid (HT.out.below hb2); clear hb2)
  refine wp_region_held_drew (S := fun u => Thr w u a b c) (by kernel_rfl) (HT2.out.drew) (fun hHeld => ?_)
  refine wpAnyH_take (i := 0) (oi := ({ dst := some 12, op := Op.load 23 (Operand.tmp 3), type := 23, pos := "law.go:63", after := #[], guard := none } : Oper)) (v := ?_) rfl (by kernel_rfl) (by kernel_rfl) (by kernel_rfl) (fun _ _ _ h => h) (Or.inl ⟨by rfl, ?_⟩) (by assumption) ?_
  rotate_left 1
  · (intro u hSw; have p0 := (bx_cells hSw.1).1; have p1 := (bx_cells hSw.1).2.1; have p2 := (bx_cells hSw.1).2.2; have q0 := (bx_cells hSw.2.1).1; have q1 := (bx_cells hSw.2.1).2.1; have q2 := (bx_cells hSw.2.1).2.2; have r0 := (bx_cells hSw.2.2.1).1; have r1 := (bx_cells hSw.2.2.1).2.1; have r2 := (bx_cells hSw.2.2.1).2.2; go_simp; try with_reducible rfl)
  try simp only [Act.put, List.setIfInBounds_toArray, List.set_cons_zero, List.set_cons_succ]
  refine wpAnyH_take (i := 1) (oi := ({ dst := some 13, op := Op.load 23 (Operand.tmp 4), type := 23, pos := "law.go:63", after := #[], guard := none } : Oper)) (v := ?_) rfl (by kernel_rfl) (by kernel_rfl) (by kernel_rfl) (fun _ _ _ h => h) (Or.inl ⟨by rfl, ?_⟩) (by assumption) ?_
  rotate_left 1
  · (intro u hSw; have p0 := (bx_cells hSw.1).1; have p1 := (bx_cells hSw.1).2.1; have p2 := (bx_cells hSw.1).2.2; have q0 := (bx_cells hSw.2.1).1; have q1 := (bx_cells hSw.2.1).2.1; have q2 := (bx_cells hSw.2.1).2.2; have r0 := (bx_cells hSw.2.2.1).1; have r1 := (bx_cells hSw.2.2.1).2.1; have r2 := (bx_cells hSw.2.2.1).2.2; go_simp; try with_reducible rfl)
  try simp only [Act.put, List.setIfInBounds_toArray, List.set_cons_zero, List.set_cons_succ]
  refine wpAnyH_take (i := 3) (oi := ({ dst := some 15, op := Op.load 23 (Operand.tmp 4), type := 23, pos := "law.go:63", after := #[], guard := none } : Oper)) (v := ?_) rfl (by kernel_rfl) (by kernel_rfl) (by kernel_rfl) (fun _ _ _ h => h) (Or.inl ⟨by rfl, ?_⟩) (by assumption) ?_
  rotate_left 1
  · (intro u hSw; have p0 := (bx_cells hSw.1).1; have p1 := (bx_cells hSw.1).2.1; have p2 := (bx_cells hSw.1).2.2; have q0 := (bx_cells hSw.2.1).1; have q1 := (bx_cells hSw.2.1).2.1; have q2 := (bx_cells hSw.2.1).2.2; have r0 := (bx_cells hSw.2.2.1).1; have r1 := (bx_cells hSw.2.2.1).2.1; have r2 := (bx_cells hSw.2.2.1).2.2; go_simp; try with_reducible rfl)
  try simp only [Act.put, List.setIfInBounds_toArray, List.set_cons_zero, List.set_cons_succ]
  refine wpAnyH_take (i := 4) (oi := ({ dst := some 16, op := Op.load 23 (Operand.tmp 5), type := 23, pos := "law.go:63", after := #[], guard := none } : Oper)) (v := ?_) rfl (by kernel_rfl) (by kernel_rfl) (by kernel_rfl) (fun _ _ _ h => h) (Or.inl ⟨by rfl, ?_⟩) (by assumption) ?_
  rotate_left 1
  · (intro u hSw; have p0 := (bx_cells hSw.1).1; have p1 := (bx_cells hSw.1).2.1; have p2 := (bx_cells hSw.1).2.2; have q0 := (bx_cells hSw.2.1).1; have q1 := (bx_cells hSw.2.1).2.1; have q2 := (bx_cells hSw.2.1).2.2; have r0 := (bx_cells hSw.2.2.1).1; have r1 := (bx_cells hSw.2.2.1).2.1; have r2 := (bx_cells hSw.2.2.1).2.2; go_simp; try with_reducible rfl)
  try simp only [Act.put, List.setIfInBounds_toArray, List.set_cons_zero, List.set_cons_succ]
  refine wpAnyH_take (i := 6) (oi := ({ dst := some 18, op := Op.load 23 (Operand.tmp 3), type := 23, pos := "law.go:63", after := #[], guard := none } : Oper)) (v := ?_) rfl (by kernel_rfl) (by kernel_rfl) (by kernel_rfl) (fun _ _ _ h => h) (Or.inl ⟨by rfl, ?_⟩) (by assumption) ?_
  rotate_left 1
  · (intro u hSw; have p0 := (bx_cells hSw.1).1; have p1 := (bx_cells hSw.1).2.1; have p2 := (bx_cells hSw.1).2.2; have q0 := (bx_cells hSw.2.1).1; have q1 := (bx_cells hSw.2.1).2.1; have q2 := (bx_cells hSw.2.1).2.2; have r0 := (bx_cells hSw.2.2.1).1; have r1 := (bx_cells hSw.2.2.1).2.1; have r2 := (bx_cells hSw.2.2.1).2.2; go_simp; try with_reducible rfl)
  try simp only [Act.put, List.setIfInBounds_toArray, List.set_cons_zero, List.set_cons_succ]
  refine wpAnyH_take (i := 7) (oi := ({ dst := some 19, op := Op.load 23 (Operand.tmp 5), type := 23, pos := "law.go:63", after := #[], guard := none } : Oper)) (v := ?_) rfl (by kernel_rfl) (by kernel_rfl) (by kernel_rfl) (fun _ _ _ h => h) (Or.inl ⟨by rfl, ?_⟩) (by assumption) ?_
  rotate_left 1
  · (intro u hSw; have p0 := (bx_cells hSw.1).1; have p1 := (bx_cells hSw.1).2.1; have p2 := (bx_cells hSw.1).2.2; have q0 := (bx_cells hSw.2.1).1; have q1 := (bx_cells hSw.2.1).2.1; have q2 := (bx_cells hSw.2.1).2.2; have r0 := (bx_cells hSw.2.2.1).1; have r1 := (bx_cells hSw.2.2.1).2.1; have r2 := (bx_cells hSw.2.2.1).2.2; go_simp; try with_reducible rfl)
  try simp only [Act.put, List.setIfInBounds_toArray, List.set_cons_zero, List.set_cons_succ]
  refine wpAnyH_ready (rs := [2]) (by kernel_rfl) (by simp) ?_
  refine AllReadyH.cons (o := ({ dst := some 14, op := Op.call { callee := Callee.value (Operand.func 18), args := #[Operand.tmp 12, Operand.tmp 13], argTypes := #[23, 23] }, type := 3, pos := "law.go:63", after := #[{ on := 0, ground := Ground.data }, { on := 1, ground := Ground.data }], guard := none } : Oper)) rfl (fun K hK => ?_) AllReadyH.nil
  go_simp
  go_at_call 18
  refine (HAB.out _).mono ?_
  rintro e w' ⟨rfl, hb⟩
  go_wp2_with fail
  refine hK.out _ _ (hHeld.below hb) (fun hHeld => ?_)
  clear hK K
  try simp only [Act.put, List.setIfInBounds_toArray, List.set_cons_zero, List.set_cons_succ]
  refine wpAnyH_ready (rs := [5]) (by kernel_rfl) (by simp) ?_
  refine AllReadyH.cons (o := ({ dst := some 17, op := Op.call { callee := Callee.value (Operand.func 18), args := #[Operand.tmp 15, Operand.tmp 16], argTypes := #[23, 23] }, type := 3, pos := "law.go:63", after := #[{ on := 3, ground := Ground.data }, { on := 4, ground := Ground.data }, { on := 2, ground := Ground.chain }], guard := none } : Oper)) rfl (fun K hK => ?_) AllReadyH.nil
  go_simp
  go_at_call 18
  refine (HBC.out _).mono ?_
  rintro e w' ⟨rfl, hb⟩
  go_wp2_with fail
  refine hK.out _ _ (hHeld.below hb) (fun hHeld => ?_)
  clear hK K
  try simp only [Act.put, List.setIfInBounds_toArray, List.set_cons_zero, List.set_cons_succ]
  refine wpAnyH_ready (rs := [8]) (by kernel_rfl) (by simp) ?_
  refine AllReadyH.cons (o := ({ dst := some 20, op := Op.call { callee := Callee.value (Operand.func 18), args := #[Operand.tmp 18, Operand.tmp 19], argTypes := #[23, 23] }, type := 3, pos := "law.go:63", after := #[{ on := 6, ground := Ground.data }, { on := 7, ground := Ground.data }, { on := 5, ground := Ground.chain }], guard := none } : Oper)) rfl (fun K hK => ?_) AllReadyH.nil
  go_simp
  go_at_call 18
  refine (HAC.out _).mono ?_
  rintro e w' ⟨rfl, hb⟩
  go_wp2_with fail
  refine hK.out _ _ (hHeld.below hb) (fun hHeld => ?_)
  clear hK K
  try simp only [Act.put, List.setIfInBounds_toArray, List.set_cons_zero, List.set_cons_succ]
  refine wpAnyH_take (i := 9) (oi := ({ dst := some 7, op := Op.assign (Operand.tmp 14), type := 3, pos := "law.go:63", after := #[{ on := 2, ground := Ground.data }, { on := 8, ground := Ground.chain }, { on := 0, ground := Ground.phase }, { on := 1, ground := Ground.phase }, { on := 2, ground := Ground.phase }, { on := 3, ground := Ground.textOnly Departure.lateStores }, { on := 4, ground := Ground.textOnly Departure.lateStores }, { on := 5, ground := Ground.textOnly Departure.lateStoresUnsure }, { on := 6, ground := Ground.textOnly Departure.lateStores }, { on := 7, ground := Ground.textOnly Departure.lateStores }, { on := 8, ground := Ground.textOnly Departure.lateStoresUnsure }], guard := none } : Oper)) (v := ?_) rfl (by kernel_rfl) (by kernel_rfl) (by kernel_rfl) (fun _ _ _ h => h) (Or.inl ⟨by rfl, ?_⟩) (by assumption) ?_
  rotate_left 1
  · (intro u hSw; go_simp; try with_reducible rfl)
  try simp only [Act.put, List.setIfInBounds_toArray, List.set_cons_zero, List.set_cons_succ]
  refine wpAnyH_take (i := 10) (oi := ({ dst := some 8, op := Op.assign (Operand.tmp 17), type := 3, pos := "law.go:63", after := #[{ on := 5, ground := Ground.data }, { on := 9, ground := Ground.chain }, { on := 0, ground := Ground.phase }, { on := 1, ground := Ground.phase }, { on := 2, ground := Ground.phase }, { on := 3, ground := Ground.phase }, { on := 4, ground := Ground.phase }, { on := 5, ground := Ground.phase }, { on := 6, ground := Ground.textOnly Departure.lateStores }, { on := 7, ground := Ground.textOnly Departure.lateStores }, { on := 8, ground := Ground.textOnly Departure.lateStoresUnsure }, { on := 9, ground := Ground.phase }], guard := none } : Oper)) (v := ?_) rfl (by kernel_rfl) (by kernel_rfl) (by kernel_rfl) (fun _ _ _ h => h) (Or.inl ⟨by rfl, ?_⟩) (by assumption) ?_
  rotate_left 1
  · (intro u hSw; go_simp; try with_reducible rfl)
  try simp only [Act.put, List.setIfInBounds_toArray, List.set_cons_zero, List.set_cons_succ]
  refine wpAnyH_take (i := 11) (oi := ({ dst := some 9, op := Op.assign (Operand.tmp 20), type := 3, pos := "law.go:63", after := #[{ on := 8, ground := Ground.data }, { on := 10, ground := Ground.chain }, { on := 0, ground := Ground.phase }, { on := 1, ground := Ground.phase }, { on := 2, ground := Ground.phase }, { on := 3, ground := Ground.phase }, { on := 4, ground := Ground.phase }, { on := 5, ground := Ground.phase }, { on := 6, ground := Ground.phase }, { on := 7, ground := Ground.phase }, { on := 8, ground := Ground.phase }, { on := 9, ground := Ground.phase }, { on := 10, ground := Ground.phase }], guard := none } : Oper)) (v := ?_) rfl (by kernel_rfl) (by kernel_rfl) (by kernel_rfl) (fun _ _ _ h => h) (Or.inl ⟨by rfl, ?_⟩) (by assumption) ?_
  rotate_left 1
  · (intro u hSw; go_simp; try with_reducible rfl)
  try simp only [Act.put, List.setIfInBounds_toArray, List.set_cons_zero, List.set_cons_succ]
  refine wpAnyH_done (by kernel_rfl) ?_ _
  obtain ⟨p0, p1, p2⟩ := bx_cells hHeld.1
  obtain ⟨q0, q1, q2⟩ := bx_cells hHeld.2.1
  have HH := Lib.hid hHeld
  clear hHeld HT HT2 HAB HBC HAC
  by_cases c1 : p ≤ 0
  · by_cases c2 : q ≤ 0
    · have c3 : r ≤ 0 := by have := H3.out; unfold Tr3 at this; omega
      by_cases c4 : p < 0
      · have c5 : r < 0 := by have := H3.out; unfold Tr3 at this; omega
        clear H3
        go_wp2_with (first
          | (go_at_call 18; with_reducible refine (HBA.out _).mono ?_; rintro e w5 ⟨rfl, hb5⟩; have HH5 := Lib.hid (HH.out.below hb5); have s0 := (thr_1 HH5.out).1; have s1 := (thr_1 HH5.out).2.1; have s2 := (thr_1 HH5.out).2.2; clear HBA)
          | (go_at_call 18; with_reducible refine (HAA.out _).mono ?_; rintro e w6 ⟨rfl, hb6⟩; have HH6 := Lib.hid (HH5.out.below hb6); clear HAA))
        go_ret
        exact ⟨rfl, HH6.out.2.2.2⟩
      · have d4 : decide (p < 0) = false := decide_eq_false c4
        by_cases c6 : q < 0
        · have c5 : r < 0 := by have := H3.out; unfold Tr3 at this; omega
          clear H3
          go_wp2_with (first
            | (go_at_call 18; with_reducible refine (HBA.out _).mono ?_; rintro e w5 ⟨rfl, hb5⟩; have HH5 := Lib.hid (HH.out.below hb5); have s0 := (thr_1 HH5.out).1; have s1 := (thr_1 HH5.out).2.1; have s2 := (thr_1 HH5.out).2.2; clear HBA)
            | (go_at_call 18; with_reducible refine (HAA.out _).mono ?_; rintro e w6 ⟨rfl, hb6⟩; have HH6 := Lib.hid (HH5.out.below hb6); clear HAA))
          go_ret
          exact ⟨rfl, HH6.out.2.2.2⟩
        · have d6 : decide (q < 0) = false := decide_eq_false c6
          have d5 : decide (r < 0) = false := decide_eq_false (by have := H3.out; unfold Tr3 at this; omega)
          clear H3
          go_wp2_with (first
            | (go_at_call 18; with_reducible refine (HBA.out _).mono ?_; rintro e w5 ⟨rfl, hb5⟩; have HH5 := Lib.hid (HH.out.below hb5); have s0 := (thr_1 HH5.out).1; have s1 := (thr_1 HH5.out).2.1; have s2 := (thr_1 HH5.out).2.2; clear HBA)
            | (go_at_call 18; with_reducible refine (HAA.out _).mono ?_; rintro e w6 ⟨rfl, hb6⟩; have HH6 := Lib.hid (HH5.out.below hb6); clear HAA))
          go_ret
          exact ⟨rfl, HH6.out.2.2.2⟩
    · have d2 : decide (q ≤ 0) = false := decide_eq_false c2
      clear H3
      go_wp2_with (first
        | (go_at_call 18; with_reducible refine (HBA.out _).mono ?_; rintro e w5 ⟨rfl, hb5⟩; have HH5 := Lib.hid (HH.out.below hb5); have s0 := (thr_1 HH5.out).1; have s1 := (thr_1 HH5.out).2.1; have s2 := (thr_1 HH5.out).2.2; clear HBA)
        | (go_at_call 18; with_reducible refine (HAA.out _).mono ?_; rintro e w6 ⟨rfl, hb6⟩; have HH6 := Lib.hid (HH5.out.below hb6); clear HAA))
      go_ret
      exact ⟨rfl, HH6.out.2.2.2⟩
  · have d1 : decide (p ≤ 0) = false := decide_eq_false c1
    clear H3
    go_wp2_with (first
      | (go_at_call 18; with_reducible refine (HBA.out _).mono ?_; rintro e w5 ⟨rfl, hb5⟩; have HH5 := Lib.hid (HH.out.below hb5); have s0 := (thr_1 HH5.out).1; have s1 := (thr_1 HH5.out).2.1; have s2 := (thr_1 HH5.out).2.2; clear HBA)
      | (go_at_call 18; with_reducible refine (HAA.out _).mono ?_; rintro e w6 ⟨rfl, hb6⟩; have HH6 := Lib.hid (HH5.out.below hb6); clear HAA))
    go_ret
    exact ⟨rfl, HH6.out.2.2.2⟩
end Go.Proofs.Ytkcjegdmcboohaa
namespace Go.Proofs.Ytkcjegdmcboohaa
open Go.ChangeShapes Go.WideShapes Go.ChangeAt Go.RowKit Go.Deep
namespace plainValueOrder
set_option maxRecDepth 100000 in
theorem contract (H : Type) (enc : TypeId × Value → H) (W : World) (base : Nat) (args : Array Value) (ds gs : List (DataW H)) (before : List MemPlace)
    (hval : ∀ (j : Nat) t v, Try.f7.params[j]? = some t → args[j]? = some v → Value.okWide Try.prog W .any base t v)
    (hW : DataW.Whole enc Try.prog Try.f7.params.toList Rows.valueOrderSpec.vars false W args.toList ds gs before) (hk : Rows.uptoSmall H (ds ++ gs) = true) :
    Calls Try.prog 7 args W fun e W' => ∃ v, e = .returned v ∧ Rows.valueOrderSpec.post enc Try.prog Try.f7 false true false false W args v W' := by
  have hW' := hW
  obtain ⟨p, q, hA0, hV, rfl, hfz, hnd⟩ := hW
  have hA : DataW.TrodAll enc Try.prog W 0 (fun _ => true) true Try.f7.params.toList args.toList ds p := hA0
  rw [Try.params7] at hA hval
  obtain ⟨v0, vs0, d0, ds0, p0, q0, hargs, rfl, rfl, h0, r0⟩ := trodAll_cons hA
  obtain ⟨v1, vs1, d1, ds1, p1, q1, rfl, rfl, rfl, h1, r1⟩ := trodAll_cons r0
  obtain ⟨v2, vs2, d2, ds2, p2, q2, rfl, rfl, rfl, h2, r2⟩ := trodAll_cons r1
  obtain ⟨rfl, rfl, rfl⟩ := trodAll_nil r2
  obtain rfl : args = #[v0, v1, v2] := by cases args; simp_all
  obtain ⟨rfl, rfl⟩ := trodVars_none hV
  have hbulk : Rows.uptoBulkAll ([d0, d1, d2] ++ []) ≤ 1048576 := of_decide_eq_true hk
  simp only [List.append_nil, Rows.uptoBulkAll] at hbulk
  obtain ⟨a0, rfl, b0, g0⟩ := val_of_trod (hval 0 23 v0 rfl rfl) h0
  obtain ⟨a1, rfl, b1, g1⟩ := val_of_trod (hval 1 23 v1 rfl rfl) h1
  obtain ⟨a2, rfl, b2, g2⟩ := val_of_trod (hval 2 23 v2 rfl rfl) h2
  refine (order_walk a0 a1 a2 W b0 b1 b2).mono fun e W' ⟨he, hb⟩ => ⟨_, he, ?_⟩
  exact law_post (T := 4) laidOut (by rw [Try.params7]; decide +kernel) rfl rfl Try.underlying4 (fun gs h => by subst h; rfl) hW' hb
set_option maxRecDepth 100000 in
theorem lifted (os : Os) (started : os.Started) (H : Type) (enc : TypeId × Value → H) (F : Stop.Interp) :
    ReturnsInHanded {} Try.checked os 7 .any ((Rows.OpenSpec.upto Rows.valueOrderSpec).pre6 enc Try.prog Try.f7 Rows.valueOrderUptoRow.domain false) (((Rows.OpenSpec.upto Rows.valueOrderSpec).at F).post enc Try.prog Try.f7 false true false false) := by
  refine returnsInHanded_of_cond (C := Try.checked) (s := Rows.OpenSpec.upto Rows.valueOrderSpec) (k := Rows.uptoSmall) rfl own started (by kernel_rfl) Try.func7
    (OpenSpec.witness (enc := enc) (C := Try.checked) (s := Rows.OpenSpec.upto Rows.valueOrderSpec) (k := Rows.uptoSmall) rfl false ⟨#[], #[.agg #[.int .i64 0, .int .i64 0, .string ⟨#[]⟩], .agg #[.int .i64 0, .int .i64 0, .string ⟨#[]⟩], .agg #[.int .i64 0, .int .i64 0, .string ⟨#[]⟩]], []⟩ 8 (by kernel_rfl) (by kernel_rfl) (by kernel_rfl)
      (x := ([.agg [.lit (.int .i64 0), .lit (.int .i64 0), .lit (.string [])], .agg [.lit (.int .i64 0), .lit (.int .i64 0), .lit (.string [])], .agg [.lit (.int .i64 0), .lit (.int .i64 0), .lit (.string [])]], [], [])) (by kernel_rfl) rfl (by kernel_rfl)) ?_
  intro W base args ds gs before hval hW _ hk _
  exact contract H enc W base args ds gs before hval hW hk
theorem over : Rows.valueOrderUptoRow.holds Try.pinned (Rows.OpenSpec.upto Rows.valueOrderSpec) :=
  OpenClaim.holds_of_cond 7 Try.f7 rfl rfl rfl rfl rfl rfl rfl ⟨rfl, rfl, rfl, rfl, rfl⟩ rfl rfl rfl rfl rfl (by kernel_rfl) Try.func7 (by kernel_rfl)
    (of_decide_eq_true (by kernel_rfl)) (by unfold Func.isWrapper; first | (rw [if_pos (by decide +kernel)]; kernel_rfl) | (rw [if_neg (by decide +kernel)]; exact ⟨rfl, rfl⟩))
    (fun os started H enc _ F => lifted os started H enc F)
/-- the statement, its second form -/
theorem proved : Rows.ValueOrderUptoSaid := over
end plainValueOrder
theorem valueOrderUpto : Rows.ValueOrderUptoSaid := plainValueOrder.proved
end Go.Proofs.Ytkcjegdmcboohaa
