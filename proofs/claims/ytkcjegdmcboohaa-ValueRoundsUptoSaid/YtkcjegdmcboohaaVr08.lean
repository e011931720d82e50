/-
  ValueRounds: of any two integers quotient and rest make up the number where nothing errs, and what errs is as the law says; the arguments stay. Condition: the second form's bound, which two integers always meet.
-/
import Derived.Test.YtkcjegdmcboohaaVr00
import Derived.Test.YtkcjegdmcboohaaVr06
import Derived.Test.YtkcjegdmcboohaaVr07
import Derived.WalkKit
import Derived.ProofKit
import Derived.OpenShut
namespace Go.Proofs.Ytkcjegdmcboohaa
open Go.RowKit
attribute [local go_sem ↓] eql32_eq neq32_eq
theorem ofR_c2 (a b : Int) (q : Int × Int) : ofR ⟨1, a, []⟩ ⟨1, b, []⟩ q = cnS q := by
  rw [ofR, show okK 1 (⟨1, a, []⟩ : Val).k = true from rfl, if_neg (by decide), if_neg (by
    intro h
    rcases h with h | h <;> (have := congrArg Val.k h; simp [nulV] at this))]
  rfl
theorem rd_8 (a b : Int) (u : World) (ha : I64 a) (hb : I64 b) : Calls Try.prog 13 #[.int .i64 8, .agg #[.int .i64 1, .int .i64 a, .string ⟨#[]⟩], .agg #[.int .i64 1, .int .i64 b, .string ⟨#[]⟩]] u fun e w' => e = .returned (.tuple #[.agg #[.int .i64 ((cnS (dvd a b)).1).k, .int .i64 ((cnS (dvd a b)).1).n, .string (str ((cnS (dvd a b)).1).s)], .int .i64 (cnS (dvd a b)).2]) ∧ Below u.heap.size u w' := by
  have h := do_8 ⟨1, a, []⟩ ⟨1, b, []⟩ u (ok_of 1 a (by decide) ha) (ok_of 1 b (by decide) hb)
  rw [show doR 8 (normV ⟨1, a, []⟩) (normV ⟨1, b, []⟩) = cnS (dvd a b) from ofR_c2 a b (dvd a b)] at h
  exact h
theorem rd_9 (a b : Int) (u : World) (ha : I64 a) (hb : I64 b) : Calls Try.prog 13 #[.int .i64 9, .agg #[.int .i64 1, .int .i64 a, .string ⟨#[]⟩], .agg #[.int .i64 1, .int .i64 b, .string ⟨#[]⟩]] u fun e w' => e = .returned (.tuple #[.agg #[.int .i64 ((cnS (rmd a b)).1).k, .int .i64 ((cnS (rmd a b)).1).n, .string (str ((cnS (rmd a b)).1).s)], .int .i64 (cnS (rmd a b)).2]) ∧ Below u.heap.size u w' := by
  have h := do_9 ⟨1, a, []⟩ ⟨1, b, []⟩ u (ok_of 1 a (by decide) ha) (ok_of 1 b (by decide) hb)
  rw [show doR 9 (normV ⟨1, a, []⟩) (normV ⟨1, b, []⟩) = cnS (rmd a b) from ofR_c2 a b (rmd a b)] at h
  exact h
theorem rd_7 (a b : Int) (u : World) (ha : I64 a) (hb : I64 b) : Calls Try.prog 13 #[.int .i64 7, .agg #[.int .i64 1, .int .i64 a, .string ⟨#[]⟩], .agg #[.int .i64 1, .int .i64 b, .string ⟨#[]⟩]] u fun e w' => e = .returned (.tuple #[.agg #[.int .i64 ((cnS (fit (a * b))).1).k, .int .i64 ((cnS (fit (a * b))).1).n, .string (str ((cnS (fit (a * b))).1).s)], .int .i64 (cnS (fit (a * b))).2]) ∧ Below u.heap.size u w' := by
  have h := do_7 ⟨1, a, []⟩ ⟨1, b, []⟩ u (ok_of 1 a (by decide) ha) (ok_of 1 b (by decide) hb)
  rw [show doR 7 (normV ⟨1, a, []⟩) (normV ⟨1, b, []⟩) = cnS (fit (a * b)) from ofR_c2 a b (fit (a * b))] at h
  exact h
theorem rd_5 (a b : Int) (u : World) (ha : I64 a) (hb : I64 b) : Calls Try.prog 13 #[.int .i64 5, .agg #[.int .i64 1, .int .i64 a, .string ⟨#[]⟩], .agg #[.int .i64 1, .int .i64 b, .string ⟨#[]⟩]] u fun e w' => e = .returned (.tuple #[.agg #[.int .i64 ((cnS (fit (a + b))).1).k, .int .i64 ((cnS (fit (a + b))).1).n, .string (str ((cnS (fit (a + b))).1).s)], .int .i64 (cnS (fit (a + b))).2]) ∧ Below u.heap.size u w' := by
  have h := do_5 ⟨1, a, []⟩ ⟨1, b, []⟩ u (ok_of 1 a (by decide) ha) (ok_of 1 b (by decide) hb)
  rw [show doR 5 (normV ⟨1, a, []⟩) (normV ⟨1, b, []⟩) = cnS (fit (a + b)) from ofR_c2 a b (fit (a + b))] at h
  exact h
theorem rd_12 (a : Int) (u : World) (ha : I64 a) : Calls Try.prog 13 #[.int .i64 12, .agg #[.int .i64 1, .int .i64 a, .string ⟨#[]⟩], .agg #[.int .i64 1, .int .i64 0, .string ⟨#[]⟩]] u fun e w' => e = .returned (.tuple #[.agg #[.int .i64 3, .int .i64 (if a < 0 then 1 else 0), .string ⟨#[]⟩], .int .i64 0]) ∧ Below u.heap.size u w' := by
  have h := do_12 ⟨1, a, []⟩ ⟨1, 0, []⟩ u (ok_of 1 a (by decide) ha) (ok_of 1 0 (by decide) (by unfold I64; decide))
  rw [show doR 12 (normV ⟨1, a, []⟩) (normV ⟨1, 0, []⟩) = (truV (decide (a < 0)), 0) by
    show ofK ⟨1, a, []⟩ ⟨1, 0, []⟩ (holdK 12 (ordV ⟨1, a, []⟩ ⟨1, 0, []⟩)) = _
    have e : holdK 12 (ordV ⟨1, a, []⟩ ⟨1, 0, []⟩) = decide (a < 0) := by
      show decide (ordV ⟨1, a, []⟩ ⟨1, 0, []⟩ < 0) = _
      simp only [ordV, orI, sgI, cmpI]
      by_cases h1 : a < 0
      · simp [h1]
      · by_cases h2 : 0 < a <;> simp [h1, h2]
    rw [e, ofK, show smK (⟨1, a, []⟩ : Val).k (⟨1, 0, []⟩ : Val).k = true from rfl, if_neg (by decide), if_neg (by
      intro h
      rcases h with h | h <;> (have := congrArg Val.k h; simp [nulV] at this))]] at h
  by_cases h1 : a < 0
  · simp only [if_pos h1, decide_eq_true h1] at h ⊢; exact h
  · simp only [if_neg h1, decide_eq_false h1] at h ⊢; exact h
theorem back_mul {a b : Int} (ha : I64 a) (h0 : b ≠ 0) : a.tdiv b * b + a.tmod b = a ∧ I64 (a.tdiv b * b) ∧ I64 (a.tmod b) ∧ (a.tmod b = 0 ∨ (a.tmod b < 0 ↔ a < 0)) := by
  have h1 := Int.mul_tdiv_add_tmod a b
  rw [Int.mul_comm] at h1
  have h4 : (a.tmod b).natAbs = a.natAbs % b.natAbs := Int.natAbs_tmod a b
  have h5 : a.natAbs % b.natAbs ≤ a.natAbs := Nat.mod_le _ _
  have h6 : (0 ≤ a → 0 ≤ a.tmod b) := fun h => Int.tmod_nonneg b h
  have h7 : (a ≤ 0 → a.tmod b ≤ 0) := fun h => by
    have := Int.tmod_nonneg b (show 0 ≤ -a by omega)
    rw [Int.neg_tmod] at this
    omega
  unfold I64 at *
  generalize a.tdiv b * b = p at *
  generalize a.tmod b = r at *
  rcases Int.le_total 0 a with h | h
  · have := h6 h
    refine ⟨h1, ⟨by omega, by omega⟩, ⟨by omega, by omega⟩, by omega⟩
  · have := h7 h
    refine ⟨h1, ⟨by omega, by omega⟩, ⟨by omega, by omega⟩, by omega⟩
end Go.Proofs.Ytkcjegdmcboohaa
namespace Go.Proofs.Ytkcjegdmcboohaa
open Go.RowKit
attribute [local go_sem ↓] eql32_eq neq32_eq
def Q4 (w u : World) (X R S : Nat) (a r : Int) : Prop := u.heap[X]? = some (BX 1 a ⟨#[]⟩) ∧ u.heap[R]? = some (BX 1 r ⟨#[]⟩) ∧ u.heap[S]? = some (BX 1 a ⟨#[]⟩) ∧ Below w.heap.size w u
theorem Q4.al {w u : World} {X R S : Nat} {a r : Int} (h : Q4 w u X R S a r) (o : Obj) : Q4 w (u.alloc o) X R S a r := ⟨hp_al h.1 o, hp_al h.2.1 o, hp_al h.2.2.1 o, bl_al h.2.2.2 o⟩
theorem Q4.drew {w u : World} {X R S : Nat} {a r : Int} (h : Q4 w u X R S a r) : Q4 w u.drew X R S a r := ⟨h.1, h.2.1, h.2.2.1, h.2.2.2.drew⟩
theorem Q4.below {w u v : World} {X R S : Nat} {a r : Int} (h : Q4 w u X R S a r) (hb : Below u.heap.size u v) : Q4 w v X R S a r := ⟨kp h.1 hb, kp h.2.1 hb, kp h.2.2.1 hb, bl_tr h.2.2.2 hb⟩
theorem Q4.lt {w u : World} {X R S : Nat} {a r : Int} (h : Q4 w u X R S a r) : X < u.heap.size ∧ R < u.heap.size ∧ S < u.heap.size ∧ w.heap.size ≤ u.heap.size := ⟨bx_lt h.1, bx_lt h.2.1, bx_lt h.2.2.1, h.2.2.2.size⟩
theorem q4_x {w u : World} {X R S : Nat} {a r : Int} (h : Q4 w u X R S a r) : u.heap[X]? = some (BX 1 a ⟨#[]⟩) := h.1
theorem q4_r {w u : World} {X R S : Nat} {a r : Int} (h : Q4 w u X R S a r) : u.heap[R]? = some (BX 1 r ⟨#[]⟩) := h.2.1
theorem q4_s {w u : World} {X R S : Nat} {a r : Int} (h : Q4 w u X R S a r) : u.heap[S]? = some (BX 1 a ⟨#[]⟩) := h.2.2.1
theorem q4_b {w u : World} {X R S : Nat} {a r : Int} (h : Q4 w u X R S a r) : Below w.heap.size w u := h.2.2.2
theorem size_a1 (u : World) (o : Obj) : (u.alloc o).heap.size = u.heap.size + 1 := by simp
theorem size_a2 (u : World) (o p : Obj) : ((u.alloc o).alloc p).heap.size = u.heap.size + 1 + 1 := by simp
theorem lt_g {X R S B s g : Nat} (h : X < s ∧ R < s ∧ S < s ∧ B ≤ s) (e : s = g) : X < g ∧ R < g ∧ S < g ∧ B ≤ g := e ▸ h
theorem q4_g {w u : World} {X R S g : Nat} {a r : Int} {o : Obj} (_ : Q4 w (u.alloc o) X R S a r) (e : u.heap.size = g) : (u.alloc o).heap[g]? = some o := e ▸ heap_alloc_new u o
theorem q4_gd {w u : World} {X R S g : Nat} {a r : Int} {o : Obj} (_ : Q4 w (u.alloc o).drew X R S a r) (e : u.heap.size = g) : (u.alloc o).drew.heap[g]? = some o := e ▸ heap_alloc_new u o
theorem q4_new {w u : World} {X R S : Nat} {a r : Int} {o : Obj} (_ : Q4 w (u.alloc o) X R S a r) : (u.alloc o).heap[u.heap.size]? = some o := heap_alloc_new u o
theorem Q4.set {w u : World} {X R S g : Nat} {a r : Int} (h : Q4 w u X R S a r) (x : Val) (hl : X < g ∧ R < g ∧ S < g ∧ w.heap.size ≤ g) :
    Q4 w (((u.setCell ⟨g, 0, none⟩ (.int .i64 x.k)).setCell ⟨g, 1, none⟩ (.int .i64 x.n)).setCell ⟨g, 2, none⟩ (.string (str x.s))) X R S a r :=
  ⟨(set3_other x (by omega)).trans h.1, (set3_other x (by omega)).trans h.2.1, (set3_other x (by omega)).trans h.2.2.1, set3_below x h.2.2.2 hl.2.2.2⟩
set_option maxRecDepth 100000 in
set_option maxHeartbeats 12800000 in
theorem rounds_zero (a : Int) (w : World) (ha : I64 a) : Calls Try.prog 11 #[.int .i64 a, .int .i64 0] w fun e w' => e = .returned (.bool true) ∧ Below w.heap.size w w' := by
  have h8 := fun u => rd_8 a 0 u ha (by unfold I64; decide)
  have h9 := fun u => rd_9 a 0 u ha (by unfold I64; decide)
  simp only [show cnS (dvd a 0) = (nulV, 31) from rfl, show cnS (rmd a 0) = (nulV, 31) from rfl] at h8 h9
  have H8 := Lib.hid h8
  have H9 := Lib.hid h9
  clear h8 h9 ha
  go_enter Try.func11, Try.ntmps11
  go_wp2_with (first
    | (go_at_call 12; refine (awake_any _).mono ?_; rintro e w2 ⟨rfl, hb2⟩; have HB2 := Lib.hid hb2; clear hb2)
    | (go_at_call 29; refine (aw_num _ _).mono ?_; rintro e w' ⟨rfl, rfl⟩)
    | (go_at_call 13; with_reducible refine (H8.out _).mono ?_; rintro e w3 ⟨rfl, hb3⟩; have kx3 := kp (hp_al (hp_3 w2 (BX 1 a ⟨#[]⟩) (BX 1 0 ⟨#[]⟩) (BX 1 a ⟨#[]⟩)) (BX 1 0 ⟨#[]⟩)) hb3; have ky3 := kp (hp_4 w2 (BX 1 a ⟨#[]⟩) (BX 1 0 ⟨#[]⟩) (BX 1 a ⟨#[]⟩) (BX 1 0 ⟨#[]⟩)) hb3; obtain ⟨x0, x1, x2⟩ := bx_cells kx3; obtain ⟨y0, y1, y2⟩ := bx_cells ky3; have lx := bx_lt kx3; have ly := bx_lt ky3; have KX3 := Lib.hid kx3; have KY3 := Lib.hid ky3; have HB3 := Lib.hid (bl_tr (bl_al (bl_al (bl_al (bl_al HB2.out _) _) _) _) hb3); clear hb3 kx3 ky3 H8)
    | (go_at_call 13; with_reducible refine (H9.out _).mono ?_; rintro e w4 ⟨rfl, hb4⟩; have kx4 := kp (hp_al KX3.out _) hb4; have ky4 := kp (hp_al KY3.out _) hb4; have kq4 := kp (heap_alloc_new w3 _) hb4; obtain ⟨u0, u1, u2⟩ := bx_cells kx4; obtain ⟨v0, v1, v2⟩ := bx_cells ky4; obtain ⟨q0, q1, q2⟩ := bx_cells kq4; have mx := bx_lt kx4; have my := bx_lt ky4; have mq := bx_lt kq4; have KX4 := Lib.hid kx4; have HB4 := Lib.hid (bl_tr (bl_al HB3.out _) hb4); clear hb4 kx4 ky4 kq4 H9))
  go_ret
  exact ⟨rfl, bl_al HB4.out _⟩
set_option maxRecDepth 100000 in
set_option maxHeartbeats 12800000 in
theorem rounds_least (w : World) : Calls Try.prog 11 #[.int .i64 (-9223372036854775808), .int .i64 (-1)] w fun e w' => e = .returned (.bool true) ∧ Below w.heap.size w w' := by
  have h8 := fun u => rd_8 (-9223372036854775808) (-1) u (by unfold I64; decide) (by unfold I64; decide)
  have h9 := fun u => rd_9 (-9223372036854775808) (-1) u (by unfold I64; decide) (by unfold I64; decide)
  simp only [show cnS (dvd (-9223372036854775808) (-1)) = (nulV, 30) from by decide, show cnS (rmd (-9223372036854775808) (-1)) = (numV 0, 0) from by decide] at h8 h9
  have H8 := Lib.hid h8
  have H9 := Lib.hid h9
  have he0 := fun (u : World) => run_eql32 u ⟨1, 0, []⟩ ⟨1, 0, []⟩ (fun x hx => by simp at hx) (fun x hx => by simp at hx)
  simp only [show str [] = ⟨#[]⟩ from rfl, decide_true] at he0
  clear h8 h9
  go_enter Try.func11, Try.ntmps11
  go_wp2_with (first
    | (go_at_call 12; refine (awake_any _).mono ?_; rintro e w2 ⟨rfl, hb2⟩; have HB2 := Lib.hid hb2; clear hb2)
    | (go_at_call 29; refine (aw_num _ _).mono ?_; rintro e w' ⟨rfl, rfl⟩)
    | (go_at_call 13; with_reducible refine (H8.out _).mono ?_; rintro e w3 ⟨rfl, hb3⟩; have kx3 := kp (hp_al (hp_3 w2 (BX 1 (-9223372036854775808) ⟨#[]⟩) (BX 1 (-1) ⟨#[]⟩) (BX 1 (-9223372036854775808) ⟨#[]⟩)) (BX 1 (-1) ⟨#[]⟩)) hb3; have ky3 := kp (hp_4 w2 (BX 1 (-9223372036854775808) ⟨#[]⟩) (BX 1 (-1) ⟨#[]⟩) (BX 1 (-9223372036854775808) ⟨#[]⟩) (BX 1 (-1) ⟨#[]⟩)) hb3; obtain ⟨x0, x1, x2⟩ := bx_cells kx3; obtain ⟨y0, y1, y2⟩ := bx_cells ky3; have lx := bx_lt kx3; have ly := bx_lt ky3; have KX3 := Lib.hid kx3; have KY3 := Lib.hid ky3; have HB3 := Lib.hid (bl_tr (bl_al (bl_al (bl_al (bl_al HB2.out _) _) _) _) hb3); clear hb3 kx3 ky3 H8)
    | (go_at_call 13; with_reducible refine (H9.out _).mono ?_; rintro e w4 ⟨rfl, hb4⟩; have kx4 := kp (hp_al KX3.out _) hb4; have ky4 := kp (hp_al KY3.out _) hb4; have kq4 := kp (heap_alloc_new w3 _) hb4; obtain ⟨u0, u1, u2⟩ := bx_cells kx4; obtain ⟨v0, v1, v2⟩ := bx_cells ky4; obtain ⟨q0, q1, q2⟩ := bx_cells kq4; have mx := bx_lt kx4; have my := bx_lt ky4; have mq := bx_lt kq4; have KX4 := Lib.hid kx4; have HB4 := Lib.hid (bl_tr (bl_al HB3.out _) hb4); clear hb4 kx4 ky4 kq4 H9))
  have hs4 : (w4.alloc (BX 1 0 ⟨#[]⟩)).drew.heap[w4.heap.size]? = some (BX 1 0 ⟨#[]⟩) ∧ Below w.heap.size w (w4.alloc (BX 1 0 ⟨#[]⟩)).drew := ⟨heap_alloc_new _ _, (bl_al HB4.out _).drew⟩
  have HS4 := Lib.hid hs4
  clear hs4
  refine wp_region_held_drew (S := fun u => u.heap[w4.heap.size]? = some (BX 1 0 ⟨#[]⟩) ∧ Below w.heap.size w u) (by kernel_rfl) (HS4.out) (fun hHeld => ?_)
  refine wpAnyH_take (i := 0) (oi := ({ dst := some 45, op := Op.move (Operand.tmp 8), type := 25, pos := "law.go:148", after := #[], guard := none } : Oper)) (v := ?_) rfl (by kernel_rfl) (by kernel_rfl) (by kernel_rfl) (fun _ _ _ h => h) (Or.inl ⟨by rfl, ?_⟩) (by assumption) ?_
  rotate_left 1
  · (intro u hSw; go_simp; try with_reducible rfl)
  try simp only [Act.put, List.setIfInBounds_toArray, List.set_cons_zero, List.set_cons_succ]
  refine wpAnyH_take (i := 1) (oi := ({ dst := some 46, op := Op.binOp BinOp.eql 25 (Operand.tmp 45) (Operand.const (Value.int IntKind.i64 30)) 25, type := 4, pos := "law.go:148", after := #[{ on := 0, ground := Ground.data }], guard := none } : Oper)) (v := ?_) rfl (by kernel_rfl) (by kernel_rfl) (by kernel_rfl) (fun _ _ _ h => h) (Or.inl ⟨by rfl, ?_⟩) (by assumption) ?_
  rotate_left 1
  · (intro u hSw; go_simp; try with_reducible rfl)
  try simp only [Act.put, List.setIfInBounds_toArray, List.set_cons_zero, List.set_cons_succ]
  refine wpAnyH_take (i := 2) (oi := ({ dst := some 47, op := Op.move (Operand.tmp 46), type := 4, pos := "law.go:148", after := #[{ on := 1, ground := Ground.data }], guard := none } : Oper)) (v := ?_) rfl (by kernel_rfl) (by kernel_rfl) (by kernel_rfl) (fun _ _ _ h => h) (Or.inl ⟨by rfl, ?_⟩) (by assumption) ?_
  rotate_left 1
  · (intro u hSw; go_simp; try with_reducible rfl)
  try simp only [Act.put, List.setIfInBounds_toArray, List.set_cons_zero, List.set_cons_succ]
  refine wpAnyH_take (i := 3) (oi := ({ dst := some 48, op := Op.move (Operand.tmp 0), type := 2, pos := "law.go:148", after := #[{ on := 2, ground := Ground.guard }], guard := some (2, true) } : Oper)) (v := ?_) rfl (by kernel_rfl) (by kernel_rfl) (by kernel_rfl) (fun _ _ _ h => h) (Or.inl ⟨by rfl, ?_⟩) (by assumption) ?_
  rotate_left 1
  · (intro u hSw; go_simp; try with_reducible rfl)
  try simp only [Act.put, List.setIfInBounds_toArray, List.set_cons_zero, List.set_cons_succ]
  refine wpAnyH_take (i := 4) (oi := ({ dst := some 49, op := Op.binOp BinOp.eql 2 (Operand.tmp 48) (Operand.const (Value.int IntKind.i64 (-9223372036854775808))) 2, type := 4, pos := "law.go:148", after := #[{ on := 3, ground := Ground.data }, { on := 2, ground := Ground.guard }], guard := some (2, true) } : Oper)) (v := ?_) rfl (by kernel_rfl) (by kernel_rfl) (by kernel_rfl) (fun _ _ _ h => h) (Or.inl ⟨by rfl, ?_⟩) (by assumption) ?_
  rotate_left 1
  · (intro u hSw; go_simp; try with_reducible rfl)
  try simp only [Act.put, List.setIfInBounds_toArray, List.set_cons_zero, List.set_cons_succ]
  refine wpAnyH_take (i := 5) (oi := ({ dst := some 50, op := Op.pick (Operand.tmp 47) (Operand.tmp 49) (Operand.const (Value.bool false)), type := 4, pos := "law.go:148", after := #[{ on := 2, ground := Ground.data }, { on := 4, ground := Ground.data }], guard := none } : Oper)) (v := ?_) rfl (by kernel_rfl) (by kernel_rfl) (by kernel_rfl) (fun _ _ _ h => h) (Or.inl ⟨by rfl, ?_⟩) (by assumption) ?_
  rotate_left 1
  · (intro u hSw; go_simp; try with_reducible rfl)
  try simp only [Act.put, List.setIfInBounds_toArray, List.set_cons_zero, List.set_cons_succ]
  refine wpAnyH_take (i := 6) (oi := ({ dst := some 51, op := Op.move (Operand.tmp 50), type := 4, pos := "law.go:148", after := #[{ on := 5, ground := Ground.data }, { on := 2, ground := Ground.chain }], guard := none } : Oper)) (v := ?_) rfl (by kernel_rfl) (by kernel_rfl) (by kernel_rfl) (fun _ _ _ h => h) (Or.inl ⟨by rfl, ?_⟩) (by assumption) ?_
  rotate_left 1
  · (intro u hSw; go_simp; try with_reducible rfl)
  try simp only [Act.put, List.setIfInBounds_toArray, List.set_cons_zero, List.set_cons_succ]
  refine wpAnyH_take (i := 7) (oi := ({ dst := some 52, op := Op.move (Operand.tmp 1), type := 2, pos := "law.go:148", after := #[{ on := 6, ground := Ground.guard }], guard := some (6, true) } : Oper)) (v := ?_) rfl (by kernel_rfl) (by kernel_rfl) (by kernel_rfl) (fun _ _ _ h => h) (Or.inl ⟨by rfl, ?_⟩) (by assumption) ?_
  rotate_left 1
  · (intro u hSw; go_simp; try with_reducible rfl)
  try simp only [Act.put, List.setIfInBounds_toArray, List.set_cons_zero, List.set_cons_succ]
  refine wpAnyH_take (i := 8) (oi := ({ dst := some 53, op := Op.binOp BinOp.eql 2 (Operand.tmp 52) (Operand.const (Value.int IntKind.i64 (-1))) 2, type := 4, pos := "law.go:148", after := #[{ on := 7, ground := Ground.data }, { on := 6, ground := Ground.guard }], guard := some (6, true) } : Oper)) (v := ?_) rfl (by kernel_rfl) (by kernel_rfl) (by kernel_rfl) (fun _ _ _ h => h) (Or.inl ⟨by rfl, ?_⟩) (by assumption) ?_
  rotate_left 1
  · (intro u hSw; go_simp; try with_reducible rfl)
  try simp only [Act.put, List.setIfInBounds_toArray, List.set_cons_zero, List.set_cons_succ]
  refine wpAnyH_take (i := 9) (oi := ({ dst := some 54, op := Op.pick (Operand.tmp 51) (Operand.tmp 53) (Operand.const (Value.bool false)), type := 4, pos := "law.go:148", after := #[{ on := 6, ground := Ground.data }, { on := 8, ground := Ground.data }], guard := none } : Oper)) (v := ?_) rfl (by kernel_rfl) (by kernel_rfl) (by kernel_rfl) (fun _ _ _ h => h) (Or.inl ⟨by rfl, ?_⟩) (by assumption) ?_
  rotate_left 1
  · (intro u hSw; go_simp; try with_reducible rfl)
  try simp only [Act.put, List.setIfInBounds_toArray, List.set_cons_zero, List.set_cons_succ]
  refine wpAnyH_take (i := 10) (oi := ({ dst := some 55, op := Op.move (Operand.tmp 54), type := 4, pos := "law.go:148", after := #[{ on := 9, ground := Ground.data }, { on := 6, ground := Ground.chain }], guard := none } : Oper)) (v := ?_) rfl (by kernel_rfl) (by kernel_rfl) (by kernel_rfl) (fun _ _ _ h => h) (Or.inl ⟨by rfl, ?_⟩) (by assumption) ?_
  rotate_left 1
  · (intro u hSw; go_simp; try with_reducible rfl)
  try simp only [Act.put, List.setIfInBounds_toArray, List.set_cons_zero, List.set_cons_succ]
  refine wpAnyH_take (i := 11) (oi := ({ dst := some 56, op := Op.move (Operand.tmp 10), type := 25, pos := "law.go:148", after := #[{ on := 10, ground := Ground.guard }], guard := some (10, true) } : Oper)) (v := ?_) rfl (by kernel_rfl) (by kernel_rfl) (by kernel_rfl) (fun _ _ _ h => h) (Or.inl ⟨by rfl, ?_⟩) (by assumption) ?_
  rotate_left 1
  · (intro u hSw; go_simp; try with_reducible rfl)
  try simp only [Act.put, List.setIfInBounds_toArray, List.set_cons_zero, List.set_cons_succ]
  refine wpAnyH_take (i := 12) (oi := ({ dst := some 57, op := Op.binOp BinOp.eql 25 (Operand.tmp 56) (Operand.const (Value.int IntKind.i64 0)) 25, type := 4, pos := "law.go:148", after := #[{ on := 11, ground := Ground.data }, { on := 10, ground := Ground.guard }], guard := some (10, true) } : Oper)) (v := ?_) rfl (by kernel_rfl) (by kernel_rfl) (by kernel_rfl) (fun _ _ _ h => h) (Or.inl ⟨by rfl, ?_⟩) (by assumption) ?_
  rotate_left 1
  · (intro u hSw; go_simp; try with_reducible rfl)
  try simp only [Act.put, List.setIfInBounds_toArray, List.set_cons_zero, List.set_cons_succ]
  refine wpAnyH_take (i := 13) (oi := ({ dst := some 58, op := Op.pick (Operand.tmp 55) (Operand.tmp 57) (Operand.const (Value.bool false)), type := 4, pos := "law.go:148", after := #[{ on := 10, ground := Ground.data }, { on := 12, ground := Ground.data }], guard := none } : Oper)) (v := ?_) rfl (by kernel_rfl) (by kernel_rfl) (by kernel_rfl) (fun _ _ _ h => h) (Or.inl ⟨by rfl, ?_⟩) (by assumption) ?_
  rotate_left 1
  · (intro u hSw; go_simp; try with_reducible rfl)
  try simp only [Act.put, List.setIfInBounds_toArray, List.set_cons_zero, List.set_cons_succ]
  refine wpAnyH_take (i := 14) (oi := ({ dst := some 59, op := Op.move (Operand.tmp 58), type := 4, pos := "law.go:148", after := #[{ on := 13, ground := Ground.data }, { on := 10, ground := Ground.chain }], guard := none } : Oper)) (v := ?_) rfl (by kernel_rfl) (by kernel_rfl) (by kernel_rfl) (fun _ _ _ h => h) (Or.inl ⟨by rfl, ?_⟩) (by assumption) ?_
  rotate_left 1
  · (intro u hSw; go_simp; try with_reducible rfl)
  try simp only [Act.put, List.setIfInBounds_toArray, List.set_cons_zero, List.set_cons_succ]
  refine wpAnyH_take (i := 15) (oi := ({ dst := some 60, op := Op.load 23 (Operand.tmp 9), type := 23, pos := "law.go:148", after := #[{ on := 14, ground := Ground.guard }], guard := some (14, true) } : Oper)) (v := ?_) rfl (by kernel_rfl) (by kernel_rfl) (by kernel_rfl) (fun _ _ _ h => h) (Or.inl ⟨by rfl, ?_⟩) (by assumption) ?_
  rotate_left 1
  · (intro u hSw; have p0 := (bx_cells hSw.1).1; have p1 := (bx_cells hSw.1).2.1; have p2 := (bx_cells hSw.1).2.2; go_simp; try with_reducible rfl)
  try simp only [Act.put, List.setIfInBounds_toArray, List.set_cons_zero, List.set_cons_succ]
  refine wpAnyH_ready (rs := [16]) (by kernel_rfl) (by simp) ?_
  refine AllReadyH.cons (o := ({ dst := some 61, op := Op.call { callee := Callee.value (Operand.func 29), args := #[Operand.const (Value.int IntKind.i64 0)], argTypes := #[2] }, type := 23, pos := "law.go:148", after := #[{ on := 14, ground := Ground.chain }, { on := 14, ground := Ground.guard }], guard := some (14, true) } : Oper)) rfl (fun K hK => ?_) AllReadyH.nil
  go_simp
  go_at_call 29
  refine (aw_num _ _).mono ?_
  rintro e w' ⟨rfl, rfl⟩
  go_wp2_with fail
  refine hK.out _ _ ⟨hp_al hHeld.1 _, bl_al hHeld.2 _⟩ (fun hHeld => ?_)
  clear hK K
  try simp only [Act.put, List.setIfInBounds_toArray, List.set_cons_zero, List.set_cons_succ]
  refine wpAnyH_take (i := 17) (oi := ({ dst := some 62, op := Op.binOp BinOp.eql 23 (Operand.tmp 60) (Operand.tmp 61) 23, type := 4, pos := "law.go:148", after := #[{ on := 15, ground := Ground.data }, { on := 16, ground := Ground.data }, { on := 14, ground := Ground.guard }], guard := some (14, true) } : Oper)) (v := ?_) rfl (by kernel_rfl) (by kernel_rfl) (by kernel_rfl) (fun _ _ _ h => h) (Or.inl ⟨by rfl, ?_⟩) (by assumption) ?_
  rotate_left 1
  · (intro u hSw; go_simp; try with_reducible rfl)
  try simp only [Act.put, List.setIfInBounds_toArray, List.set_cons_zero, List.set_cons_succ]
  refine wpAnyH_take (i := 18) (oi := ({ dst := some 63, op := Op.pick (Operand.tmp 59) (Operand.tmp 62) (Operand.const (Value.bool false)), type := 4, pos := "law.go:148", after := #[{ on := 14, ground := Ground.data }, { on := 17, ground := Ground.data }], guard := none } : Oper)) (v := ?_) rfl (by kernel_rfl) (by kernel_rfl) (by kernel_rfl) (fun _ _ _ h => h) (Or.inl ⟨by rfl, ?_⟩) (by assumption) ?_
  rotate_left 1
  · (intro u hSw; go_simp; try with_reducible rfl)
  try simp only [Act.put, List.setIfInBounds_toArray, List.set_cons_zero, List.set_cons_succ]
  refine wpAnyH_take (i := 19) (oi := ({ dst := some 4, op := Op.assign (Operand.tmp 63), type := 4, pos := "law.go:148", after := #[{ on := 18, ground := Ground.data }, { on := 16, ground := Ground.chain }, { on := 0, ground := Ground.phase }, { on := 1, ground := Ground.phase }, { on := 2, ground := Ground.phase }, { on := 3, ground := Ground.phase }, { on := 4, ground := Ground.phase }, { on := 5, ground := Ground.phase }, { on := 6, ground := Ground.phase }, { on := 7, ground := Ground.phase }, { on := 8, ground := Ground.phase }, { on := 9, ground := Ground.phase }, { on := 10, ground := Ground.phase }, { on := 11, ground := Ground.phase }, { on := 12, ground := Ground.phase }, { on := 13, ground := Ground.phase }, { on := 14, ground := Ground.phase }, { on := 15, ground := Ground.phase }, { on := 16, ground := Ground.phase }, { on := 17, ground := Ground.phase }, { on := 18, ground := Ground.phase }], guard := none } : Oper)) (v := ?_) rfl (by kernel_rfl) (by kernel_rfl) (by kernel_rfl) (fun _ _ _ h => h) (Or.inl ⟨by rfl, ?_⟩) (by assumption) ?_
  rotate_left 1
  · (intro u hSw; go_simp; try with_reducible rfl)
  try simp only [Act.put, List.setIfInBounds_toArray, List.set_cons_zero, List.set_cons_succ]
  refine wpAnyH_done (by kernel_rfl) ?_ _
  go_wp2_with fail
  go_ret
  exact ⟨rfl, hHeld.2⟩
set_option maxRecDepth 100000 in
set_option maxHeartbeats 12800000 in
theorem rounds_most (a b : Int) (w : World) (ha : I64 a) (hb : I64 b) (h0 : b ≠ 0) (hm : ¬ (a = -9223372036854775808 ∧ b = -1)) : Calls Try.prog 11 #[.int .i64 a, .int .i64 b] w fun e w' => e = .returned (.bool true) ∧ Below w.heap.size w w' := by
  have hq := tdiv_in ha hb h0 hm
  obtain ⟨e1, e2, e3, e4⟩ := back_mul (b := b) ha h0
  have h8 := fun u => rd_8 a b u ha hb
  have h9 := fun u => rd_9 a b u ha hb
  have h7 := fun u => rd_7 (a.tdiv b) b u hq hb
  have h5 := fun u => rd_5 (a.tdiv b * b) (a.tmod b) u e2 e3
  have h12 := fun u => rd_12 (a.tmod b) u e3
  rw [e1] at h5
  have hs : cnS (dvd a b) = (numV (a.tdiv b), 0) := by rw [dvd, if_neg h0, fit_in hq]; rfl
  have hr : cnS (rmd a b) = (numV (a.tmod b), 0) := by rw [rmd, if_neg h0]; rfl
  have hp : cnS (fit (a.tdiv b * b)) = (numV (a.tdiv b * b), 0) := by rw [fit_in e2]; rfl
  have ht : cnS (fit a) = (numV a, 0) := by rw [fit_in ha]; rfl
  simp only [hs, hr, hp, ht, numV, show str [] = ⟨#[]⟩ from rfl] at h8 h9 h7 h5
  generalize a.tdiv b * b = p at *
  generalize a.tdiv b = q at *
  generalize a.tmod b = r at *
  have H8 := Lib.hid h8
  have H9 := Lib.hid h9
  have H7 := Lib.hid h7
  have H5 := Lib.hid h5
  have H12 := Lib.hid h12
  have E4 := Lib.hid e4
  have hea := fun (u : World) => run_eql32 u ⟨1, a, []⟩ ⟨1, a, []⟩ (fun x hx => by simp at hx) (fun x hx => by simp at hx)
  simp only [show str [] = ⟨#[]⟩ from rfl, decide_true] at hea
  have g0 : (b == 0) = false := beq_false_of_ne h0
  clear h8 h9 h7 h5 h12 hs hr hp ht e1 e2 e3 e4 hq ha hb h0 hm
  go_enter Try.func11, Try.ntmps11
  go_wp2_with (first
    | (go_at_call 12; refine (awake_any _).mono ?_; rintro e w2 ⟨rfl, hb2⟩; have HB2 := Lib.hid hb2; clear hb2)
    | (go_at_call 29; refine (aw_num _ _).mono ?_; rintro e w' ⟨rfl, rfl⟩)
    | (go_at_call 13; with_reducible refine (H8.out _).mono ?_; rintro e w3 ⟨rfl, hb3⟩; have kx3 := kp (hp_al (hp_3 w2 (BX 1 a ⟨#[]⟩) (BX 1 b ⟨#[]⟩) (BX 1 a ⟨#[]⟩)) (BX 1 b ⟨#[]⟩)) hb3; have ky3 := kp (hp_4 w2 (BX 1 a ⟨#[]⟩) (BX 1 b ⟨#[]⟩) (BX 1 a ⟨#[]⟩) (BX 1 b ⟨#[]⟩)) hb3; obtain ⟨x0, x1, x2⟩ := bx_cells kx3; obtain ⟨y0, y1, y2⟩ := bx_cells ky3; have lx := bx_lt kx3; have ly := bx_lt ky3; have KX3 := Lib.hid kx3; have KY3 := Lib.hid ky3; have HB3 := Lib.hid (bl_tr (bl_al (bl_al (bl_al (bl_al HB2.out _) _) _) _) hb3); clear hb3 kx3 ky3 H8)
    | (go_at_call 13; with_reducible refine (H9.out _).mono ?_; rintro e w4 ⟨rfl, hb4⟩; have kx4 := kp (hp_al KX3.out _) hb4; have ky4 := kp (hp_al KY3.out _) hb4; have kq4 := kp (heap_alloc_new w3 _) hb4; obtain ⟨u0, u1, u2⟩ := bx_cells kx4; obtain ⟨v0, v1, v2⟩ := bx_cells ky4; obtain ⟨q0, q1, q2⟩ := bx_cells kq4; have mx := bx_lt kx4; have my := bx_lt ky4; have mq := bx_lt kq4; have KX4 := Lib.hid kx4; have HB4 := Lib.hid (bl_tr (bl_al HB3.out _) hb4); clear hb4 kx4 ky4 kq4 H9)
    | (go_at_call 13; with_reducible refine (H7.out _).mono ?_; rintro e w5 ⟨rfl, hb5⟩; have kx5 := kp (hp_al KX4.out _) hb5; have kr5 := kp (heap_alloc_new w4 _) hb5; obtain ⟨r0, r1, r2⟩ := bx_cells kr5; have lr := bx_lt kr5; have KX5 := Lib.hid kx5; have KR5 := Lib.hid kr5; have HB5 := Lib.hid (bl_tr (bl_al HB4.out _) hb5); clear hb5 kx5 kr5 H7)
    | (go_at_call 13; with_reducible refine (H5.out _).mono ?_; rintro e w6 ⟨rfl, hb6⟩; have kx6 := kp (hp_al KX5.out _) hb6; have kr6 := kp (hp_al KR5.out _) hb6; have KX6 := Lib.hid kx6; have KR6 := Lib.hid kr6; have HB6 := Lib.hid (bl_tr (bl_al HB5.out _) hb6); clear hb6 kx6 kr6 H5))
  have hs6 : Q4 w (w6.alloc (BX 1 a ⟨#[]⟩)) (w2.heap.size + 1 + 1) w4.heap.size w6.heap.size a r := ⟨hp_al KX6.out _, hp_al KR6.out _, heap_alloc_new _ _, bl_al HB6.out _⟩
  have HS6 := Lib.hid hs6.drew
  clear hs6
  obtain ⟨t, ht⟩ : ∃ t : Bool, t = decide (r < 0) := ⟨_, rfl⟩
  have HT := Lib.hid ht
  clear ht
  have h12' : ∀ u, Calls Try.prog 13 #[.int .i64 12, .agg #[.int .i64 1, .int .i64 r, .string ⟨#[]⟩], .agg #[.int .i64 1, .int .i64 0, .string ⟨#[]⟩]] u fun e w' => e = .returned (.tuple #[.agg #[.int .i64 (truV t).k, .int .i64 (truV t).n, .string (str (truV t).s)], .int .i64 0]) ∧ Below u.heap.size u w' := fun u => by
    have h := H12.out u
    by_cases hr : r < 0
    · rw [HT.out, decide_eq_true hr]; simp only [if_pos hr] at h; exact h
    · rw [HT.out, decide_eq_false hr]; simp only [if_neg hr] at h; exact h
  have H12' := Lib.hid h12'
  clear h12' H12 HB2 HB3 HB4 HB5 HB6 KX3 KY3 KX4 KX5 KR5 KX6 KR6
  refine wp_region_held_drew (S := fun u => Q4 w u (w2.heap.size + 1 + 1) w4.heap.size w6.heap.size a r) (by kernel_rfl) (HS6.out) (fun hHeld => ?_)
  refine wpAnyH_take (i := 0) (oi := ({ dst := some 77, op := Op.load 23 (Operand.tmp 9), type := 23, pos := "law.go:152", after := #[], guard := none } : Oper)) (v := ?_) rfl (by kernel_rfl) (by kernel_rfl) (by kernel_rfl) (fun _ _ _ h => h) (Or.inl ⟨by rfl, ?_⟩) (by assumption) ?_
  rotate_left 1
  · (intro u hSw; have p0 := (bx_cells hSw.2.1).1; have p1 := (bx_cells hSw.2.1).2.1; have p2 := (bx_cells hSw.2.1).2.2; go_simp; try with_reducible rfl)
  try simp only [Act.put, List.setIfInBounds_toArray, List.set_cons_zero, List.set_cons_succ]
  refine wpAnyH_ready (rs := [1, 6]) (by kernel_rfl) (by simp) ?_
  refine (AllReadyH.cons (o := ({ dst := some 78, op := Op.call { callee := Callee.value (Operand.func 29), args := #[Operand.const (Value.int IntKind.i64 0)], argTypes := #[2] }, type := 23, pos := "law.go:152", after := #[], guard := none } : Oper)) rfl (fun K hK => ?_) (AllReadyH.cons (o := ({ dst := some 15, op := Op.alloc 23, type := 0, pos := "law.go:152", after := #[], guard := none } : Oper)) rfl (fun K hK => ?_) AllReadyH.nil))
  · go_simp
    go_at_call 29
    refine (aw_num _ _).mono ?_
    rintro e w' ⟨rfl, rfl⟩
    go_wp2_with fail
    refine hK.out _ _ (hHeld.al _) (fun hHeld => ?_)
    try (replace hz := hp_al hz (BX 1 0 ⟨#[]⟩))
    clear hK K
    try simp only [Act.put, List.setIfInBounds_toArray, List.set_cons_zero, List.set_cons_succ]
    refine wpAnyH_ready (rs := [2, 6]) (by kernel_rfl) (by simp) ?_
    refine (AllReadyH.cons (o := ({ dst := some 79, op := Op.call { callee := Callee.value (Operand.func 13), args := #[Operand.const (Value.int IntKind.i64 12), Operand.tmp 77, Operand.tmp 78], argTypes := #[3, 23, 23] }, type := 26, pos := "law.go:152", after := #[{ on := 0, ground := Ground.data }, { on := 1, ground := Ground.data }, { on := 1, ground := Ground.chain }], guard := none } : Oper)) rfl (fun K hK => ?_) (AllReadyH.cons (o := ({ dst := some 15, op := Op.alloc 23, type := 0, pos := "law.go:152", after := #[], guard := none } : Oper)) rfl (fun K hK => ?_) AllReadyH.nil))
    · go_simp
      go_at_call 13
      refine (H12'.out _).mono ?_
      rintro e w7 ⟨rfl, hb7⟩
      try (replace hz := kp hz hb7)
      go_wp2_with fail
      refine hK.out _ _ (hHeld.below hb7) (fun hHeld => ?_)
      clear hK K
      try simp only [Act.put, List.setIfInBounds_toArray, List.set_cons_zero, List.set_cons_succ]
      refine wpAnyH_take (i := 3) (oi := ({ dst := some 76, op := Op.move (Operand.tmp 79), type := 26, pos := "law.go:152", after := #[{ on := 2, ground := Ground.data }], guard := none } : Oper)) (v := ?_) rfl (by kernel_rfl) (by kernel_rfl) (by kernel_rfl) (fun _ _ _ h => h) (Or.inl ⟨by rfl, ?_⟩) (by assumption) ?_
      rotate_left 1
      · (intro u hSw; go_simp; try with_reducible rfl)
      try simp only [Act.put, List.setIfInBounds_toArray, List.set_cons_zero, List.set_cons_succ]
      refine wpAnyH_take (i := 4) (oi := ({ dst := some 80, op := Op.extract (Operand.tmp 76) 0, type := 23, pos := "law.go:152", after := #[{ on := 3, ground := Ground.data }], guard := none } : Oper)) (v := ?_) rfl (by kernel_rfl) (by kernel_rfl) (by kernel_rfl) (fun _ _ _ h => h) (Or.inl ⟨by rfl, ?_⟩) (by assumption) ?_
      rotate_left 1
      · (intro u hSw; go_simp; try with_reducible rfl)
      try simp only [Act.put, List.setIfInBounds_toArray, List.set_cons_zero, List.set_cons_succ]
      refine wpAnyH_take (i := 5) (oi := ({ dst := some 81, op := Op.extract (Operand.tmp 76) 1, type := 25, pos := "law.go:152", after := #[{ on := 3, ground := Ground.data }, { on := 7, ground := Ground.gcOnly Departure.lateStores }], guard := none } : Oper)) (v := ?_) rfl (by kernel_rfl) (by kernel_rfl) (by kernel_rfl) (fun _ _ _ h => h) (Or.inl ⟨by rfl, ?_⟩) (by assumption) ?_
      rotate_left 1
      · (intro u hSw; go_simp; try with_reducible rfl)
      try simp only [Act.put, List.setIfInBounds_toArray, List.set_cons_zero, List.set_cons_succ]
      refine wpAnyH_ready (rs := [6]) (by kernel_rfl) (by simp) ?_
      refine (AllReadyH.cons (o := ({ dst := some 15, op := Op.alloc 23, type := 0, pos := "law.go:152", after := #[], guard := none } : Oper)) rfl (fun K hK => ?_) AllReadyH.nil)
      have hlt := hHeld.lt
      have hP := hHeld
      go_simp
      refine hK.out _ _ (hHeld.al _) (fun hHeld => ?_)
      first
        | (have hz := q4_gd hHeld (size_a2 w6 _ _); replace hlt := lt_g hlt (size_a2 w6 _ _))
        | (have hz := q4_gd hHeld (size_a1 w6 _); replace hlt := lt_g hlt (size_a1 w6 _))
        | (have hz := q4_g hHeld (size_a2 w6 _ _); replace hlt := lt_g hlt (size_a2 w6 _ _))
        | (have hz := q4_g hHeld (size_a1 w6 _); replace hlt := lt_g hlt (size_a1 w6 _))
        | (have hz := q4_new hHeld)
      clear hK K
      try simp only [Act.put, List.setIfInBounds_toArray, List.set_cons_zero, List.set_cons_succ]
      refine wpAnyH_ready (rs := [7]) (by kernel_rfl) (by simp) ?_
      refine (AllReadyH.cons (o := ({ dst := none, op := Op.store 23 (Operand.tmp 15) (Operand.tmp 80), type := 0, pos := "law.go:152", after := #[{ on := 6, ground := Ground.data }, { on := 4, ground := Ground.data }, { on := 2, ground := Ground.chain }, { on := 0, ground := Ground.phase }, { on := 1, ground := Ground.phase }, { on := 2, ground := Ground.phase }, { on := 3, ground := Ground.phase }, { on := 4, ground := Ground.phase }, { on := 5, ground := Ground.textOnly Departure.lateStores }, { on := 6, ground := Ground.phase }], guard := none } : Oper)) rfl (fun K hK => ?_) AllReadyH.nil)
      obtain ⟨z0, z1, z2⟩ := bx_cells hz
      obtain ⟨f0, f1, f2⟩ := bx_free hz
      have hq5 := hHeld.set (truV t) hlt
      have hz5 := set3 hz (truV t)
      go_simp
      clear z0 z1 z2 f0 f1 f2
      first
        | (generalize World.setCell (World.setCell (World.setCell _ _ _) _ _) _ _ = u7 at hq5 hz5 ⊢; refine hK.out _ _ hq5 (fun hHeld => ?_))
        | (replace hq5 := hP.al (BX (truV t).k (truV t).n (str (truV t).s)); replace hz5 := q4_new hq5; refine hK.out _ _ hq5 (fun hHeld => ?_))
      clear hK K
      try simp only [Act.put]
      refine wpAnyH_take (i := 8) (oi := ({ dst := some 16, op := Op.assign (Operand.tmp 81), type := 25, pos := "law.go:152", after := #[{ on := 5, ground := Ground.data }, { on := 7, ground := Ground.chain }, { on := 0, ground := Ground.phase }, { on := 1, ground := Ground.phase }, { on := 2, ground := Ground.phase }, { on := 3, ground := Ground.phase }, { on := 4, ground := Ground.phase }, { on := 5, ground := Ground.phase }, { on := 6, ground := Ground.phase }, { on := 7, ground := Ground.phase }], guard := none } : Oper)) (v := ?_) rfl (by kernel_rfl) (by kernel_rfl) (by kernel_rfl) (fun _ _ _ h => h) (Or.inl ⟨by rfl, ?_⟩) (by assumption) ?_
      rotate_left 1
      · (intro u hSw; go_simp; try with_reducible rfl)
      try simp only [Act.put, List.setIfInBounds_toArray, List.set_cons_zero, List.set_cons_succ]
      refine wpAnyH_done (by kernel_rfl) ?_ _
      obtain ⟨x0, x1, x2⟩ := bx_cells (q4_x hHeld)
      obtain ⟨s0, s1, s2⟩ := bx_cells (q4_s hHeld)
      obtain ⟨r0, r1, r2⟩ := bx_cells (q4_r hHeld)
      obtain ⟨xx0, xx1, xx2⟩ := bx_cells (q4_x hP)
      obtain ⟨ss0, ss1, ss2⟩ := bx_cells (q4_s hP)
      obtain ⟨rr0, rr1, rr2⟩ := bx_cells (q4_r hP)
      obtain ⟨t0, t1, t2⟩ := bx_cells hz5
      have HBE := Lib.hid (q4_b hHeld)
      clear hHeld hP hz5 hq5
      cases t
      · have n1 : (truV false).n = 0 := rfl
        have hr : ¬ r < 0 := fun h => by have := HT.out; rw [decide_eq_true h] at this; cases this
        by_cases c0 : r = 0
        · have g1 : (r == 0) = true := beq_iff_eq.2 c0
          clear hr c0
          go_wp2_with fail
          go_ret
          exact ⟨rfl, HBE.out⟩
        · have g1 : (r == 0) = false := beq_false_of_ne c0
          have g2 : decide (a < 0) = false := decide_eq_false (by have := E4.out; omega)
          clear hr c0
          go_wp2_with fail
          go_ret
          exact ⟨rfl, HBE.out⟩
      · have n1 : (truV true).n = 1 := rfl
        have hr : r < 0 := of_decide_eq_true HT.out.symm
        have g1 : (r == 0) = false := beq_false_of_ne (by omega)
        have g2 : decide (a < 0) = true := decide_eq_true (by have := E4.out; omega)
        clear hr
        go_wp2_with fail
        go_ret
        exact ⟨rfl, HBE.out⟩
    · have hlt := hHeld.lt
      have hP := hHeld
      go_simp
      refine hK.out _ _ (hHeld.al _) (fun hHeld => ?_)
      first
        | (have hz := q4_gd hHeld (size_a2 w6 _ _); replace hlt := lt_g hlt (size_a2 w6 _ _))
        | (have hz := q4_gd hHeld (size_a1 w6 _); replace hlt := lt_g hlt (size_a1 w6 _))
        | (have hz := q4_g hHeld (size_a2 w6 _ _); replace hlt := lt_g hlt (size_a2 w6 _ _))
        | (have hz := q4_g hHeld (size_a1 w6 _); replace hlt := lt_g hlt (size_a1 w6 _))
        | (have hz := q4_new hHeld)
      clear hK K
      try simp only [Act.put, List.setIfInBounds_toArray, List.set_cons_zero, List.set_cons_succ]
      refine wpAnyH_ready (rs := [2]) (by kernel_rfl) (by simp) ?_
      refine (AllReadyH.cons (o := ({ dst := some 79, op := Op.call { callee := Callee.value (Operand.func 13), args := #[Operand.const (Value.int IntKind.i64 12), Operand.tmp 77, Operand.tmp 78], argTypes := #[3, 23, 23] }, type := 26, pos := "law.go:152", after := #[{ on := 0, ground := Ground.data }, { on := 1, ground := Ground.data }, { on := 1, ground := Ground.chain }], guard := none } : Oper)) rfl (fun K hK => ?_) AllReadyH.nil)
      go_simp
      go_at_call 13
      refine (H12'.out _).mono ?_
      rintro e w7 ⟨rfl, hb7⟩
      try (replace hz := kp hz hb7)
      go_wp2_with fail
      refine hK.out _ _ (hHeld.below hb7) (fun hHeld => ?_)
      clear hK K
      try simp only [Act.put, List.setIfInBounds_toArray, List.set_cons_zero, List.set_cons_succ]
      refine wpAnyH_take (i := 3) (oi := ({ dst := some 76, op := Op.move (Operand.tmp 79), type := 26, pos := "law.go:152", after := #[{ on := 2, ground := Ground.data }], guard := none } : Oper)) (v := ?_) rfl (by kernel_rfl) (by kernel_rfl) (by kernel_rfl) (fun _ _ _ h => h) (Or.inl ⟨by rfl, ?_⟩) (by assumption) ?_
      rotate_left 1
      · (intro u hSw; go_simp; try with_reducible rfl)
      try simp only [Act.put, List.setIfInBounds_toArray, List.set_cons_zero, List.set_cons_succ]
      refine wpAnyH_take (i := 4) (oi := ({ dst := some 80, op := Op.extract (Operand.tmp 76) 0, type := 23, pos := "law.go:152", after := #[{ on := 3, ground := Ground.data }], guard := none } : Oper)) (v := ?_) rfl (by kernel_rfl) (by kernel_rfl) (by kernel_rfl) (fun _ _ _ h => h) (Or.inl ⟨by rfl, ?_⟩) (by assumption) ?_
      rotate_left 1
      · (intro u hSw; go_simp; try with_reducible rfl)
      try simp only [Act.put, List.setIfInBounds_toArray, List.set_cons_zero, List.set_cons_succ]
      refine wpAnyH_take (i := 5) (oi := ({ dst := some 81, op := Op.extract (Operand.tmp 76) 1, type := 25, pos := "law.go:152", after := #[{ on := 3, ground := Ground.data }, { on := 7, ground := Ground.gcOnly Departure.lateStores }], guard := none } : Oper)) (v := ?_) rfl (by kernel_rfl) (by kernel_rfl) (by kernel_rfl) (fun _ _ _ h => h) (Or.inl ⟨by rfl, ?_⟩) (by assumption) ?_
      rotate_left 1
      · (intro u hSw; go_simp; try with_reducible rfl)
      try simp only [Act.put, List.setIfInBounds_toArray, List.set_cons_zero, List.set_cons_succ]
      refine wpAnyH_ready (rs := [7]) (by kernel_rfl) (by simp) ?_
      refine (AllReadyH.cons (o := ({ dst := none, op := Op.store 23 (Operand.tmp 15) (Operand.tmp 80), type := 0, pos := "law.go:152", after := #[{ on := 6, ground := Ground.data }, { on := 4, ground := Ground.data }, { on := 2, ground := Ground.chain }, { on := 0, ground := Ground.phase }, { on := 1, ground := Ground.phase }, { on := 2, ground := Ground.phase }, { on := 3, ground := Ground.phase }, { on := 4, ground := Ground.phase }, { on := 5, ground := Ground.textOnly Departure.lateStores }, { on := 6, ground := Ground.phase }], guard := none } : Oper)) rfl (fun K hK => ?_) AllReadyH.nil)
      obtain ⟨z0, z1, z2⟩ := bx_cells hz
      obtain ⟨f0, f1, f2⟩ := bx_free hz
      have hq5 := hHeld.set (truV t) hlt
      have hz5 := set3 hz (truV t)
      go_simp
      clear z0 z1 z2 f0 f1 f2
      first
        | (generalize World.setCell (World.setCell (World.setCell _ _ _) _ _) _ _ = u7 at hq5 hz5 ⊢; refine hK.out _ _ hq5 (fun hHeld => ?_))
        | (replace hq5 := hP.al (BX (truV t).k (truV t).n (str (truV t).s)); replace hz5 := q4_new hq5; refine hK.out _ _ hq5 (fun hHeld => ?_))
      clear hK K
      try simp only [Act.put]
      refine wpAnyH_take (i := 8) (oi := ({ dst := some 16, op := Op.assign (Operand.tmp 81), type := 25, pos := "law.go:152", after := #[{ on := 5, ground := Ground.data }, { on := 7, ground := Ground.chain }, { on := 0, ground := Ground.phase }, { on := 1, ground := Ground.phase }, { on := 2, ground := Ground.phase }, { on := 3, ground := Ground.phase }, { on := 4, ground := Ground.phase }, { on := 5, ground := Ground.phase }, { on := 6, ground := Ground.phase }, { on := 7, ground := Ground.phase }], guard := none } : Oper)) (v := ?_) rfl (by kernel_rfl) (by kernel_rfl) (by kernel_rfl) (fun _ _ _ h => h) (Or.inl ⟨by rfl, ?_⟩) (by assumption) ?_
      rotate_left 1
      · (intro u hSw; go_simp; try with_reducible rfl)
      try simp only [Act.put, List.setIfInBounds_toArray, List.set_cons_zero, List.set_cons_succ]
      refine wpAnyH_done (by kernel_rfl) ?_ _
      obtain ⟨x0, x1, x2⟩ := bx_cells (q4_x hHeld)
      obtain ⟨s0, s1, s2⟩ := bx_cells (q4_s hHeld)
      obtain ⟨r0, r1, r2⟩ := bx_cells (q4_r hHeld)
      obtain ⟨xx0, xx1, xx2⟩ := bx_cells (q4_x hP)
      obtain ⟨ss0, ss1, ss2⟩ := bx_cells (q4_s hP)
      obtain ⟨rr0, rr1, rr2⟩ := bx_cells (q4_r hP)
      obtain ⟨t0, t1, t2⟩ := bx_cells hz5
      have HBE := Lib.hid (q4_b hHeld)
      clear hHeld hP hz5 hq5
      cases t
      · have n1 : (truV false).n = 0 := rfl
        have hr : ¬ r < 0 := fun h => by have := HT.out; rw [decide_eq_true h] at this; cases this
        by_cases c0 : r = 0
        · have g1 : (r == 0) = true := beq_iff_eq.2 c0
          clear hr c0
          go_wp2_with fail
          go_ret
          exact ⟨rfl, HBE.out⟩
        · have g1 : (r == 0) = false := beq_false_of_ne c0
          have g2 : decide (a < 0) = false := decide_eq_false (by have := E4.out; omega)
          clear hr c0
          go_wp2_with fail
          go_ret
          exact ⟨rfl, HBE.out⟩
      · have n1 : (truV true).n = 1 := rfl
        have hr : r < 0 := of_decide_eq_true HT.out.symm
        have g1 : (r == 0) = false := beq_false_of_ne (by omega)
        have g2 : decide (a < 0) = true := decide_eq_true (by have := E4.out; omega)
        clear hr
        go_wp2_with fail
        go_ret
        exact ⟨rfl, HBE.out⟩
  · have hlt := hHeld.lt
    have hP := hHeld
    go_simp
    refine hK.out _ _ (hHeld.al _) (fun hHeld => ?_)
    first
      | (have hz := q4_gd hHeld (size_a2 w6 _ _); replace hlt := lt_g hlt (size_a2 w6 _ _))
      | (have hz := q4_gd hHeld (size_a1 w6 _); replace hlt := lt_g hlt (size_a1 w6 _))
      | (have hz := q4_g hHeld (size_a2 w6 _ _); replace hlt := lt_g hlt (size_a2 w6 _ _))
      | (have hz := q4_g hHeld (size_a1 w6 _); replace hlt := lt_g hlt (size_a1 w6 _))
      | (have hz := q4_new hHeld)
    clear hK K
    try simp only [Act.put, List.setIfInBounds_toArray, List.set_cons_zero, List.set_cons_succ]
    refine wpAnyH_ready (rs := [1]) (by kernel_rfl) (by simp) ?_
    refine (AllReadyH.cons (o := ({ dst := some 78, op := Op.call { callee := Callee.value (Operand.func 29), args := #[Operand.const (Value.int IntKind.i64 0)], argTypes := #[2] }, type := 23, pos := "law.go:152", after := #[], guard := none } : Oper)) rfl (fun K hK => ?_) AllReadyH.nil)
    go_simp
    go_at_call 29
    refine (aw_num _ _).mono ?_
    rintro e w' ⟨rfl, rfl⟩
    go_wp2_with fail
    refine hK.out _ _ (hHeld.al _) (fun hHeld => ?_)
    try (replace hz := hp_al hz (BX 1 0 ⟨#[]⟩))
    clear hK K
    try simp only [Act.put, List.setIfInBounds_toArray, List.set_cons_zero, List.set_cons_succ]
    refine wpAnyH_ready (rs := [2]) (by kernel_rfl) (by simp) ?_
    refine (AllReadyH.cons (o := ({ dst := some 79, op := Op.call { callee := Callee.value (Operand.func 13), args := #[Operand.const (Value.int IntKind.i64 12), Operand.tmp 77, Operand.tmp 78], argTypes := #[3, 23, 23] }, type := 26, pos := "law.go:152", after := #[{ on := 0, ground := Ground.data }, { on := 1, ground := Ground.data }, { on := 1, ground := Ground.chain }], guard := none } : Oper)) rfl (fun K hK => ?_) AllReadyH.nil)
    go_simp
    go_at_call 13
    refine (H12'.out _).mono ?_
    rintro e w7 ⟨rfl, hb7⟩
    try (replace hz := kp hz hb7)
    go_wp2_with fail
    refine hK.out _ _ (hHeld.below hb7) (fun hHeld => ?_)
    clear hK K
    try simp only [Act.put, List.setIfInBounds_toArray, List.set_cons_zero, List.set_cons_succ]
    refine wpAnyH_take (i := 3) (oi := ({ dst := some 76, op := Op.move (Operand.tmp 79), type := 26, pos := "law.go:152", after := #[{ on := 2, ground := Ground.data }], guard := none } : Oper)) (v := ?_) rfl (by kernel_rfl) (by kernel_rfl) (by kernel_rfl) (fun _ _ _ h => h) (Or.inl ⟨by rfl, ?_⟩) (by assumption) ?_
    rotate_left 1
    · (intro u hSw; go_simp; try with_reducible rfl)
    try simp only [Act.put, List.setIfInBounds_toArray, List.set_cons_zero, List.set_cons_succ]
    refine wpAnyH_take (i := 4) (oi := ({ dst := some 80, op := Op.extract (Operand.tmp 76) 0, type := 23, pos := "law.go:152", after := #[{ on := 3, ground := Ground.data }], guard := none } : Oper)) (v := ?_) rfl (by kernel_rfl) (by kernel_rfl) (by kernel_rfl) (fun _ _ _ h => h) (Or.inl ⟨by rfl, ?_⟩) (by assumption) ?_
    rotate_left 1
    · (intro u hSw; go_simp; try with_reducible rfl)
    try simp only [Act.put, List.setIfInBounds_toArray, List.set_cons_zero, List.set_cons_succ]
    refine wpAnyH_take (i := 5) (oi := ({ dst := some 81, op := Op.extract (Operand.tmp 76) 1, type := 25, pos := "law.go:152", after := #[{ on := 3, ground := Ground.data }, { on := 7, ground := Ground.gcOnly Departure.lateStores }], guard := none } : Oper)) (v := ?_) rfl (by kernel_rfl) (by kernel_rfl) (by kernel_rfl) (fun _ _ _ h => h) (Or.inl ⟨by rfl, ?_⟩) (by assumption) ?_
    rotate_left 1
    · (intro u hSw; go_simp; try with_reducible rfl)
    try simp only [Act.put, List.setIfInBounds_toArray, List.set_cons_zero, List.set_cons_succ]
    refine wpAnyH_ready (rs := [7]) (by kernel_rfl) (by simp) ?_
    refine (AllReadyH.cons (o := ({ dst := none, op := Op.store 23 (Operand.tmp 15) (Operand.tmp 80), type := 0, pos := "law.go:152", after := #[{ on := 6, ground := Ground.data }, { on := 4, ground := Ground.data }, { on := 2, ground := Ground.chain }, { on := 0, ground := Ground.phase }, { on := 1, ground := Ground.phase }, { on := 2, ground := Ground.phase }, { on := 3, ground := Ground.phase }, { on := 4, ground := Ground.phase }, { on := 5, ground := Ground.textOnly Departure.lateStores }, { on := 6, ground := Ground.phase }], guard := none } : Oper)) rfl (fun K hK => ?_) AllReadyH.nil)
    obtain ⟨z0, z1, z2⟩ := bx_cells hz
    obtain ⟨f0, f1, f2⟩ := bx_free hz
    have hq5 := hHeld.set (truV t) hlt
    have hz5 := set3 hz (truV t)
    go_simp
    clear z0 z1 z2 f0 f1 f2
    first
      | (generalize World.setCell (World.setCell (World.setCell _ _ _) _ _) _ _ = u7 at hq5 hz5 ⊢; refine hK.out _ _ hq5 (fun hHeld => ?_))
      | (replace hq5 := hP.al (BX (truV t).k (truV t).n (str (truV t).s)); replace hz5 := q4_new hq5; refine hK.out _ _ hq5 (fun hHeld => ?_))
    clear hK K
    try simp only [Act.put]
    refine wpAnyH_take (i := 8) (oi := ({ dst := some 16, op := Op.assign (Operand.tmp 81), type := 25, pos := "law.go:152", after := #[{ on := 5, ground := Ground.data }, { on := 7, ground := Ground.chain }, { on := 0, ground := Ground.phase }, { on := 1, ground := Ground.phase }, { on := 2, ground := Ground.phase }, { on := 3, ground := Ground.phase }, { on := 4, ground := Ground.phase }, { on := 5, ground := Ground.phase }, { on := 6, ground := Ground.phase }, { on := 7, ground := Ground.phase }], guard := none } : Oper)) (v := ?_) rfl (by kernel_rfl) (by kernel_rfl) (by kernel_rfl) (fun _ _ _ h => h) (Or.inl ⟨by rfl, ?_⟩) (by assumption) ?_
    rotate_left 1
    · (intro u hSw; go_simp; try with_reducible rfl)
    try simp only [Act.put, List.setIfInBounds_toArray, List.set_cons_zero, List.set_cons_succ]
    refine wpAnyH_done (by kernel_rfl) ?_ _
    obtain ⟨x0, x1, x2⟩ := bx_cells (q4_x hHeld)
    obtain ⟨s0, s1, s2⟩ := bx_cells (q4_s hHeld)
    obtain ⟨r0, r1, r2⟩ := bx_cells (q4_r hHeld)
    obtain ⟨xx0, xx1, xx2⟩ := bx_cells (q4_x hP)
    obtain ⟨ss0, ss1, ss2⟩ := bx_cells (q4_s hP)
    obtain ⟨rr0, rr1, rr2⟩ := bx_cells (q4_r hP)
    obtain ⟨t0, t1, t2⟩ := bx_cells hz5
    have HBE := Lib.hid (q4_b hHeld)
    clear hHeld hP hz5 hq5
    cases t
    · have n1 : (truV false).n = 0 := rfl
      have hr : ¬ r < 0 := fun h => by have := HT.out; rw [decide_eq_true h] at this; cases this
      by_cases c0 : r = 0
      · have g1 : (r == 0) = true := beq_iff_eq.2 c0
        clear hr c0
        go_wp2_with fail
        go_ret
        exact ⟨rfl, HBE.out⟩
      · have g1 : (r == 0) = false := beq_false_of_ne c0
        have g2 : decide (a < 0) = false := decide_eq_false (by have := E4.out; omega)
        clear hr c0
        go_wp2_with fail
        go_ret
        exact ⟨rfl, HBE.out⟩
    · have n1 : (truV true).n = 1 := rfl
      have hr : r < 0 := of_decide_eq_true HT.out.symm
      have g1 : (r == 0) = false := beq_false_of_ne (by omega)
      have g2 : decide (a < 0) = true := decide_eq_true (by have := E4.out; omega)
      clear hr
      go_wp2_with fail
      go_ret
      exact ⟨rfl, HBE.out⟩
theorem rounds_walk (a b : Int) (w : World) (ha : I64 a) (hb : I64 b) : Calls Try.prog 11 #[.int .i64 a, .int .i64 b] w fun e w' => e = .returned (.bool true) ∧ Below w.heap.size w w' := by
  by_cases h0 : b = 0
  · subst h0; exact rounds_zero a w ha
  by_cases hm : a = -9223372036854775808 ∧ b = -1
  · obtain ⟨rfl, rfl⟩ := hm; exact rounds_least w
  · exact rounds_most a b w ha hb h0 hm
end Go.Proofs.Ytkcjegdmcboohaa
namespace Go.Proofs.Ytkcjegdmcboohaa
open Go.ChangeShapes Go.WideShapes Go.ChangeAt Go.RowKit Go.Deep
namespace plainValueRounds
set_option maxRecDepth 100000 in
theorem contract (H : Type) (enc : TypeId × Value → H) (W : World) (base : Nat) (args : Array Value) (ds gs : List (DataW H)) (before : List MemPlace)
    (hval : ∀ (j : Nat) t v, Try.f11.params[j]? = some t → args[j]? = some v → Value.okWide Try.prog W .any base t v)
    (hW : DataW.Whole enc Try.prog Try.f11.params.toList Rows.valueRoundsSpec.vars false W args.toList ds gs before) (hk : Rows.uptoSmall H (ds ++ gs) = true) :
    Calls Try.prog 11 args W fun e W' => ∃ v, e = .returned v ∧ Rows.valueRoundsSpec.post enc Try.prog Try.f11 false true false false W args v W' := by
  have hW' := hW
  obtain ⟨p, q, hA0, hV, rfl, hfz, hnd⟩ := hW
  have hA : DataW.TrodAll enc Try.prog W 0 (fun _ => true) true Try.f11.params.toList args.toList ds p := hA0
  rw [Try.params11] at hA hval
  obtain ⟨v0, vs0, d0, ds0, p0, q0, hargs, rfl, rfl, h0, r0⟩ := trodAll_cons hA
  obtain ⟨v1, vs1, d1, ds1, p1, q1, rfl, rfl, rfl, h1, r1⟩ := trodAll_cons r0
  obtain ⟨rfl, rfl, rfl⟩ := trodAll_nil r1
  obtain rfl : args = #[v0, v1] := by cases args; simp_all
  obtain ⟨rfl, rfl⟩ := trodVars_none hV
  have hbulk : Rows.uptoBulkAll ([d0, d1] ++ []) ≤ 1048576 := of_decide_eq_true hk
  simp only [List.append_nil, Rows.uptoBulkAll] at hbulk
  obtain ⟨a0, rfl, rfl, rfl, g0⟩ := open_int Try.underlying2 (hval 0 2 v0 rfl rfl) h0
  replace g0 := i64_of_wf g0
  obtain ⟨a1, rfl, rfl, rfl, g1⟩ := open_int Try.underlying2 (hval 1 2 v1 rfl rfl) h1
  replace g1 := i64_of_wf g1
  refine (rounds_walk a0 a1 W g0 g1).mono fun e W' ⟨he, hb⟩ => ⟨_, he, ?_⟩
  exact law_post (T := 4) laidOut (by rw [Try.params11]; decide +kernel) rfl rfl Try.underlying4 (fun gs h => by subst h; rfl) hW' hb
set_option maxRecDepth 100000 in
theorem lifted (os : Os) (started : os.Started) (H : Type) (enc : TypeId × Value → H) (F : Stop.Interp) :
    ReturnsInHanded {} Try.checked os 11 .any ((Rows.OpenSpec.upto Rows.valueRoundsSpec).pre6 enc Try.prog Try.f11 Rows.valueRoundsUptoRow.domain false) (((Rows.OpenSpec.upto Rows.valueRoundsSpec).at F).post enc Try.prog Try.f11 false true false false) := by
  refine returnsInHanded_of_cond (C := Try.checked) (s := Rows.OpenSpec.upto Rows.valueRoundsSpec) (k := Rows.uptoSmall) rfl own started (by kernel_rfl) Try.func11
    (OpenSpec.witness (enc := enc) (C := Try.checked) (s := Rows.OpenSpec.upto Rows.valueRoundsSpec) (k := Rows.uptoSmall) rfl false ⟨#[], #[.int .i64 0, .int .i64 0], []⟩ 8 (by kernel_rfl) (by kernel_rfl) (by kernel_rfl)
      (x := ([.lit (.int .i64 0), .lit (.int .i64 0)], [], [])) (by kernel_rfl) rfl (by kernel_rfl)) ?_
  intro W base args ds gs before hval hW _ hk _
  exact contract H enc W base args ds gs before hval hW hk
theorem over : Rows.valueRoundsUptoRow.holds Try.pinned (Rows.OpenSpec.upto Rows.valueRoundsSpec) :=
  OpenClaim.holds_of_cond 11 Try.f11 rfl rfl rfl rfl rfl rfl rfl ⟨rfl, rfl, rfl, rfl, rfl⟩ rfl rfl rfl rfl rfl (by kernel_rfl) Try.func11 (by kernel_rfl)
    (of_decide_eq_true (by kernel_rfl)) (by unfold Func.isWrapper; first | (rw [if_pos (by decide +kernel)]; kernel_rfl) | (rw [if_neg (by decide +kernel)]; exact ⟨rfl, rfl⟩))
    (fun os started H enc _ F => lifted os started H enc F)
/-- the statement, its second form -/
theorem proved : Rows.ValueRoundsUptoSaid := over
end plainValueRounds
theorem valueRoundsUpto : Rows.ValueRoundsUptoSaid := plainValueRounds.proved
end Go.Proofs.Ytkcjegdmcboohaa
