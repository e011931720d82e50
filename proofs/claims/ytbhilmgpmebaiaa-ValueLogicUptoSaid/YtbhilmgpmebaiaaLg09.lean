import Derived.Test.YtbhilmgpmebaiaaLg01
import Derived.Test.YtbhilmgpmebaiaaLg06
import Derived.Test.YtbhilmgpmebaiaaLg08
namespace Go.Proofs.Ytbhilmgpmebaiaa
open Go.RowKit
end Go.Proofs.Ytbhilmgpmebaiaa
namespace Go.Proofs.Ytbhilmgpmebaiaa
open Go.RowKit
attribute [local go_sem ↓] eql32_eq neq32_eq
/-- the three truth values in the law's own order -/
def tv (p : Nat) : Val := if p = 0 then truV false else if p = 1 then nulV else truV true
def L3 : List Val := [truV false, nulV, truV true]
theorem L3_get {k : Nat} (h : k < 3) : L3[k]? = some (tv k) := by
  match k, h with
  | 0, _ => rfl
  | 1, _ => rfl
  | 2, _ => rfl
theorem tv_inj {k p : Nat} (hk : k < 3) (hp : p < 3) : tv k = tv p ↔ k = p := by
  constructor
  · intro h
    match k, hk, p, hp with
    | 0, _, 0, _ => rfl
    | 1, _, 1, _ => rfl
    | 2, _, 2, _ => rfl
    | 0, _, 1, _ => exact absurd (congrArg Val.k h) (by decide)
    | 0, _, 2, _ => exact absurd (congrArg Val.n h) (by decide)
    | 1, _, 0, _ => exact absurd (congrArg Val.k h) (by decide)
    | 1, _, 2, _ => exact absurd (congrArg Val.k h) (by decide)
    | 2, _, 0, _ => exact absurd (congrArg Val.n h) (by decide)
    | 2, _, 1, _ => exact absurd (congrArg Val.k h) (by decide)
  · rintro rfl; rfl
theorem tv_s (p : Nat) : (tv p).s = [] := by
  unfold tv
  repeat' split
  all_goals rfl
theorem tv_ok (p : Nat) : (tv p).OK := by
  unfold tv
  repeat' split
  all_goals exact ⟨fun x hx => (by simp [truV, nulV] at hx), by decide, by decide, by decide, by decide⟩
def RkS (w u : World) (x : Val) : Prop := u.heap[w.heap.size]? = some (BX x.k x.n (str x.s)) ∧ Below w.heap.size w u
theorem RkS.drew {w u : World} {x : Val} (h : RkS w u x) : RkS w u.drew x := ⟨h.1, h.2.drew⟩
set_option maxRecDepth 100000 in
set_option maxHeartbeats 3200000 in
theorem rank_any (p : Nat) (hp : p < 3) (v : Value) (g : Nat) (T : TypeId) (w : World) (hg : w.heap[g]? = some (.cells #[v] T (0, 0))) (h : Rw w v L3) :
    Calls Try.prog 28 #[.agg #[.int .i64 (tv p).k, .int .i64 (tv p).n, .string (str (tv p).s)], .pointer (some ⟨g, 0, none⟩)] w fun e w' => e = .returned (.int .i64 p) ∧ Below w.heap.size w w' := by
  obtain ⟨a, cap, rfl, hc, hcell⟩ := h
  have c0 := (cell_of_row _ g 0 _ _ _ hg).trans (show (#[Value.slice a L3.length cap] : Array Value)[0]? = some (.slice a 3 cap) from rfl)
  have hlg := bx_lt hg
  obtain ⟨b, off, rfl, hb, hce⟩ := hcell (by decide)
  have HCE := Lib.hid hce
  have hcn : (3 : Int) ≤ (cap : Int) := by have := hc.1; simp only [show L3.length = 3 from rfl] at this; omega
  have HC0 := Lib.hid c0
  clear hce hg hcell hc
  have hq := fun k (hk : k < 3) (u : World) => run_eql32 u (tv k) (tv p) (by rw [tv_s]; exact fun x hx => by simp at hx) (by rw [tv_s]; exact fun x hx => by simp at hx)
  have HQ := Lib.hid hq
  clear hq
  go_enter Try.func28, Try.ntmps28
  go_wp2_with fail
  go_loopw [7] (fun i wr => ∃ k : Nat, k ≤ p ∧ i = .int .i64 k ∧ Below w.heap.size w wr ∧ wr.heap[w.heap.size]? = some (BX (tv p).k (tv p).n (str (tv p).s))) (fun i _ => p - (intOf i).toNat)
  case atStart => exact ⟨0, Nat.zero_le _, rfl, bl_al (Below.refl _ _) _, heap_alloc_new _ _⟩
  case round =>
    obtain ⟨k, hk, rfl, hbw, hx⟩ := hrel
    obtain ⟨p0, p1, p2⟩ := HCE.out k (tv k) (L3_get (by omega))
    replace p0 := (hbw.cell (p := ⟨b, off + k * 3, none⟩) hb).trans p0
    replace p1 := (hbw.cell (p := ⟨b, off + k * 3 + 1, none⟩) hb).trans p1
    replace p2 := (hbw.cell (p := ⟨b, off + k * 3 + 2, none⟩) hb).trans p2
    have d0 := (hbw.cell (p := ⟨g, 0, none⟩) hlg).trans HC0.out
    have hsz := hbw.size
    have hbr : b < wr.heap.size := by omega
    have hlt : k < 3 := by omega
    have he := HQ.out k hlt
    have HBW := Lib.hid hbw
    have HX := Lib.hid hx
    clear hbw hx
    by_cases hkp : k = p
    · simp only [decide_eq_true ((tv_inj hlt hp).2 hkp)] at he
      have HKP := Lib.hid hkp
      clear hkp
      go_wp2_with fail
      have hS4 : RkS w wr (tv p) := ⟨HX.out, HBW.out⟩
      refine wp_region_held_drew (S := fun u => RkS w u (tv p)) (by kernel_rfl) (hS4.drew) (fun hHeld => ?_)
      refine wpAnyH_take (i := 0) (oi := ({ dst := some 10, op := Op.load 29 (Operand.tmp 1), type := 29, pos := "law.go:105", after := #[], guard := none } : Oper)) (v := ?_) rfl (by kernel_rfl) (by kernel_rfl) (by kernel_rfl) (fun _ _ _ h => h) (Or.inl ⟨by rfl, ?_⟩) (by assumption) ?_
      rotate_left 1
      · (intro u hSw; have d0 := (hSw.2.cell (p := ⟨g, 0, none⟩) hlg).trans HC0.out; have q0 := (hSw.2.cell (p := ⟨b, off + k * 3, none⟩) hb).trans (HCE.out k (tv k) (L3_get hlt)).1; have q1 := (hSw.2.cell (p := ⟨b, off + k * 3 + 1, none⟩) hb).trans (HCE.out k (tv k) (L3_get hlt)).2.1; have q2 := (hSw.2.cell (p := ⟨b, off + k * 3 + 2, none⟩) hb).trans (HCE.out k (tv k) (L3_get hlt)).2.2; have x0 := (bx_cells hSw.1).1; have x1 := (bx_cells hSw.1).2.1; have x2 := (bx_cells hSw.1).2.2; go_simp; try with_reducible rfl)
      try simp only [Act.put, List.setIfInBounds_toArray, List.set_cons_zero, List.set_cons_succ]
      refine wpAnyH_take (i := 1) (oi := ({ dst := some 11, op := Op.move (Operand.tmp 4), type := 3, pos := "law.go:105", after := #[], guard := none } : Oper)) (v := ?_) rfl (by kernel_rfl) (by kernel_rfl) (by kernel_rfl) (fun _ _ _ h => h) (Or.inl ⟨by rfl, ?_⟩) (by assumption) ?_
      rotate_left 1
      · (intro u hSw; go_simp; try with_reducible rfl)
      try simp only [Act.put, List.setIfInBounds_toArray, List.set_cons_zero, List.set_cons_succ]
      refine wpAnyH_take (i := 2) (oi := ({ dst := some 12, op := Op.indexAddr 29 (Operand.tmp 10) (Operand.tmp 11), type := 0, pos := "law.go:105", after := #[{ on := 0, ground := Ground.data }, { on := 1, ground := Ground.data }], guard := none } : Oper)) (v := ?_) rfl (by kernel_rfl) (by kernel_rfl) (by kernel_rfl) (fun _ _ _ h => h) (Or.inl ⟨by rfl, ?_⟩) (by assumption) ?_
      rotate_left 1
      · (intro u hSw; go_simp; try with_reducible rfl)
      try simp only [Act.put, List.setIfInBounds_toArray, List.set_cons_zero, List.set_cons_succ]
      refine wpAnyH_take (i := 3) (oi := ({ dst := some 13, op := Op.load 23 (Operand.tmp 12), type := 23, pos := "law.go:105", after := #[{ on := 2, ground := Ground.data }], guard := none } : Oper)) (v := ?_) rfl (by kernel_rfl) (by kernel_rfl) (by kernel_rfl) (fun _ _ _ h => h) (Or.inl ⟨by rfl, ?_⟩) (by assumption) ?_
      rotate_left 1
      · (intro u hSw; have d0 := (hSw.2.cell (p := ⟨g, 0, none⟩) hlg).trans HC0.out; have q0 := (hSw.2.cell (p := ⟨b, off + k * 3, none⟩) hb).trans (HCE.out k (tv k) (L3_get hlt)).1; have q1 := (hSw.2.cell (p := ⟨b, off + k * 3 + 1, none⟩) hb).trans (HCE.out k (tv k) (L3_get hlt)).2.1; have q2 := (hSw.2.cell (p := ⟨b, off + k * 3 + 2, none⟩) hb).trans (HCE.out k (tv k) (L3_get hlt)).2.2; have x0 := (bx_cells hSw.1).1; have x1 := (bx_cells hSw.1).2.1; have x2 := (bx_cells hSw.1).2.2; go_simp; try with_reducible rfl)
      try simp only [Act.put, List.setIfInBounds_toArray, List.set_cons_zero, List.set_cons_succ]
      refine wpAnyH_take (i := 4) (oi := ({ dst := some 14, op := Op.load 23 (Operand.tmp 2), type := 23, pos := "law.go:105", after := #[], guard := none } : Oper)) (v := ?_) rfl (by kernel_rfl) (by kernel_rfl) (by kernel_rfl) (fun _ _ _ h => h) (Or.inl ⟨by rfl, ?_⟩) (by assumption) ?_
      rotate_left 1
      · (intro u hSw; have d0 := (hSw.2.cell (p := ⟨g, 0, none⟩) hlg).trans HC0.out; have q0 := (hSw.2.cell (p := ⟨b, off + k * 3, none⟩) hb).trans (HCE.out k (tv k) (L3_get hlt)).1; have q1 := (hSw.2.cell (p := ⟨b, off + k * 3 + 1, none⟩) hb).trans (HCE.out k (tv k) (L3_get hlt)).2.1; have q2 := (hSw.2.cell (p := ⟨b, off + k * 3 + 2, none⟩) hb).trans (HCE.out k (tv k) (L3_get hlt)).2.2; have x0 := (bx_cells hSw.1).1; have x1 := (bx_cells hSw.1).2.1; have x2 := (bx_cells hSw.1).2.2; go_simp; try with_reducible rfl)
      try simp only [Act.put, List.setIfInBounds_toArray, List.set_cons_zero, List.set_cons_succ]
      refine wpAnyH_take (i := 5) (oi := ({ dst := some 15, op := Op.binOp BinOp.eql 23 (Operand.tmp 13) (Operand.tmp 14) 23, type := 4, pos := "law.go:105", after := #[{ on := 3, ground := Ground.data }, { on := 4, ground := Ground.data }], guard := none } : Oper)) (v := ?_) rfl (by kernel_rfl) (by kernel_rfl) (by kernel_rfl) (fun _ _ _ h => h) (Or.inl ⟨by rfl, ?_⟩) (by assumption) ?_
      rotate_left 1
      · (intro u hSw; go_simp; try with_reducible rfl)
      try simp only [Act.put, List.setIfInBounds_toArray, List.set_cons_zero, List.set_cons_succ]
      refine wpAnyH_done (by kernel_rfl) ?_ _
      go_wp2_with fail
      go_ret
      exact ⟨congrArg (fun n : Nat => Ending.returned (.int .i64 (n : Int))) HKP.out, HBW.out.drew⟩
    · simp only [decide_eq_false (fun h => hkp ((tv_inj hlt hp).1 h))] at he
      go_wp2_with fail
      have hS4 : RkS w wr (tv p) := ⟨HX.out, HBW.out⟩
      refine wp_region_held_drew (S := fun u => RkS w u (tv p)) (by kernel_rfl) (hS4.drew) (fun hHeld => ?_)
      refine wpAnyH_take (i := 0) (oi := ({ dst := some 10, op := Op.load 29 (Operand.tmp 1), type := 29, pos := "law.go:105", after := #[], guard := none } : Oper)) (v := ?_) rfl (by kernel_rfl) (by kernel_rfl) (by kernel_rfl) (fun _ _ _ h => h) (Or.inl ⟨by rfl, ?_⟩) (by assumption) ?_
      rotate_left 1
      · (intro u hSw; have d0 := (hSw.2.cell (p := ⟨g, 0, none⟩) hlg).trans HC0.out; have q0 := (hSw.2.cell (p := ⟨b, off + k * 3, none⟩) hb).trans (HCE.out k (tv k) (L3_get hlt)).1; have q1 := (hSw.2.cell (p := ⟨b, off + k * 3 + 1, none⟩) hb).trans (HCE.out k (tv k) (L3_get hlt)).2.1; have q2 := (hSw.2.cell (p := ⟨b, off + k * 3 + 2, none⟩) hb).trans (HCE.out k (tv k) (L3_get hlt)).2.2; have x0 := (bx_cells hSw.1).1; have x1 := (bx_cells hSw.1).2.1; have x2 := (bx_cells hSw.1).2.2; go_simp; try with_reducible rfl)
      try simp only [Act.put, List.setIfInBounds_toArray, List.set_cons_zero, List.set_cons_succ]
      refine wpAnyH_take (i := 1) (oi := ({ dst := some 11, op := Op.move (Operand.tmp 4), type := 3, pos := "law.go:105", after := #[], guard := none } : Oper)) (v := ?_) rfl (by kernel_rfl) (by kernel_rfl) (by kernel_rfl) (fun _ _ _ h => h) (Or.inl ⟨by rfl, ?_⟩) (by assumption) ?_
      rotate_left 1
      · (intro u hSw; go_simp; try with_reducible rfl)
      try simp only [Act.put, List.setIfInBounds_toArray, List.set_cons_zero, List.set_cons_succ]
      refine wpAnyH_take (i := 2) (oi := ({ dst := some 12, op := Op.indexAddr 29 (Operand.tmp 10) (Operand.tmp 11), type := 0, pos := "law.go:105", after := #[{ on := 0, ground := Ground.data }, { on := 1, ground := Ground.data }], guard := none } : Oper)) (v := ?_) rfl (by kernel_rfl) (by kernel_rfl) (by kernel_rfl) (fun _ _ _ h => h) (Or.inl ⟨by rfl, ?_⟩) (by assumption) ?_
      rotate_left 1
      · (intro u hSw; go_simp; try with_reducible rfl)
      try simp only [Act.put, List.setIfInBounds_toArray, List.set_cons_zero, List.set_cons_succ]
      refine wpAnyH_take (i := 3) (oi := ({ dst := some 13, op := Op.load 23 (Operand.tmp 12), type := 23, pos := "law.go:105", after := #[{ on := 2, ground := Ground.data }], guard := none } : Oper)) (v := ?_) rfl (by kernel_rfl) (by kernel_rfl) (by kernel_rfl) (fun _ _ _ h => h) (Or.inl ⟨by rfl, ?_⟩) (by assumption) ?_
      rotate_left 1
      · (intro u hSw; have d0 := (hSw.2.cell (p := ⟨g, 0, none⟩) hlg).trans HC0.out; have q0 := (hSw.2.cell (p := ⟨b, off + k * 3, none⟩) hb).trans (HCE.out k (tv k) (L3_get hlt)).1; have q1 := (hSw.2.cell (p := ⟨b, off + k * 3 + 1, none⟩) hb).trans (HCE.out k (tv k) (L3_get hlt)).2.1; have q2 := (hSw.2.cell (p := ⟨b, off + k * 3 + 2, none⟩) hb).trans (HCE.out k (tv k) (L3_get hlt)).2.2; have x0 := (bx_cells hSw.1).1; have x1 := (bx_cells hSw.1).2.1; have x2 := (bx_cells hSw.1).2.2; go_simp; try with_reducible rfl)
      try simp only [Act.put, List.setIfInBounds_toArray, List.set_cons_zero, List.set_cons_succ]
      refine wpAnyH_take (i := 4) (oi := ({ dst := some 14, op := Op.load 23 (Operand.tmp 2), type := 23, pos := "law.go:105", after := #[], guard := none } : Oper)) (v := ?_) rfl (by kernel_rfl) (by kernel_rfl) (by kernel_rfl) (fun _ _ _ h => h) (Or.inl ⟨by rfl, ?_⟩) (by assumption) ?_
      rotate_left 1
      · (intro u hSw; have d0 := (hSw.2.cell (p := ⟨g, 0, none⟩) hlg).trans HC0.out; have q0 := (hSw.2.cell (p := ⟨b, off + k * 3, none⟩) hb).trans (HCE.out k (tv k) (L3_get hlt)).1; have q1 := (hSw.2.cell (p := ⟨b, off + k * 3 + 1, none⟩) hb).trans (HCE.out k (tv k) (L3_get hlt)).2.1; have q2 := (hSw.2.cell (p := ⟨b, off + k * 3 + 2, none⟩) hb).trans (HCE.out k (tv k) (L3_get hlt)).2.2; have x0 := (bx_cells hSw.1).1; have x1 := (bx_cells hSw.1).2.1; have x2 := (bx_cells hSw.1).2.2; go_simp; try with_reducible rfl)
      try simp only [Act.put, List.setIfInBounds_toArray, List.set_cons_zero, List.set_cons_succ]
      refine wpAnyH_take (i := 5) (oi := ({ dst := some 15, op := Op.binOp BinOp.eql 23 (Operand.tmp 13) (Operand.tmp 14) 23, type := 4, pos := "law.go:105", after := #[{ on := 3, ground := Ground.data }, { on := 4, ground := Ground.data }], guard := none } : Oper)) (v := ?_) rfl (by kernel_rfl) (by kernel_rfl) (by kernel_rfl) (fun _ _ _ h => h) (Or.inl ⟨by rfl, ?_⟩) (by assumption) ?_
      rotate_left 1
      · (intro u hSw; go_simp; try with_reducible rfl)
      try simp only [Act.put, List.setIfInBounds_toArray, List.set_cons_zero, List.set_cons_succ]
      refine wpAnyH_done (by kernel_rfl) ?_ _
      go_wp2_with fail
      go_roundw
      case rel => exact ⟨k + 1, by omega, by go_num, HBW.out.drew, HX.out⟩
      case measure => simp [intOf]; omega
end Go.Proofs.Ytbhilmgpmebaiaa
namespace Go.Proofs.Ytbhilmgpmebaiaa
open Go.RowKit
attribute [local go_sem ↓] eql32_eq neq32_eq
theorem tv_and : ∀ i j, i < 3 → j < 3 → doR 17 (tv i) (tv j) = (tv (min i j), 0)
  | 0, 0, _, _ | 0, 1, _, _ | 0, 2, _, _ | 1, 0, _, _ | 1, 1, _, _ | 1, 2, _, _ | 2, 0, _, _ | 2, 1, _, _ | 2, 2, _, _ => by decide
  | i + 3, _, h, _ => absurd h (by omega)
  | _, j + 3, _, h => absurd h (by omega)
theorem tv_or : ∀ i j, i < 3 → j < 3 → doR 18 (tv i) (tv j) = (tv (max i j), 0)
  | 0, 0, _, _ | 0, 1, _, _ | 0, 2, _, _ | 1, 0, _, _ | 1, 1, _, _ | 1, 2, _, _ | 2, 0, _, _ | 2, 1, _, _ | 2, 2, _, _ => by decide
  | i + 3, _, h, _ => absurd h (by omega)
  | _, j + 3, _, h => absurd h (by omega)
theorem tv_not : ∀ i, i < 3 → doR 16 (tv i) (tv i) = (tv (2 - i), 0)
  | 0, _ | 1, _ | 2, _ => by decide
  | i + 3, h => absurd h (by omega)
theorem tv_norm (p : Nat) : normV (tv p) = tv p := by
  unfold tv
  repeat' split
  all_goals decide
theorem andT_any (i j : Nat) (hi : i < 3) (hj : j < 3) (w : World) : Calls Try.prog 13 #[.int .i64 17, .agg #[.int .i64 (tv i).k, .int .i64 (tv i).n, .string (str (tv i).s)], .agg #[.int .i64 (tv j).k, .int .i64 (tv j).n, .string (str (tv j).s)]] w fun e w' => e = .returned (.tuple #[.agg #[.int .i64 (tv (min i j)).k, .int .i64 (tv (min i j)).n, .string (str (tv (min i j)).s)], .int .i64 0]) ∧ Below w.heap.size w w' := by
  have h := do_17 (tv i) (tv j) w (tv_ok i) (tv_ok j)
  rw [tv_norm, tv_norm, tv_and i j hi hj] at h
  exact h
theorem orT_any (i j : Nat) (hi : i < 3) (hj : j < 3) (w : World) : Calls Try.prog 13 #[.int .i64 18, .agg #[.int .i64 (tv i).k, .int .i64 (tv i).n, .string (str (tv i).s)], .agg #[.int .i64 (tv j).k, .int .i64 (tv j).n, .string (str (tv j).s)]] w fun e w' => e = .returned (.tuple #[.agg #[.int .i64 (tv (max i j)).k, .int .i64 (tv (max i j)).n, .string (str (tv (max i j)).s)], .int .i64 0]) ∧ Below w.heap.size w w' := by
  have h := do_18 (tv i) (tv j) w (tv_ok i) (tv_ok j)
  rw [tv_norm, tv_norm, tv_or i j hi hj] at h
  exact h
theorem not_tv (i : Nat) (hi : i < 3) (w : World) : Calls Try.prog 13 #[.int .i64 16, .agg #[.int .i64 (tv i).k, .int .i64 (tv i).n, .string (str (tv i).s)], .agg #[.int .i64 (tv i).k, .int .i64 (tv i).n, .string (str (tv i).s)]] w fun e w' => e = .returned (.tuple #[.agg #[.int .i64 (tv (2 - i)).k, .int .i64 (tv (2 - i)).n, .string (str (tv (2 - i)).s)], .int .i64 0]) ∧ Below w.heap.size w w' := by
  have h := do_16 (tv i) (tv i) w (tv_ok i) (tv_ok i)
  rw [tv_norm, tv_not i hi] at h
  exact h
def LG (w u : World) (g H : Nat) (l : List (Nat × Val)) : Prop := u.heap[g]? = some (.cells #[.slice (some ⟨H, 0, none⟩) 3 3] 29) ∧ Rw u (.slice (some ⟨H, 0, none⟩) 3 3) L3 ∧ (∀ q ∈ l, u.heap[q.1]? = some (BX q.2.k q.2.n (str q.2.s))) ∧ Below w.heap.size w u
theorem LG.drew {w u : World} {g H : Nat} {l : List (Nat × Val)} (h : LG w u g H l) : LG w u.drew g H l := ⟨h.1, h.2.1, h.2.2.1, h.2.2.2.drew⟩
theorem LG.below {w u v : World} {g H : Nat} {l : List (Nat × Val)} (h : LG w u g H l) (hb : Below u.heap.size u v) : LG w v g H l := ⟨kp h.1 hb, h.2.1.below hb, fun q hq => kp (h.2.2.1 q hq) hb, bl_tr h.2.2.2 hb⟩
theorem LG.al {w u : World} {g H : Nat} {l : List (Nat × Val)} (h : LG w u g H l) (o : Obj) : LG w (u.alloc o) g H l := h.below ((Below.refl _ _).alloc (Nat.le_refl _) o)
theorem LG.new {w u : World} {g H : Nat} {l : List (Nat × Val)} (h : LG w u g H l) (x : Val) : LG w (u.alloc (BX x.k x.n (str x.s))) g H ((u.heap.size, x) :: l) := ⟨(h.al _).1, (h.al _).2.1, fun q hq => by
  rcases List.mem_cons.1 hq with rfl | hq
  · exact heap_alloc_new _ _
  · exact (h.al _).2.2.1 q hq, (h.al _).2.2.2⟩
theorem LG.cell {w u : World} {g H : Nat} {l : List (Nat × Val)} (h : LG w u g H l) : u.cell? ⟨g, 0, none⟩ = some (.slice (some ⟨H, 0, none⟩) 3 3) := (cell_of_row _ g 0 _ _ _ h.1).trans rfl
theorem LG.at {w u : World} {g H : Nat} {l : List (Nat × Val)} (h : LG w u g H l) {k : Nat} (hk : k < 3) : u.cell? ⟨H, k * 3, none⟩ = some (.int .i64 (tv k).k) ∧ u.cell? ⟨H, k * 3 + 1, none⟩ = some (.int .i64 (tv k).n) ∧ u.cell? ⟨H, k * 3 + 2, none⟩ = some (.string (str (tv k).s)) := by
  obtain ⟨a, cap, e, hc, hcell⟩ := h.2.1
  obtain ⟨b, off, rfl, hb, hce⟩ := hcell (by decide)
  simp only [Value.slice.injEq, Option.some.injEq, Addr.mk.injEq] at e
  obtain ⟨⟨rfl, rfl, _⟩, _⟩ := e
  have h3 := hce k (tv k) (L3_get hk)
  simp only [Nat.zero_add] at h3
  exact h3
theorem LG.two {w u : World} {g H a b : Nat} {x y : Val} (h : LG w u g H []) (h1 : u.heap[a]? = some (BX x.k x.n (str x.s))) (h2 : u.heap[b]? = some (BX y.k y.n (str y.s))) : LG w u g H [(a, x), (b, y)] := ⟨h.1, h.2.1, fun q hq => by
  simp only [List.mem_cons, List.not_mem_nil, or_false] at hq
  rcases hq with rfl | rfl
  · exact h1
  · exact h2, h.2.2.2⟩
theorem pair_new (u : World) (o : Obj) : Below u.heap.size u ((u.alloc o).alloc o).drew ∧ ((u.alloc o).alloc o).drew.heap[u.heap.size]? = some o ∧ ((u.alloc o).alloc o).drew.heap[u.heap.size + 1]? = some o :=
  ⟨(bl_al (bl_al (Below.refl _ _) _) _).drew, hp_al (heap_alloc_new u o) o, by
    have h := heap_alloc_new (u.alloc o) o
    rw [show (u.alloc o).heap.size = u.heap.size + 1 by simp] at h
    exact h⟩
theorem lg_pair {w u : World} {g H : Nat} {l : List (Nat × Val)} {o : Obj} (_ : LG w ((u.alloc o).alloc o).drew g H l) : Below u.heap.size u ((u.alloc o).alloc o).drew ∧ ((u.alloc o).alloc o).drew.heap[u.heap.size]? = some o ∧ ((u.alloc o).alloc o).drew.heap[u.heap.size + 1]? = some o := pair_new u o
theorem setB {w u : World} {B H : Nat} {k n : Int} {s : ByteArray} (_ : u.heap[H]? = some (BX k n s)) (a : Val) (h : Below B w u) (hH : B ≤ H) : Below B w (((u.setCell ⟨H, 0, none⟩ (.int .i64 a.k)).setCell ⟨H, 1, none⟩ (.int .i64 a.n)).setCell ⟨H, 2, none⟩ (.string (str a.s))) := set3_below a h hH
theorem setO {u : World} {H g : Nat} {k n : Int} {s : ByteArray} {o : Obj} (_ : u.heap[H]? = some (BX k n s)) (a : Val) (hy : u.heap[g]? = some o) (hg : g ≠ H) : (((u.setCell ⟨H, 0, none⟩ (.int .i64 a.k)).setCell ⟨H, 1, none⟩ (.int .i64 a.n)).setCell ⟨H, 2, none⟩ (.string (str a.s))).heap[g]? = some o := (set3_other a hg).trans hy
def ix (x : Int) : Nat := ((IntKind.u64.wrap x).tmod 3).toNat
theorem ix_lt (x : Int) : ix x < 3 ∧ (IntKind.u64.wrap x).tmod 3 = (ix x : Int) := by
  have h : 0 ≤ IntKind.u64.wrap x := by
    rw [IntKind.wrap_u64]
    omega
  have h1 := Int.tmod_nonneg 3 h
  have h2 := Int.tmod_lt_of_pos (IntKind.u64.wrap x) (show (0 : Int) < 3 by decide)
  unfold ix
  omega
set_option maxRecDepth 100000 in
set_option maxHeartbeats 3200000 in
theorem logic_reg (x y : Int) (p q : Nat) (w u0 : World) (g H : Nat) (hp : p < 3) (hq : q < 3) (ex : (IntKind.u64.wrap x).tmod 3 = (p : Int)) (ey : (IntKind.u64.wrap y).tmod 3 = (q : Int)) (hT : LG w u0 g H []) {Q : Exit → Act → World → Prop} (hQ : ∀ r (a : Act) o v u, Q (.panic r) (a.put o v) u → Q (.panic r) a u)
    (h : ∀ u h6 h7, LG w u g H [(h6, tv p), (h7, tv q)] → Q .normal ⟨#[.int .i64 x, .int .i64 y, undef, undef, .bool false, .pointer (some ⟨g, 0, none⟩), .pointer (some ⟨h6, 0, none⟩), .pointer (some ⟨h7, 0, none⟩), undef, undef, undef, undef, undef, undef, undef, undef, undef, undef, undef, undef, undef, .bool true, .bool false, .agg #[.int .i64 3, .int .i64 0, .string ⟨#[]⟩], .agg #[.int .i64 0, .int .i64 0, .string ⟨#[]⟩], .agg #[.int .i64 3, .int .i64 1, .string ⟨#[]⟩], .slice (some ⟨H, 0, none⟩) 3 3, .slice (some ⟨H, 0, none⟩) 3 3, .int .i64 x, .int .u64 (IntKind.u64.wrap x), .int .u64 p, .pointer (some ⟨H, p * 3, none⟩), .agg #[.int .i64 (tv p).k, .int .i64 (tv p).n, .string (str (tv p).s)], .slice (some ⟨H, 0, none⟩) 3 3, .int .i64 y, .int .u64 (IntKind.u64.wrap y), .int .u64 q, .pointer (some ⟨H, q * 3, none⟩), .agg #[.int .i64 (tv q).k, .int .i64 (tv q).n, .string (str (tv q).s)], undef, undef, undef, undef, undef, undef, undef, undef, undef, undef, undef, undef, undef, undef, undef, undef, undef, undef, undef, undef, undef, undef, undef, undef, undef, undef, undef, undef, undef, undef, undef, undef, undef, undef, undef, undef, undef, undef, undef, undef, undef, undef, undef, undef, undef, undef, undef, undef, undef, undef, undef, undef, undef, undef, undef, undef, undef, undef, undef, undef, undef, undef, undef, undef, undef, undef, undef, undef, undef, undef, undef, undef, undef, undef, undef, undef], []⟩ u) :
    Code.wp Try.prog (.region 4 #[({ dst := some 27, op := Op.load 29 (Operand.tmp 5), type := 29, pos := "law.go:96", after := #[], guard := none } : Oper), ({ dst := some 28, op := Op.move (Operand.tmp 0), type := 3, pos := "law.go:96", after := #[], guard := none } : Oper), ({ dst := some 29, op := Op.convert 3 45 (Operand.tmp 28), type := 45, pos := "law.go:96", after := #[{ on := 1, ground := Ground.data }], guard := none } : Oper), ({ dst := some 30, op := Op.binOp BinOp.rem 45 (Operand.tmp 29) (Operand.const (Value.int IntKind.u64 3)) 45, type := 45, pos := "law.go:96", after := #[{ on := 2, ground := Ground.data }], guard := none } : Oper), ({ dst := some 31, op := Op.indexAddr 29 (Operand.tmp 27) (Operand.tmp 30), type := 0, pos := "law.go:96", after := #[{ on := 0, ground := Ground.data }, { on := 3, ground := Ground.data }], guard := none } : Oper), ({ dst := some 32, op := Op.load 23 (Operand.tmp 31), type := 23, pos := "law.go:96", after := #[{ on := 4, ground := Ground.data }], guard := none } : Oper), ({ dst := some 33, op := Op.load 29 (Operand.tmp 5), type := 29, pos := "law.go:96", after := #[{ on := 14, ground := Ground.gcOnly Departure.lateStores }], guard := none } : Oper), ({ dst := some 34, op := Op.move (Operand.tmp 1), type := 3, pos := "law.go:96", after := #[{ on := 14, ground := Ground.gcOnly Departure.lateStores }], guard := none } : Oper), ({ dst := some 35, op := Op.convert 3 45 (Operand.tmp 34), type := 45, pos := "law.go:96", after := #[{ on := 7, ground := Ground.data }, { on := 14, ground := Ground.gcOnly Departure.lateStores }], guard := none } : Oper), ({ dst := some 36, op := Op.binOp BinOp.rem 45 (Operand.tmp 35) (Operand.const (Value.int IntKind.u64 3)) 45, type := 45, pos := "law.go:96", after := #[{ on := 8, ground := Ground.data }, { on := 14, ground := Ground.gcOnly Departure.lateStores }], guard := none } : Oper), ({ dst := some 37, op := Op.indexAddr 29 (Operand.tmp 33) (Operand.tmp 36), type := 0, pos := "law.go:96", after := #[{ on := 6, ground := Ground.data }, { on := 9, ground := Ground.data }, { on := 14, ground := Ground.gcOnly Departure.lateStores }], guard := none } : Oper), ({ dst := some 38, op := Op.load 23 (Operand.tmp 37), type := 23, pos := "law.go:96", after := #[{ on := 10, ground := Ground.data }, { on := 14, ground := Ground.gcOnly Departure.lateStores }], guard := none } : Oper), ({ dst := some 6, op := Op.alloc 23, type := 0, pos := "law.go:96", after := #[], guard := none } : Oper), ({ dst := some 7, op := Op.alloc 23, type := 0, pos := "law.go:96", after := #[], guard := none } : Oper), ({ dst := none, op := Op.store 23 (Operand.tmp 6) (Operand.tmp 32), type := 0, pos := "law.go:96", after := #[{ on := 12, ground := Ground.data }, { on := 5, ground := Ground.data }, { on := 0, ground := Ground.phase }, { on := 1, ground := Ground.phase }, { on := 2, ground := Ground.phase }, { on := 3, ground := Ground.phase }, { on := 4, ground := Ground.phase }, { on := 5, ground := Ground.phase }, { on := 6, ground := Ground.textOnly Departure.lateStores }, { on := 7, ground := Ground.textOnly Departure.lateStores }, { on := 8, ground := Ground.textOnly Departure.lateStores }, { on := 9, ground := Ground.textOnly Departure.lateStores }, { on := 10, ground := Ground.textOnly Departure.lateStores }, { on := 11, ground := Ground.textOnly Departure.lateStores }, { on := 12, ground := Ground.phase }, { on := 13, ground := Ground.phase }], guard := none } : Oper), ({ dst := none, op := Op.store 23 (Operand.tmp 7) (Operand.tmp 38), type := 0, pos := "law.go:96", after := #[{ on := 13, ground := Ground.data }, { on := 11, ground := Ground.data }, { on := 14, ground := Ground.chain }, { on := 0, ground := Ground.phase }, { on := 1, ground := Ground.phase }, { on := 2, ground := Ground.phase }, { on := 3, ground := Ground.phase }, { on := 4, ground := Ground.phase }, { on := 5, ground := Ground.phase }, { on := 6, ground := Ground.phase }, { on := 7, ground := Ground.phase }, { on := 8, ground := Ground.phase }, { on := 9, ground := Ground.phase }, { on := 10, ground := Ground.phase }, { on := 11, ground := Ground.phase }, { on := 12, ground := Ground.phase }, { on := 13, ground := Ground.phase }, { on := 14, ground := Ground.phase }], guard := none } : Oper)] true) Q ⟨#[.int .i64 x, .int .i64 y, undef, undef, .bool false, .pointer (some ⟨g, 0, none⟩), undef, undef, undef, undef, undef, undef, undef, undef, undef, undef, undef, undef, undef, undef, undef, .bool true, .bool false, .agg #[.int .i64 3, .int .i64 0, .string ⟨#[]⟩], .agg #[.int .i64 0, .int .i64 0, .string ⟨#[]⟩], .agg #[.int .i64 3, .int .i64 1, .string ⟨#[]⟩], .slice (some ⟨H, 0, none⟩) 3 3, undef, undef, undef, undef, undef, undef, undef, undef, undef, undef, undef, undef, undef, undef, undef, undef, undef, undef, undef, undef, undef, undef, undef, undef, undef, undef, undef, undef, undef, undef, undef, undef, undef, undef, undef, undef, undef, undef, undef, undef, undef, undef, undef, undef, undef, undef, undef, undef, undef, undef, undef, undef, undef, undef, undef, undef, undef, undef, undef, undef, undef, undef, undef, undef, undef, undef, undef, undef, undef, undef, undef, undef, undef, undef, undef, undef, undef, undef, undef, undef, undef, undef, undef, undef, undef, undef, undef, undef], []⟩ u0 := by
  dsimp only at h ⊢
  have HN := Lib.hid h
  clear h
  have hpi : (p : Int) < 3 := by omega
  have hqi : (q : Int) < 3 := by omega
  have hT0 := hT
  replace hT := hT.drew
  refine wp_region_held_drew (S := fun u => LG w u g H []) (by kernel_rfl) (hT) (fun hHeld => ?_)
  refine wpAnyH_take (i := 0) (oi := ({ dst := some 27, op := Op.load 29 (Operand.tmp 5), type := 29, pos := "law.go:96", after := #[], guard := none } : Oper)) (v := ?_) rfl (by kernel_rfl) (by kernel_rfl) (by kernel_rfl) (fun _ _ _ h => hQ _ _ _ _ _ h) (Or.inl ⟨by rfl, ?_⟩) (by assumption) ?_
  rotate_left 1
  · (intro u hSw; have c0 := hSw.cell; obtain ⟨p0, p1, p2⟩ := hSw.at hp; obtain ⟨q0, q1, q2⟩ := hSw.at hq; go_simp; try with_reducible rfl)
  try simp only [Act.put, List.setIfInBounds_toArray, List.set_cons_zero, List.set_cons_succ]
  refine wpAnyH_take (i := 1) (oi := ({ dst := some 28, op := Op.move (Operand.tmp 0), type := 3, pos := "law.go:96", after := #[], guard := none } : Oper)) (v := ?_) rfl (by kernel_rfl) (by kernel_rfl) (by kernel_rfl) (fun _ _ _ h => hQ _ _ _ _ _ h) (Or.inl ⟨by rfl, ?_⟩) (by assumption) ?_
  rotate_left 1
  · (intro u hSw; go_simp; try with_reducible rfl)
  try simp only [Act.put, List.setIfInBounds_toArray, List.set_cons_zero, List.set_cons_succ]
  refine wpAnyH_take (i := 2) (oi := ({ dst := some 29, op := Op.convert 3 45 (Operand.tmp 28), type := 45, pos := "law.go:96", after := #[{ on := 1, ground := Ground.data }], guard := none } : Oper)) (v := ?_) rfl (by kernel_rfl) (by kernel_rfl) (by kernel_rfl) (fun _ _ _ h => hQ _ _ _ _ _ h) (Or.inl ⟨by rfl, ?_⟩) (by assumption) ?_
  rotate_left 1
  · (intro u hSw; have c0 := hSw.cell; obtain ⟨p0, p1, p2⟩ := hSw.at hp; obtain ⟨q0, q1, q2⟩ := hSw.at hq; go_simp; try with_reducible rfl)
  try simp only [Act.put, List.setIfInBounds_toArray, List.set_cons_zero, List.set_cons_succ]
  refine wpAnyH_take (i := 3) (oi := ({ dst := some 30, op := Op.binOp BinOp.rem 45 (Operand.tmp 29) (Operand.const (Value.int IntKind.u64 3)) 45, type := 45, pos := "law.go:96", after := #[{ on := 2, ground := Ground.data }], guard := none } : Oper)) (v := ?_) rfl (by kernel_rfl) (by kernel_rfl) (by kernel_rfl) (fun _ _ _ h => hQ _ _ _ _ _ h) (Or.inl ⟨by rfl, ?_⟩) (by assumption) ?_
  rotate_left 1
  · (intro u hSw; go_simp; try with_reducible rfl)
  try simp only [Act.put, List.setIfInBounds_toArray, List.set_cons_zero, List.set_cons_succ]
  refine wpAnyH_take (i := 4) (oi := ({ dst := some 31, op := Op.indexAddr 29 (Operand.tmp 27) (Operand.tmp 30), type := 0, pos := "law.go:96", after := #[{ on := 0, ground := Ground.data }, { on := 3, ground := Ground.data }], guard := none } : Oper)) (v := ?_) rfl (by kernel_rfl) (by kernel_rfl) (by kernel_rfl) (fun _ _ _ h => hQ _ _ _ _ _ h) (Or.inl ⟨by rfl, ?_⟩) (by assumption) ?_
  rotate_left 1
  · (intro u hSw; go_simp; try with_reducible rfl)
  try simp only [Act.put, List.setIfInBounds_toArray, List.set_cons_zero, List.set_cons_succ]
  refine wpAnyH_take (i := 5) (oi := ({ dst := some 32, op := Op.load 23 (Operand.tmp 31), type := 23, pos := "law.go:96", after := #[{ on := 4, ground := Ground.data }], guard := none } : Oper)) (v := ?_) rfl (by kernel_rfl) (by kernel_rfl) (by kernel_rfl) (fun _ _ _ h => hQ _ _ _ _ _ h) (Or.inl ⟨by rfl, ?_⟩) (by assumption) ?_
  rotate_left 1
  · (intro u hSw; have c0 := hSw.cell; obtain ⟨p0, p1, p2⟩ := hSw.at hp; obtain ⟨q0, q1, q2⟩ := hSw.at hq; go_simp; try with_reducible rfl)
  try simp only [Act.put, List.setIfInBounds_toArray, List.set_cons_zero, List.set_cons_succ]
  refine wpAnyH_take (i := 6) (oi := ({ dst := some 33, op := Op.load 29 (Operand.tmp 5), type := 29, pos := "law.go:96", after := #[{ on := 14, ground := Ground.gcOnly Departure.lateStores }], guard := none } : Oper)) (v := ?_) rfl (by kernel_rfl) (by kernel_rfl) (by kernel_rfl) (fun _ _ _ h => hQ _ _ _ _ _ h) (Or.inl ⟨by rfl, ?_⟩) (by assumption) ?_
  rotate_left 1
  · (intro u hSw; have c0 := hSw.cell; obtain ⟨p0, p1, p2⟩ := hSw.at hp; obtain ⟨q0, q1, q2⟩ := hSw.at hq; go_simp; try with_reducible rfl)
  try simp only [Act.put, List.setIfInBounds_toArray, List.set_cons_zero, List.set_cons_succ]
  refine wpAnyH_take (i := 7) (oi := ({ dst := some 34, op := Op.move (Operand.tmp 1), type := 3, pos := "law.go:96", after := #[{ on := 14, ground := Ground.gcOnly Departure.lateStores }], guard := none } : Oper)) (v := ?_) rfl (by kernel_rfl) (by kernel_rfl) (by kernel_rfl) (fun _ _ _ h => hQ _ _ _ _ _ h) (Or.inl ⟨by rfl, ?_⟩) (by assumption) ?_
  rotate_left 1
  · (intro u hSw; go_simp; try with_reducible rfl)
  try simp only [Act.put, List.setIfInBounds_toArray, List.set_cons_zero, List.set_cons_succ]
  refine wpAnyH_take (i := 8) (oi := ({ dst := some 35, op := Op.convert 3 45 (Operand.tmp 34), type := 45, pos := "law.go:96", after := #[{ on := 7, ground := Ground.data }, { on := 14, ground := Ground.gcOnly Departure.lateStores }], guard := none } : Oper)) (v := ?_) rfl (by kernel_rfl) (by kernel_rfl) (by kernel_rfl) (fun _ _ _ h => hQ _ _ _ _ _ h) (Or.inl ⟨by rfl, ?_⟩) (by assumption) ?_
  rotate_left 1
  · (intro u hSw; have c0 := hSw.cell; obtain ⟨p0, p1, p2⟩ := hSw.at hp; obtain ⟨q0, q1, q2⟩ := hSw.at hq; go_simp; try with_reducible rfl)
  try simp only [Act.put, List.setIfInBounds_toArray, List.set_cons_zero, List.set_cons_succ]
  refine wpAnyH_take (i := 9) (oi := ({ dst := some 36, op := Op.binOp BinOp.rem 45 (Operand.tmp 35) (Operand.const (Value.int IntKind.u64 3)) 45, type := 45, pos := "law.go:96", after := #[{ on := 8, ground := Ground.data }, { on := 14, ground := Ground.gcOnly Departure.lateStores }], guard := none } : Oper)) (v := ?_) rfl (by kernel_rfl) (by kernel_rfl) (by kernel_rfl) (fun _ _ _ h => hQ _ _ _ _ _ h) (Or.inl ⟨by rfl, ?_⟩) (by assumption) ?_
  rotate_left 1
  · (intro u hSw; go_simp; try with_reducible rfl)
  try simp only [Act.put, List.setIfInBounds_toArray, List.set_cons_zero, List.set_cons_succ]
  refine wpAnyH_take (i := 10) (oi := ({ dst := some 37, op := Op.indexAddr 29 (Operand.tmp 33) (Operand.tmp 36), type := 0, pos := "law.go:96", after := #[{ on := 6, ground := Ground.data }, { on := 9, ground := Ground.data }, { on := 14, ground := Ground.gcOnly Departure.lateStores }], guard := none } : Oper)) (v := ?_) rfl (by kernel_rfl) (by kernel_rfl) (by kernel_rfl) (fun _ _ _ h => hQ _ _ _ _ _ h) (Or.inl ⟨by rfl, ?_⟩) (by assumption) ?_
  rotate_left 1
  · (intro u hSw; go_simp; try with_reducible rfl)
  try simp only [Act.put, List.setIfInBounds_toArray, List.set_cons_zero, List.set_cons_succ]
  refine wpAnyH_take (i := 11) (oi := ({ dst := some 38, op := Op.load 23 (Operand.tmp 37), type := 23, pos := "law.go:96", after := #[{ on := 10, ground := Ground.data }, { on := 14, ground := Ground.gcOnly Departure.lateStores }], guard := none } : Oper)) (v := ?_) rfl (by kernel_rfl) (by kernel_rfl) (by kernel_rfl) (fun _ _ _ h => hQ _ _ _ _ _ h) (Or.inl ⟨by rfl, ?_⟩) (by assumption) ?_
  rotate_left 1
  · (intro u hSw; have c0 := hSw.cell; obtain ⟨p0, p1, p2⟩ := hSw.at hp; obtain ⟨q0, q1, q2⟩ := hSw.at hq; go_simp; try with_reducible rfl)
  try simp only [Act.put, List.setIfInBounds_toArray, List.set_cons_zero, List.set_cons_succ]
  refine wpAnyH_ready (rs := [12, 13]) (by kernel_rfl) (by simp) ?_
  refine (AllReadyH.cons (o := ({ dst := some 6, op := Op.alloc 23, type := 0, pos := "law.go:96", after := #[], guard := none } : Oper)) rfl (fun K hK => ?_) (AllReadyH.cons (o := ({ dst := some 7, op := Op.alloc 23, type := 0, pos := "law.go:96", after := #[], guard := none } : Oper)) rfl (fun K hK => ?_) AllReadyH.nil))
  · go_simp
    refine hK.out _ _ (hHeld.al _) (fun hHeld => ?_)
    first
      | (have hP := lg_pair hHeld; generalize World.drew (World.alloc (World.alloc u0 _) _) = u1 at hP hHeld ⊢; obtain ⟨hB, hx7, hx6⟩ := hP)
      | skip
    clear hK K
    try simp only [Act.put, List.setIfInBounds_toArray, List.set_cons_zero, List.set_cons_succ]
    refine wpAnyH_ready (rs := [13]) (by kernel_rfl) (by simp) ?_
    refine (AllReadyH.cons (o := ({ dst := some 7, op := Op.alloc 23, type := 0, pos := "law.go:96", after := #[], guard := none } : Oper)) rfl (fun K hK => ?_) AllReadyH.nil)
    go_simp
    refine hK.out _ _ (hHeld.al _) (fun hHeld => ?_)
    first
      | (have hP := lg_pair hHeld; generalize World.drew (World.alloc (World.alloc u0 _) _) = u1 at hP hHeld ⊢; obtain ⟨hB, hx6, hx7⟩ := hP)
      | skip
    clear hK K
    try simp only [Act.put, List.setIfInBounds_toArray, List.set_cons_zero, List.set_cons_succ]
    refine wpAnyH_ready (rs := [14]) (by kernel_rfl) (by simp) ?_
    refine (AllReadyH.cons (o := ({ dst := none, op := Op.store 23 (Operand.tmp 6) (Operand.tmp 32), type := 0, pos := "law.go:96", after := #[{ on := 12, ground := Ground.data }, { on := 5, ground := Ground.data }, { on := 0, ground := Ground.phase }, { on := 1, ground := Ground.phase }, { on := 2, ground := Ground.phase }, { on := 3, ground := Ground.phase }, { on := 4, ground := Ground.phase }, { on := 5, ground := Ground.phase }, { on := 6, ground := Ground.textOnly Departure.lateStores }, { on := 7, ground := Ground.textOnly Departure.lateStores }, { on := 8, ground := Ground.textOnly Departure.lateStores }, { on := 9, ground := Ground.textOnly Departure.lateStores }, { on := 10, ground := Ground.textOnly Departure.lateStores }, { on := 11, ground := Ground.textOnly Departure.lateStores }, { on := 12, ground := Ground.phase }, { on := 13, ground := Ground.phase }], guard := none } : Oper)) rfl (fun K hK => ?_) AllReadyH.nil)
    obtain ⟨c0, c1, c2⟩ := bx_cells hx6
    obtain ⟨f0, f1, f2⟩ := bx_free hx6
    replace hB := setB hx6 (tv p) hB (by omega)
    replace hx7 := setO hx6 (tv p) hx7 (by omega)
    replace hx6 := set3 hx6 (tv p)
    go_simp
    refine hK.out _ _ (hT0.below hB) (fun hHeld => ?_)
    clear hK K
    try simp only [Act.put]
    refine wpAnyH_ready (rs := [15]) (by kernel_rfl) (by simp) ?_
    refine (AllReadyH.cons (o := ({ dst := none, op := Op.store 23 (Operand.tmp 7) (Operand.tmp 38), type := 0, pos := "law.go:96", after := #[{ on := 13, ground := Ground.data }, { on := 11, ground := Ground.data }, { on := 14, ground := Ground.chain }, { on := 0, ground := Ground.phase }, { on := 1, ground := Ground.phase }, { on := 2, ground := Ground.phase }, { on := 3, ground := Ground.phase }, { on := 4, ground := Ground.phase }, { on := 5, ground := Ground.phase }, { on := 6, ground := Ground.phase }, { on := 7, ground := Ground.phase }, { on := 8, ground := Ground.phase }, { on := 9, ground := Ground.phase }, { on := 10, ground := Ground.phase }, { on := 11, ground := Ground.phase }, { on := 12, ground := Ground.phase }, { on := 13, ground := Ground.phase }, { on := 14, ground := Ground.phase }], guard := none } : Oper)) rfl (fun K hK => ?_) AllReadyH.nil)
    obtain ⟨c0, c1, c2⟩ := bx_cells hx7
    obtain ⟨f0, f1, f2⟩ := bx_free hx7
    replace hB := setB hx7 (tv q) hB (by omega)
    replace hx6 := setO hx7 (tv q) hx6 (by omega)
    replace hx7 := set3 hx7 (tv q)
    go_simp
    refine hK.out _ _ (hT0.below hB) (fun hHeld => ?_)
    clear hK K
    try simp only [Act.put]
    refine wpAnyH_done (by kernel_rfl) ?_ _
    exact HN.out _ _ _ ((hT0.below hB).two hx6 hx7)
  · go_simp
    refine hK.out _ _ (hHeld.al _) (fun hHeld => ?_)
    first
      | (have hP := lg_pair hHeld; generalize World.drew (World.alloc (World.alloc u0 _) _) = u1 at hP hHeld ⊢; obtain ⟨hB, hx6, hx7⟩ := hP)
      | skip
    clear hK K
    try simp only [Act.put, List.setIfInBounds_toArray, List.set_cons_zero, List.set_cons_succ]
    refine wpAnyH_ready (rs := [12]) (by kernel_rfl) (by simp) ?_
    refine (AllReadyH.cons (o := ({ dst := some 6, op := Op.alloc 23, type := 0, pos := "law.go:96", after := #[], guard := none } : Oper)) rfl (fun K hK => ?_) AllReadyH.nil)
    go_simp
    refine hK.out _ _ (hHeld.al _) (fun hHeld => ?_)
    first
      | (have hP := lg_pair hHeld; generalize World.drew (World.alloc (World.alloc u0 _) _) = u1 at hP hHeld ⊢; obtain ⟨hB, hx7, hx6⟩ := hP)
      | skip
    clear hK K
    try simp only [Act.put, List.setIfInBounds_toArray, List.set_cons_zero, List.set_cons_succ]
    refine wpAnyH_ready (rs := [14]) (by kernel_rfl) (by simp) ?_
    refine (AllReadyH.cons (o := ({ dst := none, op := Op.store 23 (Operand.tmp 6) (Operand.tmp 32), type := 0, pos := "law.go:96", after := #[{ on := 12, ground := Ground.data }, { on := 5, ground := Ground.data }, { on := 0, ground := Ground.phase }, { on := 1, ground := Ground.phase }, { on := 2, ground := Ground.phase }, { on := 3, ground := Ground.phase }, { on := 4, ground := Ground.phase }, { on := 5, ground := Ground.phase }, { on := 6, ground := Ground.textOnly Departure.lateStores }, { on := 7, ground := Ground.textOnly Departure.lateStores }, { on := 8, ground := Ground.textOnly Departure.lateStores }, { on := 9, ground := Ground.textOnly Departure.lateStores }, { on := 10, ground := Ground.textOnly Departure.lateStores }, { on := 11, ground := Ground.textOnly Departure.lateStores }, { on := 12, ground := Ground.phase }, { on := 13, ground := Ground.phase }], guard := none } : Oper)) rfl (fun K hK => ?_) AllReadyH.nil)
    obtain ⟨c0, c1, c2⟩ := bx_cells hx6
    obtain ⟨f0, f1, f2⟩ := bx_free hx6
    replace hB := setB hx6 (tv p) hB (by omega)
    replace hx7 := setO hx6 (tv p) hx7 (by omega)
    replace hx6 := set3 hx6 (tv p)
    go_simp
    refine hK.out _ _ (hT0.below hB) (fun hHeld => ?_)
    clear hK K
    try simp only [Act.put]
    refine wpAnyH_ready (rs := [15]) (by kernel_rfl) (by simp) ?_
    refine (AllReadyH.cons (o := ({ dst := none, op := Op.store 23 (Operand.tmp 7) (Operand.tmp 38), type := 0, pos := "law.go:96", after := #[{ on := 13, ground := Ground.data }, { on := 11, ground := Ground.data }, { on := 14, ground := Ground.chain }, { on := 0, ground := Ground.phase }, { on := 1, ground := Ground.phase }, { on := 2, ground := Ground.phase }, { on := 3, ground := Ground.phase }, { on := 4, ground := Ground.phase }, { on := 5, ground := Ground.phase }, { on := 6, ground := Ground.phase }, { on := 7, ground := Ground.phase }, { on := 8, ground := Ground.phase }, { on := 9, ground := Ground.phase }, { on := 10, ground := Ground.phase }, { on := 11, ground := Ground.phase }, { on := 12, ground := Ground.phase }, { on := 13, ground := Ground.phase }, { on := 14, ground := Ground.phase }], guard := none } : Oper)) rfl (fun K hK => ?_) AllReadyH.nil)
    obtain ⟨c0, c1, c2⟩ := bx_cells hx7
    obtain ⟨f0, f1, f2⟩ := bx_free hx7
    replace hB := setB hx7 (tv q) hB (by omega)
    replace hx6 := setO hx7 (tv q) hx6 (by omega)
    replace hx7 := set3 hx7 (tv q)
    go_simp
    refine hK.out _ _ (hT0.below hB) (fun hHeld => ?_)
    clear hK K
    try simp only [Act.put]
    refine wpAnyH_done (by kernel_rfl) ?_ _
    exact HN.out _ _ _ ((hT0.below hB).two hx6 hx7)
end Go.Proofs.Ytbhilmgpmebaiaa
