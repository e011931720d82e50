import Derived.Test.YtkajpcjmcpollaaDoorCode9
import Derived.WalkKit
import Derived.ProofKit
import Derived.BigQuiet
import Derived.Deep.QuietTactic
import Derived.WalkSpells
import Derived.WalkLawsBesides
import Derived.Lib.Hide
import Derived.Deep.MidRow
import Derived.Deep.RegionLaw
import Derived.BigRegion
import Derived.Lib.SlBytesConst
import Derived.Laws.AppendOwnNone
import Derived.Deep.DeepMust
import Derived.Deep.AppendLies
import Derived.RegionTactic
import Derived.Deep.WholeRow
import Derived.BigFrame
import Derived.Deep.RegionWith
import Derived.Deep.RegionHeld3
import Derived.Maps.RangeWalk
import Derived.Laws.CopyOwn
import Derived.StillTailTactics
namespace Go.Proofs.YtkajpcjmcpollaaDoor
open Go.RowKit
theorem ret_int {a b : Int} (h : a = b) : Ending.returned (.int .i64 a) = Ending.returned (.int .i64 b) := by rw [h]
theorem cmpI_end1 {l m : List Int} {k : Nat} (h1 : k = l.length) (h2 : k < m.length) : cmpI (l.drop k) (m.drop k) = -1 := by
  rw [List.drop_of_length_le (by omega), List.drop_eq_getElem_cons h2]; rfl
theorem cmpI_end2 {l m : List Int} {k : Nat} (h1 : k < l.length) (h2 : k = m.length) : cmpI (l.drop k) (m.drop k) = 1 := by
  rw [List.drop_of_length_le (l := m) (by omega), List.drop_eq_getElem_cons h1]; rfl
theorem cmpI_end3 {l m : List Int} {k : Nat} (h1 : k = l.length) (h2 : k = m.length) : cmpI (l.drop k) (m.drop k) = 0 := by
  rw [List.drop_of_length_le (l := m) (by omega), List.drop_of_length_le (by omega)]; rfl
theorem cmpI_at {l m : List Int} {k : Nat} (h1 : k < l.length) (h2 : k < m.length) : cmpI (l.drop k) (m.drop k) = if l[k]?.getD 0 < m[k]?.getD 0 then -1 else if m[k]?.getD 0 < l[k]?.getD 0 then 1 else cmpI (l.drop (k + 1)) (m.drop (k + 1)) := by
  rw [drop_at h1, drop_at h2]; rfl
set_option maxHeartbeats 1600000 in
theorem bytes_any (v1 v2 : Value) (l m : List Int) (w : World) (h1 : Bs w v1 l) (h2 : Bs w v2 m) (r1 : Rng l) (r2 : Rng m) (hl : l.length ≤ 1099511627776) (hm : m.length ≤ 1099511627776) :
    Calls Tryd.prog 17 #[v1, v2] w fun e w' => e = .returned (.int .i64 (cmpI l m)) ∧ Below w.heap.size w w' := by
  obtain ⟨a1, c1, rfl, hc1, hcell1⟩ := h1
  obtain ⟨a2, c2, rfl, hc2, hcell2⟩ := h2
  have HC1 := Lib.hid hcell1
  have HC2 := Lib.hid hcell2
  generalize hn : l.length = n at *
  generalize ho : m.length = o at *
  have HN := Lib.hid hn
  have HO := Lib.hid ho
  clear hcell1 hcell2 hn ho
  go_enter Tryd.func17, Tryd.ntmps17
  go_wp2_with fail
  go_loopw [5] (fun i wr => ∃ k : Nat, k ≤ n ∧ k ≤ o ∧ i = .int .i64 k ∧ Below w.heap.size w wr ∧ Hid (cmpI l m = cmpI (l.drop k) (m.drop k))) (fun i _ => n - (intOf i).toNat)
  case atStart => exact ⟨0, Nat.zero_le _, Nat.zero_le _, rfl, Below.refl _ _, Lib.hid rfl⟩
  case round =>
    obtain ⟨k, hk1, hk2, rfl, hbw, heq⟩ := hrel
    have HBW := Lib.hid hbw
    clear hbw
    by_cases hlt1 : k < n
    · have hi1 : (k : Int) < (n : Int) := by omega
      by_cases hlt2 : k < o
      · have hi2 : (k : Int) < (o : Int) := by omega
        obtain ⟨b1, o1, rfl, hb1, hd1⟩ := HC1.out (by omega)
        obtain ⟨b2, o2, rfl, hb2, hd2⟩ := HC2.out (by omega)
        have x1 := (HBW.out.cell (p := ⟨b1, o1 + k, none⟩) hb1).trans (hd1 k hlt1)
        have x2 := (HBW.out.cell (p := ⟨b2, o2 + k, none⟩) hb2).trans (hd2 k hlt2)
        have g1 := r1.get k
        have g2 := r2.get k
        have HAT := Lib.hid (heq.out.trans (cmpI_at (by rw [HN.out]; exact hlt1) (by rw [HO.out]; exact hlt2)))
        generalize l[k]?.getD 0 = x at *
        generalize m[k]?.getD 0 = y at *
        clear hd1 hd2 heq
        by_cases hxy : x < y
        · rw [if_pos hxy] at HAT
          have hxy2 : decide (x < y) = true := decide_eq_true hxy
          go_wp2_with fail
          go_quiet (fail)
          go_wp2_with fail
          go_ret
          exact ⟨ret_int HAT.out.symm, below_drewN HBW.out _⟩
        · rw [if_neg hxy] at HAT
          have hxy2 : decide (x < y) = false := decide_eq_false hxy
          by_cases hyx : y < x
          · rw [if_pos hyx] at HAT
            have hyx2 : decide (y < x) = true := decide_eq_true hyx
            go_wp2_with fail
            go_quiet (fail)
            go_wp2_with fail
            go_quiet (fail)
            go_wp2_with fail
            go_ret
            exact ⟨ret_int HAT.out.symm, below_drewN (below_drewN HBW.out _) _⟩
          · rw [if_neg hyx] at HAT
            have hyx2 : decide (y < x) = false := decide_eq_false hyx
            go_wp2_with fail
            go_quiet (fail)
            go_wp2_with fail
            go_quiet (fail)
            go_wp2_with fail
            go_roundw
            case rel => exact ⟨k + 1, by omega, by omega, by go_num, below_drewN HBW.out _, HAT⟩
            case measure => simp [intOf]; omega
      · have hko : k = o := by omega
        have hi2 : ¬ (k : Int) < (o : Int) := by omega
        have HF := Lib.hid (heq.out.trans (cmpI_end2 (by rw [HN.out]; exact hlt1) (by rw [HO.out]; exact hko)))
        have hon : ¬ (n : Int) < (o : Int) := by omega
        have hno : (o : Int) < (n : Int) := by omega
        clear heq hko
        go_wp2_with fail
        go_ret
        exact ⟨ret_int HF.out.symm, HBW.out⟩
    · have hkn : k = n := by omega
      by_cases hlt2 : k < o
      · have HF := Lib.hid (heq.out.trans (cmpI_end1 (by rw [HN.out]; exact hkn) (by rw [HO.out]; exact hlt2)))
        have hon : (n : Int) < (o : Int) := by omega
        clear heq hkn
        go_wp2_with fail
        go_ret
        exact ⟨ret_int HF.out.symm, HBW.out⟩
      · have hko : k = o := by omega
        have HF := Lib.hid (heq.out.trans (cmpI_end3 (by rw [HN.out]; exact hkn) (by rw [HO.out]; exact hko)))
        have hon : ¬ (n : Int) < (o : Int) := by omega
        have hno : ¬ (o : Int) < (n : Int) := by omega
        clear heq hkn hko
        go_wp2_with fail
        go_ret
        exact ⟨ret_int HF.out.symm, HBW.out⟩
instance decVal : DecidableEq Val := fun a b =>
  if h : a.k = b.k ∧ a.n = b.n ∧ a.s = b.s then isTrue (by cases a; cases b; simp_all) else isFalse (fun e => h (by rw [e]; exact ⟨rfl, rfl, rfl⟩))
theorem guard32 : Tryd.prog.eqGuardType Tryd.prog.depth 32 = false := by kernel_rfl
def eql32 (x y : Value) : Sem Value := binOp .eql 32 x y
theorem eql32_eq (x y : Value) : binOp .eql 32 x y = eql32 x y := rfl
def neq32 (x y : Value) : Sem Value := binOp .neq 32 x y
theorem neq32_eq (x y : Value) : binOp .neq 32 x y = neq32 x y := rfl
theorem run_equalIn32 (w : World) (x y : Val) (hx : Rng x.s) (hy : Rng y.s) : (Op.equalIn 10000 32 (.agg #[.int .i64 x.k, .int .i64 x.n, .string (str x.s)]) (.agg #[.int .i64 y.k, .int .i64 y.n, .string (str y.s)])).run Tryd.prog w = .ok (decide (x = y)) w := by
  have u1 := Tryd.underlying3
  have u2 := Tryd.underlying2
  have u3 := Tryd.underlying9
  have a1 := Tryd.isAgg3
  have a2 := Tryd.isAgg2
  have a3 := Tryd.isAgg9
  have hS : Tryd.prog.underlying 32 = some (.struct (Tryd.prog.fieldsOf 32)) := by kernel_rfl
  have hp : Tryd.prog.stoodInHeld 32 = false := by kernel_rfl
  have hb := str_beq hx hy
  rw [show (10000 : Nat) = 9999 + 1 from rfl, run_equalIn_agg w 9999 32 _ _ hS hp]
  simp only [Program.fieldsOf, Tryd.underlying32]
  go_simp
  obtain ⟨xk, xn, xs⟩ := x
  obtain ⟨yk, yn, ys⟩ := y
  by_cases h1 : xk = yk <;> by_cases h2 : xn = yn <;> by_cases h3 : xs = ys <;> simp [h1, h2, h3]
theorem run_eql32 (w : World) (x y : Val) (hx : Rng x.s) (hy : Rng y.s) : (eql32 (.agg #[.int .i64 x.k, .int .i64 x.n, .string (str x.s)]) (.agg #[.int .i64 y.k, .int .i64 y.n, .string (str y.s)])).run Tryd.prog w = .ok (.bool (decide (x = y))) w := by
  unfold eql32
  rw [run_eql_struct, run_equalIn32 w x y hx hy]; rfl
theorem run_neq32 (w : World) (x y : Val) (hx : Rng x.s) (hy : Rng y.s) : (neq32 (.agg #[.int .i64 x.k, .int .i64 x.n, .string (str x.s)]) (.agg #[.int .i64 y.k, .int .i64 y.n, .string (str y.s)])).run Tryd.prog w = .ok (.bool (!decide (x = y))) w := by
  unfold neq32
  rw [run_neq_struct, run_equalIn32 w x y hx hy]; rfl
attribute [local go_sem ↓] eql32_eq neq32_eq
set_option maxHeartbeats 1600000 in
theorem same_any (v1 v2 : Value) (r s : List Val) (w : World) (h1 : Rw w v1 r) (h2 : Rw w v2 s) (ho1 : ∀ x ∈ r, x.OK) (ho2 : ∀ x ∈ s, x.OK) (hl : r.length ≤ 1073741824) (hm : s.length ≤ 1073741824) :
    Calls Tryd.prog 12 #[v1, v2] w fun e w' => e = .returned (.bool (decide (r = s))) ∧ Below w.heap.size w w' := by
  obtain ⟨a1, c1, rfl, hc1, hcell1⟩ := h1
  obtain ⟨a2, c2, rfl, hc2, hcell2⟩ := h2
  have HC1 := Lib.hid hcell1
  have HC2 := Lib.hid hcell2
  have HO1 := Lib.hid ho1
  have HO2 := Lib.hid ho2
  have hg := guard32
  generalize hn : r.length = n at *
  generalize ho : s.length = o at *
  have HN := Lib.hid hn
  have HO := Lib.hid ho
  clear hcell1 hcell2 hn ho ho1 ho2
  by_cases hno : n = o
  · subst hno
    go_enter Tryd.func12, Tryd.ntmps12
    go_wp2_with fail
    go_loopw [5] (fun i wr => ∃ k : Nat, k ≤ n ∧ i = .int .i64 k ∧ Below w.heap.size w wr ∧ Hid (r.take k = s.take k)) (fun i _ => n - (intOf i).toNat)
    case atStart => exact ⟨0, Nat.zero_le _, rfl, Below.refl _ _, Lib.hid rfl⟩
    case round =>
      obtain ⟨k, hk1, rfl, hbw, heq⟩ := hrel
      have HBW := Lib.hid hbw
      clear hbw
      by_cases hlt1 : k < n
      · have hi1 : (k : Int) < (n : Int) := by omega
        obtain ⟨b1, o1, rfl, hb1, hd1⟩ := HC1.out (by omega)
        obtain ⟨b2, o2, rfl, hb2, hd2⟩ := HC2.out (by omega)
        obtain ⟨x, hx⟩ : ∃ x, r[k]? = some x := ⟨_, List.getElem?_eq_getElem (by rw [HN.out]; exact hlt1)⟩
        obtain ⟨y, hy⟩ : ∃ y, s[k]? = some y := ⟨_, List.getElem?_eq_getElem (by rw [HO.out]; exact hlt1)⟩
        obtain ⟨p0, p1, p2⟩ := hd1 k x hx
        obtain ⟨q0, q1, q2⟩ := hd2 k y hy
        replace p0 := (HBW.out.cell (p := ⟨b1, o1 + k * 3, none⟩) hb1).trans p0
        replace p1 := (HBW.out.cell (p := ⟨b1, o1 + k * 3 + 1, none⟩) hb1).trans p1
        replace p2 := (HBW.out.cell (p := ⟨b1, o1 + k * 3 + 2, none⟩) hb1).trans p2
        replace q0 := (HBW.out.cell (p := ⟨b2, o2 + k * 3, none⟩) hb2).trans q0
        replace q1 := (HBW.out.cell (p := ⟨b2, o2 + k * 3 + 1, none⟩) hb2).trans q1
        replace q2 := (HBW.out.cell (p := ⟨b2, o2 + k * 3 + 2, none⟩) hb2).trans q2
        have HX := Lib.hid hx
        have HY := Lib.hid hy
        have hne : ∀ m, (neq32 (.agg #[.int .i64 x.k, .int .i64 x.n, .string (str x.s)]) (.agg #[.int .i64 y.k, .int .i64 y.n, .string (str y.s)])).run Tryd.prog (wr.drewN m) = .ok (.bool (!decide (x = y))) (wr.drewN m) := fun m => run_neq32 _ x y (HO1.out x (List.mem_of_getElem? hx)).1 (HO2.out y (List.mem_of_getElem? hy)).1
        have hgq : ∀ (m : Nat) (x' y' : Operand), (eqGuard BinOp.neq 32 x' y' (.agg #[.int .i64 x.k, .int .i64 x.n, .string (str x.s)]) (.agg #[.int .i64 y.k, .int .i64 y.n, .string (str y.s)])).run Tryd.prog (wr.drewN m) = .ok () (wr.drewN m) := fun m x' y' => run_eqGuard_agg _ _ _ _ _ _ _ guard32
        clear hd1 hd2 hx hy
        by_cases hxy : x = y
        · rw [decide_eq_true hxy] at hne
          have HT := Lib.hid (show r.take (k + 1) = s.take (k + 1) by rw [take_succ_vs r k x HX.out, take_succ_vs s k y HY.out, heq.out, hxy])
          clear hxy heq
          go_wp2_with fail
          go_quiet (fail)
          go_wp2_with fail
          go_roundw
          case rel => exact ⟨k + 1, by omega, by go_num, below_drewN HBW.out _, HT⟩
          case measure => simp [intOf]; omega
        · rw [decide_eq_false hxy] at hne
          have HNE := Lib.hid (show r ≠ s from fun e => by
            have h1 := HX.out
            rw [e, HY.out] at h1
            exact hxy (Option.some.inj h1).symm)
          clear hxy heq
          go_wp2_with fail
          go_quiet (fail)
          go_wp2_with fail
          go_ret
          exact ⟨ret_bool (decide_eq_false HNE.out).symm, below_drewN HBW.out _⟩
      · have hkn : n ≤ k := by omega
        have HE := Lib.hid (show r = s by
          have := heq.out
          rw [List.take_of_length_le (by rw [HN.out]; exact hkn), List.take_of_length_le (by rw [HO.out]; exact hkn)] at this
          exact this)
        clear heq
        go_wp2_with fail
        go_ret
        exact ⟨ret_bool (decide_eq_true HE.out).symm, HBW.out⟩
  · have HNE := Lib.hid (show r ≠ s from fun e => hno (by rw [← HN.out, ← HO.out, e]))
    have hno2 : ((n : Int) != (o : Int)) = true := by simp; omega
    go_enter Tryd.func12, Tryd.ntmps12
    go_wp2_with fail
    go_ret
    exact ⟨ret_bool (decide_eq_false HNE.out).symm, Below.refl _ _⟩
end Go.Proofs.YtkajpcjmcpollaaDoor
