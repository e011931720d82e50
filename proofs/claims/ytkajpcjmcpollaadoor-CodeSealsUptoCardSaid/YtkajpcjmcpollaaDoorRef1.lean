import Derived.Test.YtkajpcjmcpollaaDoorHash0
import Derived.Test.YtkajpcjmcpollaaDoorProg
import Derived.WalkKit
import Derived.ProofKit
import Derived.BigQuiet
import Derived.Deep.QuietTactic
import Derived.WalkSpells
import Derived.WalkLawsBesides
import Derived.Lib.Hide
import Derived.Deep.MidRow
import Derived.Deep.RegionLaw
import Derived.BigRegion
import Derived.Laws.AppendOwnNone
import Derived.Deep.DeepMust
import Derived.Deep.AppendLies
import Derived.RegionTactic
import Derived.Deep.WholeRow
import Derived.BigFrame
import Derived.Deep.RegionWith
import Derived.Deep.RegionHeld3
import Derived.Maps.RangeWalk
import Derived.Laws.CopyOwn
import Derived.StillTailTactics

namespace Go.Proofs.YtkajpcjmcpollaaDoor
open Go.RowKit
/-- the lower 32 bits -/
def lo32 (x : Int) : Int := bits BinOp.and IntKind.u64 x 4294967295
def mA (x y : Int) : Int := IntKind.u64.wrap (lo32 x * lo32 y)
def mB (x y : Int) : Int := IntKind.u64.wrap (x / 4294967296 * lo32 y)
def mC (x y : Int) : Int := IntKind.u64.wrap (lo32 x * (y / 4294967296))
def mM (x y : Int) : Int := IntKind.u64.wrap (IntKind.u64.wrap (mA x y / 4294967296 + lo32 (mB x y)) + lo32 (mC x y))
def mulHi (x y : Int) : Int := IntKind.u64.wrap (IntKind.u64.wrap (IntKind.u64.wrap (IntKind.u64.wrap (x / 4294967296 * (y / 4294967296)) + mB x y / 4294967296) + mC x y / 4294967296) + mM x y / 4294967296)
def mulLo (x y : Int) : Int := IntKind.u64.wrap (lo32 (mA x y) + IntKind.u64.wrap (mM x y * 4294967296))
theorem mul_any (x y : Int) (w : World) :
    Calls Tryd.prog 59 #[.int .u64 x, .int .u64 y] w fun e w' => w = w' ∧ e = .returned (.tuple #[.int .u64 (mulHi x y), .int .u64 (mulLo x y)]) := by
  go_enter Tryd.func59, Tryd.ntmps59
  go_wp2
  go_ret2
  refine ⟨rfl, ?_⟩
  simp [mulHi, mulLo, mM, mA, mB, mC, lo32]
theorem rot_any (x c : Int) (w : World) (h0 : 0 < c) (h1 : c < 32) :
    Calls Tryd.prog 50 #[.int .u32 x, .int .i64 c] w fun e w' => (∃ n, w' = w.drewN n) ∧ e = .returned (.int .u32 (rotI x c.toNat)) := by
  obtain ⟨n, rfl⟩ : ∃ n : Nat, c = n := ⟨c.toNat, by omega⟩
  have g0 : 0 < n := by omega
  have g1 : n < 32 := by omega
  have k1 : IntKind.i64.wrap (32 - (n : Int)) = 32 - (n : Int) := IntWalk.i64_in _ (by omega)
  have k2 : 0 ≤ 32 - (n : Int) := by omega
  have k3 : (32 - (n : Int)).toNat = 32 - n := by omega
  clear h0 h1
  go_enter Tryd.func50, Tryd.ntmps50
  go_wp2
  go_quiet (fail)
  go_wp2
  go_ret
  exact ⟨⟨_, rfl⟩, by simp [rotI]⟩
/-- the test at the end of below -/
def atMost (hi lo p : Int) : Bool := decide (hi < p) || (decide (hi = p) && decide (lo = 0))
def belowI (x p n : Int) : Bool :=
  if n = 3 then atMost (IntKind.u64.wrap (IntKind.u64.wrap (mulHi x x * x) + mulHi (mulLo x x) x)) (mulLo (mulLo x x) x) (IntKind.u64.wrap (p * 4294967296))
  else atMost (mulHi x x) (mulLo x x) p
theorem ret_b {a b : Bool} (h : a = b) : Ending.returned (.bool a) = Ending.returned (.bool b) := by rw [h]
theorem below2_any (x p : Int) (w : World) :
    Calls Tryd.prog 58 #[.int .u64 x, .int .u64 p, .int .i64 2] w fun e w' => w = w' ∧ e = .returned (.bool (belowI x p 2)) := by
  go_enter Tryd.func58, Tryd.ntmps58
  go_wp2_with (go_at_call 59; refine (mul_any _ _ _).mono ?_; rintro e w' ⟨rfl, rfl⟩)
  all_goals
    go_ret
    refine ⟨rfl, ret_b ?_⟩
    first | (simp [belowI, atMost, *]; done) | (simp [belowI, atMost, *]; rfl)
theorem below3_any (x p : Int) (w : World) :
    Calls Tryd.prog 58 #[.int .u64 x, .int .u64 p, .int .i64 3] w fun e w' => w = w' ∧ e = .returned (.bool (belowI x p 3)) := by
  go_enter Tryd.func58, Tryd.ntmps58
  go_wp2_with (go_at_call 59; refine (mul_any _ _ _).mono ?_; rintro e w' ⟨rfl, rfl⟩)
  all_goals
    go_ret
    refine ⟨rfl, ret_b ?_⟩
    first | (simp [belowI, atMost, *]; done) | (simp [belowI, atMost, *]; rfl)
theorem below_any (x p n : Int) (w : World) (hn : n = 2 ∨ n = 3) :
    Calls Tryd.prog 58 #[.int .u64 x, .int .u64 p, .int .i64 n] w fun e w' => w = w' ∧ e = .returned (.bool (belowI x p n)) := by
  rcases hn with rfl | rfl
  · exact below2_any x p w
  · exact below3_any x p w
def ptStep (p n x : Int) (j : Nat) : Int := if belowI (IntKind.u64.wrap (x + IntKind.u64.wrap (2 ^ j))) p n = true then IntKind.u64.wrap (x + IntKind.u64.wrap (2 ^ j)) else x
/-- x behind the steps from 35 down to m -/
def ptAt (p n : Int) : Nat → Int
  | 0 => 0
  | k + 1 => ptStep p n (ptAt p n k) (35 - k)
theorem point_any (p n : Int) (w : World) (hn : n = 2 ∨ n = 3) :
    Calls Tryd.prog 55 #[.int .u64 p, .int .i64 n] w fun e w' => w = w' ∧ e = .returned (.int .u32 (IntKind.u32.wrap (ptAt p n 36))) := by
  go_enter Tryd.func55, Tryd.ntmps55
  go_wp2
  go_loop [5, 6] (fun x i => ∃ m : Nat, m ≤ 36 ∧ i = .int .i64 ((m : Int) - 1) ∧ x = .int .u64 (ptAt p n (36 - m))) (fun _ i => (intOf i + 1).toNat)
  case atStart => exact ⟨36, by omega, rfl, rfl⟩
  case round =>
    obtain ⟨m, hm, rfl, rfl⟩ := hrel
    cases m with
    | zero =>
      have hz : (((0 : Nat) : Int) - 1) = -1 := rfl
      rw [hz]
      clear hz
      go_wp2
      go_ret
      exact ⟨rfl, rfl⟩
    | succ j =>
      have e : (((j + 1 : Nat) : Int) - 1) = (j : Int) := by omega
      rw [e]
      clear e
      have hs : ptAt p n (36 - j) = ptStep p n (ptAt p n (36 - (j + 1))) j := by
        have e1 : 36 - j = (36 - (j + 1)) + 1 := by omega
        rw [e1, ptAt]
        congr 1
        omega
      generalize ptAt p n (36 - (j + 1)) = X at *
      have HS := Lib.hid hs
      clear hs
      go_wp2_with (go_at_call 58; refine (below_any _ _ _ _ hn).mono ?_; rintro e w' ⟨rfl, rfl⟩)
      all_goals
        refine ⟨⟨j, by omega, rfl, by rw [HS.out]; simp [ptStep, *]⟩, by simp [intOf]⟩
/-- the primes below k -/
def isP (k : Nat) : Bool := decide (2 ≤ k) && (List.range k).all fun d => decide (d < 2) || decide (k % d ≠ 0)
def prs (k : Nat) : List Int := ((List.range k).filter isP).map fun x : Nat => (x : Int)
def goodP (l : List Int) (k : Nat) : Bool := l.all fun q => decide ((k : Int) % q ≠ 0)
theorem prs_step : ∀ k, k < 312 → 2 ≤ k → prs (k + 1) = if goodP (prs k) k = true then prs k ++ [(k : Int)] else prs k := by decide +kernel
theorem prs_len : ∀ k, k < 312 → (prs k).length < 64 := by decide +kernel
theorem prs_end : (prs 312).length = 64 := by decide +kernel
theorem prs_pos : ∀ x ∈ prs 312, 2 ≤ x ∧ x < 312 := by decide +kernel
theorem prs_two : prs 2 = [] := by decide +kernel
theorem prs_sub (k : Nat) (hk : k ≤ 312) : ∀ x ∈ prs k, 2 ≤ x ∧ x < 312 := by
  intro x hx
  apply prs_pos
  simp only [prs, List.mem_map, List.mem_filter, List.mem_range] at hx ⊢
  obtain ⟨y, ⟨h1, h2⟩, h3⟩ := hx
  exact ⟨y, ⟨by omega, h2⟩, h3⟩
theorem info48 : (Tryd.prog.info? 48).map (fun i => (i.zero, i.size, i.bytes)) = some (some (.int .u64 0), 1, 8) := by kernel_rfl
theorem goodP_take (l : List Int) (k j : Nat) (h : j < l.length) : goodP (l.take (j + 1)) k = (goodP (l.take j) k && decide ((k : Int) % l[j]?.getD 0 ≠ 0)) := by
  rw [List.take_succ_eq_append_getElem h, List.getElem?_eq_getElem h]
  simp only [goodP, List.all_append, List.all_cons, List.all_nil, Bool.and_true, Option.getD_some]
end Go.Proofs.YtkajpcjmcpollaaDoor
