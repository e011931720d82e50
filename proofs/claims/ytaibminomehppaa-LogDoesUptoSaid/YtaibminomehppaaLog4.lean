import Derived.Test.YtaibminomehppaaLog3
import Derived.WalkKit
import Derived.ProofKit
import Derived.BigQuiet
import Derived.Deep.QuietTactic
import Derived.WalkSpells
import Derived.WalkLawsBesides
import Derived.Lib.Hide
import Derived.Deep.MidRow
import Derived.Deep.RegionLaw
import Derived.BigRegion
import Derived.Laws.AppendOwnNone
import Derived.Deep.DeepMust
import Derived.Deep.AppendLies
import Derived.RegionTactic
import Derived.Deep.WholeRow
import Derived.BigFrame
import Derived.Deep.RegionWith
import Derived.Deep.RegionHeld3
import Derived.Maps.RangeWalk
import Derived.Laws.CopyOwn
import Derived.StillTailTactics

namespace Go.Proofs.Ytaibminomehppaa
open Go.RowKit
/-- a mark as it is written -/
def mnums (a b c : Nat) : List Nat := [a, b, c, c, b, a]
def pl (ns : List Nat) (i : Nat) : List Int := (ns.take i).flatMap be8 ++ zeros (256 - 8 * i)
def mb (a b c : Nat) : List Int := (mnums a b c).flatMap be8 ++ zeros 208
theorem flat8_len (ns : List Nat) : (ns.flatMap be8).length = 8 * ns.length := by
  induction ns with
  | nil => rfl
  | cons x r ih => rw [List.flatMap_cons, List.length_append, ih, be8_len, List.length_cons]; omega
theorem pl_len (ns : List Nat) (i : Nat) (h : i ≤ ns.length) (h2 : 8 * i ≤ 256) : (pl ns i).length = 256 := by
  unfold pl
  rw [List.length_append, flat8_len, List.length_take, zeros, List.length_replicate]; omega
theorem pl_step (ns : List Nat) (i x : Nat) (hx : ns[i]? = some x) (h2 : 8 * i + 8 ≤ 256) : putL (pl ns i) (8 * i) (be8 x) = pl ns (i + 1) := by
  have hi : i < ns.length := (List.getElem?_eq_some_iff.1 hx).1
  have hlen : ((ns.take i).flatMap be8).length = 8 * i := by rw [flat8_len, List.length_take]; omega
  unfold putL pl
  rw [List.take_append_of_le_length (by rw [hlen]; exact Nat.le_refl _), List.take_of_length_le (by rw [hlen]; exact Nat.le_refl _), List.drop_append, hlen, be8_len, List.drop_of_length_le (by rw [hlen]; omega)]
  have ht : ns.take (i + 1) = ns.take i ++ [x] := by rw [List.take_add_one, hx]; rfl
  rw [ht, List.flatMap_append, zeros, List.drop_replicate, List.nil_append]
  have e1 : 256 - 8 * i - (8 * i + 8 - 8 * i) = 256 - 8 * (i + 1) := by omega
  rw [e1]
  simp [zeros]
theorem mb_len (a b c : Nat) : (mb a b c).length = 256 := by
  unfold mb; rw [List.length_append, flat8_len, zeros, List.length_replicate]; rfl
theorem mb_pl (a b c : Nat) : pl (mnums a b c) 6 = mb a b c := rfl
theorem zeros_rng (n : Nat) : Rng (zeros n) := fun x hx => by
  rw [zeros, List.mem_replicate] at hx; rw [hx.2]; omega
theorem mb_rng (a b c : Nat) : Rng (mb a b c) := rng_append (fun x hx => by
  obtain ⟨n, _, h⟩ := List.mem_flatMap.1 hx
  exact be8_rng n x h) (zeros_rng _)
set_option maxRecDepth 100000 in
set_option maxHeartbeats 4000000 in
theorem mblock_any (a b c : Nat) (w : World) (ha : a < 18446744073709551616) (hb : b < 18446744073709551616) (hc : c < 18446744073709551616) :
    Calls Try.prog 36 #[.agg #[.int .u64 a, .int .u64 b, .int .u64 c]] w fun e w' => e = .returned (.agg (ArrU8 (mb a b c))) ∧ Below w.heap.size w w' := by
  have hz := zero35
  have HI35 := Lib.hid (show (Try.prog.info? 52).map (·.size) = some 256 by kernel_rfl)
  have SZ := Lib.hid (show (ArrU8 (zeros 256)).size = 256 by rw [ArrU8_size, zeros, List.length_replicate])
  have SM := Lib.hid (show (ArrU8 (mb a b c)).size = 256 by rw [ArrU8_size, mb_len])
  have hsl := fun u => slice35_h u (w.heap.size + 1 + 1) 0 0 rfl (by decide)
  go_enter Try.func36, Try.ntmps36
  go_wp2_with fail
  have HA := Lib.hid ha
  have HB := Lib.hid hb
  have HC := Lib.hid hc
  have hb1 : Below w.heap.size w (w.alloc (.cells #[.int .u64 a, .int .u64 b, .int .u64 c] 83)) := (Below.refl _ _).alloc (Nat.le_refl _) _
  have hb2 : Below w.heap.size w ((w.alloc (.cells #[.int .u64 a, .int .u64 b, .int .u64 c] 83)).alloc (.cells (ArrU8 (zeros 256)) 52)) := hb1.alloc (by simp) _
  have hb3 : Below w.heap.size w (((w.alloc (.cells #[.int .u64 a, .int .u64 b, .int .u64 c] 83)).alloc (.cells (ArrU8 (zeros 256)) 52)).alloc (.cells (ArrU8 (zeros 256)) 52)) := hb2.alloc (by simp; omega) _
  have hx1 : (((w.alloc (.cells #[.int .u64 a, .int .u64 b, .int .u64 c] 83)).alloc (.cells (ArrU8 (zeros 256)) 52)).alloc (.cells (ArrU8 (zeros 256)) 52)).heap[w.heap.size + 1]? = some (.cells (ArrU8 (zeros 256)) 52 (0, 0)) := (heap_alloc_old _ _ (by simp)).trans (by have h := heap_alloc_new (w.alloc (.cells #[.int .u64 a, .int .u64 b, .int .u64 c] 83)) (.cells (ArrU8 (zeros 256)) 52); rw [World.size_alloc] at h; exact h)
  have hx2 : (((w.alloc (.cells #[.int .u64 a, .int .u64 b, .int .u64 c] 83)).alloc (.cells (ArrU8 (zeros 256)) 52)).alloc (.cells (ArrU8 (zeros 256)) 52)).heap[w.heap.size + 1 + 1]? = some (.cells ((pl (mnums a b c) 0).map (Value.int .u8)).toArray 52 (0, 0)) := by have h := heap_alloc_new ((w.alloc (.cells #[.int .u64 a, .int .u64 b, .int .u64 c] 83)).alloc (.cells (ArrU8 (zeros 256)) 52)) (.cells (ArrU8 (zeros 256)) 52); rw [World.size_alloc, World.size_alloc] at h; exact h
  have HB3 := Lib.hid hb3
  have HX1 := Lib.hid hx1
  have HX2 := Lib.hid hx2
  clear hb1 hb2 hb3 hx1 hx2 ha hb hc hsl
  generalize ((w.alloc (.cells #[.int .u64 a, .int .u64 b, .int .u64 c] 83)).alloc (.cells (ArrU8 (zeros 256)) 52)).alloc (.cells (ArrU8 (zeros 256)) 52) = w3 at *
  have HS := Lib.hid (show w.heap.size + 1 + 1 < w3.heap.size from (Array.getElem?_eq_some_iff.1 HX2.out).1)
  go_loopw [4, 21] (fun sv iv wr => ∃ i : Nat, i ≤ 6 ∧ iv = .int .i64 (i : Int) ∧ sv = .slice (some ⟨w.heap.size + 1 + 1, 0, none⟩) (8 * i : Nat) 256 ∧ wr.heap[w.heap.size + 1 + 1]? = some (.cells ((pl (mnums a b c) i).map (Value.int .u8)).toArray 52 (0, 0)) ∧ Chg (fun g => g = w.heap.size + 1 + 1) w3 wr) (fun _ iv _ => 6 - (intOf iv).toNat)
  case atStart => exact ⟨0, by omega, rfl, rfl, HX2.out, Chg.refl _ _⟩
  case round =>
    obtain ⟨i, hi, rfl, rfl, hx, hc⟩ := hrel
    have HX := Lib.hid hx
    have HCW := Lib.hid hc
    clear hx hc
    by_cases hlt : i < 6
    · obtain ⟨x, hnx, hx64⟩ : ∃ x, (mnums a b c)[i]? = some x ∧ x < 18446744073709551616 := by
        have h1 := HA.out; have h2 := HB.out; have h3 := HC.out
        rcases i with _ | _ | _ | _ | _ | _ | i
        · exact ⟨a, rfl, h1⟩
        · exact ⟨b, rfl, h2⟩
        · exact ⟨c, rfl, h3⟩
        · exact ⟨c, rfl, h3⟩
        · exact ⟨b, rfl, h2⟩
        · exact ⟨a, rfl, h1⟩
        · omega
      have HST := Lib.hid (pl_step (mnums a b c) i x hnx (by omega))
      have HPL := Lib.hid (pl_len (mnums a b c) i (by show i ≤ 6; omega) (by omega))
      have hap := appendNumber_in (w.heap.size + 1 + 1) (8 * i) x _ _ wr HX.out HPL.out (by omega) hx64
      have HAP := Lib.hid hap
      have HLT := Lib.hid hlt
      have hix : ∀ u : World, (Instr.index 131 (.agg #[.int .u64 (a : Int), .int .u64 (b : Int), .int .u64 (c : Int), .int .u64 (c : Int), .int .u64 (b : Int), .int .u64 (a : Int)]) (.int .i64 (i : Int))).run Try.prog u = .ok (.int .u64 (x : Int)) u := by
        intro u
        rcases i with _ | _ | _ | _ | _ | _ | i
        all_goals first | (simp [mnums] at hnx; subst hnx; kernel_rfl) | omega
      clear hap hnx
      go_wp2_with fail
      refine HAP.out.mono ?_
      rintro e w4 ⟨rfl, hx4, hc4⟩
      rw [HST.out] at hx4
      have HX4 := Lib.hid hx4
      have HC4 := Lib.hid (HCW.out.trans hc4 (fun _ h => .inl h))
      clear hx4 hc4 hix
      go_wp2_with fail
      go_roundw
      case rel => exact ⟨i + 1, by have := HLT.out; omega, by go_num, by rw [Nat.mul_add], HX4.out, HC4.out⟩
      case measure => have := HLT.out; simp [intOf]; omega
    · obtain rfl : i = 6 := by omega
      have HXM := Lib.hid (show wr.heap[w.heap.size + 1 + 1]? = some (.cells (ArrU8 (mb a b c)) 52 (0, 0)) from HX.out)
      have HX1W := Lib.hid ((HCW.out.block (w.heap.size + 1) (by have := HS.out; omega) (by omega)).trans HX1.out)
      clear hlt hz
      go_wp2_with (first
        | (refine wpList_load_row rfl 52 (Operand.tmp 3) rfl (w.heap.size + 1 + 1) rfl 52 (ArrU8 (mb a b c)) (0, 0) _ HXM.out Try.underlying52 rfl (by rw [HI35.out, SM.out]) ?_)
        | (refine wpList_store_row rfl 52 (Operand.tmp 2) (Operand.tmp 28) rfl (w.heap.size + 1) (ArrU8 (mb a b c)) rfl rfl 52 (ArrU8 (zeros 256)) HX1W.out (by rw [HI35.out, SM.out]) (by rw [SZ.out, SM.out]) (ArrU8_one _) ?_))
      have hq : Below w.heap.size w wr := HB3.out.trans (HCW.out.below (fun k hk => by subst hk; omega) HB3.out.size)
      refine bodyPost_ret (results_cell_row rfl _ _ (w.heap.size + 1) 52 (ArrU8 (mb a b c)) (0, 0) _ rfl (setRow_heap _ _ _ _ _ _ HX1W.out) Try.underlying52 rfl (by rw [HI35.out, SM.out])) rfl ⟨rfl, ?_⟩
      exact below_setRow hq (by omega) _
end Go.Proofs.Ytaibminomehppaa
