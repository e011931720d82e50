import Derived.Test.YtaklkjjoplfokaaDisk2
import Derived.WalkKit
import Derived.ProofKit
import Derived.BigQuiet
import Derived.Deep.QuietTactic
import Derived.WalkSpells
import Derived.WalkLawsBesides
import Derived.Lib.Hide
import Derived.Deep.MidRow
import Derived.Deep.RegionLaw
import Derived.BigRegion
import Derived.Laws.AppendOwnNone
import Derived.Deep.DeepMust
import Derived.Deep.AppendLies
import Derived.RegionTactic
import Derived.Deep.WholeRow
import Derived.BigFrame
import Derived.Deep.RegionWith
import Derived.Deep.RegionHeld3
import Derived.Maps.RangeWalk
import Derived.Laws.CopyOwn
import Derived.StillTailTactics
namespace Go.Proofs.Ytaklkjjoplfokaa
open Go.RowKit
theorem down_any (D : Nat) (nb rm fz : Int) (dn : Bool) (m lv : Value) (w : World) (hd : DiskIs w D (DC nb rm fz dn m lv)) :
    Calls Try.prog 28 #[.pointer (some ⟨D, 0, none⟩)] w fun e w' => w = w' ∧ e = .returned (.bool dn) := by
  have c3 : w.cell? ⟨D, 3, none⟩ = some (.bool dn) := hd.cell 3
  clear hd
  go_enter Try.func28, Try.ntmps28
  go_wp2
  go_ret
  exact ⟨rfl, rfl⟩
theorem blocks_any (D : Nat) (nb rm fz : Int) (dn : Bool) (m lv : Value) (w : World) (hd : DiskIs w D (DC nb rm fz dn m lv)) :
    Calls Try.prog 56 #[.pointer (some ⟨D, 0, none⟩)] w fun e w' => w = w' ∧ e = .returned (.int .i64 nb) := by
  have c0 : w.cell? ⟨D, 0, none⟩ = some (.int .i64 nb) := hd.cell 0
  clear hd
  go_enter Try.func56, Try.ntmps56
  go_wp2
  go_ret
  exact ⟨rfl, rfl⟩
theorem loose_any (D : Nat) (nb rm fz : Int) (dn : Bool) (m : Value) (a : Option Addr) (n c : Nat) (w : World) (hd : DiskIs w D (DC nb rm fz dn m (.slice a n c))) :
    Calls Try.prog 25 #[.pointer (some ⟨D, 0, none⟩)] w fun e w' => w = w' ∧ e = .returned (.int .i64 n) := by
  have c5 : w.cell? ⟨D, 5, none⟩ = some (.slice a n c) := hd.cell 5
  clear hd
  go_enter Try.func25, Try.ntmps25
  go_wp2
  go_ret
  exact ⟨rfl, rfl⟩
theorem room_any (D : Nat) (nb rm fz n : Int) (dn : Bool) (m lv : Value) (w : World) (hd : DiskIs w D (DC nb rm fz dn m lv)) :
    Calls Try.prog 19 #[.pointer (some ⟨D, 0, none⟩), .int .i64 n] w fun e w' => e = .returned (.tuple #[]) ∧ DiskIs w' D (DC nb (if 0 ≤ n then n else 0) fz dn m lv) ∧ w.grownBy w' (some D) ∧ w'.heap.size = w.heap.size := by
  have HD := Lib.hid hd
  have c1 : w.cell? ⟨D, 1, none⟩ = some (.int .i64 rm) := hd.cell 1
  have f1 := hd.frozen 1
  clear hd
  by_cases h0 : 0 ≤ n
  · rw [if_pos h0]
    go_enter Try.func19, Try.ntmps19
    go_wp2
    all_goals go_end0
    all_goals exact ⟨rfl, HD.out.set 1 _, grownBy_setCell _ _ _, by simp⟩
  · rw [if_neg h0]
    have h1 : n < 0 := by omega
    go_enter Try.func19, Try.ntmps19
    go_wp2
    all_goals go_end0
    all_goals exact ⟨rfl, HD.out.set 1 _, grownBy_setCell _ _ _, by simp⟩
theorem arm_any (D : Nat) (nb rm fz n : Int) (dn : Bool) (m lv : Value) (w : World) (hd : DiskIs w D (DC nb rm fz dn m lv)) :
    Calls Try.prog 27 #[.pointer (some ⟨D, 0, none⟩), .int .i64 n] w fun e w' => e = .returned (.tuple #[]) ∧ DiskIs w' D (DC nb rm (if 0 ≤ n then n else -1) dn m lv) ∧ w.grownBy w' (some D) ∧ w'.heap.size = w.heap.size := by
  have HD := Lib.hid hd
  have c2 : w.cell? ⟨D, 2, none⟩ = some (.int .i64 fz) := hd.cell 2
  have f2 := hd.frozen 2
  clear hd
  by_cases h0 : 0 ≤ n
  · rw [if_pos h0]
    have h1 : -1 < n := by omega
    go_enter Try.func27, Try.ntmps27
    go_wp2
    all_goals go_end0
    all_goals exact ⟨rfl, HD.out.set 2 _, grownBy_setCell _ _ _, by simp⟩
  · rw [if_neg h0]
    by_cases h2 : n = -1
    · subst h2
      go_enter Try.func27, Try.ntmps27
      go_wp2
      all_goals go_end0
      all_goals exact ⟨rfl, HD.out.set 2 _, grownBy_setCell _ _ _, by simp⟩
    · have h1 : n < -1 := by omega
      go_enter Try.func27, Try.ntmps27
      go_wp2
      all_goals go_end0
      all_goals exact ⟨rfl, HD.out.set 2 _, grownBy_setCell _ _ _, by simp⟩
theorem new_any (n : Int) (w : World) (h1 : 1 ≤ n) (h2 : n ≤ 4096) :
    Calls Try.prog 12 #[.int .i64 n] w fun e w' => e = .returned (.pointer (some ⟨w.heap.size + 1, 0, none⟩)) ∧ w' = (w.alloc (.map #[] 0)).alloc (.cells (DC n n (-1) false (.map (some w.heap.size)) (.slice none 0 0)) 93) := by
  have hmm : ∀ u : World, (Instr.makeMap 90 none).run Try.prog u = .ok (.map (some u.heap.size)) (u.alloc (.map #[] 0)) := fun _ => rfl
  have hbd : ∀ u : World, (Instr.build 93 #[(0, .int .i64 n), (1, .int .i64 n), (2, .int .i64 (-1)), (4, .map (some w.heap.size))]).run Try.prog u = .ok (.agg (DC n n (-1) false (.map (some w.heap.size)) (.slice none 0 0))) u := fun _ => by kernel_rfl
  go_enter Try.func12, Try.ntmps12
  go_wp2
  go_ret
  exact ⟨rfl, rfl⟩
theorem new_nil (n : Int) (w : World) (h : n < 1 ∨ 4096 < n) :
    Calls Try.prog 12 #[.int .i64 n] w fun e w' => w = w' ∧ e = .returned (.pointer none) := by
  rcases h with h | h
  · go_enter Try.func12, Try.ntmps12
    go_wp2
    go_ret
    exact ⟨rfl, rfl⟩
  · have h1 : ¬ n < 1 := by omega
    go_enter Try.func12, Try.ntmps12
    go_wp2
    go_ret
    exact ⟨rfl, rfl⟩
/-- block(b): bytes that go on from b by threes -/
def blkOf (b : Int) : List Int := (List.range 256).map fun i : Nat => (b + (i : Int) * 3) % 256
theorem blkOf_len (b : Int) : (blkOf b).length = 256 := by simp [blkOf]
theorem blkOf_get (b : Int) (i : Nat) (h : i < 256) : (blkOf b)[i]? = some ((b + (i : Int) * 3) % 256) := by
  simp [blkOf, h]
def DR (l : List Int) (i : Nat) : Array Value := ArrU8 (l.take i ++ zeros (256 - i))
theorem DR_size (l : List Int) (i : Nat) (hl : l.length = 256) (hi : i ≤ 256) : (DR l i).size = 256 := by
  simp [DR, ArrU8, zeros, hl]; omega
theorem DR_get (l : List Int) (i j : Nat) (hl : l.length = 256) (hi : i ≤ 256) (hj : j < 256) : ∃ x, (DR l i)[j]? = some (.int .u8 x) := by
  have : j < (DR l i).size := by rw [DR_size l i hl hi]; exact hj
  rw [Array.getElem?_eq_getElem this]
  simp only [DR, ArrU8, List.getElem_toArray, List.getElem_map]
  exact ⟨_, rfl⟩
theorem DR_set (l : List Int) (i : Nat) (hl : l.length = 256) (hi : i < 256) (x : Int) (hx : l[i]? = some x) : (DR l i).setIfInBounds i (.int .u8 x) = DR l (i + 1) := by
  have hx2 : l[i]'(by omega) = x := by have := hx; rw [List.getElem?_eq_getElem (by omega)] at this; exact Option.some.inj this
  simp only [DR, ArrU8, List.setIfInBounds_toArray]
  congr 1
  rw [List.take_succ_eq_append_getElem (by omega), hx2, show 256 - i = (256 - (i + 1)) + 1 by omega]
  simp only [zeros, List.replicate_succ, List.map_append, List.map_cons]
  rw [List.set_append_right _ _ (by simp; omega)]
  simp [List.length_take, hl, Nat.min_eq_left (Nat.le_of_lt hi)]
theorem DR_end (l : List Int) (hl : l.length = 256) : DR l 256 = ArrU8 l := by
  simp only [DR, zeros]
  rw [List.take_of_length_le (by omega)]
  simp
theorem ArrU8_one (l : List Int) : (ArrU8 l).all (·.oneCell') = true := by simp [ArrU8, Value.oneCell']
theorem ArrU8_size (l : List Int) : (ArrU8 l).size = l.length := by simp [ArrU8]
set_option maxRecDepth 100000 in
set_option maxHeartbeats 1000000 in
theorem block_any (b : Int) (w : World) :
    Calls Try.prog 17 #[.int .u8 b] w fun e w' => e = .returned (.agg (ArrU8 (blkOf b))) ∧ Below w.heap.size w w' := by
  have HI0 := Lib.hid (show (Try.prog.info? 35).map (·.size) = some (ArrU8 (zeros 256)).size by rw [ArrU8_size, zeros, List.length_replicate]; kernel_rfl)
  have hz := zero35
  have hbl : ∀ u : World, (Instr.build 35 #[]).run Try.prog u = .ok (.agg (ArrU8 (zeros 256))) u := fun u => by kernel_rfl
  go_enter Try.func17, Try.ntmps17
  have hcell : ((w.alloc (.cells (ArrU8 (zeros 256)) 35)).alloc (.cells (ArrU8 (zeros 256)) 35)).heap[w.heap.size + 1]? = some (.cells (ArrU8 (zeros 256)) 35 (0, 0)) := by
    have := heap_alloc_new (w.alloc (.cells (ArrU8 (zeros 256)) 35)) (.cells (ArrU8 (zeros 256)) 35)
    rwa [World.size_alloc] at this
  have HC := Lib.hid hcell
  clear hcell
  go_wp2_with (first | (refine wpList_store_row rfl 35 (Operand.tmp 3) (Operand.tmp 5) rfl (w.heap.size + 1) (ArrU8 (zeros 256)) rfl rfl 35 _ HC.out HI0.out rfl (ArrU8_one _) ?_) | fail)
  have hd0 := setRow_heap _ _ _ (ArrU8 (zeros 256)) _ _ HC.out
  have hbw : Below w.heap.size w (((w.alloc (.cells (ArrU8 (zeros 256)) 35)).alloc (.cells (ArrU8 (zeros 256)) 35)).setRow (w.heap.size + 1) (ArrU8 (zeros 256))) := below_setRow (((Below.refl _ _).alloc (Nat.le_refl _) _).alloc (by simp) _) (by omega) _
  have hr0 : (((w.alloc (.cells (ArrU8 (zeros 256)) 35)).alloc (.cells (ArrU8 (zeros 256)) 35)).setRow (w.heap.size + 1) (ArrU8 (zeros 256))).heap[w.heap.size]? = some (.cells (ArrU8 (zeros 256)) 35 (0, 0)) := by
    rw [setRow_other _ _ _ _ (by omega), Below.heap_alloc _ _ _ (by simp)]
    exact heap_alloc_new _ _
  have hsz : (((w.alloc (.cells (ArrU8 (zeros 256)) 35)).alloc (.cells (ArrU8 (zeros 256)) 35)).setRow (w.heap.size + 1) (ArrU8 (zeros 256))).heap.size = w.heap.size + 2 := by simp
  have hZ : ArrU8 (zeros 256) = DR (blkOf b) 0 := by simp [DR, zeros]
  have HD0 := Lib.hid hd0
  have HZ := Lib.hid hZ
  have HBW := Lib.hid hbw
  have HR0 := Lib.hid hr0
  have HSZ := Lib.hid hsz
  have BL := Lib.hid (blkOf_len b)
  clear hd0 hbw hr0 hsz hZ HC HI0
  generalize ((w.alloc (.cells (ArrU8 (zeros 256)) 35)).alloc (.cells (ArrU8 (zeros 256)) 35)).setRow (w.heap.size + 1) (ArrU8 (zeros 256)) = w2 at *
  go_wp2_with fail
  go_loopw [4] (fun iv wx => ∃ i : Nat, i ≤ 256 ∧ iv = .int .i64 i ∧ Below w.heap.size w wx ∧ wx.heap.size = w.heap.size + 2 ∧ wx.heap[w.heap.size]? = some (.cells (ArrU8 (zeros 256)) 35 (0, 0)) ∧ wx.heap[w.heap.size + 1]? = some (.cells (DR (blkOf b) i) 35 (0, 0))) (fun iv _ => 256 - (intOf iv).toNat)
  case atStart => exact ⟨0, by omega, rfl, HBW.out, HSZ.out, HR0.out, by rw [← HZ.out]; exact HD0.out⟩
  case round =>
    clear HD0 HBW HR0 HSZ
    obtain ⟨i, hi, rfl, hbx, hsx, hrx, hx⟩ := hrel
    have HX := Lib.hid hx
    have HRX := Lib.hid hrx
    have HBX := Lib.hid hbx
    have HSX := Lib.hid hsx
    by_cases hlt : i < 256
    · have hii : (i : Int) < 256 := by omega
      obtain ⟨old, ho⟩ := DR_get (blkOf b) i i BL.out (by omega) hlt
      have cs := (cell_of_row wr _ i _ _ _ hx).trans ho
      have fs := frozen_of_row wr _ i _ _ hx
      clear hx hrx hbx hsx ho
      go_wp2
      refine ⟨⟨i + 1, by omega, by go_num, HBX.out.setCell (by simp) _, by simp [HSX.out], ?_, ?_⟩, by simp [intOf]; omega⟩
      · exact (heap_setCell_other _ _ _ _ (by simp)).trans HRX.out
      · refine (heap_setCell_same _ _ _ _ _ _ HX.out).trans ?_
        rw [DR_set (blkOf b) i BL.out hlt _ (blkOf_get b i hlt)]
    · obtain rfl : i = 256 := by omega
      clear hx hrx hbx hsx
      have HI := Lib.hid (show (Try.prog.info? 35).map (·.size) = some (DR (blkOf b) 256).size by rw [DR_size _ 256 BL.out (by omega)]; kernel_rfl)
      have HS := Lib.hid (DR_size (blkOf b) 256 BL.out (by omega))
      go_wp2_with (first | (refine wpList_load_row rfl 35 (Operand.tmp 3) rfl (w.heap.size + 1) rfl 35 (DR (blkOf b) 256) (0,0) _ HX.out Try.underlying35 rfl HI.out ?_) | (refine wpList_store_row rfl 35 (Operand.tmp 2) (Operand.tmp 17) rfl w.heap.size (DR (blkOf b) 256) rfl rfl 35 _ HRX.out HI.out (by rw [HS.out]; rfl) (ArrU8_one _) ?_))
      refine bodyPost_ret (results_cell_row rfl _ _ w.heap.size 35 (DR (blkOf b) 256) (0,0) _ rfl (setRow_heap _ _ _ _ _ _ HRX.out) Try.underlying35 rfl HI.out) rfl ⟨?_, below_setRow HBX.out (by omega) _⟩
      rw [DR_end _ BL.out]
end Go.Proofs.Ytaklkjjoplfokaa
