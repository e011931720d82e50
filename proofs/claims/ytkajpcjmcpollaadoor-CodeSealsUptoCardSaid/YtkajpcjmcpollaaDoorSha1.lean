import Derived.Test.YtkajpcjmcpollaaDoorRows
import Derived.Test.YtkajpcjmcpollaaDoorSha0
import Derived.WalkKit
import Derived.ProofKit
import Derived.BigQuiet
import Derived.Deep.QuietTactic
import Derived.WalkSpells
import Derived.WalkLawsBesides
import Derived.Lib.Hide
import Derived.Deep.MidRow
import Derived.Deep.WholeRow
import Derived.BigFrame
import Derived.Maps.RangeWalk
import Derived.Laws.CopyOwn
import Derived.StillTailTactics
namespace Go.Proofs.YtkajpcjmcpollaaDoor
open Go.RowKit
theorem rotated_any (x c : Int) (w : World) (h0 : 0 < c) (h1 : c < 32) :
    Calls Tryd.prog 57 #[.int .u32 x, .int .u64 c] w fun e w' => w = w' ∧ e = .returned (.int .u32 (rotI x c.toNat)) := by
  obtain ⟨n, rfl⟩ : ∃ n : Nat, c = n := ⟨c.toNat, by omega⟩
  have g0 : 0 < n := by omega
  have g1 : n < 32 := by omega
  clear h0 h1
  go_enter Tryd.func57, Tryd.ntmps57
  go_wp2
  go_ret
  exact ⟨rfl, by simp [rotI]⟩

set_option maxRecDepth 100000 in
set_option maxHeartbeats 400000 in
theorem schedule_any (bs : List Int) (w : World) (hb : bs.length = 64) :
    Calls Tryd.prog 56 #[.agg (ArrU8 bs)] w fun e w' => Below w.heap.size w w' ∧ e = .returned (.agg (SW bs 64)) := by
  have HB : Hid (bs.length = 64) := hb
  clear hb
  have Z : SW bs 0 = (List.replicate 64 (Value.int .u32 0)).toArray := by simp [SW, sched, zeros]
  have HZ := Lib.hid Z
  clear Z
  go_enter Tryd.func56, Tryd.ntmps56
  go_wp2
  go_loopw [4, 10] (fun _ i wr => ∃ k : Nat, k ≤ 16 ∧ i = .int .i64 k ∧ Below w.heap.size w wr ∧ w.heap.size + 2 < wr.heap.size ∧ wr.heap[w.heap.size]? = some (.cells (ArrU8 bs) 80 (0,0)) ∧
     wr.heap[w.heap.size+1]? = some (.cells (SW bs 0) 87 (0,0)) ∧ wr.heap[w.heap.size+2]? = some (.cells (SW bs k) 87 (0,0))) (fun _ i _ => 16 - (intOf i).toNat)
  case atStart =>
    refine ⟨0, by omega, rfl, ?_, ?_, ?_, ?_, ?_⟩
    · exact (((Below.refl _ _).alloc (Nat.le_refl _) _).alloc (by simp) _).alloc (by simp; omega) _
    · simp
    · show (((w.heap.push _).push _).push _)[w.heap.size]? = _; simp only [Array.getElem?_push, Array.size_push]; rw [if_neg (by omega), if_neg (by omega), if_pos trivial]
    · show (((w.heap.push _).push _).push _)[w.heap.size + 1]? = _; simp only [Array.getElem?_push, Array.size_push]; rw [if_neg (by omega), if_pos trivial, HZ.out]; rfl
    · show (((w.heap.push _).push _).push _)[w.heap.size + 2]? = _; simp only [Array.getElem?_push, Array.size_push]; rw [if_pos trivial, HZ.out]; rfl
  case round =>
    obtain ⟨k, hk, rfl, hbw, hsz, h0, h1, h2⟩ := hrel
    by_cases hlt : k < 16
    · have c0 := (cell_of_row wr _ (4*k) _ _ _ h0).trans (ArrU8_get bs (4*k) (by rw [HB.out]; omega))
      have c1 := (cell_of_row wr _ (4*k+1) _ _ _ h0).trans (ArrU8_get bs (4*k+1) (by rw [HB.out]; omega))
      have c2 := (cell_of_row wr _ (4*k+2) _ _ _ h0).trans (ArrU8_get bs (4*k+2) (by rw [HB.out]; omega))
      have c3 := (cell_of_row wr _ (4*k+3) _ _ _ h0).trans (ArrU8_get bs (4*k+3) (by rw [HB.out]; omega))
      obtain ⟨old, ho⟩ := SW_get bs k (by omega) k (by omega)
      have cs := (cell_of_row wr _ k _ _ _ h2).trans ho
      have fs := frozen_of_row wr _ k _ _ h2
      have H0 := Lib.hid h0
      have H1 := Lib.hid h1
      have H2 := Lib.hid h2
      have w0 : IntKind.i64.wrap (4 * (k:Int)) = 4 * (k:Int) := IntWalk.i64_in _ (by omega)
      have w1 : IntKind.i64.wrap (4 * (k:Int) + 1) = 4 * (k:Int) + 1 := IntWalk.i64_in _ (by omega)
      have w2 : IntKind.i64.wrap (4 * (k:Int) + 2) = 4 * (k:Int) + 2 := IntWalk.i64_in _ (by omega)
      have w3 : IntKind.i64.wrap (4 * (k:Int) + 3) = 4 * (k:Int) + 3 := IntWalk.i64_in _ (by omega)
      have n0 : 0 ≤ 4 * (k:Int) := by omega
      have n1 : 0 ≤ 4 * (k:Int) + 1 := by omega
      have n2 : 0 ≤ 4 * (k:Int) + 2 := by omega
      have n3 : 0 ≤ 4 * (k:Int) + 3 := by omega
      have b0 : 4 * (k:Int) < 64 := by omega
      have b1 : 4 * (k:Int) + 1 < 64 := by omega
      have b2 : 4 * (k:Int) + 2 < 64 := by omega
      have b3 : 4 * (k:Int) + 3 < 64 := by omega
      have b4 : (k:Int) < 64 := by omega
      have t0 : (4 * (k:Int)).toNat = 4 * k := by omega
      have t1 : (4 * (k:Int) + 1).toNat = 4 * k + 1 := by omega
      have t2 : (4 * (k:Int) + 2).toNat = 4 * k + 2 := by omega
      have t3 : (4 * (k:Int) + 3).toNat = 4 * k + 3 := by omega
      clear h0 h1 h2 ho
      go_wp2
      go_still_tail 31, (by kernel_rfl)
      clear w0 w1 w2 w3 n0 n1 n2 n3 b0 b1 b2 b3 t0 t1 t2 t3 c0 c1 c2 c3
      change wpList _ _ _ _ _ wr.drew
      go_wp2
      go_roundw
      case rel =>
        refine ⟨k + 1, by omega, by go_num, ?_, ?_, ?_, ?_, ?_⟩
        · exact (hbw.setCell (by simp; omega) _).drew
        · simpa [World.setCell] using hsz
        · exact (heap_setCell_other _ _ _ _ (by simp; omega)).trans H0.out
        · exact (heap_setCell_other _ _ _ _ (by simp)).trans H1.out
        · refine (heap_setCell_same _ _ _ _ _ _ H2.out).trans ?_
          rw [SW_set bs k (by omega) _ (by rw [if_pos hlt]; rfl)]
      case measure => simp [intOf]; omega
    · have hk16 : k = 16 := by omega
      rw [hk16] at h2
      clear hk16
      have hk16 : 16 ≤ k := by omega
      clear hlt
      have H0 := Lib.hid h0
      have H1 := Lib.hid h1
      have H2 := Lib.hid h2
      have HBW := Lib.hid hbw
      clear h0 h1 h2 hbw
      go_wp2
      have h0 := H0.out
      have h1 := H1.out
      have h2 := H2.out
      have hbw := HBW.out
      clear H0 H1 H2 HBW
      go_loopw [5] (fun i wx => ∃ t : Nat, 16 ≤ t ∧ t ≤ 64 ∧ i = .int .i64 t ∧ Below w.heap.size w wx ∧ w.heap.size + 2 < wx.heap.size ∧
         wx.heap[w.heap.size+1]? = some (.cells (SW bs 0) 87 (0,0)) ∧ wx.heap[w.heap.size+2]? = some (.cells (SW bs t) 87 (0,0))) (fun i _ => 64 - (intOf i).toNat)
      case atStart => exact ⟨16, by omega, by omega, rfl, hbw, hsz, h1, h2⟩
      case round =>
        clear hbw hsz h0 h1 h2
        obtain ⟨t, ht, ht2, rfl, hbw, hsz, h1, h2⟩ := hrel
        by_cases hlt : t < 64
        · have c15 := (cell_of_row wr _ (t-15) _ _ _ h2).trans (SW_at bs t (t-15) (by omega))
          have c2 := (cell_of_row wr _ (t-2) _ _ _ h2).trans (SW_at bs t (t-2) (by omega))
          have c7 := (cell_of_row wr _ (t-7) _ _ _ h2).trans (SW_at bs t (t-7) (by omega))
          have c16 := (cell_of_row wr _ (t-16) _ _ _ h2).trans (SW_at bs t (t-16) (by omega))
          obtain ⟨old, ho⟩ := SW_get bs t (by omega) t (by omega)
          have cs := (cell_of_row wr _ t _ _ _ h2).trans ho
          have fs := frozen_of_row wr _ t _ _ h2
          have H1 := Lib.hid h1
          have H2 := Lib.hid h2
          generalize hL : sched bs t = L at c15 c2 c7 c16
          have HL := Lib.hid hL
          have w15 : IntKind.i64.wrap ((t:Int) - 15) = (t:Int) - 15 := IntWalk.i64_in _ (by omega)
          have w2 : IntKind.i64.wrap ((t:Int) - 2) = (t:Int) - 2 := IntWalk.i64_in _ (by omega)
          have w7 : IntKind.i64.wrap ((t:Int) - 7) = (t:Int) - 7 := IntWalk.i64_in _ (by omega)
          have w16 : IntKind.i64.wrap ((t:Int) - 16) = (t:Int) - 16 := IntWalk.i64_in _ (by omega)
          have n15 : 0 ≤ (t:Int) - 15 := by omega
          have n2 : 0 ≤ (t:Int) - 2 := by omega
          have n7 : 0 ≤ (t:Int) - 7 := by omega
          have n16 : 0 ≤ (t:Int) - 16 := by omega
          have b15 : (t:Int) - 15 < 64 := by omega
          have b2 : (t:Int) - 2 < 64 := by omega
          have b7 : (t:Int) - 7 < 64 := by omega
          have b16 : (t:Int) - 16 < 64 := by omega
          have b4 : (t:Int) < 64 := by omega
          have m7 : 7 ≤ (t:Int) := by omega
          have m16 : 16 ≤ (t:Int) := by omega
          have t15 : ((t:Int) - 15).toNat = t - 15 := by omega
          have t2 : ((t:Int) - 2).toNat = t - 2 := by omega
          have t7 : ((t:Int) - 7).toNat = t - 7 := by omega
          have t16 : ((t:Int) - 16).toNat = t - 16 := by omega
          clear h1 h2 ho hL
          go_wp2
          go_quiet (fail)
          go_wp2_with (go_at_call 57; refine (rotated_any _ _ _ (by omega) (by omega)).mono ?_; rintro e w' ⟨rfl, rfl⟩)
          obtain ⟨wq, hwq⟩ : ∃ x, x = wr.drewN nq := ⟨_, rfl⟩
          rw [← hwq]
          have d7 : wq.cell? ⟨w.heap.size + 1 + 1, t - 7, none⟩ = some (.int .u32 (L[t-7]?.getD 0)) := by rw [hwq]; exact c7
          have d16 : wq.cell? ⟨w.heap.size + 1 + 1, t - 16, none⟩ = some (.int .u32 (L[t-16]?.getD 0)) := by rw [hwq]; exact c16
          have ds : wq.cell? ⟨w.heap.size + 1 + 1, t, none⟩ = some (.int .u32 old) := by rw [hwq]; exact cs
          have dfs : wq.frozen? ⟨w.heap.size + 1 + 1, t, none⟩ = false := by rw [hwq]; exact fs
          have hh : wq.heap = wr.heap := by rw [hwq]; rfl
          have hbq : Below w.heap.size w wq := by rw [hwq]; exact below_drewN hbw nq
          have HH := Lib.hid hh
          clear hwq c15 c2 c7 c16 cs fs hh hbw
          go_still_tail 15, (by kernel_rfl)
          clear w15 w2 w7 w16 n15 n2 n7 n16 b15 b2 b7 b16 b4 t15 t2 t7 t16 m7 m16
          change wpList _ _ _ _ _ wq.drew
          go_wp2
          go_roundw
          case rel =>
            refine ⟨t + 1, by omega, by omega, by go_num, ?_, ?_, ?_, ?_⟩
            · exact (hbq.setCell (by simp; omega) _).drew
            · simpa [World.setCell, HH.out] using hsz
            · exact (heap_setCell_other _ _ _ _ (by simp)).trans ((congrArg (fun h => h[w.heap.size+1]?) HH.out).trans H1.out)
            · refine (heap_setCell_same _ _ _ _ _ _ ((congrArg (fun h => h[w.heap.size+2]?) HH.out).trans H2.out)).trans ?_
              rw [SW_set bs t (by omega) _ (by rw [if_neg (by omega), HL.out]; rfl)]
          case measure => simp [intOf]; omega
        · obtain rfl : t = 64 := by omega
          have H1 := Lib.hid h1
          have H2 := Lib.hid h2
          clear h1 h2
          have HI := Lib.hid (show (Tryd.prog.info? 87).map (·.size) = some (SW bs 64).size by rw [SW_size bs 64 (by omega)]; kernel_rfl)
          go_wp2_with (first | (refine wpList_load_row rfl 87 (Operand.tmp 3) rfl (w.heap.size+1+1) rfl 87 (SW bs 64) (0,0) _ H2.out Tryd.underlying87 rfl HI.out ?_) | (refine wpList_store_row rfl 87 (Operand.tmp 2) (Operand.tmp 88) rfl (w.heap.size+1) (SW bs 64) rfl rfl 87 (SW bs 0) H1.out HI.out (by rw [SW_size bs 64 (by omega), SW_size bs 0 (by omega)]) (SW_one bs 64) ?_))
          refine bodyPost_ret (results_cell_row rfl _ _ (w.heap.size+1) 87 (SW bs 64) (0,0) _ rfl (setRow_heap _ _ _ _ _ _ H1.out) Tryd.underlying87 rfl HI.out) rfl ⟨?_, rfl⟩
          exact below_setRow hbw (by omega) _
theorem idx57 (x0 x1 x2 x3 x4 x5 x6 x7 : Int) (i : Nat) (u : World) (hi : i < 8) :
    (Instr.index 79 (.agg #[.int .u32 x0, .int .u32 x1, .int .u32 x2, .int .u32 x3, .int .u32 x4, .int .u32 x5, .int .u32 x6, .int .u32 x7]) (.int .i64 i)).run Tryd.prog u = .ok (.int .u32 ([x0, x1, x2, x3, x4, x5, x6, x7][i]?.getD 0)) u :=
  match i, hi with
  | 0, _ => by kernel_rfl
  | 1, _ => by kernel_rfl
  | 2, _ => by kernel_rfl
  | 3, _ => by kernel_rfl
  | 4, _ => by kernel_rfl
  | 5, _ => by kernel_rfl
  | 6, _ => by kernel_rfl
  | 7, _ => by kernel_rfl
set_option maxRecDepth 100000 in
set_option maxHeartbeats 400000 in
theorem compressed_any (s : S8) (bs : List Int) (w : World) (hb : bs.length = 64) (h0 : 0 < w.heap.size) (hK : ∀ t, t < 64 → w.cell? ⟨0, t, none⟩ = some (.int .u32 (Kt[t]?.getD 0))) :
    Calls Tryd.prog 51 #[.agg #[.int .u32 s.a, .int .u32 s.b, .int .u32 s.c, .int .u32 s.d, .int .u32 s.e, .int .u32 s.f, .int .u32 s.g, .int .u32 s.h], .agg (ArrU8 bs)] w fun e w' => Below w.heap.size w w' ∧ e = .returned (.agg (ArrU32 (compress s bs).list)) := by
  have HB := Lib.hid hb
  have HI58 := Lib.hid (show (Tryd.prog.info? 80).map (·.size) = some (ArrU8 bs).size by rw [show (ArrU8 bs).size = 64 by simp [ArrU8, hb]]; kernel_rfl)
  have HI65 := Lib.hid (show (Tryd.prog.info? 87).map (·.size) = some (SW bs 64).size by rw [SW_size bs 64 (by omega)]; kernel_rfl)
  have HK := Lib.hid hK
  clear hb hK
  obtain ⟨a, b, c, d, e, f, g, h⟩ := s
  go_enter Tryd.func51, Tryd.ntmps51
  go_wp2_with (first | (refine wpList_load_row rfl 80 (Operand.tmp 3) rfl (w.heap.size+1) rfl 80 (ArrU8 bs) (0,0) _ (by show (((w.heap.push _).push _).push _)[w.heap.size + 1]? = _; simp only [Array.getElem?_push, Array.size_push]; rw [if_neg (by omega), if_pos trivial]) Tryd.underlying80 rfl HI58.out ?_) | fail)
  refine (schedule_any bs _ HB.out).mono ?_
  rintro e w2 ⟨hb2, rfl⟩
  have hsz2 : w.heap.size + 3 ≤ w2.heap.size := by have := hb2.size; simp at this; omega
  have hst : w2.heap[w.heap.size]? = some (.cells #[.int .u32 a, .int .u32 b, .int .u32 c, .int .u32 d, .int .u32 e, .int .u32 f, .int .u32 g, .int .u32 h] 79 (0,0)) := by
    refine (hb2.block _ (by simp; omega)).trans ?_
    show (((w.heap.push _).push _).push _)[w.heap.size]? = _; simp only [Array.getElem?_push, Array.size_push]; rw [if_neg (by omega), if_neg (by omega), if_pos trivial]
  have hre : w2.heap[w.heap.size + 2]? = some (.cells #[.int .u32 0, .int .u32 0, .int .u32 0, .int .u32 0, .int .u32 0, .int .u32 0, .int .u32 0, .int .u32 0] 79 (0,0)) := by
    refine (hb2.block _ (by simp)).trans ?_
    show (((w.heap.push _).push _).push _)[w.heap.size + 2]? = _; simp only [Array.getElem?_push, Array.size_push]; rw [if_pos trivial]
  have hbw2 : Below w.heap.size w w2 := ((((Below.refl _ _).alloc (Nat.le_refl _) _).alloc (by simp) _).alloc (by simp; omega) _).trans (hb2.mono (by simp; omega))
  have HST := Lib.hid hst
  have HRE := Lib.hid hre
  have HBW := Lib.hid hbw2
  clear hst hre hbw2 hb2
  go_wp2_with (first | (refine wpList_store_row rfl 87 (Operand.tmp 5) (Operand.tmp 22) rfl w2.heap.size (SW bs 64) rfl rfl 87 _ (heap_alloc_new _ _) HI65.out (by rw [SW_size bs 64 (by omega)]; rfl) (SW_one bs 64) ?_) | fail)
  go_frame
  rw [World.setRow_alloc_new]
  have hbw3 : Below w.heap.size w (w2.alloc (.cells (SW bs 64) 87)) := HBW.out.alloc (by omega) _
  have hst3 : (w2.alloc (.cells (SW bs 64) 87)).heap[w.heap.size]? = some (.cells #[.int .u32 a, .int .u32 b, .int .u32 c, .int .u32 d, .int .u32 e, .int .u32 f, .int .u32 g, .int .u32 h] 79 (0,0)) := (heap_alloc_old _ _ (by omega)).trans HST.out
  have hre3 : (w2.alloc (.cells (SW bs 64) 87)).heap[w.heap.size + 2]? = some (.cells #[.int .u32 0, .int .u32 0, .int .u32 0, .int .u32 0, .int .u32 0, .int .u32 0, .int .u32 0, .int .u32 0] 79 (0,0)) := (heap_alloc_old _ _ (by omega)).trans HRE.out
  have hsw3 : (w2.alloc (.cells (SW bs 64) 87)).heap[w2.heap.size]? = some (.cells (SW bs 64) 87 (0,0)) := heap_alloc_new _ _
  have hsz3 : w2.heap.size < (w2.alloc (.cells (SW bs 64) 87)).heap.size := by simp
  have kc3 : ∀ t, t < 64 → (w2.alloc (.cells (SW bs 64) 87)).cell? ⟨0, t, none⟩ = some (.int .u32 (Kt[t]?.getD 0)) := fun t ht => (hbw3.cell (p := ⟨0, t, none⟩) h0).trans (HK.out t ht)
  have hsz4 : 0 < w2.heap.size := by omega
  generalize hB : w2.heap.size = B at *
  generalize (w2.alloc (.cells (SW bs 64) 87)) = w3 at *
  clear HST HRE HBW
  have q0 := cell_of_row w3 _ 0 _ _ _ hst3
  have q1 := cell_of_row w3 _ 1 _ _ _ hst3
  have q2 := cell_of_row w3 _ 2 _ _ _ hst3
  have q3 := cell_of_row w3 _ 3 _ _ _ hst3
  have q4 := cell_of_row w3 _ 4 _ _ _ hst3
  have q5 := cell_of_row w3 _ 5 _ _ _ hst3
  have q6 := cell_of_row w3 _ 6 _ _ _ hst3
  have q7 := cell_of_row w3 _ 7 _ _ _ hst3
  have KC := Lib.hid kc3
  clear kc3
  have HST := Lib.hid hst3
  have HRE := Lib.hid hre3
  have HSW := Lib.hid hsw3
  have HBW := Lib.hid hbw3
  have HBB := Lib.hid hB
  clear hst3 hre3 hsw3 hbw3 hB
  simp only [List.getElem?_toArray, List.getElem?_cons_zero, List.getElem?_cons_succ] at q0 q1 q2 q3 q4 q5 q6 q7
  go_quiet (fail)
  go_wp2
  go_quiet (fail)
  go_wp2
  go_loopw [6, 7, 8, 9, 10, 11, 12, 13, 39] (fun v6 v7 v8 v9 v10 v11 v12 v13 i wr => ∃ (t : Nat) (s : S8), t ≤ 64 ∧ i = .int .i64 t ∧ s = rnds ⟨a, b, c, d, e, f, g, h⟩ (sched bs 64) t ∧
      v6 = .int .u32 s.a ∧ v7 = .int .u32 s.b ∧ v8 = .int .u32 s.c ∧ v9 = .int .u32 s.d ∧ v10 = .int .u32 s.e ∧ v11 = .int .u32 s.f ∧ v12 = .int .u32 s.g ∧ v13 = .int .u32 s.h ∧ Below w3.heap.size w3 wr)
      (fun _ _ _ _ _ _ _ _ i _ => 64 - (intOf i).toNat)
  case atStart => exact ⟨0, ⟨a, b, c, d, e, f, g, h⟩, by omega, rfl, rfl, rfl, rfl, rfl, rfl, rfl, rfl, rfl, rfl, below_drewN (below_drewN (Below.refl _ _) _) _⟩
  case round =>
    clear q0 q1 q2 q3 q4 q5 q6 q7
    obtain ⟨t, ⟨a', b', c', d', e', f', g', h'⟩, ht, rfl, hs, rfl, rfl, rfl, rfl, rfl, rfl, rfl, rfl, hbr⟩ := hrel
    have HS := Lib.hid hs
    clear hs
    dsimp only
    by_cases hlt : t < 64
    · have ck := (hbr.cell (p := ⟨0, t, none⟩) (by show 0 < _; omega)).trans (KC.out t hlt)
      have cw := (cell_of_row wr B t _ _ _ ((hbr.block B (by omega)).trans HSW.out)).trans (SW_at bs 64 t hlt)
      have b4 : (t:Int) < 64 := by omega
      generalize hkt : (Kt[t]?.getD 0) = kt at ck
      generalize hwt : ((sched bs 64)[t]?.getD 0) = wt at cw
      have HKT := Lib.hid hkt
      have HWT := Lib.hid hwt
      clear hkt hwt
      go_wp2_with (go_at_call 57; refine (rotated_any _ _ _ (by omega) (by omega)).mono ?_; rintro e w' ⟨rfl, rfl⟩)
      go_quiet (fail)
      go_wp2_with (go_at_call 57; refine (rotated_any _ _ _ (by omega) (by omega)).mono ?_; rintro e w' ⟨rfl, rfl⟩)
      go_roundw
      case rel =>
        refine ⟨t + 1, rnd ⟨a', b', c', d', e', f', g', h'⟩ kt wt, by omega, by go_num, ?_, rfl, rfl, rfl, rfl, rfl, rfl, rfl, rfl, below_drewN hbr _⟩
        show _ = rnd (rnds _ _ t) (Kt[t]?.getD 0) ((sched bs 64)[t]?.getD 0)
        rw [← HS.out, HKT.out, HWT.out]
      case measure => simp [intOf]; omega
    · have ht64 : t = 64 := by omega
      have hs64 := HS.out
      rw [ht64] at hs64
      have HS64 := Lib.hid hs64
      have ht64' : 64 ≤ t := by omega
      have HR := Lib.hid hbr
      clear hs64 ht64 HS hbr hlt
      go_wp2
      have HIX : Hid (∀ (i : Nat) (u : World), i < 8 → (Instr.index 79 (.agg #[.int .u32 a', .int .u32 b', .int .u32 c', .int .u32 d', .int .u32 e', .int .u32 f', .int .u32 g', .int .u32 h']) (.int .i64 i)).run Tryd.prog u = .ok (.int .u32 ([a', b', c', d', e', f', g', h'][i]?.getD 0)) u) := Lib.hid fun i u hi => idx57 a' b' c' d' e' f' g' h' i u hi
      have hst := (HR.out.block w.heap.size (by omega)).trans HST.out
      have hre := (HR.out.block (w.heap.size + 2) (by omega)).trans HRE.out
      have hbw : Below w.heap.size w wr := HBW.out.trans (HR.out.mono (by omega))
      have hsz : w.heap.size + 2 < wr.heap.size := by have := HR.out.size; omega
      generalize hV : (#[.int .u32 a', .int .u32 b', .int .u32 c', .int .u32 d', .int .u32 e', .int .u32 f', .int .u32 g', .int .u32 h'] : Array Value) = V at *
      have HV := Lib.hid hV
      clear hV
      go_loopw [113] (fun i wx => ∃ k : Nat, k ≤ 8 ∧ i = .int .i64 k ∧ Below w.heap.size w wx ∧ w.heap.size + 2 < wx.heap.size ∧
         wx.heap[w.heap.size]? = some (.cells (ArrU32 (addL [a, b, c, d, e, f, g, h] [a', b', c', d', e', f', g', h'] k)) 79 (0,0)) ∧ wx.heap[w.heap.size+2]? = some (.cells #[.int .u32 0, .int .u32 0, .int .u32 0, .int .u32 0, .int .u32 0, .int .u32 0, .int .u32 0, .int .u32 0] 79 (0,0))) (fun i _ => 8 - (intOf i).toNat)
      case atStart => exact ⟨0, by omega, rfl, hbw, hsz, hst, hre⟩
      case round =>
        clear hst hre hbw hsz
        obtain ⟨k, hk, rfl, hbw, hsz, hst, hre⟩ := hrel
        by_cases hlt : k < 8
        · have cs := (cell_of_row wr _ k _ _ _ hst).trans (addL_get _ _ k rfl rfl hlt)
          have fs := frozen_of_row wr _ k _ _ hst
          have b8 : (k:Int) < 8 := by omega
          have ix : ∀ u : World, (Instr.index 79 (.agg V) (.int .i64 k)).run Tryd.prog u = .ok (.int .u32 ([a', b', c', d', e', f', g', h'][k]?.getD 0)) u := fun u => HIX.out k u hlt
          generalize hx : [a', b', c', d', e', f', g', h'][k]?.getD 0 = x at ix
          generalize hy : [a, b, c, d, e, f, g, h][k]?.getD 0 = y at cs
          have HX := Lib.hid hx
          have HY := Lib.hid hy
          have H1 := Lib.hid hst
          have H2 := Lib.hid hre
          clear hx hy hst hre
          go_wp2
          go_roundw
          case rel =>
            refine ⟨k + 1, by omega, by go_num, ?_, ?_, ?_, ?_⟩
            · exact (hbw.setCell (by simp) _)
            · simpa [World.setCell] using hsz
            · refine (heap_setCell_same _ _ _ _ _ _ H1.out).trans ?_
              rw [addL_set _ _ k rfl rfl hlt _ (by rw [HX.out, HY.out])]
            · exact (heap_setCell_other _ _ _ _ (by simp)).trans H2.out
          case measure => simp [intOf]; omega
        · have hk8 : k = 8 := by omega
          rw [hk8] at hst
          clear hk8
          have HI := Lib.hid (show (Tryd.prog.info? 79).map (·.size) = some (ArrU32 (addL [a, b, c, d, e, f, g, h] [a', b', c', d', e', f', g', h'] 8)).size by kernel_rfl)
          have H1 := Lib.hid hst
          have H2 := Lib.hid hre
          clear hst hre
          go_wp2_with (first | (refine wpList_load_row rfl 79 (Operand.tmp 2) rfl w.heap.size rfl 79 _ (0,0) _ H1.out Tryd.underlying79 rfl HI.out ?_) | (refine wpList_store_row rfl 79 (Operand.tmp 4) (Operand.tmp 124) rfl (w.heap.size+1+1) _ rfl rfl 79 _ H2.out HI.out rfl (ArrU32_one _) ?_))
          refine bodyPost_ret (results_cell_row rfl _ _ (w.heap.size+1+1) 79 (ArrU32 (addL [a, b, c, d, e, f, g, h] [a', b', c', d', e', f', g', h'] 8)) (0,0) _ rfl (setRow_heap _ _ _ _ _ _ H2.out) Tryd.underlying79 rfl HI.out) rfl ⟨?_, ?_⟩
          · exact below_setRow hbw (by omega) _
          · have := addL_end ⟨a, b, c, d, e, f, g, h⟩ ⟨a', b', c', d', e', f', g', h'⟩
            simp only [S8.list] at this
            rw [this, compress, ← HS64.out]
            rfl
end Go.Proofs.YtkajpcjmcpollaaDoor
