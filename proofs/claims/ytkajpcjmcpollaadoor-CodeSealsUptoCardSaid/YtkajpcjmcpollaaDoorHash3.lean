import Derived.Test.YtkajpcjmcpollaaDoorHash2
import Derived.Test.YtkajpcjmcpollaaDoorHash0
import Derived.WalkKit
import Derived.ProofKit
import Derived.BigQuiet
import Derived.Deep.QuietTactic
import Derived.WalkSpells
import Derived.WalkLawsBesides
import Derived.Lib.Hide
import Derived.Deep.MidRow
import Derived.Deep.WholeRow
import Derived.BigFrame
import Derived.Deep.RegionWith
import Derived.Deep.RegionHeld3
import Derived.Maps.RangeWalk
import Derived.Laws.CopyOwn
import Derived.StillTailTactics
namespace Go.Proofs.YtkajpcjmcpollaaDoor
open Go.RowKit
def sha (l : List Int) : List Int := dig (blk (l ++ padding l.length) ((l ++ padding l.length).length / 64))
theorem below_of_grownBy {B : Nat} {w w' : World} {g : Nat} (h : w.grownBy w' (some g)) (hB : B ≤ w.heap.size) (hg : B ≤ g) : Below B w w' :=
  ⟨h.os, h.tape, h.output, h.size, fun k hk => h.block k (by omega) (by simp; omega)⟩
theorem hcells_one (s : S8) (bl : List Int) (n : Nat) : (hcells s bl n).toArray.all (·.oneCell') = true := by
  simp [hcells, Value.oneCell']
set_option maxRecDepth 100000 in
set_option maxHeartbeats 800000 in
theorem hashSum_any (H : Nat) (l : List Int) (w : World) (hH : HashAt 82 w H l) (hK0 : 0 < w.heap.size)
    (hK : ∀ t, t < 64 → w.cell? ⟨0, t, none⟩ = some (.int .u32 (Kt[t]?.getD 0))) (hlen : l.length < 576460752303423488) :
    Calls Tryd.prog 46 #[.pointer (some ⟨H, 0, none⟩)] w fun e w' => e = .returned (.agg (ArrU8 (sha l))) ∧ Below w.heap.size w w' := by
  obtain ⟨bl, hcell, hbl, htk⟩ := hH
  have hHw : H < w.heap.size := by rcases Nat.lt_or_ge H w.heap.size with h | h; exact h; rw [Array.getElem?_eq_none h] at hcell; cases hcell
  have HC := Lib.hid hcell
  have HT := Lib.hid htk
  have HKK := Lib.hid hK
  have HI := Lib.hid (show (Tryd.prog.info? 82).map (·.size) = some (hcells (blk l (l.length / 64)) bl l.length).toArray.size by rw [List.size_toArray, hcells_len _ _ _ hbl]; kernel_rfl)
  have HS := Lib.hid (show (hcells (blk l (l.length / 64)) bl l.length).length = 73 from hcells_len _ _ _ hbl)
  clear hcell htk hK
  have hz := zero60
  go_enter Tryd.func46, Tryd.ntmps46
  go_wp2_with (first | (refine wpList_load_row rfl 82 (Operand.tmp 5) rfl H rfl 82 (hcells (blk l (l.length / 64)) bl l.length).toArray (0,0) _ ((heap_alloc_old _ _ hHw).trans HC.out) Tryd.underlying82 rfl HI.out ?_) | (refine wpList_store_row rfl 82 (Operand.tmp 3) (Operand.tmp 6) rfl (w.heap.size + 1) (hcells (blk l (l.length / 64)) bl l.length).toArray rfl rfl 82 _ (heap_alloc2_new _ _ _) HI.out HS.out.symm (hcells_one _ _ _) ?_) | fail)
  have facts : ∀ (A B : Array Value), ∀ W1 : World, W1 = ((w.alloc (.cells A 55)).alloc (.cells B 82)).setRow (w.heap.size + 1) (hcells (blk l (l.length / 64)) bl l.length).toArray →
      W1.heap[w.heap.size + 1]? = some (.cells (hcells (blk l (l.length / 64)) bl l.length).toArray 82 (0,0)) ∧ W1.heap[w.heap.size]? = some (.cells A 55 (0,0)) ∧ Below w.heap.size w W1 ∧ W1.heap.size = w.heap.size + 2 := by
    intro A B W1 h
    subst h
    refine ⟨setRow_heap _ _ _ _ _ _ (heap_alloc2_new _ _ _), (setRow_other _ _ _ _ (by omega)).trans (heap_alloc2_old _ _ _), ?_, by simp⟩
    exact below_setRow (((Below.refl _ _).alloc (Nat.le_refl _) _).alloc (by simp) _) (by omega) _
  obtain ⟨W1, hW1⟩ : ∃ W1 : World, W1 = ((w.alloc (.cells ((List.replicate 32 (Value.int .u8 0)).toArray) 55)).alloc (.cells ((List.replicate 8 (Value.int .u32 0)) ++ (List.replicate 64 (Value.int .u8 0)) ++ [Value.int .u64 0]).toArray 82)).setRow (w.heap.size + 1) (hcells (blk l (l.length / 64)) bl l.length).toArray := ⟨_, rfl⟩
  obtain ⟨f1, f2, f3, f4⟩ := facts _ _ W1 hW1
  change Calls _ _ _ (((w.alloc (.cells ((List.replicate 32 (Value.int .u8 0)).toArray) 55)).alloc (.cells ((List.replicate 8 (Value.int .u32 0)) ++ (List.replicate 64 (Value.int .u8 0)) ++ [Value.int .u64 0]).toArray 82)).setRow (w.heap.size + 1) (hcells (blk l (l.length / 64)) bl l.length).toArray) _
  rw [← hW1]
  clear hW1 facts
  have kk : ∀ t, t < 64 → W1.cell? ⟨0, t, none⟩ = some (.int .u32 (Kt[t]?.getD 0)) := fun t ht => (f3.cell (p := ⟨0, t, none⟩) hK0).trans (HKK.out t ht)
  refine (pad_any (w.heap.size + 1) l W1 ⟨bl, f1, hbl, HT.out⟩ (by omega) kk hlen).mono ?_
  rintro e W2 ⟨rfl, hh, hg⟩
  have hs := hg.size
  obtain ⟨bl2, hc2, hl2, _⟩ := hh
  have g0 := (hg.block w.heap.size (by omega) (by simp)).trans f2
  have b2 : Below w.heap.size w W2 := f3.trans (below_of_grownBy hg (by omega) (by omega))
  have G0 := Lib.hid g0
  have B2 := Lib.hid b2
  have HC2 := Lib.hid hc2
  clear g0 b2 hc2 hg f1 f2 f3 kk
  go_wp2_with fail
  refine (digest_any (w.heap.size + 1) _ _ _ W2 HC2.out).mono ?_
  rintro e W3 ⟨he, b3⟩
  obtain rfl : e = .returned (.agg (ArrU8 (sha l))) := he
  have g3 := (b3.block w.heap.size (by omega)).trans G0.out
  have b4 := B2.out.trans (b3.mono (by omega))
  have G3 := Lib.hid g3
  have B4 := Lib.hid b4
  have HI25 := Lib.hid (show (Tryd.prog.info? 55).map (·.size) = some (ArrU8 (sha l)).size by rw [show (ArrU8 (sha l)).size = 32 by simp [ArrU8, sha, dig, S8.list]]; kernel_rfl)
  have HS32 := Lib.hid (show (ArrU8 (sha l)).size = 32 by simp [ArrU8, sha, dig, S8.list])
  clear g3 b4 b3
  go_wp2_with (first | (refine wpList_store_row rfl 55 (Operand.tmp 2) (Operand.tmp 8) rfl w.heap.size (ArrU8 (sha l)) rfl rfl 55 _ G3.out HI25.out HS32.out.symm (ArrU8_one _) ?_) | fail)
  refine bodyPost_ret (results_cell_row rfl _ _ w.heap.size 55 (ArrU8 (sha l)) (0,0) _ rfl (setRow_heap _ _ _ _ _ _ G3.out) Tryd.underlying55 rfl HI25.out) rfl ⟨rfl, ?_⟩
  exact below_setRow B4.out (by omega) _
/-- the slice v reads as the bytes l -/
def Bs (w : World) (v : Value) (l : List Int) : Prop :=
  ∃ (a : Option Addr) (cap : Nat), v = .slice a l.length cap ∧ (l.length ≤ cap ∧ (a = none → cap = 0)) ∧ (0 < l.length → ∃ b off, a = some ⟨b, off, none⟩ ∧ b < w.heap.size ∧ ∀ i, i < l.length → w.cell? ⟨b, off + i, none⟩ = some (.int .u8 (l[i]?.getD 0)))
theorem Bs.below {w w' : World} {v : Value} {l : List Int} (h : Bs w v l) (hb : Below w.heap.size w w') : Bs w' v l := by
  obtain ⟨a, cap, hv, hc, h⟩ := h
  refine ⟨a, cap, hv, hc, fun hl => ?_⟩
  obtain ⟨b, off, ha, hbs, hcell⟩ := h hl
  exact ⟨b, off, ha, Nat.lt_of_lt_of_le hbs hb.size, fun i hi => (hb.cell (p := ⟨b, off + i, none⟩) hbs).trans (hcell i hi)⟩
theorem Bs.nil (w : World) : Bs w (.slice none 0 0) [] := ⟨none, 0, rfl, ⟨Nat.le_refl _, fun _ => rfl⟩, fun h => by simp at h⟩
def KC (w : World) : Prop := 0 < w.heap.size ∧ ∀ t, t < 64 → w.cell? ⟨0, t, none⟩ = some (.int .u32 (Kt[t]?.getD 0))
theorem KC.below {w w' : World} {B : Nat} (h : KC w) (hb : Below B w w') (hB : 0 < B) : KC w' :=
  ⟨Nat.lt_of_lt_of_le h.1 hb.size, fun t ht => (hb.cell (p := ⟨0, t, none⟩) hB).trans (h.2 t ht)⟩
theorem KC.grown {w w' : World} {g : Nat} (h : KC w) (hb : w.grownBy w' (some g)) (hg : 0 < g) : KC w' :=
  ⟨Nat.lt_of_lt_of_le h.1 hb.size, fun t ht => (World.cell?_of_block (hb.block 0 h.1 (by simp; omega))).trans (h.2 t ht)⟩
theorem write_bs (H : Nat) (l m : List Int) (v : Value) (w : World) (hv : Bs w v m) (hH : HashAt 82 w H l) (hK0 : 0 < H) (hK : KC w)
    (hne : 0 < m.length → ∀ a len cap, v = .slice (some a) len cap → a.block ≠ H) (hlen : l.length + m.length < 1152921504606846976) :
    Calls Tryd.prog 45 #[.pointer (some ⟨H, 0, none⟩), v] w fun e w' => e = .returned (.tuple #[]) ∧ HashAt 82 w' H (l ++ m) ∧ w.grownBy w' (some H) := by
  obtain ⟨a, cap, rfl, hc, h⟩ := hv
  by_cases h0 : 0 < m.length
  · obtain ⟨b, off, rfl, hbs, hcell⟩ := h h0
    exact write_len H l m b off m.length cap w rfl hH (hne h0 _ _ _ rfl) hbs hK0 hK.2 hc.1 hlen hcell
  · obtain rfl : m = [] := List.eq_nil_of_length_eq_zero (by omega)
    refine (write_empty H a cap w).mono ?_
    rintro e w' ⟨rfl, rfl⟩
    exact ⟨rfl, by simpa using hH, World.grownBy.refl _ _⟩
set_option maxRecDepth 100000 in
set_option maxHeartbeats 800000 in
theorem sum_any (v : Value) (l : List Int) (w : World) (hv : Bs w v l) (hK : KC w) (hlen : l.length < 576460752303423488) :
    Calls Tryd.prog 40 #[v] w fun e w' => e = .returned (.agg (ArrU8 (sha l))) ∧ Below w.heap.size w w' := by
  have hne : ∀ a len cap, v = .slice (some a) len cap → 0 < l.length → a.block < w.heap.size := by
    intro a len cap e hl
    obtain ⟨a', cap', h1, _, h2⟩ := hv
    obtain ⟨b, off, h3, h4, _⟩ := h2 hl
    rw [h1, h3] at e
    injection e with e1 _ _
    injection e1 with e2
    rw [← e2]; exact h4
  have HV := Lib.hid hv
  have HK := Lib.hid hK
  have HN := Lib.hid hne
  clear hv hK hne
  go_enter Tryd.func40, Tryd.ntmps40
  go_wp2_with fail
  obtain ⟨w1, hw1⟩ : ∃ w1 : World, w1 = w.alloc (.cells ((List.replicate 32 (Value.int .u8 0)).toArray) 55) := ⟨_, rfl⟩
  change Calls _ _ _ (w.alloc (.cells ((List.replicate 32 (Value.int .u8 0)).toArray) 55)) _
  rw [← hw1]
  have hsz : w1.heap.size = w.heap.size + 1 := by rw [hw1]; simp
  have b1 : Below w.heap.size w w1 := by rw [hw1]; exact (Below.refl _ _).alloc (Nat.le_refl _) _
  have r1 : w1.heap[w.heap.size]? = some (.cells ((List.replicate 32 (Value.int .u8 0)).toArray) 55 (0,0)) := by rw [hw1]; exact heap_alloc_new _ _
  have B1 := Lib.hid b1
  have R1 := Lib.hid r1
  clear hw1 b1 r1
  refine (new_any w1).mono ?_
  rintro e w2 ⟨rfl, hw2⟩
  have hh2 : HashAt 82 w2 w1.heap.size [] := by rw [hw2]; exact hash_new
  have b2 : Below w1.heap.size w1 w2 := by rw [hw2]; exact (Below.refl _ _).alloc (Nat.le_refl _) _
  have bb2 : Below w.heap.size w w2 := B1.out.trans (b2.mono (by omega))
  have hs2 : w2.heap.size = w1.heap.size + 1 := by rw [hw2]; simp
  have r2 := (b2.block w.heap.size (by omega)).trans R1.out
  generalize hL : w1.heap.size = L at *
  have HH2 := Lib.hid hh2
  have BB2 := Lib.hid bb2
  have R2 := Lib.hid r2
  have hsz' : w.heap.size < L := by omega
  have hs2' : L < w2.heap.size := by omega
  clear hw2 hh2 b2 bb2 r2 hs2 hsz B1 R1 hL
  go_wp2_with fail
  have hv2 : Bs w2 v l := HV.out.below BB2.out
  have hk2 : KC w2 := HK.out.below BB2.out HK.out.1
  refine (write_bs L [] l v w2 hv2 HH2.out (by omega) hk2 (fun h0 a len cap e => by have := HN.out a len cap e h0; omega) (by simp; omega)).mono ?_
  rintro e w3 ⟨rfl, hh3, hg3⟩
  rw [List.nil_append] at hh3
  have b3 : Below w.heap.size w w3 := BB2.out.trans (below_of_grownBy hg3 (by omega) (by omega))
  have r3 := (hg3.block w.heap.size (by omega) (by simp; omega)).trans R2.out
  have k3 : KC w3 := hk2.grown hg3 (by omega)
  have hs3 : L < w3.heap.size := Nat.lt_of_lt_of_le hs2' hg3.size
  have HH3 := Lib.hid hh3
  have B3 := Lib.hid b3
  have R3 := Lib.hid r3
  have K3 := Lib.hid k3
  clear hh3 b3 r3 k3 hg3 hv2 hk2
  go_wp2_with fail
  refine (hashSum_any L l w3 HH3.out K3.out.1 K3.out.2 hlen).mono ?_
  rintro e w4 ⟨rfl, b4⟩
  have g3 := (b4.block w.heap.size (by omega)).trans R3.out
  have b5 := B3.out.trans (b4.mono (by omega))
  have G3 := Lib.hid g3
  have B4 := Lib.hid b5
  have HI25 := Lib.hid (show (Tryd.prog.info? 55).map (·.size) = some (ArrU8 (sha l)).size by rw [show (ArrU8 (sha l)).size = 32 by simp [ArrU8, sha, dig, S8.list]]; kernel_rfl)
  have HS32 := Lib.hid (show (ArrU8 (sha l)).size = 32 by simp [ArrU8, sha, dig, S8.list])
  clear g3 b4 b5
  go_wp2_with (first | (refine wpList_store_row rfl 55 (Operand.tmp 2) (Operand.tmp 9) rfl w.heap.size (ArrU8 (sha l)) rfl rfl 55 _ G3.out HI25.out HS32.out.symm (ArrU8_one _) ?_) | fail)
  refine bodyPost_ret (results_cell_row rfl _ _ w.heap.size 55 (ArrU8 (sha l)) (0,0) _ rfl (setRow_heap _ _ _ _ _ _ G3.out) Tryd.underlying55 rfl HI25.out) rfl ⟨rfl, ?_⟩
  exact below_setRow B4.out (by omega) _
end Go.Proofs.YtkajpcjmcpollaaDoor
