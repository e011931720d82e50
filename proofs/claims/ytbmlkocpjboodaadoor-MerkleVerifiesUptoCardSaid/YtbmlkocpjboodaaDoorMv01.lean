import Derived.Test.YtbmlkocpjboodaaDoorMv00
import Derived.Deep.RegionLaw
import Derived.BigRegion
import Derived.Lib.SlBytesConst
import Derived.Laws.AppendOwnNone
import Derived.Deep.DeepMust
import Derived.Deep.AppendLies
import Derived.RegionTactic
namespace Go.Proofs.YtbmlkocpjboodaaDoor
open Go.RowKit
open Go.Lib (hid)
theorem write_empty (H : Nat) (av : Option Addr) (cap : Nat) (w : World) :
  Calls Tryd.prog 80 #[.pointer (some ⟨H, 0, none⟩), .slice av 0 cap] w fun e w' => w = w' ∧ e = .returned (.tuple #[]) := by
 go_enter Tryd.func80, Tryd.ntmps80
 go_wp2_with fail
 refine wp_loop_rounds 1 ?_
 rw [rounds_succ]
 go_wp2_with fail
 go_end0
 exact ⟨rfl, rfl⟩
theorem zero60 (w : World) : (zeroValue 154).run Tryd.prog w = .ok (.agg #[.int .u32 0, .int .u32 0, .int .u32 0, .int .u32 0, .int .u32 0, .int .u32 0, .int .u32 0, .int .u32 0, .int .u8 0, .int .u8 0, .int .u8 0, .int .u8 0, .int .u8 0, .int .u8 0, .int .u8 0, .int .u8 0, .int .u8 0, .int .u8 0, .int .u8 0, .int .u8 0, .int .u8 0, .int .u8 0, .int .u8 0, .int .u8 0, .int .u8 0, .int .u8 0, .int .u8 0, .int .u8 0, .int .u8 0, .int .u8 0, .int .u8 0, .int .u8 0, .int .u8 0, .int .u8 0, .int .u8 0, .int .u8 0, .int .u8 0, .int .u8 0, .int .u8 0, .int .u8 0, .int .u8 0, .int .u8 0, .int .u8 0, .int .u8 0, .int .u8 0, .int .u8 0, .int .u8 0, .int .u8 0, .int .u8 0, .int .u8 0, .int .u8 0, .int .u8 0, .int .u8 0, .int .u8 0, .int .u8 0, .int .u8 0, .int .u8 0, .int .u8 0, .int .u8 0, .int .u8 0, .int .u8 0, .int .u8 0, .int .u8 0, .int .u8 0, .int .u8 0, .int .u8 0, .int .u8 0, .int .u8 0, .int .u8 0, .int .u8 0, .int .u8 0, .int .u8 0, .int .u64 0]) w := by kernel_rfl
set_option maxRecDepth 100000 in
theorem new_any (w : World) :
  Calls Tryd.prog 79 #[] w fun e w' => e = .returned (.pointer (some ⟨w.heap.size, 0, none⟩)) ∧ w' = w.alloc (.cells (hcells iv (zeros 64) 0).toArray 154) := by
 have hz := zero60
 go_enter Tryd.func79, Tryd.ntmps79
 go_wp2_with fail
 go_ret
 exact ⟨rfl, rfl⟩
theorem hash_new {w : World} : HashAt 154 (w.alloc (.cells (hcells iv (zeros 64) 0).toArray 154)) w.heap.size [] :=
 ⟨zeros 64, heap_alloc_new _ _, by simp [zeros], by simp⟩
theorem info5 : (Tryd.prog.info? 5).map (fun i => (i.zero, i.size, i.bytes)) = some (some (.int .u8 0), 1, 1) := by kernel_rfl
set_option maxRecDepth 100000 in
set_option maxHeartbeats 1000000 in
theorem appendNumber_any (v : Value) (n B : Nat) (xs : List Value) (k : Nat) (w : World) (hown : w.ownsRow B 5 1 v n xs) (hB : B ≤ w.heap.size) (hn : n + 8 ≤ 1099511627776) (hk : k < 18446744073709551616) :
  Calls Tryd.prog 82 #[v, .int .u64 k] w fun e w' => ∃ v', e = .returned v' ∧ w'.ownsRow B 5 1 v' (n + 8) (xs ++ (be8 k).map (Value.int .u8)) ∧ Below B w w' := by
 obtain ⟨i0, hi, hz0, hz1, hz2⟩ := info_parts info5
 have HO := hid hown
 have HK := hid hk
 clear hown hk
 go_enter Tryd.func82, Tryd.ntmps82
 go_wp2_with fail
 go_loopw [0, 5] (fun v0 s wr => ∃ j : Nat, j ≤ 8 ∧ s = .int .i64 (56 - 8 * (j : Int)) ∧ wr.ownsRow B 5 1 v0 (n + j) (xs ++ ((be8 k).take j).map (Value.int .u8)) ∧ Below B w wr)
  (fun _ s _ => (intOf s + 8).toNat)
 case atStart => exact ⟨0, by omega, by simp, by simpa using HO.out, Below.refl _ _⟩
 case round =>
  obtain ⟨j, hj, rfl, hown, hbw⟩ := hrel
  have hsz := hbw.size
  by_cases hlt : j < 8
  ·have hb := be8_take_succ k j hlt
   have HB := hid hb
   have HBW := hid hbw
   have HOW := hid hown
   clear hb hbw hown
   go_wp2_with (at_builtin; refine wpList_append_own _ rfl (Operand.tmp 10) (Operand.tmp 15) 31 rfl B 5 i0 (.int .u8 0) 1 1 Tryd.underlying31 hi hz0 hz1 hz2 rfl (by decide) _ _ _ rfl (HOW.out.alloc _) ⟨wr.heap.size, 0, none⟩ 1 1 [.int .u8 (beAt k j)] rfl rfl (cell_one_new _ _ _) (by intro u hu; simp at hu; subst hu; rfl) (by unfold maxLen; omega) (by omega) (by simp; omega) ?_; intro v' w1 hown' hgrow _; have HO1 := hid hown'; have HG1 := hid hgrow; clear hown' hgrow)
   go_roundw
   case rel =>
    refine ⟨j + 1, by omega, by congr 1; omega, ?_, ?_⟩
    ·rw [HB.out]; simpa [Nat.add_assoc] using HO1.out
    ·exact (HBW.out.alloc (by omega) _).grown HG1.out (by simp; omega) (fun g hg => (HOW.out.lt g hg).1)
   case measure => simp [intOf]; omega
  ·have hj8 : j = 8 := by omega
   rw [hj8] at hown
   have e8 : (be8 k).take 8 = be8 k := List.take_of_length_le (by rw [be8_len]; omega)
   rw [e8] at hown
   have hj9 : 8 ≤ j := by omega
   have HBW := hid hbw
   have HOW := hid hown
   clear hbw hown hj8 e8 hlt
   go_wp2_with fail
   go_ret
   exact ⟨_, rfl, HOW.out, HBW.out⟩
theorem zeros_getD (n i : Nat) : (zeros n)[i]?.getD 0 = 0 := by
 simp only [zeros, List.getElem?_replicate]; split <;> rfl
theorem write_len (H : Nat) (l m : List Int) (bb off len cap : Nat) (w : World) (hm : m.length = len) (hH : HashAt 154 w H l) (hne : bb ≠ H) (hbb : bb < w.heap.size) (hK0 : 1 < H)
  (hK : ∀ t, t < 64 → w.cell? ⟨1, t, none⟩ = some (.int .u32 (Kt[t]?.getD 0)))
  (hcap : len ≤ cap) (hlen : l.length + len < 1152921504606846976)
  (hc : ∀ i, i < len → w.cell? ⟨bb, off + i, none⟩ = some (.int .u8 (m[i]?.getD 0))) :
  Calls Tryd.prog 80 #[.pointer (some ⟨H, 0, none⟩), .slice (some ⟨bb, off, none⟩) len cap] w fun e w' => e = .returned (.tuple #[]) ∧ HashAt 154 w' H (l ++ m) ∧ w.grownBy w' (some H) := by
 subst hm
 exact write_any H l m bb off cap w hH hne hbb hK0 hK hcap hlen hc
def padZeros (n : Nat) : Nat := (119 - n % 64) % 64
def padding (n : Nat) : List Int := (128 :: zeros (padZeros n)) ++ be8 (n * 8)
set_option maxRecDepth 100000 in
set_option maxHeartbeats 800000 in
theorem pad_any (H : Nat) (l : List Int) (w : World) (hH : HashAt 154 w H l) (hK0 : 1 < H)
    (hK : ∀ t, t < 64 → w.cell? ⟨1, t, none⟩ = some (.int .u32 (Kt[t]?.getD 0))) (hlen : l.length < 576460752303423488) :
    Calls Tryd.prog 100 #[.pointer (some ⟨H, 0, none⟩)] w fun e w' => e = .returned (.tuple #[]) ∧ HashAt 154 w' H (l ++ padding l.length) ∧ w.grownBy w' (some H) := by
  have HH := hid hH
  have HKK := hid hK
  clear hH hK
  obtain ⟨bl, hcell, hbl, htk⟩ := HH.out
  have hHw : H < w.heap.size := by rcases Nat.lt_or_ge H w.heap.size with h | h; exact h; rw [Array.getElem?_eq_none h] at hcell; cases hcell
  have c72 := (cell_of_row w H 72 _ _ _ hcell).trans (hcells_n _ bl l.length hbl)
  clear hcell htk hbl
  generalize hn : l.length = n at *
  obtain ⟨z, hz⟩ : ∃ z, z = padZeros n := ⟨_, rfl⟩
  have hz2 : ((119 : Int) - (n : Int) % 64) % 64 = (z : Int) := by rw [hz, padZeros]; omega
  have hz3 : z < 64 := by rw [hz, padZeros]; omega
  have hz4 : z + 1 ≤ 64 := by omega
  have hz5 : (1 : Int) + (z : Int) ≤ 64 := by omega
  have hz6 : (0 : Int) ≤ 1 + (z : Int) := by omega
  have hz7 : ((1 : Int) + (z : Int)).toNat = 1 + z := by omega
  have HZ := hid hz
  have HN := hid hn
  clear hz hn
  go_enter Tryd.func100, Tryd.ntmps100
  go_wp2_with fail
  have h1 : HashAt 154 (w.alloc (.cells (ArrU8 (128 :: zeros 63)) 152)) H l := by
    obtain ⟨bl, hcell, hbl, htk⟩ := HH.out
    exact ⟨bl, (heap_alloc_old _ _ hHw).trans hcell, hbl, htk⟩
  have k1 : ∀ t, t < 64 → (w.alloc (.cells (ArrU8 (128 :: zeros 63)) 152)).cell? ⟨1, t, none⟩ = some (.int .u32 (Kt[t]?.getD 0)) := fun t ht =>
    (World.cell?_alloc_lt w _ _ (by show 1 < _; omega)).trans (HKK.out t ht)
  have m1 : ∀ i, i < 1 + z → (w.alloc (.cells (ArrU8 (128 :: zeros 63)) 152)).cell? ⟨w.heap.size, 0 + i, none⟩ = some (.int .u8 ((128 :: zeros z)[i]?.getD 0)) := by
    intro i hi
    rw [World.cell?_alloc_at _ _ _ _ rfl, Nat.zero_add, ArrU8_get _ _ (by simp [zeros]; omega)]
    congr 2
    cases i with
    | zero => rfl
    | succ i => simp only [List.getElem?_cons_succ, zeros_getD]
  change Calls _ _ _ (w.alloc (.cells (ArrU8 (128 :: zeros 63)) 152)) _
  refine (write_len H l (128 :: zeros z) w.heap.size 0 (1 + z) 64 _ (by simp [zeros]; omega) h1 (by omega) (by simp) hK0 k1 (by omega) (by rw [HN.out]; omega) m1).mono ?_
  rintro e w1 ⟨rfl, hh1, hg1⟩
  have hs1 : w.heap.size < w1.heap.size := by have := hg1.size; simp at this; omega
  have k2 : ∀ t, t < 64 → w1.cell? ⟨1, t, none⟩ = some (.int .u32 (Kt[t]?.getD 0)) := fun t ht =>
    (World.cell?_of_block (hg1.block 1 (by first | (simp; done) | (simp; omega)) (by simp; omega))).trans (k1 t ht)
  have g1 : w.grownBy w1 (some H) := grownBy_trans (World.grownBy_alloc _ _ _) hg1
  have HH1 := hid hh1
  have G1 := hid g1
  have K2 := hid k2
  clear hh1 g1 k2 hg1 h1 k1 m1 c72 hz2 hz5 hz6 hz7
  go_wp2_with fail
  rw [show ((n : Int) * 8) = ((n * 8 : Nat) : Int) by omega]
  refine (appendNumber_any (.slice none 0 0) 0 w1.heap.size [] (n * 8) w1 (World.ownsRow_nil _ _ _ _) (Nat.le_refl _) (by omega) (by omega)).mono ?_
  rintro e w2 ⟨v', rfl, hown, hb2⟩
  rcases hown.2 with ⟨_, h8⟩ | ⟨g, cp, cur, rfl, hgB, hgh, hle, _, _, _⟩
  · omega
  have k3 : ∀ t, t < 64 → w2.cell? ⟨1, t, none⟩ = some (.int .u32 (Kt[t]?.getD 0)) := fun t ht => (hb2.cell (p := ⟨1, t, none⟩) (by show 1 < _; omega)).trans (K2.out t ht)
  have h3 : HashAt 154 w2 H (l ++ 128 :: zeros z) := by
    obtain ⟨bl, hcell, hbl, htk⟩ := HH1.out
    exact ⟨bl, (hb2.block H (by omega)).trans hcell, hbl, htk⟩
  have m3 : ∀ i, i < 8 → w2.cell? ⟨g, 0 + i, none⟩ = some (.int .u8 ((be8 (n * 8))[i]?.getD 0)) := by
    intro i hi
    have hi2 : i < (be8 (n * 8)).length := by rw [be8_len]; omega
    have := hown.cells (g := g) rfl i (.int .u8 ((be8 (n * 8))[i]?.getD 0)) (by simp [hi2])
    rw [Addr.add_mid] at this
    exact this
  have hgl : g < w2.heap.size := (hown.lt g rfl).2
  clear hown hgh
  go_wp2_with fail
  refine (write_len H (l ++ 128 :: zeros z) (be8 (n * 8)) g 0 (0 + 8) cp w2 (be8_len _) h3 (by omega) hgl hK0 k3 hle (by simp [zeros, HN.out]; omega) (by simpa using m3)).mono ?_
  rintro e w3 ⟨rfl, hh3, hg3⟩
  have g3 : w.grownBy w3 (some H) := grownBy_trans (grownBy_trans G1.out (grownBy_of_below hb2 _)) hg3
  have HH3 := hid hh3
  have G3 := hid g3
  clear hh3 g3 hg3 k3 h3 m3
  go_wp2_with fail
  go_end0
  refine ⟨rfl, ?_, G3.out⟩
  have := HH3.out
  rw [HZ.out] at this
  simpa [padding] using this
def dig (s : S8) : List Int := s.list.flatMap fun x => [x / 16777216 % 256, x / 65536 % 256, x / 256 % 256, x % 256]
def DW (s : S8) (i : Nat) : Array Value := ArrU8 ((dig s).take (4 * i) ++ zeros (32 - 4 * i))
theorem DW_size (s : S8) (i : Nat) (hi : i ≤ 8) : (DW s i).size = 32 := by
 simp [DW, ArrU8, dig, S8.list, zeros]; omega
theorem DW_get (s : S8) (i j : Nat) (hi : i ≤ 8) (hj : j < 32) : ∃ x, (DW s i)[j]? = some (.int .u8 x) := by
 have h := DW_size s i hi
 have : j < (DW s i).size := by omega
 rw [Array.getElem?_eq_getElem this]
 simp only [DW, ArrU8, List.getElem_toArray, List.getElem_map]
 exact ⟨_, rfl⟩
theorem DW_set (s : S8) (i : Nat) (hi : i < 8) (x : Int) (hx : x = s.list[i]?.getD 0) :
  ((((DW s i).setIfInBounds (4 * i) (.int .u8 (x / 16777216 % 256))).setIfInBounds (4 * i + 1) (.int .u8 (x / 65536 % 256))).setIfInBounds (4 * i + 2) (.int .u8 (x / 256 % 256))).setIfInBounds (4 * i + 3) (.int .u8 (x % 256)) = DW s (i + 1) := by
 subst hx
 obtain ⟨a, b, c, d, e, f, g, h⟩ := s
 match i, hi with
 | 0, _ => rfl
 | 1, _ => rfl
 | 2, _ => rfl
 | 3, _ => rfl
 | 4, _ => rfl
 | 5, _ => rfl
 | 6, _ => rfl
 | 7, _ => rfl
theorem ArrU8_one (l : List Int) : (ArrU8 l).all (·.oneCell') = true := by simp [ArrU8, Value.oneCell']
theorem DW_one (s : S8) (i : Nat) : (DW s i).all (·.oneCell') = true := ArrU8_one _
theorem DW_end (s : S8) : DW s 8 = ArrU8 (dig s) := by simp [DW, zeros, dig, S8.list]
set_option maxRecDepth 100000 in
set_option maxHeartbeats 800000 in
theorem digest_any (H : Nat) (s : S8) (bl : List Int) (n : Nat) (w : World) (hcell : w.heap[H]? = some (.cells (hcells s bl n).toArray 154 (0, 0))) :
  Calls Tryd.prog 101 #[.pointer (some ⟨H, 0, none⟩)] w fun e w' => e = .returned (.agg (ArrU8 (dig s))) ∧ Below w.heap.size w w' := by
 have hHw : H < w.heap.size := by rcases Nat.lt_or_ge H w.heap.size with h | h; exact h; rw [Array.getElem?_eq_none h] at hcell; cases hcell
 obtain ⟨a, b, c, d, e, f, g, h⟩ := s
 have q0 := cell_of_row w H 0 _ _ _ hcell
 have q1 := cell_of_row w H 1 _ _ _ hcell
 have q2 := cell_of_row w H 2 _ _ _ hcell
 have q3 := cell_of_row w H 3 _ _ _ hcell
 have q4 := cell_of_row w H 4 _ _ _ hcell
 have q5 := cell_of_row w H 5 _ _ _ hcell
 have q6 := cell_of_row w H 6 _ _ _ hcell
 have q7 := cell_of_row w H 7 _ _ _ hcell
 simp only [hcells, S8.list, List.map_cons, List.map_nil, List.cons_append, List.getElem?_toArray, List.getElem?_cons_zero, List.getElem?_cons_succ] at q0 q1 q2 q3 q4 q5 q6 q7
 clear hcell
 have Z := hid (show DW ⟨a, b, c, d, e, f, g, h⟩ 0 = (List.replicate 32 (Value.int .u8 0)).toArray by simp [DW, zeros, ArrU8])
 go_enter Tryd.func101, Tryd.ntmps101
 go_wp2_with fail
 have HIX : Hid (∀ (i : Nat) (u : World), i < 8 → (Instr.index 151 (.agg #[.int .u32 a, .int .u32 b, .int .u32 c, .int .u32 d, .int .u32 e, .int .u32 f, .int .u32 g, .int .u32 h]) (.int .i64 i)).run Tryd.prog u = .ok (.int .u32 ([a, b, c, d, e, f, g, h][i]?.getD 0)) u) := hid fun i u hi => idx57 a b c d e f g h i u hi
 generalize hV : (#[.int .u32 a, .int .u32 b, .int .u32 c, .int .u32 d, .int .u32 e, .int .u32 f, .int .u32 g, .int .u32 h] : Array Value) = V at *
 have HV := hid hV
 clear hV q0 q1 q2 q3 q4 q5 q6 q7
 go_loopw [10] (fun i wr => ∃ k : Nat, k ≤ 8 ∧ i = .int .i64 k ∧ Below w.heap.size w wr ∧ w.heap.size + 1 < wr.heap.size ∧
   wr.heap[w.heap.size]? = some (.cells (DW ⟨a, b, c, d, e, f, g, h⟩ 0) 36 (0,0)) ∧ wr.heap[w.heap.size+1]? = some (.cells (DW ⟨a, b, c, d, e, f, g, h⟩ k) 36 (0,0))) (fun i _ => 8 - (intOf i).toNat)
 case atStart =>
  refine ⟨0, by omega, rfl, ?_, ?_, ?_, ?_⟩
  ·exact ((Below.refl _ _).alloc (Nat.le_refl _) _).alloc (by simp) _
  ·simp
  ·show ((w.heap.push _).push _)[w.heap.size]? = _; simp only [Array.getElem?_push, Array.size_push]; rw [if_neg (by omega), if_pos trivial, Z.out]; rfl
  ·show ((w.heap.push _).push _)[w.heap.size + 1]? = _; simp only [Array.getElem?_push, Array.size_push]; rw [if_pos trivial, Z.out]; rfl
 case round =>
  obtain ⟨k, hk, rfl, hbw, hsz, h0, h1⟩ := hrel
  by_cases hlt : k < 8
  ·have ix : ∀ u : World, (Instr.index 151 (.agg V) (.int .i64 k)).run Tryd.prog u = .ok (.int .u32 ([a, b, c, d, e, f, g, h][k]?.getD 0)) u := fun u => HIX.out k u hlt
   generalize hx : [a, b, c, d, e, f, g, h][k]?.getD 0 = x at ix
   have HX := hid hx
   have cc : ∀ j, j < 4 → ∃ y, wr.cell? ⟨w.heap.size + 1, 4 * k + j, none⟩ = some (.int .u8 y) := fun j hj => by
    obtain ⟨y, hy⟩ := DW_get ⟨a, b, c, d, e, f, g, h⟩ k (4 * k + j) hk (by omega)
    exact ⟨y, (cell_of_row wr _ _ _ _ _ h1).trans hy⟩
   obtain ⟨y0, c0⟩ := cc 0 (by omega)
   obtain ⟨y1, c1⟩ := cc 1 (by omega)
   obtain ⟨y2, c2⟩ := cc 2 (by omega)
   obtain ⟨y3, c3⟩ := cc 3 (by omega)
   have f0 := frozen_of_row wr _ (4 * k) _ _ h1
   have f1 := frozen_of_row wr _ (4 * k + 1) _ _ h1
   have f2 := frozen_of_row wr _ (4 * k + 2) _ _ h1
   have f3 := frozen_of_row wr _ (4 * k + 3) _ _ h1
   simp only [Nat.add_zero] at c0
   have H0 := hid h0
   have H1 := hid h1
   have b8 : (k:Int) < 8 := by omega
   clear hx cc h0 h1
   go_wp2
   go_roundw
   case rel =>
    have e1 := heap_setCell_same wr _ (4 * k) _ _ (.int .u8 (x / 16777216 % 256)) H1.out
    have e2 := heap_setCell_same _ _ (4 * k + 1) _ _ (.int .u8 (x / 65536 % 256)) e1
    have e3 := heap_setCell_same _ _ (4 * k + 2) _ _ (.int .u8 (x / 256 % 256)) e2
    have e4 := heap_setCell_same _ _ (4 * k + 3) _ _ (.int .u8 (x % 256)) e3
    rw [DW_set ⟨a, b, c, d, e, f, g, h⟩ k hlt x HX.out.symm] at e4
    refine ⟨k + 1, by omega, by go_num, ?_, ?_, ?_, e4⟩
    ·exact (((hbw.setCell (by simp) _).setCell (by simp) _).setCell (by simp) _).setCell (by simp) _
    ·simpa [World.setCell] using hsz
    ·exact (heap_setCell_other _ _ _ _ (by simp)).trans ((heap_setCell_other _ _ _ _ (by simp)).trans ((heap_setCell_other _ _ _ _ (by simp)).trans ((heap_setCell_other _ _ _ _ (by simp)).trans H0.out)))
   case measure => simp [intOf]; omega
  ·have hk8 : k = 8 := by omega
   rw [hk8] at h1
   clear hk8
   have hk9 : 8 ≤ k := by omega
   have HI := hid (show (Tryd.prog.info? 36).map (·.size) = some (DW ⟨a, b, c, d, e, f, g, h⟩ 8).size by rw [DW_size _ _ (by omega)]; kernel_rfl)
   have H0 := hid h0
   have H1 := hid h1
   clear h0 h1
   go_wp2_with (first | (refine wpList_load_row rfl 36 (Operand.tmp 3) rfl (w.heap.size+1) rfl 36 _ (0,0) _ H1.out Tryd.underlying36 rfl HI.out ?_) | (refine wpList_store_row rfl 36 (Operand.tmp 2) (Operand.tmp 41) rfl w.heap.size _ rfl rfl 36 _ H0.out HI.out (by rw [DW_size _ _ (by omega), DW_size _ _ (by omega)]) (DW_one _ _) ?_))
   refine bodyPost_ret (results_cell_row rfl _ _ w.heap.size 36 _ (0,0) _ rfl (setRow_heap _ _ _ _ _ _ H0.out) Tryd.underlying36 rfl HI.out) rfl ⟨?_, ?_⟩
   ·rw [DW_end]
   ·exact below_setRow hbw (by omega) _
end Go.Proofs.YtbmlkocpjboodaaDoor
namespace Go.Proofs.YtbmlkocpjboodaaDoor
open Go.RowKit
open Go.Lib (hid)
def sha (l : List Int) : List Int := dig (blk (l ++ padding l.length) ((l ++ padding l.length).length / 64))
theorem below_of_grownBy {B : Nat} {w w' : World} {g : Nat} (h : w.grownBy w' (some g)) (hB : B ≤ w.heap.size) (hg : B ≤ g) : Below B w w' :=
 ⟨h.os, h.tape, h.output, h.size, fun k hk => h.block k (by omega) (by simp; omega)⟩
theorem hcells_one (s : S8) (bl : List Int) (n : Nat) : (hcells s bl n).toArray.all (·.oneCell') = true := by
 simp [hcells, Value.oneCell']
set_option maxRecDepth 100000 in
set_option maxHeartbeats 800000 in
theorem hashSum_any (H : Nat) (l : List Int) (w : World) (hH : HashAt 154 w H l) (hK0 : 1 < w.heap.size)
  (hK : ∀ t, t < 64 → w.cell? ⟨1, t, none⟩ = some (.int .u32 (Kt[t]?.getD 0))) (hlen : l.length < 576460752303423488) :
  Calls Tryd.prog 81 #[.pointer (some ⟨H, 0, none⟩)] w fun e w' => e = .returned (.agg (ArrU8 (sha l))) ∧ Below w.heap.size w w' := by
 obtain ⟨bl, hcell, hbl, htk⟩ := hH
 have hHw : H < w.heap.size := by rcases Nat.lt_or_ge H w.heap.size with h | h; exact h; rw [Array.getElem?_eq_none h] at hcell; cases hcell
 have HC := hid hcell
 have HT := hid htk
 have HKK := hid hK
 have HI := hid (show (Tryd.prog.info? 154).map (·.size) = some (hcells (blk l (l.length / 64)) bl l.length).toArray.size by rw [List.size_toArray, hcells_len _ _ _ hbl]; kernel_rfl)
 have HS := hid (show (hcells (blk l (l.length / 64)) bl l.length).length = 73 from hcells_len _ _ _ hbl)
 clear hcell htk hK
 have hz := zero60
 go_enter Tryd.func81, Tryd.ntmps81
 go_wp2_with (first | (refine wpList_load_row rfl 154 (Operand.tmp 5) rfl H rfl 154 (hcells (blk l (l.length / 64)) bl l.length).toArray (0,0) _ ((heap_alloc_old _ _ hHw).trans HC.out) Tryd.underlying154 rfl HI.out ?_) | (refine wpList_store_row rfl 154 (Operand.tmp 3) (Operand.tmp 6) rfl (w.heap.size + 1) (hcells (blk l (l.length / 64)) bl l.length).toArray rfl rfl 154 _ (heap_alloc2_new _ _ _) HI.out HS.out.symm (hcells_one _ _ _) ?_) | fail)
 have facts : ∀ (A B : Array Value), ∀ W1 : World, W1 = ((w.alloc (.cells A 36)).alloc (.cells B 154)).setRow (w.heap.size + 1) (hcells (blk l (l.length / 64)) bl l.length).toArray →
   W1.heap[w.heap.size + 1]? = some (.cells (hcells (blk l (l.length / 64)) bl l.length).toArray 154 (0,0)) ∧ W1.heap[w.heap.size]? = some (.cells A 36 (0,0)) ∧ Below w.heap.size w W1 ∧ W1.heap.size = w.heap.size + 2 := by
  intro A B W1 h
  subst h
  refine ⟨setRow_heap _ _ _ _ _ _ (heap_alloc2_new _ _ _), (setRow_other _ _ _ _ (by omega)).trans (heap_alloc2_old _ _ _), ?_, by simp⟩
  exact below_setRow (((Below.refl _ _).alloc (Nat.le_refl _) _).alloc (by simp) _) (by omega) _
 obtain ⟨W1, hW1⟩ : ∃ W1 : World, W1 = ((w.alloc (.cells ((List.replicate 32 (Value.int .u8 0)).toArray) 36)).alloc (.cells ((List.replicate 8 (Value.int .u32 0)) ++ (List.replicate 64 (Value.int .u8 0)) ++ [Value.int .u64 0]).toArray 154)).setRow (w.heap.size + 1) (hcells (blk l (l.length / 64)) bl l.length).toArray := ⟨_, rfl⟩
 obtain ⟨f1, f2, f3, f4⟩ := facts _ _ W1 hW1
 change Calls _ _ _ (((w.alloc (.cells ((List.replicate 32 (Value.int .u8 0)).toArray) 36)).alloc (.cells ((List.replicate 8 (Value.int .u32 0)) ++ (List.replicate 64 (Value.int .u8 0)) ++ [Value.int .u64 0]).toArray 154)).setRow (w.heap.size + 1) (hcells (blk l (l.length / 64)) bl l.length).toArray) _
 rw [← hW1]
 clear hW1 facts
 have kk : ∀ t, t < 64 → W1.cell? ⟨1, t, none⟩ = some (.int .u32 (Kt[t]?.getD 0)) := fun t ht => (f3.cell (p := ⟨1, t, none⟩) hK0).trans (HKK.out t ht)
 refine (pad_any (w.heap.size + 1) l W1 ⟨bl, f1, hbl, HT.out⟩ (by omega) kk hlen).mono ?_
 rintro e W2 ⟨rfl, hh, hg⟩
 have hs := hg.size
 obtain ⟨bl2, hc2, hl2, _⟩ := hh
 have g0 := (hg.block w.heap.size (by omega) (by simp)).trans f2
 have b2 : Below w.heap.size w W2 := f3.trans (below_of_grownBy hg (by omega) (by omega))
 have G0 := hid g0
 have B2 := hid b2
 have HC2 := hid hc2
 clear g0 b2 hc2 hg f1 f2 f3 kk
 go_wp2_with fail
 refine (digest_any (w.heap.size + 1) _ _ _ W2 HC2.out).mono ?_
 rintro e W3 ⟨he, b3⟩
 obtain rfl : e = .returned (.agg (ArrU8 (sha l))) := he
 have g3 := (b3.block w.heap.size (by omega)).trans G0.out
 have b4 := B2.out.trans (b3.mono (by omega))
 have G3 := hid g3
 have B4 := hid b4
 have HI25 := hid (show (Tryd.prog.info? 36).map (·.size) = some (ArrU8 (sha l)).size by rw [show (ArrU8 (sha l)).size = 32 by simp [ArrU8, sha, dig, S8.list]]; kernel_rfl)
 have HS32 := hid (show (ArrU8 (sha l)).size = 32 by simp [ArrU8, sha, dig, S8.list])
 clear g3 b4 b3
 go_wp2_with (first | (refine wpList_store_row rfl 36 (Operand.tmp 2) (Operand.tmp 8) rfl w.heap.size (ArrU8 (sha l)) rfl rfl 36 _ G3.out HI25.out HS32.out.symm (ArrU8_one _) ?_) | fail)
 refine bodyPost_ret (results_cell_row rfl _ _ w.heap.size 36 (ArrU8 (sha l)) (0,0) _ rfl (setRow_heap _ _ _ _ _ _ G3.out) Tryd.underlying36 rfl HI25.out) rfl ⟨rfl, ?_⟩
 exact below_setRow B4.out (by omega) _
/-- the slice v reads as the bytes l -/
def Bs (w : World) (v : Value) (l : List Int) : Prop :=
 ∃ (a : Option Addr) (cap : Nat), v = .slice a l.length cap ∧ (l.length ≤ cap ∧ (a = none → cap = 0)) ∧ (0 < l.length → ∃ b off, a = some ⟨b, off, none⟩ ∧ b < w.heap.size ∧ ∀ i, i < l.length → w.cell? ⟨b, off + i, none⟩ = some (.int .u8 (l[i]?.getD 0)))
theorem Bs.below {w w' : World} {v : Value} {l : List Int} (h : Bs w v l) (hb : Below w.heap.size w w') : Bs w' v l := by
 obtain ⟨a, cap, hv, hc, h⟩ := h
 refine ⟨a, cap, hv, hc, fun hl => ?_⟩
 obtain ⟨b, off, ha, hbs, hcell⟩ := h hl
 exact ⟨b, off, ha, Nat.lt_of_lt_of_le hbs hb.size, fun i hi => (hb.cell (p := ⟨b, off + i, none⟩) hbs).trans (hcell i hi)⟩
theorem Bs.nil (w : World) : Bs w (.slice none 0 0) [] := ⟨none, 0, rfl, ⟨Nat.le_refl _, fun _ => rfl⟩, fun h => by simp at h⟩
def KC (w : World) : Prop := 1 < w.heap.size ∧ ∀ t, t < 64 → w.cell? ⟨1, t, none⟩ = some (.int .u32 (Kt[t]?.getD 0))
theorem KC.below {w w' : World} {B : Nat} (h : KC w) (hb : Below B w w') (hB : 1 < B) : KC w' :=
 ⟨Nat.lt_of_lt_of_le h.1 hb.size, fun t ht => (hb.cell (p := ⟨1, t, none⟩) hB).trans (h.2 t ht)⟩
theorem KC.grown {w w' : World} {g : Nat} (h : KC w) (hb : w.grownBy w' (some g)) (hg : 1 < g) : KC w' :=
 ⟨Nat.lt_of_lt_of_le h.1 hb.size, fun t ht => (World.cell?_of_block (hb.block 1 h.1 (by simp; omega))).trans (h.2 t ht)⟩
theorem write_bs (H : Nat) (l m : List Int) (v : Value) (w : World) (hv : Bs w v m) (hH : HashAt 154 w H l) (hK0 : 1 < H) (hK : KC w)
  (hne : 0 < m.length → ∀ a len cap, v = .slice (some a) len cap → a.block ≠ H) (hlen : l.length + m.length < 1152921504606846976) :
  Calls Tryd.prog 80 #[.pointer (some ⟨H, 0, none⟩), v] w fun e w' => e = .returned (.tuple #[]) ∧ HashAt 154 w' H (l ++ m) ∧ w.grownBy w' (some H) := by
 obtain ⟨a, cap, rfl, hc, h⟩ := hv
 by_cases h0 : 0 < m.length
 ·obtain ⟨b, off, rfl, hbs, hcell⟩ := h h0
  exact write_len H l m b off m.length cap w rfl hH (hne h0 _ _ _ rfl) hbs hK0 hK.2 hc.1 hlen hcell
 ·obtain rfl : m = [] := List.eq_nil_of_length_eq_zero (by omega)
  refine (write_empty H a cap w).mono ?_
  rintro e w' ⟨rfl, rfl⟩
  exact ⟨rfl, by simpa using hH, World.grownBy.refl _ _⟩
set_option maxRecDepth 100000 in
set_option maxHeartbeats 800000 in
theorem sum_any (v : Value) (l : List Int) (w : World) (hv : Bs w v l) (hK : KC w) (hlen : l.length < 576460752303423488) :
  Calls Tryd.prog 51 #[v] w fun e w' => e = .returned (.agg (ArrU8 (sha l))) ∧ Below w.heap.size w w' := by
 have hne : ∀ a len cap, v = .slice (some a) len cap → 0 < l.length → a.block < w.heap.size := by
  intro a len cap e hl
  obtain ⟨a', cap', h1, _, h2⟩ := hv
  obtain ⟨b, off, h3, h4, _⟩ := h2 hl
  rw [h1, h3] at e
  injection e with e1 _ _
  injection e1 with e2
  rw [← e2]; exact h4
 have HV := hid hv
 have HK := hid hK
 have HN := hid hne
 clear hv hK hne
 go_enter Tryd.func51, Tryd.ntmps51
 go_wp2_with fail
 obtain ⟨w1, hw1⟩ : ∃ w1 : World, w1 = w.alloc (.cells ((List.replicate 32 (Value.int .u8 0)).toArray) 36) := ⟨_, rfl⟩
 change Calls _ _ _ (w.alloc (.cells ((List.replicate 32 (Value.int .u8 0)).toArray) 36)) _
 rw [← hw1]
 have hsz : w1.heap.size = w.heap.size + 1 := by rw [hw1]; simp
 have b1 : Below w.heap.size w w1 := by rw [hw1]; exact (Below.refl _ _).alloc (Nat.le_refl _) _
 have r1 : w1.heap[w.heap.size]? = some (.cells ((List.replicate 32 (Value.int .u8 0)).toArray) 36 (0,0)) := by rw [hw1]; exact heap_alloc_new _ _
 have B1 := hid b1
 have R1 := hid r1
 clear hw1 b1 r1
 refine (new_any w1).mono ?_
 rintro e w2 ⟨rfl, hw2⟩
 have hh2 : HashAt 154 w2 w1.heap.size [] := by rw [hw2]; exact hash_new
 have b2 : Below w1.heap.size w1 w2 := by rw [hw2]; exact (Below.refl _ _).alloc (Nat.le_refl _) _
 have bb2 : Below w.heap.size w w2 := B1.out.trans (b2.mono (by omega))
 have hs2 : w2.heap.size = w1.heap.size + 1 := by rw [hw2]; simp
 have r2 := (b2.block w.heap.size (by omega)).trans R1.out
 generalize hL : w1.heap.size = L at *
 have HH2 := hid hh2
 have BB2 := hid bb2
 have R2 := hid r2
 have hsz' : w.heap.size < L := by omega
 have hs2' : L < w2.heap.size := by omega
 clear hw2 hh2 b2 bb2 r2 hs2 hsz B1 R1 hL
 go_wp2_with fail
 have hv2 : Bs w2 v l := HV.out.below BB2.out
 have hk2 : KC w2 := HK.out.below BB2.out HK.out.1
 refine (write_bs L [] l v w2 hv2 HH2.out (Nat.lt_trans HK.out.1 hsz') hk2 (fun h0 a len cap e => by have := HN.out a len cap e h0; omega) (by simp; omega)).mono ?_
 rintro e w3 ⟨rfl, hh3, hg3⟩
 rw [List.nil_append] at hh3
 have b3 : Below w.heap.size w w3 := BB2.out.trans (below_of_grownBy hg3 (by omega) (by omega))
 have r3 := (hg3.block w.heap.size (by omega) (by simp; omega)).trans R2.out
 have k3 : KC w3 := hk2.grown hg3 (Nat.lt_trans HK.out.1 hsz')
 have hs3 : L < w3.heap.size := Nat.lt_of_lt_of_le hs2' hg3.size
 have HH3 := hid hh3
 have B3 := hid b3
 have R3 := hid r3
 have K3 := hid k3
 clear hh3 b3 r3 k3 hg3 hv2 hk2
 go_wp2_with fail
 refine (hashSum_any L l w3 HH3.out K3.out.1 K3.out.2 hlen).mono ?_
 rintro e w4 ⟨rfl, b4⟩
 have g3 := (b4.block w.heap.size (by omega)).trans R3.out
 have b5 := B3.out.trans (b4.mono (by omega))
 have G3 := hid g3
 have B4 := hid b5
 have HI25 := hid (show (Tryd.prog.info? 36).map (·.size) = some (ArrU8 (sha l)).size by rw [show (ArrU8 (sha l)).size = 32 by simp [ArrU8, sha, dig, S8.list]]; kernel_rfl)
 have HS32 := hid (show (ArrU8 (sha l)).size = 32 by simp [ArrU8, sha, dig, S8.list])
 clear g3 b4 b5
 go_wp2_with (first | (refine wpList_store_row rfl 36 (Operand.tmp 2) (Operand.tmp 9) rfl w.heap.size (ArrU8 (sha l)) rfl rfl 36 _ G3.out HI25.out HS32.out.symm (ArrU8_one _) ?_) | fail)
 refine bodyPost_ret (results_cell_row rfl _ _ w.heap.size 36 (ArrU8 (sha l)) (0,0) _ rfl (setRow_heap _ _ _ _ _ _ G3.out) Tryd.underlying36 rfl HI25.out) rfl ⟨rfl, ?_⟩
 exact below_setRow B4.out (by omega) _
end Go.Proofs.YtbmlkocpjboodaaDoor
namespace Go.Proofs.YtbmlkocpjboodaaDoor
open Go.RowKit
open Go.Lib (hid)
def Rng (l : List Int) : Prop := ∀ x ∈ l, 0 ≤ x ∧ x < 256
theorem Rng.get {l : List Int} (h : Rng l) (i : Nat) : 0 ≤ l[i]?.getD 0 ∧ l[i]?.getD 0 < 256 := by
 by_cases hi : i < l.length
 ·rw [List.getElem?_eq_getElem hi]; exact h _ (List.getElem_mem hi)
 ·rw [List.getElem?_eq_none (by omega)]; exact ⟨by decide, by decide⟩
theorem Rng.drop {l : List Int} (h : Rng l) (k : Nat) : Rng (l.drop k) := fun x hx => h x (List.mem_of_mem_drop hx)
theorem Rng.take {l : List Int} (h : Rng l) (k : Nat) : Rng (l.take k) := fun x hx => h x (List.mem_of_mem_take hx)
def beI (l : List Int) : Nat := l.foldl (fun n x => n * 256 + x.toNat) 0
theorem beI_snoc (l : List Int) (x : Int) : beI (l ++ [x]) = beI l * 256 + x.toNat := by simp [beI]
theorem beI_lt' (l : List Int) (h : Rng l) : ∀ n : Nat, l.foldl (fun n x => n * 256 + x.toNat) n < (n + 1) * 256 ^ l.length := by
 induction l with
 | nil => intro n; simp
 | cons x l ih =>
  intro n
  have h1 := ih (fun y hy => h y (by simp [hy])) (n * 256 + x.toNat)
  have h2 := h x (by simp)
  rw [List.foldl_cons, List.length_cons, Nat.pow_succ]
  refine Nat.lt_of_lt_of_le h1 ?_
  have h3 : n * 256 + x.toNat + 1 ≤ (n + 1) * 256 := by omega
  calc (n * 256 + x.toNat + 1) * 256 ^ l.length ≤ ((n + 1) * 256) * 256 ^ l.length := Nat.mul_le_mul_right _ h3
   _ = (n + 1) * (256 ^ l.length * 256) := by rw [Nat.mul_assoc, Nat.mul_comm 256]
theorem beI_lt (l : List Int) (h : Rng l) : beI l < 256 ^ l.length := by
  have := beI_lt' l h 0
  simpa [beI] using this
theorem be_step (l : List Int) (h : Rng l) (k : Nat) (hk : k < 8) (hl : k < l.length) :
  bits BinOp.or IntKind.u64 (IntKind.u64.wrap ((beI (l.take k) : Int) * 256)) (IntKind.u64.wrap (l[k]?.getD 0)) = (beI (l.take (k + 1)) : Int) := by
 have h1 := beI_lt (l.take k) (h.take k)
 have h2 := h.get k
 have h3 : (l.take k).length = k := by simp; omega
 rw [h3] at h1
 have h4 : 256 ^ k ≤ 256 ^ 7 := Nat.pow_le_pow_right (by decide) (by omega)
 have h5 : (256 : Nat) ^ 7 = 72057594037927936 := by decide
 have e1 : IntKind.u64.wrap ((beI (l.take k) : Int) * 256) = (beI (l.take k) : Int) * 256 := by rw [IntKind.wrap_u64]; omega
 have e2 : IntKind.u64.wrap (l[k]?.getD 0) = l[k]?.getD 0 := by rw [IntKind.wrap_u64]; omega
 rw [e1, e2, bits_join .u64 64 (by decide) (fun n h0 h1 => by rw [IntKind.wrap_u64]; omega) 8 _ _ (by omega) (by omega) (by omega) h2.1 (by omega) (by omega)]
 rw [List.take_succ_eq_append_getElem hl, beI_snoc]
 have : (l[k]?.getD 0) = l[k] := by rw [List.getElem?_eq_getElem hl]; rfl
 rw [this] at h2 ⊢
 omega
end Go.Proofs.YtbmlkocpjboodaaDoor
namespace Go.Proofs.YtbmlkocpjboodaaDoor
open Go.RowKit
open Go.Lib (hid)
/-- v is a slice of slices of bytes that reads as ps -/
def Pss (w : World) (v : Value) (ps : List (List Int)) : Prop :=
 ∃ (a : Option Addr) (cap : Nat), v = .slice a ps.length cap ∧ (ps.length ≤ cap ∧ (a = none → cap = 0)) ∧ (0 < ps.length → ∃ b off, a = some ⟨b, off, none⟩ ∧ b < w.heap.size ∧ ∀ i, i < ps.length → ∃ x, w.cell? ⟨b, off + i, none⟩ = some x ∧ Bs w x (ps[i]?.getD []))
theorem Pss.below {w w' : World} {v : Value} {ps : List (List Int)} (h : Pss w v ps) (hb : Below w.heap.size w w') : Pss w' v ps := by
 obtain ⟨a, cap, hv, hc, h⟩ := h
 refine ⟨a, cap, hv, hc, fun hl => ?_⟩
 obtain ⟨b, off, ha, hbs, hcell⟩ := h hl
 refine ⟨b, off, ha, Nat.lt_of_lt_of_le hbs hb.size, fun i hi => ?_⟩
 obtain ⟨x, hx, hbx⟩ := hcell i hi
 exact ⟨x, (hb.cell (p := ⟨b, off + i, none⟩) hbs).trans hx, hbx.below hb⟩
def jlen : List (List Int) → Nat
 | [] => 0
 | p :: ps => 8 + p.length + jlen ps
theorem jlen_append (a b : List (List Int)) : jlen (a ++ b) = jlen a + jlen b := by
 induction a with
 | nil => simp [jlen]
 | cons p a ih => simp only [List.cons_append, jlen, ih]; omega
def joinB (ps : List (List Int)) : List Int := ps.flatMap fun p => be8 p.length ++ p
def joined (ps : List (List Int)) : List Int := be8 ps.length ++ joinB ps
theorem joinB_len (ps : List (List Int)) : (joinB ps).length = jlen ps := by
 induction ps with
 | nil => rfl
 | cons p ps ih => simp only [joinB, List.flatMap_cons, List.length_append, jlen, be8_len]; have := ih; unfold joinB at this; omega
theorem take_succ_ps (ps : List (List Int)) (k : Nat) (h : k < ps.length) : ps.take (k + 1) = ps.take k ++ [ps[k]?.getD []] := by
 rw [List.take_succ_eq_append_getElem h, List.getElem?_eq_getElem h]; rfl
theorem jlen_take (ps : List (List Int)) (k : Nat) (h : k < ps.length) : jlen (ps.take (k + 1)) = jlen (ps.take k) + (8 + (ps[k]?.getD []).length) := by
 rw [take_succ_ps ps k h, jlen_append]; simp [jlen]
theorem jlen_take_le (ps : List (List Int)) (k : Nat) : jlen (ps.take k) ≤ jlen ps := by
  have := jlen_append (ps.take k) (ps.drop k)
  rw [List.take_append_drop] at this
  omega
theorem joinB_take (ps : List (List Int)) (k : Nat) (h : k < ps.length) : joinB (ps.take (k + 1)) = joinB (ps.take k) ++ (be8 (ps[k]?.getD []).length ++ (ps[k]?.getD [])) := by
 rw [take_succ_ps ps k h]; simp [joinB]
theorem jlen_ge (ps : List (List Int)) : 8 * ps.length ≤ jlen ps := by
 induction ps with
 | nil => simp
 | cons p ps ih => simp only [jlen, List.length_cons]; omega
set_option maxRecDepth 100000 in
set_option maxHeartbeats 800000 in
theorem join_any (v : Value) (ps : List (List Int)) (w : World) (hv : Pss w v ps) (hj : jlen ps ≤ 549755813888) :
    Calls Tryd.prog 52 #[v] w fun e w' => ∃ v', e = .returned v' ∧ w'.ownsRow w.heap.size 5 1 v' (8 + jlen ps) ((joined ps).map (Value.int .u8)) ∧ Below w.heap.size w w' := by
  obtain ⟨i0, hi, hz0, hz1, hz2⟩ := info_parts info5
  obtain ⟨a, cap, rfl, hcap, hcells⟩ := hv
  have hge := jlen_ge ps
  generalize hn : ps.length = n at *
  have HN := hid hn
  have HC := hid hcells
  clear hn hcells
  go_enter Tryd.func52, Tryd.ntmps52
  go_wp2_with fail
  go_loop [3, 11] (fun s i => ∃ k : Nat, k ≤ n ∧ i = .int .i64 k ∧ s = .int .i64 ((8 + jlen (ps.take k) : Nat) : Int)) (fun _ i => n - (intOf i).toNat)
  case atStart => exact ⟨0, Nat.zero_le _, rfl, by simp [jlen]⟩
  case round =>
    obtain ⟨k, hk, rfl, rfl⟩ := hrel
    by_cases hlt : k < n
    · obtain ⟨b, off, rfl, hbw, hc⟩ := HC.out (by omega)
      obtain ⟨x, hx, xa, xc, rfl, hxc, _⟩ := hc k hlt
      have hjt := jlen_take ps k (by rw [HN.out]; exact hlt)
      have hjl := jlen_take_le ps (k + 1)
      rw [hjt] at hjl
      generalize (ps[k]?.getD []).length = m at *
      generalize hJ : jlen (ps.take k) = J at *
      have HJT := hid hjt
      have HJ := hid hJ
      clear hjt hc hJ
      go_wp2
      go_round
      case rel => exact ⟨k + 1, by omega, by go_num, by rw [HJT.out]; congr 1; omega⟩
      case measure => simp [intOf]; omega
    · have hkn : n ≤ k := by omega
      have hk2 : ps.take k = ps := List.take_of_length_le (by rw [HN.out]; exact hkn)
      rw [hk2]
      clear hk2
      go_wp2_with (refine wpList_make_own _ rfl (Operand.const (.int .i64 0)) (Operand.tmp 21) 31 rfl w.heap.size 5 i0 (.int .u8 0) 1 Tryd.underlying31 hi hz0 hz1 .i64 .i64 ((8 + jlen ps : Nat) : Int) (8 + jlen ps) rfl rfl rfl (by rw [hz2]; omega) (by unfold maxLen; omega) (Nat.le_refl _) ?_; intro w1 hown1 hg1; have HO1 := hid hown1; have HG1 := hid hg1; clear hown1 hg1)
      have b1 : Below w.heap.size w w1 := ⟨HG1.out.os, HG1.out.tape, HG1.out.output, HG1.out.size, fun q hq => HG1.out.block q hq (by simp)⟩
      refine (appendNumber_any _ 0 w.heap.size [] n w1 HO1.out b1.size (by omega) (by omega)).mono ?_
      rintro e w2 ⟨v2, rfl, hown2, hb2⟩
      have HO2 := hid hown2
      have HB2 := hid (b1.trans hb2)
      clear hown2 hb2 b1 HG1 HO1
      go_wp2_with fail
      obtain ⟨wo, hwo⟩ : ∃ wo : World, wo = w2 := ⟨_, rfl⟩
      go_loopw [6, 29] (fun v6 i wr => ∃ k : Nat, k ≤ n ∧ i = .int .i64 k ∧ wr.ownsRow w.heap.size 5 1 v6 (8 + jlen (ps.take k)) ((be8 n ++ joinB (ps.take k)).map (Value.int .u8)) ∧ Below w.heap.size w wr) (fun _ i _ => n - (intOf i).toNat)
      case atStart => exact ⟨0, Nat.zero_le _, rfl, by simpa [jlen, joinB] using HO2.out, HB2.out⟩
      case round =>
        obtain ⟨j, hj2, rfl, hown, hbr⟩ := hrel
        have HO := hid hown
        have HBR := hid hbr
        have hsb := hbr.size
        clear hown hbr hwo
        by_cases hlt2 : j < n
        · obtain ⟨b, off, rfl, hbw, hc⟩ := HC.out (by omega)
          obtain ⟨x, hx, xa, xc, rfl, hxc, hxcell⟩ := hc j hlt2
          have hx' := (HBR.out.cell (p := ⟨b, off + j, none⟩) hbw).trans hx
          have hjt := jlen_take ps j (by rw [HN.out]; exact hlt2)
          have hjl := jlen_take_le ps (j + 1)
          have hjb := joinB_take ps j (by rw [HN.out]; exact hlt2)
          rw [hjt] at hjl
          generalize hP : ps[j]?.getD [] = p at *
          generalize hm : p.length = m at *
          generalize hJ : jlen (ps.take j) = J at *
          have HJT := hid hjt
          have HJB := hid hjb
          have HJ := hid hJ
          have HM := hid hm
          have HXC := hid hxcell
          have HXA := hid hxc.2
          clear hjt hjb hc hJ hx hm hP hxcell
          go_wp2_with fail
          refine (appendNumber_any _ (8 + J) w.heap.size _ m wr HO.out hsb (by omega) (by omega)).mono ?_
          rintro e w3 ⟨v3, rfl, hown3, hb3⟩
          have HO3 := hid hown3
          have HB3 := hid (HBR.out.trans hb3)
          have hs3 := HB3.out.size
          clear hown3 hb3
          have hfin : ∀ (w4 : World) (v4 : Value), w4.ownsRow w.heap.size 5 1 v4 (8 + J + 8 + m) ((be8 n ++ joinB (ps.take j)).map (Value.int .u8) ++ (be8 m).map (Value.int .u8) ++ p.map (Value.int .u8)) → w4.ownsRow w.heap.size 5 1 v4 (8 + jlen (ps.take (j + 1))) ((be8 n ++ joinB (ps.take (j + 1))).map (Value.int .u8)) := by
            intro w4 v4 ho
            rw [HJT.out, HJB.out, show 8 + (J + (8 + m)) = 8 + J + 8 + m by omega]
            simpa using ho
          have HF := hid hfin
          clear hfin
          cases xa with
          | none =>
            obtain rfl : xc = 0 := HXA.out rfl
            have hm0 : m = 0 := by have := hxc.1; omega
            subst hm0
            obtain rfl : p = [] := List.eq_nil_of_length_eq_zero HM.out
            go_wp2_with (at_builtin; refine wpList_append_own_none rfl (Operand.tmp 38) (Operand.tmp 39) 31 rfl w.heap.size 5 i0 1 Tryd.underlying31 hi v3 (8 + J + 8) _ rfl HO3.out rfl ?_)
            go_roundw
            case rel => exact ⟨j + 1, by omega, by go_num, HF.out _ _ (by simpa using HO3.out), HB3.out⟩
            case measure => simp [intOf]; omega
          | some ad =>
            have hX : ∀ q u, (p.map (Value.int .u8))[q]? = some u → w3.cell? (ad.add q) = some u := by
              intro q u hu
              rw [List.getElem?_map, Option.map_eq_some_iff] at hu
              obtain ⟨y, hy, rfl⟩ := hu
              have hq : q < m := by have := (List.getElem?_eq_some_iff.1 hy).1; rw [HM.out] at this; exact this
              obtain ⟨pb, po, e1, e2, e3⟩ := HXC.out (by omega)
              injection e1 with e1
              have e4 := e3 q hq
              rw [hy] at e4
              rw [e1, Addr.add_mid]
              exact (HB3.out.cell (p := ⟨pb, po + q, none⟩) e2).trans e4
            have HX := hid hX
            clear hX
            go_wp2_with (at_builtin; refine wpList_append_own _ rfl (Operand.tmp 38) (Operand.tmp 39) 31 rfl w.heap.size 5 i0 (.int .u8 0) 1 1 Tryd.underlying31 hi hz0 hz1 hz2 rfl (by decide) v3 (8 + J + 8) _ rfl HO3.out ad m xc (p.map (Value.int .u8)) rfl (by rw [List.length_map, HM.out, Nat.mul_one]) HX.out (by intro v hv; obtain ⟨x, _, rfl⟩ := List.mem_map.1 hv; rfl) (by unfold maxLen; omega) (by omega) hs3 ?_; intro v4 w4 hown4 hg4 _; have HO4 := hid hown4; have HG4 := hid hg4; clear hown4 hg4)
            go_roundw
            case rel => exact ⟨j + 1, by omega, by go_num, HF.out _ _ HO4.out, HB3.out.grown HG4.out hs3 (fun g hg => (HO3.out.lt g hg).1)⟩
            case measure => simp [intOf]; omega
        · have hkn2 : n ≤ j := by omega
          have hk2 : ps.take j = ps := List.take_of_length_le (by rw [HN.out]; exact hkn2)
          go_wp2_with fail
          go_ret
          refine ⟨_, rfl, ?_, HBR.out⟩
          have := HO.out
          rw [hk2] at this
          rw [joined, HN.out]; exact this
end Go.Proofs.YtbmlkocpjboodaaDoor
namespace Go.Proofs.YtbmlkocpjboodaaDoor
open Go.RowKit
open Go.Lib (hid)
/-- the string of a slice of bytes -/
def strOf (w : World) : Value → ByteArray
 | .slice (some a) n _ => ⟨((List.range n).map fun j => match w.cell? (a.add j) with | some (.int _ x) => UInt8.ofNat x.toNat | _ => 0).toArray⟩
 | _ => ByteArray.empty
def HasBytes (w : World) : Value → Prop
 | .slice (some a) n _ => ∀ j, j < n → ∃ x, w.cell? (a.add j) = some (.int .u8 x)
 | .slice none n _ => n = 0
 | _ => False
def str (l : List Int) : ByteArray := ⟨(l.map fun x => UInt8.ofNat x.toNat).toArray⟩
def convB (x : Value) : Sem Value := Conv.bytesToString x
theorem foldl_push (ns : List Int) : ∀ r : ByteArray, ns.foldl (fun r n => r.push (UInt8.ofNat n.toNat)) r = ⟨r.data ++ (ns.map fun x => UInt8.ofNat x.toNat).toArray⟩ := by
 induction ns with
 | nil => intro r; simp
 | cons n ns ih => intro r; rw [List.foldl_cons, ih]; simp [ByteArray.push]
theorem run_convB (P : Program) (w : World) (v : Value) (h : HasBytes w v) : (convB v).run P w = .ok (.string (strOf w v)) w := by
 cases v with
 | slice a n c =>
  cases a with
  | none =>
   have h0 : n = 0 := h
   subst h0
   simp [convB, Conv.bytesToString, strOf]
  | some a =>
   have h1 : ∀ j, j < n → ∃ x, w.cell? (a.add j) = some (.int .u8 x) := h
   obtain ⟨f, hf⟩ : ∃ f : Nat → Int, ∀ j, j < n → w.cell? (a.add j) = some (.int .u8 (f j)) := by
    refine ⟨fun j => match w.cell? (a.add j) with | some (.int _ x) => x | _ => 0, fun j hj => ?_⟩
    obtain ⟨x, hx⟩ := h1 j hj
    simp only [hx]
   have hl := run_loadCells_list (P := P) w a (((List.range n).map f).map (Value.int .u8)) (fun j v hj => by
    have hj' : j < n := by have := (List.getElem?_eq_some_iff.1 hj).1; simpa using this
    rw [hf j hj']
    simp [List.getElem?_range hj'] at hj
    rw [← hj])
   simp only [List.length_map, List.length_range] at hl
   show (Conv.bytesToString _).run P w = _
   rw [run_bytesToString w a n c _ hl, foldl_push]
   congr 1
   simp only [strOf, Value.string.injEq]
   have e0 : (ByteArray.empty).data = #[] := rfl
   rw [e0]
   simp only [Array.empty_append, List.map_map, ByteArray.mk.injEq]
   congr 1
   apply List.map_congr_left
   intro j hj
   rw [List.mem_range] at hj
   simp only [Function.comp, hf j hj]
 | _ => exact absurd h (by simp [HasBytes])
theorem Bs.hasBytes {w : World} {v : Value} {l : List Int} (h : Bs w v l) : HasBytes w v := by
  obtain ⟨a, cap, rfl, hc, h⟩ := h
  cases a with
  | none =>
    show l.length = 0
    have := hc.2 rfl
    omega
  | some ad =>
    intro j hj
    obtain ⟨b, off, e, _, hcell⟩ := h (by omega)
    injection e with e
    rw [e, Addr.add_mid]
    exact ⟨_, hcell j hj⟩
theorem Bs.str {w : World} {v : Value} {l : List Int} (h : Bs w v l) : strOf w v = str l := by
 obtain ⟨a, cap, rfl, hc, h⟩ := h
 cases a with
 | none =>
  have h0 := hc.2 rfl
  have h1 : l = [] := List.eq_nil_of_length_eq_zero (by omega)
  subst h1
  rfl
 | some ad =>
  simp only [strOf, _root_.Go.Proofs.YtbmlkocpjboodaaDoor.str, ByteArray.mk.injEq]
  congr 1
  apply List.ext_getElem?
  intro j
  by_cases hj : j < l.length
  ·obtain ⟨b, off, e, _, hcell⟩ := h (by omega)
   injection e with e
   have h2 := hcell j hj
   rw [List.getElem?_map, List.getElem?_range hj, List.getElem?_map, List.getElem?_eq_getElem hj]
   rw [List.getElem?_eq_getElem hj] at h2
   simp only [Option.map_some, e, Addr.add_mid, h2, Option.getD_some]
  ·rw [List.getElem?_eq_none (by simp; omega), List.getElem?_eq_none (by simp; omega)]
theorem str_inj {l m : List Int} (hl : Rng l) (hm : Rng m) (h : str l = str m) : l = m := by
  simp only [str, ByteArray.mk.injEq] at h
  have h2 : (l.map fun x => UInt8.ofNat x.toNat) = (m.map fun x => UInt8.ofNat x.toNat) := by simpa using congrArg Array.toList h
  have key : ∀ l : List Int, Rng l → (l.map fun x => UInt8.ofNat x.toNat).map (fun u => (u.toNat : Int)) = l := by
    intro l hl
    rw [List.map_map]
    conv => rhs; rw [← List.map_id l]
    apply List.map_congr_left
    intro x hx
    have := hl x hx
    simp only [Function.comp, id, UInt8.toNat_ofNat']
    omega
  rw [← key l hl, ← key m hm, h2]
def convC (x : Value) : Sem Value := convert 31 9 x
theorem convC_eq (x : Value) : convert 31 9 x = convC x := rfl
theorem run_convC (w : World) (a : Option Addr) (n c : Nat) (h : HasBytes w (.slice a n c)) : (convC (.slice a n c)).run Tryd.prog w = .ok (.string (strOf w (.slice a n c))) w :=
 (run_convert_bytes_string w 31 9 5 a n c Tryd.underlying31 Tryd.underlying5 Tryd.underlying9).trans (run_convB Tryd.prog w _ h)
theorem str_beq {l m : List Int} (hl : Rng l) (hm : Rng m) : ((str l).toList == (str m).toList) = decide (l = m) := by
 rw [Bool.eq_iff_iff, beq_iff_eq, decide_eq_true_eq]
 constructor
 ·intro h
  refine str_inj hl hm ?_
  rw [ByteArray.toList_eq, ByteArray.toList_eq] at h
  have h2 : (str l).data = (str m).data := Array.toList_inj.1 h
  cases h3 : str l with
  | mk d1 => cases h4 : str m with
   | mk d2 => rw [h3, h4] at h2; exact congrArg ByteArray.mk h2
 ·intro h; rw [h]
theorem ArrU8_at (l : List Int) (i : Nat) (h : i < l.length) : (ArrU8 l)[i]? = some (.int .u8 l[i]) := by
 simp [ArrU8, h]
theorem run_eqItems_bytes {P : Program} (w : World) (d : Nat) (e : TypeId) (he : P.underlying e = some (.int .u8)) (hk : P.plainKey e = true) (hc : P.cellsOf e = 1) (xs ys : List Int) (hl : xs.length = ys.length) :
  ∀ is : List Nat, (∀ i ∈ is, i < xs.length) → (Op.eqItems (d + 1) e (P.cellsOf e) (ArrU8 xs) (ArrU8 ys) is).run P w = .ok (decide (∀ i ∈ is, xs[i]? = ys[i]?)) w
 | [], _ => by simp [Op.eqItems]
 | i :: is, h => by
  have hi : i < xs.length := h i (by simp)
  have hi2 : i < ys.length := by omega
  have ih := run_eqItems_bytes w d e he hk hc xs ys hl is (fun j hj => h j (by simp [hj]))
  have p1 := run_part_plain (P := P) (w := w) hk (ArrU8_at xs i hi)
  have p2 := run_part_plain (P := P) (w := w) hk (ArrU8_at ys i hi2)
  rw [hc] at ih ⊢
  simp only [Op.eqItems, Sem.run_bind, Nat.mul_one, p1, p2, Result.andThen_ok, run_equalIn_int w d e .u8 .u8 _ _ he]
  by_cases hx : xs[i] = ys[i]
  ·rw [hx, if_neg (by simp), ih]
   congr 1
   simp [hi, hi2, hx]
  ·rw [if_pos (by simp [hx])]
   simp [hi, hi2, hx, Sem.run_pure]
theorem run_eql_bytes {P : Program} (w : World) (t e n : Nat) (i : TypeInfo) (ht : P.underlying t = some (.array n e)) (hi : P.info? e = some i) (he : P.underlying e = some (.int .u8)) (hk : P.plainKey e = true) (hc : P.cellsOf e = 1)
  (xs ys : List Int) (hx : xs.length = n) (hy : ys.length = n) : (binOp .eql t (.agg (ArrU8 xs)) (.agg (ArrU8 ys))).run P w = .ok (.bool (decide (xs = ys))) w := by
 have h := run_equalIn_array (P := P) (w := w) 9999 (ArrU8 xs) (ArrU8 ys) ht hi
 have h2 := run_eqItems_bytes (P := P) w 9998 e he hk hc xs ys (by omega) (List.range n) (fun j hj => by rw [List.mem_range] at hj; omega)
 have e1 : decide (∀ i ∈ List.range n, xs[i]? = ys[i]?) = decide (xs = ys) := by
  rw [Bool.eq_iff_iff, decide_eq_true_eq, decide_eq_true_eq]
  constructor
  ·intro h
   apply List.ext_getElem?
   intro j
   by_cases hj : j < n
   ·exact h j (List.mem_range.2 hj)
   ·rw [List.getElem?_eq_none (by omega), List.getElem?_eq_none (by omega)]
  ·intro h j _; rw [h]
 rw [e1] at h2
 show (do pure (Value.bool (← Op.equal t (.agg (ArrU8 xs)) (.agg (ArrU8 ys)))) : Sem Value).run P w = _
 simp only [Op.equal, Op.maxDepth, Sem.run_bind, h, h2, Result.andThen_ok, Sem.run_pure]
theorem Bs_of_own {w : World} {B n : Nat} {v : Value} {l : List Int} {T : TypeId} (h : w.ownsRow B T 1 v n (l.map (Value.int .u8))) : Bs w v l := by
  have hn : n = l.length := by have := h.1; simp at this; omega
  subst hn
  rcases h.2 with ⟨rfl, h0⟩ | ⟨g, cap, cur, rfl, hg, hh, hle, _, _, _⟩
  · have h1 : l = [] := List.eq_nil_of_length_eq_zero h0
    subst h1
    exact Bs.nil w
  · refine ⟨some ⟨g, 0, none⟩, cap, rfl, ⟨hle, fun e => by cases e⟩, fun hl => ⟨g, 0, rfl, (h.lt g rfl).2, fun i hi => ?_⟩⟩
    have := h.cells (g := g) rfl i (.int .u8 (l[i]?.getD 0)) (by simp [hi])
    rw [Addr.add_mid] at this
    exact this
theorem joined_len (ps : List (List Int)) : (joined ps).length = 8 + jlen ps := by
 rw [joined, List.length_append, be8_len, joinB_len]
set_option maxRecDepth 100000 in
set_option maxHeartbeats 800000 in
theorem of_any (v : Value) (ps : List (List Int)) (w : World) (hv : Pss w v ps) (hK : KC w) (hj : jlen ps ≤ 549755813888) :
  Calls Tryd.prog 27 #[v] w fun e w' => e = .returned (.agg (ArrU8 (sha (joined ps)))) ∧ Below w.heap.size w w' := by
 have HV := hid hv
 have HK := hid hK
 clear hv hK
 go_enter Tryd.func27, Tryd.ntmps27
 go_wp2_with fail
 obtain ⟨w1, hw1⟩ : ∃ w1 : World, w1 = w.alloc (.cells ((List.replicate 32 (Value.int .u8 0)).toArray) 36) := ⟨_, rfl⟩
 change Calls _ _ _ (w.alloc (.cells ((List.replicate 32 (Value.int .u8 0)).toArray) 36)) _
 rw [← hw1]
 have hsz : w1.heap.size = w.heap.size + 1 := by rw [hw1]; simp
 have b1 : Below w.heap.size w w1 := by rw [hw1]; exact (Below.refl _ _).alloc (Nat.le_refl _) _
 have r1 : w1.heap[w.heap.size]? = some (.cells ((List.replicate 32 (Value.int .u8 0)).toArray) 36 (0,0)) := by rw [hw1]; exact heap_alloc_new _ _
 have hv1 := HV.out.below b1
 refine (join_any v ps w1 hv1 hj).mono ?_
 rintro e w2 ⟨v2, rfl, hown, hb2⟩
 have b2 : Below w.heap.size w w2 := b1.trans (hb2.mono (by omega))
 have r2 := (hb2.block w.heap.size (by omega)).trans r1
 have k2 := HK.out.below b2 HK.out.1
 have hbs := Bs_of_own hown
 have R2 := hid r2
 have B2 := hid b2
 have K2 := hid k2
 have BS := hid hbs
 have hs2 : w.heap.size < w2.heap.size := by have := hb2.size; omega
 clear hw1 b1 r1 hv1 hown hb2 b2 r2 k2 hbs hsz
 go_wp2_with fail
 refine (sum_any v2 (joined ps) w2 BS.out K2.out (by rw [joined_len]; omega)).mono ?_
 rintro e w4 ⟨rfl, b4⟩
 have g3 := (b4.block w.heap.size (by omega)).trans R2.out
 have b5 := B2.out.trans (b4.mono (by omega))
 have G3 := hid g3
 have B4 := hid b5
 have HI25 := hid (show (Tryd.prog.info? 36).map (·.size) = some (ArrU8 (sha (joined ps))).size by rw [show (ArrU8 (sha (joined ps))).size = 32 by simp [ArrU8, sha, dig, S8.list]]; kernel_rfl)
 have HS32 := hid (show (ArrU8 (sha (joined ps))).size = 32 by simp [ArrU8, sha, dig, S8.list])
 clear g3 b4 b5
 go_wp2_with (first | (refine wpList_store_row rfl 36 (Operand.tmp 2) (Operand.tmp 5) rfl w.heap.size (ArrU8 (sha (joined ps))) rfl rfl 36 _ G3.out HI25.out HS32.out.symm (ArrU8_one _) ?_) | fail)
 refine bodyPost_ret (results_cell_row rfl _ _ w.heap.size 36 (ArrU8 (sha (joined ps))) (0,0) _ rfl (setRow_heap _ _ _ _ _ _ G3.out) Tryd.underlying36 rfl HI25.out) rfl ⟨rfl, ?_⟩
 exact below_setRow B4.out (by omega) _
end Go.Proofs.YtbmlkocpjboodaaDoor
