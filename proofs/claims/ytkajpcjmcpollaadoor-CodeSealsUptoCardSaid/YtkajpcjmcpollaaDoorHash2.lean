import Derived.Test.YtkajpcjmcpollaaDoorHash1
import Derived.Test.YtkajpcjmcpollaaDoorHash0
import Derived.WalkKit
import Derived.ProofKit
import Derived.BigQuiet
import Derived.Deep.QuietTactic
import Derived.WalkSpells
import Derived.WalkLawsBesides
import Derived.Lib.Hide
import Derived.Deep.MidRow
import Derived.Deep.WholeRow
import Derived.BigFrame
import Derived.Deep.RegionWith
import Derived.Deep.RegionHeld3
import Derived.Maps.RangeWalk
import Derived.Laws.CopyOwn
import Derived.StillTailTactics
namespace Go.Proofs.YtkajpcjmcpollaaDoor
open Go.RowKit
theorem write_empty (H : Nat) (av : Option Addr) (cap : Nat) (w : World) :
    Calls Tryd.prog 45 #[.pointer (some ⟨H, 0, none⟩), .slice av 0 cap] w fun e w' => w = w' ∧ e = .returned (.tuple #[]) := by
  go_enter Tryd.func45, Tryd.ntmps45
  go_wp2_with fail
  refine wp_loop_rounds 1 ?_
  rw [rounds_succ]
  go_wp2_with fail
  go_end0
  exact ⟨rfl, rfl⟩
theorem zero60 (w : World) : (zeroValue 82).run Tryd.prog w = .ok (.agg #[.int .u32 0, .int .u32 0, .int .u32 0, .int .u32 0, .int .u32 0, .int .u32 0, .int .u32 0, .int .u32 0, .int .u8 0, .int .u8 0, .int .u8 0, .int .u8 0, .int .u8 0, .int .u8 0, .int .u8 0, .int .u8 0, .int .u8 0, .int .u8 0, .int .u8 0, .int .u8 0, .int .u8 0, .int .u8 0, .int .u8 0, .int .u8 0, .int .u8 0, .int .u8 0, .int .u8 0, .int .u8 0, .int .u8 0, .int .u8 0, .int .u8 0, .int .u8 0, .int .u8 0, .int .u8 0, .int .u8 0, .int .u8 0, .int .u8 0, .int .u8 0, .int .u8 0, .int .u8 0, .int .u8 0, .int .u8 0, .int .u8 0, .int .u8 0, .int .u8 0, .int .u8 0, .int .u8 0, .int .u8 0, .int .u8 0, .int .u8 0, .int .u8 0, .int .u8 0, .int .u8 0, .int .u8 0, .int .u8 0, .int .u8 0, .int .u8 0, .int .u8 0, .int .u8 0, .int .u8 0, .int .u8 0, .int .u8 0, .int .u8 0, .int .u8 0, .int .u8 0, .int .u8 0, .int .u8 0, .int .u8 0, .int .u8 0, .int .u8 0, .int .u8 0, .int .u8 0, .int .u64 0]) w := by kernel_rfl
set_option maxRecDepth 100000 in
theorem new_any (w : World) :
    Calls Tryd.prog 44 #[] w fun e w' => e = .returned (.pointer (some ⟨w.heap.size, 0, none⟩)) ∧ w' = w.alloc (.cells (hcells iv (zeros 64) 0).toArray 82) := by
  have hz := zero60
  go_enter Tryd.func44, Tryd.ntmps44
  go_wp2_with fail
  go_ret
  exact ⟨rfl, rfl⟩
theorem hash_new {w : World} : HashAt 82 (w.alloc (.cells (hcells iv (zeros 64) 0).toArray 82)) w.heap.size [] :=
  ⟨zeros 64, heap_alloc_new _ _, by simp [zeros], by simp⟩
theorem info5 : (Tryd.prog.info? 5).map (fun i => (i.zero, i.size, i.bytes)) = some (some (.int .u8 0), 1, 1) := by kernel_rfl
set_option maxHeartbeats 400000 in
theorem appendNumber_any (v : Value) (n B : Nat) (xs : List Value) (k : Nat) (w : World) (hown : w.ownsRow B 5 1 v n xs) (hB : B ≤ w.heap.size) (hn : n + 8 ≤ 1099511627776) (hk : k < 18446744073709551616) :
    Calls Tryd.prog 47 #[v, .int .u64 k] w fun e w' => ∃ v', e = .returned v' ∧ w'.ownsRow B 5 1 v' (n + 8) (xs ++ (be8 k).map (Value.int .u8)) ∧ Below B w w' := by
  obtain ⟨i0, hi, hz0, hz1, hz2⟩ := info_parts info5
  have HO := Lib.hid hown
  have HK := Lib.hid hk
  clear hown hk
  go_enter Tryd.func47, Tryd.ntmps47
  go_wp2_with fail
  go_loopw [0, 5] (fun v0 s wr => ∃ j : Nat, j ≤ 8 ∧ s = .int .i64 (56 - 8 * (j : Int)) ∧ wr.ownsRow B 5 1 v0 (n + j) (xs ++ ((be8 k).take j).map (Value.int .u8)) ∧ Below B w wr)
    (fun _ s _ => (intOf s + 8).toNat)
  case atStart => exact ⟨0, by omega, by simp, by simpa using HO.out, Below.refl _ _⟩
  case round =>
    obtain ⟨j, hj, rfl, hown, hbw⟩ := hrel
    have hsz := hbw.size
    by_cases hlt : j < 8
    · have hb := be8_take_succ k j hlt
      have HB := Lib.hid hb
      have HBW := Lib.hid hbw
      have HOW := Lib.hid hown
      clear hb hbw hown
      go_wp2_with (at_builtin; refine wpList_append_own _ rfl (Operand.tmp 10) (Operand.tmp 15) 25 rfl B 5 i0 (.int .u8 0) 1 1 Tryd.underlying25 hi hz0 hz1 hz2 rfl (by decide) _ _ _ rfl (HOW.out.alloc _) ⟨wr.heap.size, 0, none⟩ 1 1 [.int .u8 (beAt k j)] rfl rfl (cell_one_new _ _ _) (by intro u hu; simp at hu; subst hu; rfl) (by unfold maxLen; omega) (by omega) (by simp; omega) ?_; intro v' w1 hown' hgrow _; have HO1 := Lib.hid hown'; have HG1 := Lib.hid hgrow; clear hown' hgrow)
      go_roundw
      case rel =>
        refine ⟨j + 1, by omega, by congr 1; omega, ?_, ?_⟩
        · rw [HB.out]; simpa [Nat.add_assoc] using HO1.out
        · exact (HBW.out.alloc (by omega) _).grown HG1.out (by simp; omega) (fun g hg => (HOW.out.lt g hg).1)
      case measure => simp [intOf]; omega
    · have hj8 : j = 8 := by omega
      rw [hj8] at hown
      have e8 : (be8 k).take 8 = be8 k := List.take_of_length_le (by rw [be8_len]; omega)
      rw [e8] at hown
      have hj9 : 8 ≤ j := by omega
      have HBW := Lib.hid hbw
      have HOW := Lib.hid hown
      clear hbw hown hj8 e8 hlt
      go_wp2_with fail
      go_ret
      exact ⟨_, rfl, HOW.out, HBW.out⟩
theorem zeros_getD (n i : Nat) : (zeros n)[i]?.getD 0 = 0 := by
  simp only [zeros, List.getElem?_replicate]; split <;> rfl
theorem write_len (H : Nat) (l m : List Int) (bb off len cap : Nat) (w : World) (hm : m.length = len) (hH : HashAt 82 w H l) (hne : bb ≠ H) (hbb : bb < w.heap.size) (hK0 : 0 < H)
    (hK : ∀ t, t < 64 → w.cell? ⟨0, t, none⟩ = some (.int .u32 (Kt[t]?.getD 0)))
    (hcap : len ≤ cap) (hlen : l.length + len < 1152921504606846976)
    (hc : ∀ i, i < len → w.cell? ⟨bb, off + i, none⟩ = some (.int .u8 (m[i]?.getD 0))) :
    Calls Tryd.prog 45 #[.pointer (some ⟨H, 0, none⟩), .slice (some ⟨bb, off, none⟩) len cap] w fun e w' => e = .returned (.tuple #[]) ∧ HashAt 82 w' H (l ++ m) ∧ w.grownBy w' (some H) := by
  subst hm
  exact write_any H l m bb off cap w hH hne hbb hK0 hK hcap hlen hc
def padZeros (n : Nat) : Nat := (119 - n % 64) % 64
def padding (n : Nat) : List Int := (128 :: zeros (padZeros n)) ++ be8 (n * 8)
set_option maxRecDepth 100000 in
set_option maxHeartbeats 800000 in
theorem pad_any (H : Nat) (l : List Int) (w : World) (hH : HashAt 82 w H l) (hK0 : 0 < H)
    (hK : ∀ t, t < 64 → w.cell? ⟨0, t, none⟩ = some (.int .u32 (Kt[t]?.getD 0))) (hlen : l.length < 576460752303423488) :
    Calls Tryd.prog 52 #[.pointer (some ⟨H, 0, none⟩)] w fun e w' => e = .returned (.tuple #[]) ∧ HashAt 82 w' H (l ++ padding l.length) ∧ w.grownBy w' (some H) := by
  have HH := Lib.hid hH
  have HKK := Lib.hid hK
  clear hH hK
  obtain ⟨bl, hcell, hbl, htk⟩ := HH.out
  have hHw : H < w.heap.size := by rcases Nat.lt_or_ge H w.heap.size with h | h; exact h; rw [Array.getElem?_eq_none h] at hcell; cases hcell
  have c72 := (cell_of_row w H 72 _ _ _ hcell).trans (hcells_n _ bl l.length hbl)
  clear hcell htk hbl
  generalize hn : l.length = n at *
  obtain ⟨z, hz⟩ : ∃ z, z = padZeros n := ⟨_, rfl⟩
  have hz2 : ((119 : Int) - (n : Int) % 64) % 64 = (z : Int) := by rw [hz, padZeros]; omega
  have hz3 : z < 64 := by rw [hz, padZeros]; omega
  have hz4 : z + 1 ≤ 64 := by omega
  have hz5 : (1 : Int) + (z : Int) ≤ 64 := by omega
  have hz6 : (0 : Int) ≤ 1 + (z : Int) := by omega
  have hz7 : ((1 : Int) + (z : Int)).toNat = 1 + z := by omega
  have HZ := Lib.hid hz
  have HN := Lib.hid hn
  clear hz hn
  go_enter Tryd.func52, Tryd.ntmps52
  go_wp2_with fail
  have h1 : HashAt 82 (w.alloc (.cells (ArrU8 (128 :: zeros 63)) 80)) H l := by
    obtain ⟨bl, hcell, hbl, htk⟩ := HH.out
    exact ⟨bl, (heap_alloc_old _ _ hHw).trans hcell, hbl, htk⟩
  have k1 : ∀ t, t < 64 → (w.alloc (.cells (ArrU8 (128 :: zeros 63)) 80)).cell? ⟨0, t, none⟩ = some (.int .u32 (Kt[t]?.getD 0)) := fun t ht =>
    (World.cell?_alloc_lt w _ _ (by show 0 < _; omega)).trans (HKK.out t ht)
  have m1 : ∀ i, i < 1 + z → (w.alloc (.cells (ArrU8 (128 :: zeros 63)) 80)).cell? ⟨w.heap.size, 0 + i, none⟩ = some (.int .u8 ((128 :: zeros z)[i]?.getD 0)) := by
    intro i hi
    rw [World.cell?_alloc_at _ _ _ _ rfl, Nat.zero_add, ArrU8_get _ _ (by simp [zeros]; omega)]
    congr 2
    cases i with
    | zero => rfl
    | succ i => simp only [List.getElem?_cons_succ, zeros_getD]
  change Calls _ _ _ (w.alloc (.cells (ArrU8 (128 :: zeros 63)) 80)) _
  refine (write_len H l (128 :: zeros z) w.heap.size 0 (1 + z) 64 _ (by simp [zeros]; omega) h1 (by omega) (by simp) hK0 k1 (by omega) (by rw [HN.out]; omega) m1).mono ?_
  rintro e w1 ⟨rfl, hh1, hg1⟩
  have hs1 : w.heap.size < w1.heap.size := by have := hg1.size; simp at this; omega
  have k2 : ∀ t, t < 64 → w1.cell? ⟨0, t, none⟩ = some (.int .u32 (Kt[t]?.getD 0)) := fun t ht =>
    (World.cell?_of_block (hg1.block 0 (by simp) (by simp; omega))).trans (k1 t ht)
  have g1 : w.grownBy w1 (some H) := grownBy_trans (World.grownBy_alloc _ _ _) hg1
  have HH1 := Lib.hid hh1
  have G1 := Lib.hid g1
  have K2 := Lib.hid k2
  clear hh1 g1 k2 hg1 h1 k1 m1 c72 hz2 hz5 hz6 hz7
  go_wp2_with fail
  rw [show ((n : Int) * 8) = ((n * 8 : Nat) : Int) by omega]
  refine (appendNumber_any (.slice none 0 0) 0 w1.heap.size [] (n * 8) w1 (World.ownsRow_nil _ _ _ _) (Nat.le_refl _) (by omega) (by omega)).mono ?_
  rintro e w2 ⟨v', rfl, hown, hb2⟩
  rcases hown.2 with ⟨_, h8⟩ | ⟨g, cp, cur, rfl, hgB, hgh, hle, _, _, _⟩
  · omega
  have k3 : ∀ t, t < 64 → w2.cell? ⟨0, t, none⟩ = some (.int .u32 (Kt[t]?.getD 0)) := fun t ht => (hb2.cell (p := ⟨0, t, none⟩) (by show 0 < _; omega)).trans (K2.out t ht)
  have h3 : HashAt 82 w2 H (l ++ 128 :: zeros z) := by
    obtain ⟨bl, hcell, hbl, htk⟩ := HH1.out
    exact ⟨bl, (hb2.block H (by omega)).trans hcell, hbl, htk⟩
  have m3 : ∀ i, i < 8 → w2.cell? ⟨g, 0 + i, none⟩ = some (.int .u8 ((be8 (n * 8))[i]?.getD 0)) := by
    intro i hi
    have hi2 : i < (be8 (n * 8)).length := by rw [be8_len]; omega
    have := hown.cells (g := g) rfl i (.int .u8 ((be8 (n * 8))[i]?.getD 0)) (by simp [hi2])
    rw [Addr.add_mid] at this
    exact this
  have hgl : g < w2.heap.size := (hown.lt g rfl).2
  clear hown hgh
  go_wp2_with fail
  refine (write_len H (l ++ 128 :: zeros z) (be8 (n * 8)) g 0 (0 + 8) cp w2 (be8_len _) h3 (by omega) hgl hK0 k3 hle (by simp [zeros, HN.out]; omega) (by simpa using m3)).mono ?_
  rintro e w3 ⟨rfl, hh3, hg3⟩
  have g3 : w.grownBy w3 (some H) := grownBy_trans (grownBy_trans G1.out (grownBy_of_below hb2 _)) hg3
  have HH3 := Lib.hid hh3
  have G3 := Lib.hid g3
  clear hh3 g3 hg3 k3 h3 m3
  go_wp2_with fail
  go_end0
  refine ⟨rfl, ?_, G3.out⟩
  have := HH3.out
  rw [HZ.out] at this
  simpa [padding] using this
def dig (s : S8) : List Int := s.list.flatMap fun x => [x / 16777216 % 256, x / 65536 % 256, x / 256 % 256, x % 256]
def DW (s : S8) (i : Nat) : Array Value := ArrU8 ((dig s).take (4 * i) ++ zeros (32 - 4 * i))
theorem DW_size (s : S8) (i : Nat) (hi : i ≤ 8) : (DW s i).size = 32 := by
  simp [DW, ArrU8, dig, S8.list, zeros]; omega
theorem DW_get (s : S8) (i j : Nat) (hi : i ≤ 8) (hj : j < 32) : ∃ x, (DW s i)[j]? = some (.int .u8 x) := by
  have h := DW_size s i hi
  have : j < (DW s i).size := by omega
  rw [Array.getElem?_eq_getElem this]
  simp only [DW, ArrU8, List.getElem_toArray, List.getElem_map]
  exact ⟨_, rfl⟩
theorem DW_set (s : S8) (i : Nat) (hi : i < 8) (x : Int) (hx : x = s.list[i]?.getD 0) :
    ((((DW s i).setIfInBounds (4 * i) (.int .u8 (x / 16777216 % 256))).setIfInBounds (4 * i + 1) (.int .u8 (x / 65536 % 256))).setIfInBounds (4 * i + 2) (.int .u8 (x / 256 % 256))).setIfInBounds (4 * i + 3) (.int .u8 (x % 256)) = DW s (i + 1) := by
  subst hx
  obtain ⟨a, b, c, d, e, f, g, h⟩ := s
  match i, hi with
  | 0, _ => rfl
  | 1, _ => rfl
  | 2, _ => rfl
  | 3, _ => rfl
  | 4, _ => rfl
  | 5, _ => rfl
  | 6, _ => rfl
  | 7, _ => rfl
theorem ArrU8_one (l : List Int) : (ArrU8 l).all (·.oneCell') = true := by simp [ArrU8, Value.oneCell']
theorem DW_one (s : S8) (i : Nat) : (DW s i).all (·.oneCell') = true := ArrU8_one _
theorem DW_end (s : S8) : DW s 8 = ArrU8 (dig s) := by simp [DW, zeros, dig, S8.list]
set_option maxRecDepth 100000 in
set_option maxHeartbeats 800000 in
theorem digest_any (H : Nat) (s : S8) (bl : List Int) (n : Nat) (w : World) (hcell : w.heap[H]? = some (.cells (hcells s bl n).toArray 82 (0, 0))) :
    Calls Tryd.prog 53 #[.pointer (some ⟨H, 0, none⟩)] w fun e w' => e = .returned (.agg (ArrU8 (dig s))) ∧ Below w.heap.size w w' := by
  have hHw : H < w.heap.size := by rcases Nat.lt_or_ge H w.heap.size with h | h; exact h; rw [Array.getElem?_eq_none h] at hcell; cases hcell
  obtain ⟨a, b, c, d, e, f, g, h⟩ := s
  have q0 := cell_of_row w H 0 _ _ _ hcell
  have q1 := cell_of_row w H 1 _ _ _ hcell
  have q2 := cell_of_row w H 2 _ _ _ hcell
  have q3 := cell_of_row w H 3 _ _ _ hcell
  have q4 := cell_of_row w H 4 _ _ _ hcell
  have q5 := cell_of_row w H 5 _ _ _ hcell
  have q6 := cell_of_row w H 6 _ _ _ hcell
  have q7 := cell_of_row w H 7 _ _ _ hcell
  simp only [hcells, S8.list, List.map_cons, List.map_nil, List.cons_append, List.getElem?_toArray, List.getElem?_cons_zero, List.getElem?_cons_succ] at q0 q1 q2 q3 q4 q5 q6 q7
  clear hcell
  have Z := Lib.hid (show DW ⟨a, b, c, d, e, f, g, h⟩ 0 = (List.replicate 32 (Value.int .u8 0)).toArray by simp [DW, zeros, ArrU8])
  go_enter Tryd.func53, Tryd.ntmps53
  go_wp2_with fail
  have HIX : Hid (∀ (i : Nat) (u : World), i < 8 → (Instr.index 79 (.agg #[.int .u32 a, .int .u32 b, .int .u32 c, .int .u32 d, .int .u32 e, .int .u32 f, .int .u32 g, .int .u32 h]) (.int .i64 i)).run Tryd.prog u = .ok (.int .u32 ([a, b, c, d, e, f, g, h][i]?.getD 0)) u) := Lib.hid fun i u hi => idx57 a b c d e f g h i u hi
  generalize hV : (#[.int .u32 a, .int .u32 b, .int .u32 c, .int .u32 d, .int .u32 e, .int .u32 f, .int .u32 g, .int .u32 h] : Array Value) = V at *
  have HV := Lib.hid hV
  clear hV q0 q1 q2 q3 q4 q5 q6 q7
  go_loopw [10] (fun i wr => ∃ k : Nat, k ≤ 8 ∧ i = .int .i64 k ∧ Below w.heap.size w wr ∧ w.heap.size + 1 < wr.heap.size ∧
     wr.heap[w.heap.size]? = some (.cells (DW ⟨a, b, c, d, e, f, g, h⟩ 0) 55 (0,0)) ∧ wr.heap[w.heap.size+1]? = some (.cells (DW ⟨a, b, c, d, e, f, g, h⟩ k) 55 (0,0))) (fun i _ => 8 - (intOf i).toNat)
  case atStart =>
    refine ⟨0, by omega, rfl, ?_, ?_, ?_, ?_⟩
    · exact ((Below.refl _ _).alloc (Nat.le_refl _) _).alloc (by simp) _
    · simp
    · show ((w.heap.push _).push _)[w.heap.size]? = _; simp only [Array.getElem?_push, Array.size_push]; rw [if_neg (by omega), if_pos trivial, Z.out]; rfl
    · show ((w.heap.push _).push _)[w.heap.size + 1]? = _; simp only [Array.getElem?_push, Array.size_push]; rw [if_pos trivial, Z.out]; rfl
  case round =>
    obtain ⟨k, hk, rfl, hbw, hsz, h0, h1⟩ := hrel
    by_cases hlt : k < 8
    · have ix : ∀ u : World, (Instr.index 79 (.agg V) (.int .i64 k)).run Tryd.prog u = .ok (.int .u32 ([a, b, c, d, e, f, g, h][k]?.getD 0)) u := fun u => HIX.out k u hlt
      generalize hx : [a, b, c, d, e, f, g, h][k]?.getD 0 = x at ix
      have HX := Lib.hid hx
      have cc : ∀ j, j < 4 → ∃ y, wr.cell? ⟨w.heap.size + 1, 4 * k + j, none⟩ = some (.int .u8 y) := fun j hj => by
        obtain ⟨y, hy⟩ := DW_get ⟨a, b, c, d, e, f, g, h⟩ k (4 * k + j) hk (by omega)
        exact ⟨y, (cell_of_row wr _ _ _ _ _ h1).trans hy⟩
      obtain ⟨y0, c0⟩ := cc 0 (by omega)
      obtain ⟨y1, c1⟩ := cc 1 (by omega)
      obtain ⟨y2, c2⟩ := cc 2 (by omega)
      obtain ⟨y3, c3⟩ := cc 3 (by omega)
      have f0 := frozen_of_row wr _ (4 * k) _ _ h1
      have f1 := frozen_of_row wr _ (4 * k + 1) _ _ h1
      have f2 := frozen_of_row wr _ (4 * k + 2) _ _ h1
      have f3 := frozen_of_row wr _ (4 * k + 3) _ _ h1
      simp only [Nat.add_zero] at c0
      have H0 := Lib.hid h0
      have H1 := Lib.hid h1
      have b8 : (k:Int) < 8 := by omega
      clear hx cc h0 h1
      go_wp2
      go_roundw
      case rel =>
        have e1 := heap_setCell_same wr _ (4 * k) _ _ (.int .u8 (x / 16777216 % 256)) H1.out
        have e2 := heap_setCell_same _ _ (4 * k + 1) _ _ (.int .u8 (x / 65536 % 256)) e1
        have e3 := heap_setCell_same _ _ (4 * k + 2) _ _ (.int .u8 (x / 256 % 256)) e2
        have e4 := heap_setCell_same _ _ (4 * k + 3) _ _ (.int .u8 (x % 256)) e3
        rw [DW_set ⟨a, b, c, d, e, f, g, h⟩ k hlt x HX.out.symm] at e4
        refine ⟨k + 1, by omega, by go_num, ?_, ?_, ?_, e4⟩
        · exact (((hbw.setCell (by simp) _).setCell (by simp) _).setCell (by simp) _).setCell (by simp) _
        · simpa [World.setCell] using hsz
        · exact (heap_setCell_other _ _ _ _ (by simp)).trans ((heap_setCell_other _ _ _ _ (by simp)).trans ((heap_setCell_other _ _ _ _ (by simp)).trans ((heap_setCell_other _ _ _ _ (by simp)).trans H0.out)))
      case measure => simp [intOf]; omega
    · have hk8 : k = 8 := by omega
      rw [hk8] at h1
      clear hk8
      have hk9 : 8 ≤ k := by omega
      have HI := Lib.hid (show (Tryd.prog.info? 55).map (·.size) = some (DW ⟨a, b, c, d, e, f, g, h⟩ 8).size by rw [DW_size _ _ (by omega)]; kernel_rfl)
      have H0 := Lib.hid h0
      have H1 := Lib.hid h1
      clear h0 h1
      go_wp2_with (first | (refine wpList_load_row rfl 55 (Operand.tmp 3) rfl (w.heap.size+1) rfl 55 _ (0,0) _ H1.out Tryd.underlying55 rfl HI.out ?_) | (refine wpList_store_row rfl 55 (Operand.tmp 2) (Operand.tmp 41) rfl w.heap.size _ rfl rfl 55 _ H0.out HI.out (by rw [DW_size _ _ (by omega), DW_size _ _ (by omega)]) (DW_one _ _) ?_))
      refine bodyPost_ret (results_cell_row rfl _ _ w.heap.size 55 _ (0,0) _ rfl (setRow_heap _ _ _ _ _ _ H0.out) Tryd.underlying55 rfl HI.out) rfl ⟨?_, ?_⟩
      · rw [DW_end]
      · exact below_setRow hbw (by omega) _
end Go.Proofs.YtkajpcjmcpollaaDoor
