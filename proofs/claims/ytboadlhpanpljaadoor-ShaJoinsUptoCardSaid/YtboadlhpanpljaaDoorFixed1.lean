import Derived.Test.YtboadlhpanpljaaDoorFixed0
import Derived.Test.YtboadlhpanpljaaDoorHash0
import Derived.WalkKit
import Derived.ProofKit
import Derived.BigQuiet
import Derived.Deep.QuietTactic
import Derived.WalkSpells
import Derived.WalkLawsBesides
import Derived.Lib.Hide
import Derived.Deep.MidRow
import Derived.Deep.RegionLaw
import Derived.BigRegion
import Derived.Lib.SlBytesConst
import Derived.Laws.AppendOwnNone
import Derived.Deep.DeepMust
import Derived.Deep.AppendLies
import Derived.RegionTactic
import Derived.Deep.WholeRow
import Derived.BigFrame
import Derived.Deep.RegionWith
import Derived.Deep.RegionHeld3
import Derived.Maps.RangeWalk
import Derived.Laws.CopyOwn
import Derived.StillTailTactics
namespace Go.Proofs.YtboadlhpanpljaaDoor
open Go.RowKit
attribute [local go_sem ↓] convC_eq eql25_eq
theorem lit_bs (w : World) (T : TypeId) (C : List Int) (fr : Nat × Nat) (n c : Nat) (hn : C.length = n) (hc : n ≤ c) : Bs (w.alloc (.cells (C.map (Value.int .u8)).toArray T fr)) (.slice (some ⟨w.heap.size, 0, none⟩) n c) C := by
  subst hn
  refine ⟨some ⟨w.heap.size, 0, none⟩, c, rfl, ⟨hc, fun e => by cases e⟩, fun hl => ⟨w.heap.size, 0, rfl, by simp, fun i hi => ?_⟩⟩
  rw [cell_of_row _ w.heap.size _ _ _ _ (heap_alloc_new _ _)]
  simp [hi]
theorem hash_below {w w' : World} {H : Nat} {l : List Int} {T : TypeId} {B : Nat} (h : HashAt T w H l) (hb : Below B w w') (hB : H < B) : HashAt T w' H l := by
  obtain ⟨bl, hc, h1, h2⟩ := h
  exact ⟨bl, (hb.block H hB).trans hc, h1, h2⟩
set_option maxRecDepth 100000 in
set_option maxHeartbeats 4000000 in
theorem fixed_any (w : World) (hK : KC w) :
    Calls Tryd.prog 7 #[] w fun e w' => e = .returned (.bool true) ∧ Below w.heap.size w w' := by
  have HK := Lib.hid hK
  clear hK
  go_enter Tryd.func7, Tryd.ntmps7
  go_wp2_with fail
  refine (new_any w).mono ?_
  rintro e w1 ⟨rfl, hw1⟩
  have hh1 : HashAt 60 w1 w.heap.size [] := by rw [hw1]; exact hash_new
  have b1 : Below w.heap.size w w1 := by rw [hw1]; exact (Below.refl _ _).alloc (Nat.le_refl _) _
  have hs1 : w1.heap.size = w.heap.size + 1 := by rw [hw1]; simp
  generalize hL : w.heap.size = L at *
  have hs1' : L < w1.heap.size := by omega
  have hL0 : 0 < L := by rw [← hL]; exact HK.out.1
  have HH1 := Lib.hid hh1
  have B1 := Lib.hid b1
  have HLL := Lib.hid hL
  clear hw1 hh1 b1 hs1 hL
  have kc := fun (w : World) (C : Array Value) (n c : Nat) => Lib.run_convert_bytes_const (P := Tryd.prog) w 22 5 C n c Tryd.underlying22 Tryd.underlying5
  go_wp2_with fail
  have a1 : Below L w (w1.alloc (.cells ([97, 98].map (Value.int .u8)).toArray 5 (2, 3))) := B1.out.alloc (by omega) _
  refine (write_bs L [] [97, 98] _ (w1.alloc (.cells ([97, 98].map (Value.int .u8)).toArray 5 (2, 3))) (lit_bs w1 5 [97, 98] (2, 3) 2 2 rfl (Nat.le_refl _)) (hash_below HH1.out ((Below.refl _ _).alloc (Nat.le_refl _) _) hs1') hL0 (HK.out.below a1 hL0) (fun _ a len cap e => by injection e with e _ _; injection e with e; rw [← e]; show w1.heap.size ≠ L; omega) (by simp)).mono ?_
  rintro e w2 ⟨rfl, hh2, hg2⟩
  have b2 : Below L w w2 := a1.trans (below_of_grownBy hg2 (by simp; omega) (Nat.le_refl _))
  have hs2 : L < w2.heap.size := by have := hg2.size; simp at this; omega
  have HH2 := Lib.hid hh2
  have B2 := Lib.hid b2
  clear hh2 b2 hg2 a1 B1 HH1
  go_wp2_with fail
  have a2 : Below L w (w2.alloc (.cells ([99].map (Value.int .u8)).toArray 5 (1, 2))) := B2.out.alloc (by omega) _
  refine (write_bs L ([] ++ [97, 98]) [99] _ (w2.alloc (.cells ([99].map (Value.int .u8)).toArray 5 (1, 2))) (lit_bs w2 5 [99] (1, 2) 1 1 rfl (Nat.le_refl _)) (hash_below HH2.out ((Below.refl _ _).alloc (Nat.le_refl _) _) hs2) hL0 (HK.out.below a2 hL0) (fun _ a len cap e => by injection e with e _ _; injection e with e; rw [← e]; show w2.heap.size ≠ L; omega) (by simp)).mono ?_
  rintro e w3 ⟨rfl, hh3, hg3⟩
  have hh3' : HashAt 60 w3 L [97, 98, 99] := hh3
  have b3 : Below L w w3 := a2.trans (below_of_grownBy hg3 (by simp; omega) (Nat.le_refl _))
  have hs3 : L < w3.heap.size := by have := hg3.size; simp at this; omega
  have HH3 := Lib.hid hh3'
  have B3 := Lib.hid b3
  clear hh3 hh3' b3 hg3 a2 B2 HH2 hs1' hs2
  go_wp2_with fail
  have a3 : Below L w (w3.alloc (.cells ([97, 98, 99].map (Value.int .u8)).toArray 5 (3, 4))) := B3.out.alloc (by omega) _
  refine (sum_any _ [97, 98, 99] (w3.alloc (.cells ([97, 98, 99].map (Value.int .u8)).toArray 5 (3, 4))) (lit_bs w3 5 [97, 98, 99] (3, 4) 3 3 rfl (Nat.le_refl _)) (HK.out.below a3 hL0) (by decide)).mono ?_
  rintro e w4 ⟨rfl, hb4⟩
  have b4 : Below L w w4 := a3.trans (hb4.mono (by simp; omega))
  have hs4 : w3.heap.size < w4.heap.size := by have := hb4.size; simp at this; omega
  have hh4 := hash_below (hash_below HH3.out ((Below.refl _ (w3)).alloc (Nat.le_refl _) (.cells ([97, 98, 99].map (Value.int .u8)).toArray 5 (3, 4))) hs3) hb4 (by simp; omega)
  have HH4 := Lib.hid hh4
  have B4 := Lib.hid b4
  clear hh4 b4 hb4 a3 B3 HH3
  generalize hS : sha [97, 98, 99] = S at *
  have HS := Lib.hid hS
  have hSl : S.length = 32 := by rw [← hS]; simp [sha, dig, S8.list]
  have HI25 := Lib.hid (show (Tryd.prog.info? 25).map (·.size) = some (ArrU8 S).size by rw [show (ArrU8 S).size = 32 by simp [ArrU8, hSl]]; kernel_rfl)
  have HS32 := Lib.hid (show (ArrU8 S).size = 32 by simp [ArrU8, hSl])
  have hs4' : L < w4.heap.size := by omega
  clear hS hSl hs3 hs4
  go_wp2_with (first | (refine wpList_store_row rfl 25 (Operand.tmp 2) (Operand.tmp 21) rfl w4.heap.size (ArrU8 S) rfl rfl 25 _ (heap_alloc_new _ _) HI25.out HS32.out.symm (ArrU8_one _) ?_) | fail)
  rw [World.setRow_alloc_new]
  have b5 : Below L w (w4.alloc (.cells (ArrU8 S) 25)) := B4.out.alloc (by omega) _
  have hh5 := hash_below HH4.out ((Below.refl _ w4).alloc (Nat.le_refl _) (.cells (ArrU8 S) 25)) hs4'
  have hd5 : (w4.alloc (.cells (ArrU8 S) 25)).heap[w4.heap.size]? = some (.cells (ArrU8 S) 25 (0, 0)) := heap_alloc_new _ _
  have hs5 : w4.heap.size < (w4.alloc (.cells (ArrU8 S) 25)).heap.size := by simp
  generalize hD : w4.heap.size = D1 at *
  generalize w4.alloc (.cells (ArrU8 S) 25) = w5 at *
  clear hD B4 HH4
  refine (sum_any _ [] w5 (Bs.nil _) (HK.out.below b5 hL0) (by decide)).mono ?_
  rintro e w6 ⟨rfl, hb6⟩
  have b6 : Below L w w6 := b5.trans (hb6.mono (by omega))
  have hh6 := hash_below hh5 hb6 (by omega)
  have hd6 := (hb6.block D1 hs5).trans hd5
  have hs6 : D1 < w6.heap.size := Nat.lt_of_lt_of_le hs5 hb6.size
  have HH6 := Lib.hid hh6
  have B6 := Lib.hid b6
  have HD6 := Lib.hid hd6
  generalize hS0 : sha [] = S0 at *
  have HS0 := Lib.hid hS0
  have hSl0 : S0.length = 32 := by rw [← hS0]; simp [sha, dig, S8.list]
  have HI250 := Lib.hid (show (Tryd.prog.info? 25).map (·.size) = some (ArrU8 S0).size by rw [show (ArrU8 S0).size = 32 by simp [ArrU8, hSl0]]; kernel_rfl)
  have HS320 := Lib.hid (show (ArrU8 S0).size = 32 by simp [ArrU8, hSl0])
  clear hS0 hSl0 hh6 b6 hd6 hb6 b5 hh5 hd5 hs5 HI25 HS32
  go_wp2_with (first | (refine wpList_store_row rfl 25 (Operand.tmp 3) (Operand.tmp 22) rfl w6.heap.size (ArrU8 S0) rfl rfl 25 _ (heap_alloc_new _ _) HI250.out HS320.out.symm (ArrU8_one _) ?_) | fail)
  rw [World.setRow_alloc_new]
  have b7 : Below L w (w6.alloc (.cells (ArrU8 S0) 25)) := B6.out.alloc (by omega) _
  have hh7 := hash_below HH6.out ((Below.refl _ w6).alloc (Nat.le_refl _) (.cells (ArrU8 S0) 25)) (by omega)
  have hd7 : (w6.alloc (.cells (ArrU8 S0) 25)).heap[w6.heap.size]? = some (.cells (ArrU8 S0) 25 (0, 0)) := heap_alloc_new _ _
  have hd7' := (heap_alloc_old w6 (.cells (ArrU8 S0) 25) hs6).trans HD6.out
  have hs7 : (w6.alloc (.cells (ArrU8 S0) 25)).heap.size = w6.heap.size + 1 := by simp
  generalize hD : w6.heap.size = D2 at *
  generalize w6.alloc (.cells (ArrU8 S0) 25) = w7 at *
  have B7 := Lib.hid b7
  have HH7 := Lib.hid hh7
  have HD7 := Lib.hid hd7
  have HD7' := Lib.hid hd7'
  clear hD B6 HH6 HD6 b7 hh7 hd7 hd7' HI250 HS320
  have kc2 : ∀ (C : Array Value) (n c : Nat), (convert 22 22 (.slice (some ⟨D2 + 1, 0, none⟩) n c)).run Tryd.prog (w7.alloc (.cells C 5)) = .ok (.slice (some ⟨D2 + 1, 0, none⟩) n c) (w7.alloc (.cells C 5 (C.size, C.size + 1))) := fun C n c => by
    have := kc w7 C n c
    rw [hs7] at this
    exact this
  go_simp
  go_wp2_with fail
  have p8 : Pss ((w7.alloc (.cells #[.int .u8 97] 5 (1, 2))).alloc (.cells #[.slice (some ⟨D2 + 1, 0, none⟩) 1 1, .slice none 0 0] 22)) (.slice (some ⟨D2 + 1 + 1, 0, none⟩) 2 2) [[97], []] := by
    have l1 := lit_bs w7 5 [97] (1, 2) 1 1 rfl (Nat.le_refl _)
    rw [hs7] at l1
    have b1 : Below (w7.alloc (.cells #[.int .u8 97] 5 (1, 2))).heap.size (w7.alloc (.cells #[.int .u8 97] 5 (1, 2))) ((w7.alloc (.cells #[.int .u8 97] 5 (1, 2))).alloc (.cells #[.slice (some ⟨D2 + 1, 0, none⟩) 1 1, .slice none 0 0] 22)) := (Below.refl _ _).alloc (Nat.le_refl _) _
    have l2 := Bs.below l1 b1
    have hn := heap_alloc_new (w7.alloc (.cells #[.int .u8 97] 5 (1, 2))) (.cells #[.slice (some ⟨D2 + 1, 0, none⟩) 1 1, .slice none 0 0] 22)
    have e1 : (w7.alloc (.cells #[.int .u8 97] 5 (1, 2))).heap.size = D2 + 1 + 1 := by simp; exact hs7
    rw [e1] at hn
    refine ⟨some ⟨D2 + 1 + 1, 0, none⟩, 2, rfl, ⟨Nat.le_refl _, fun e => by cases e⟩, fun _ => ⟨D2 + 1 + 1, 0, rfl, by simp; omega, fun i hi => ?_⟩⟩
    rw [cell_of_row _ (D2 + 1 + 1) _ _ _ _ hn]
    match i, hi with
    | 0, _ => exact ⟨_, rfl, l2⟩
    | 1, _ => exact ⟨_, rfl, Bs.nil _⟩
  have b8 : Below L w ((w7.alloc (.cells #[.int .u8 97] 5 (1, 2))).alloc (.cells #[.slice (some ⟨D2 + 1, 0, none⟩) 1 1, .slice none 0 0] 22)) := (B7.out.alloc (by omega) _).alloc (by simp; omega) _
  have b78 : Below w7.heap.size w7 ((w7.alloc (.cells #[.int .u8 97] 5 (1, 2))).alloc (.cells #[.slice (some ⟨D2 + 1, 0, none⟩) 1 1, .slice none 0 0] 22)) := ((Below.refl _ _).alloc (Nat.le_refl _) _).alloc (by simp) _
  have hs8 : w7.heap.size < ((w7.alloc (.cells #[.int .u8 97] 5 (1, 2))).alloc (.cells #[.slice (some ⟨D2 + 1, 0, none⟩) 1 1, .slice none 0 0] 22)).heap.size := by simp only [World.size_alloc]; omega
  generalize ((w7.alloc (.cells #[.int .u8 97] 5 (1, 2))).alloc (.cells #[.slice (some ⟨D2 + 1, 0, none⟩) 1 1, .slice none 0 0] 22)) = w8 at *
  refine (join_any _ [[97], []] w8 p8 (by decide)).mono ?_
  rintro e w9 ⟨v9, rfl, hown9, hb9⟩
  have b9 := b8.trans (hb9.mono (by omega))
  have b79 := b78.trans (hb9.mono (by omega))
  have hs9 := b79.size
  rcases hown9.2 with ⟨_, h8⟩ | ⟨g9, cp9, cur9, rfl, hg9, hgh9, hle9, _, _, _⟩
  · exact absurd h8 (by decide)
  have hgl := (hown9.lt g9 rfl).2
  have m9 : ∀ i, i < 25 → w9.cell? ⟨g9, 0 + i, none⟩ = some (.int .u8 ((joined [[97], []])[i]?.getD 0)) := by
    intro i hi
    have hi2 : i < (joined [[97], []]).length := by rw [joined_len]; exact hi
    have := hown9.cells (g := g9) rfl i (.int .u8 ((joined [[97], []])[i]?.getD 0)) (by simp [hi2])
    rw [Addr.add_mid] at this
    exact this
  have M9 := Lib.hid m9
  have B9 := Lib.hid b9
  have B79 := Lib.hid b79
  clear hown9 hgh9 m9 b9 b79 hb9 p8 b8 b78 kc2 hs8
  go_wp2_with fail
  refine (split_any g9 0 25 cp9 (joined [[97], []]) w9 (by rw [joined_len]; rfl) (by decide) hle9 (by decide +kernel) (by decide) hgl M9.out).mono ?_
  rintro e w10 ⟨hb10, hp10⟩
  rw [split_fixed] at hp10
  obtain ⟨v10, rfl, hown10⟩ := hp10
  have b10 := B9.out.trans (hb10.mono (by omega))
  have b710 := B79.out.trans (hb10.mono (by omega))
  have hs10 := b710.size
  obtain ⟨xs10, ho10, hx10⟩ := hown10
  rcases ho10.2 with ⟨_, h8⟩ | ⟨g10, cp10, cur10, rfl, hg10, hgh10, hle10, _, _, _⟩
  · exact absurd h8 (by decide)
  obtain ⟨x0, hx0, hx0own, _⟩ := hx10 0 (by decide)
  have c0 := ho10.cells (g := g10) rfl 0 x0 hx0
  have hgl10 := (ho10.lt g10 rfl).2
  have bs0 : Bs w10 x0 [97] := Bs_of_own hx0own
  have BS0 := Lib.hid bs0
  have C0 := Lib.hid c0
  have B10 := Lib.hid b10
  have B710 := Lib.hid b710
  clear ho10 hx10 hgh10 hx0 hx0own c0 bs0 b10 b710 hb10 M9 B9 B79
  have hmk : ∀ u : World, (Instr.makeSlice 22 (.int .i64 9) (.int .i64 9)).run Tryd.prog u = .ok (.slice (some ⟨u.heap.size, 0, none⟩) 9 9) (u.alloc (.cells #[.int .u8 0, .int .u8 0, .int .u8 0, .int .u8 0, .int .u8 0, .int .u8 0, .int .u8 0, .int .u8 0, .int .u8 0] 5)) := fun u => by kernel_rfl
  go_wp2_with fail
  have m11 : ∀ i, i < 9 → (w10.alloc (.cells ((zeros 9).map (Value.int .u8)).toArray 5)).cell? ⟨w10.heap.size, 0 + i, none⟩ = some (.int .u8 ((zeros 9)[i]?.getD 0)) := by
    intro i hi
    rw [cell_of_row _ w10.heap.size _ _ _ _ (heap_alloc_new _ _), Nat.zero_add]
    have : ((zeros 9).map (Value.int .u8)).toArray[i]? = some (.int .u8 ((zeros 9)[i]?.getD 0)) := ArrU8_get (zeros 9) i hi
    exact this
  change Calls _ _ _ (w10.alloc (.cells ((zeros 9).map (Value.int .u8)).toArray 5)) _
  refine (split_any w10.heap.size 0 9 9 (zeros 9) (w10.alloc (.cells ((zeros 9).map (Value.int .u8)).toArray 5)) rfl (by decide) (Nat.le_refl _) (by decide +kernel) (by decide) (by simp) m11).mono ?_
  rintro e w12 ⟨hb12, hp12⟩
  rw [split_nine] at hp12
  obtain rfl := hp12
  have b1012 : Below w10.heap.size w10 w12 := ((Below.refl _ _).alloc (Nat.le_refl _) _).trans (hb12.mono (by simp))
  have b12 := B10.out.trans (b1012.mono (by omega))
  have fx10 : Fx D1 D2 g10 S S0 x0 w10 := ⟨(B710.out.block D1 (by omega)).trans HD7'.out, (B710.out.block D2 (by omega)).trans HD7.out, C0.out, BS0.out, by omega, by omega, hgl10⟩
  have fx12 := fx10.below b1012
  have hh12 := hash_below (hash_below HH7.out B710.out (by omega)) b1012 (by omega)
  obtain ⟨xa, xc, hx0f, _⟩ := BS0.out
  subst hx0f
  rw [← HS.out, ← HS0.out] at fx12
  have FX := Lib.hid fx12
  have HH12 := Lib.hid hh12
  have B12 := Lib.hid b12
  have hL12 : L < w12.heap.size := by have := b1012.size; omega
  have q1 : ∀ u : World, (eql25 (.agg (ArrU8 (sha [97, 98, 99]))) (.agg (ArrU8 (sha [97, 98, 99])))).run Tryd.prog u = .ok (.bool true) u := fun u => by
    rw [run_eql25 u _ _ (by simp [sha, dig, S8.list]) (by simp [sha, dig, S8.list])]; simp
  have q2 : ∀ u : World, (eql25 (.agg (ArrU8 (sha (zeros 8)))) (.agg (ArrU8 (sha (zeros 8))))).run Tryd.prog u = .ok (.bool true) u := fun u => by
    rw [run_eql25 u _ _ (by simp [sha, dig, S8.list]) (by simp [sha, dig, S8.list])]; simp
  rw [HS.out] at q1
  obtain ⟨k1, k2, k3, k4, k5, k6, k7, k8⟩ := fx12.facts
  rw [HS.out] at k7
  have sb : (str [97]).toList = [97] := by decide +kernel
  have sb2 : (⟨#[97]⟩ : ByteArray).toList = [97] := by decide +kernel
  have hmk8 : ∀ u : World, (Instr.makeSlice 22 (.int .i64 8) (.int .i64 8)).run Tryd.prog u = .ok (.slice (some ⟨u.heap.size, 0, none⟩) 8 8) (u.alloc (.cells ((zeros 8).map (Value.int .u8)).toArray 5)) := fun u => by kernel_rfl
  clear fx10 fx12 hh12 b12 b1012 hb12 m11 hmk kc B710 B10 BS0 C0 HD7 HD7' HH7 B7 HS0 hgl10 hs10 hg10 hle10 hgl hg9 hle9 hs9 hs7 hs6
  go_wp2_with fail
  have pnil : ∀ u : World, Pss u (.slice none 0 0) [] := fun u => ⟨none, 0, rfl, ⟨Nat.le_refl _, fun _ => rfl⟩, fun h => absurd h (by decide)⟩
  have PN := Lib.hid pnil
  have JN := Lib.hid joined_nil
  clear pnil
  have c19 : ∀ u : World, HashAt 60 u L [97, 98, 99] → Below L w u → Calls Tryd.prog 19 #[.pointer (some ⟨L, 0, none⟩)] u fun e w' => e = .returned (.agg (ArrU8 S)) ∧ Below u.heap.size u w' := fun u h1 h2 => by
    have := hashSum_any L [97, 98, 99] u h1 (HK.out.below h2 hL0).1 (HK.out.below h2 hL0).2 (by decide)
    rw [HS.out] at this
    exact this
  have c15 : ∀ u : World, Below L w u → Calls Tryd.prog 15 #[.slice none 0 0] u fun e w' => e = .returned (.agg (ArrU8 (sha (zeros 8)))) ∧ Below u.heap.size u w' := fun u h2 => by
    have := of_any (.slice none 0 0) [] u (PN.out u) (HK.out.below h2 hL0) (by decide)
    rw [JN.out] at this
    exact this
  have c8 : ∀ u : World, Below L w u → L < u.heap.size → Calls Tryd.prog 8 #[.slice (some ⟨u.heap.size, 0, none⟩) 8 8] (u.alloc (.cells ((zeros 8).map (Value.int .u8)).toArray 5)) fun e w' => e = .returned (.agg (ArrU8 (sha (zeros 8)))) ∧ Below u.heap.size u w' := fun u h2 h3 => by
    refine (sum_any _ (zeros 8) (u.alloc (.cells ((zeros 8).map (Value.int .u8)).toArray 5)) (lit_bs u 5 (zeros 8) (0, 0) 8 8 rfl (Nat.le_refl _)) (HK.out.below (h2.alloc (Nat.le_of_lt h3) _) hL0) (by decide)).mono ?_
    rintro e w' ⟨he, hb⟩
    exact ⟨he, ((Below.refl _ _).alloc (Nat.le_refl _) _).trans (hb.mono (by simp))⟩
  have C19 := Lib.hid c19
  have C15 := Lib.hid c15
  have c8b : ∀ u u' : World, Below L w u' → L < u'.heap.size → Below (u.alloc (.cells ((zeros 8).map (Value.int .u8)).toArray 5)).heap.size (u.alloc (.cells ((zeros 8).map (Value.int .u8)).toArray 5)) u' → Calls Tryd.prog 8 #[.slice (some ⟨u.heap.size, 0, none⟩) 8 8] u' fun e w' => e = .returned (.agg (ArrU8 (sha (zeros 8)))) ∧ Below u'.heap.size u' w' := fun u u' h2 _ h3 =>
    sum_any _ (zeros 8) u' ((lit_bs u 5 (zeros 8) (0, 0) 8 8 rfl (Nat.le_refl _)).below h3) (HK.out.below h2 hL0) (by decide)
  have C8 := Lib.hid c8
  have C8b := Lib.hid c8b
  have HD12 := Lib.hid (show HashAt 60 w12.drew L [97, 98, 99] from HH12.out)
  have BD12 := Lib.hid (show Below L w w12.drew from B12.out.drew)
  have FD12 := Lib.hid (show Fx D1 D2 g10 (sha [97, 98, 99]) (sha []) (.slice xa 1 xc) w12.drew from ⟨FX.out.d1, FX.out.d2, FX.out.c0, FX.out.bs, FX.out.lt⟩)
  clear c19 c15 c8 c8b HH12 B12 FX PN JN
  have hsf : ∀ u : World, Below L w u → L < u.heap.size → Fx D1 D2 g10 (sha [97, 98, 99]) (sha []) (.slice xa 1 xc) u → (Below L w u ∧ L < u.heap.size ∧ Fx D1 D2 g10 (sha [97, 98, 99]) (sha []) (.slice xa 1 xc) u ∧ u.cell? ⟨D1, 0, none⟩ = some (.int .u8 186) ∧ u.cell? ⟨D1, 31, none⟩ = some (.int .u8 173) ∧ u.cell? ⟨D2, 0, none⟩ = some (.int .u8 227) ∧ u.cell? ⟨D2, 31, none⟩ = some (.int .u8 85) ∧ u.cell? ⟨g10, 0, none⟩ = some (.slice xa 1 xc) ∧ u.rangeAt D1 0 (S.map (Value.int .u8)) ∧ (convC (.slice xa 1 xc)).run Tryd.prog u = .ok (.string (str [97])) u) := fun u h1 h2 h3 => by
    have h4 := h3.facts
    have hr : u.rangeAt D1 0 (S.map (Value.int .u8)) := by
      rw [← HS.out]
      intro j v hv
      rw [Nat.zero_add, cell_of_row u D1 j _ _ _ h3.d1]
      simpa [ArrU8] using hv
    exact ⟨h1, h2, h3, h4.1, h4.2.1, h4.2.2.1, h4.2.2.2.1, h4.2.2.2.2.1, hr, h4.2.2.2.2.2.2.2⟩
  have HSF := Lib.hid hsf
  have hsb : ∀ u u' : World, (Below L w u ∧ L < u.heap.size ∧ Fx D1 D2 g10 (sha [97, 98, 99]) (sha []) (.slice xa 1 xc) u ∧ u.cell? ⟨D1, 0, none⟩ = some (.int .u8 186) ∧ u.cell? ⟨D1, 31, none⟩ = some (.int .u8 173) ∧ u.cell? ⟨D2, 0, none⟩ = some (.int .u8 227) ∧ u.cell? ⟨D2, 31, none⟩ = some (.int .u8 85) ∧ u.cell? ⟨g10, 0, none⟩ = some (.slice xa 1 xc) ∧ u.rangeAt D1 0 (S.map (Value.int .u8)) ∧ (convC (.slice xa 1 xc)).run Tryd.prog u = .ok (.string (str [97])) u) → Below u.heap.size u u' → (Below L w u' ∧ L < u'.heap.size ∧ Fx D1 D2 g10 (sha [97, 98, 99]) (sha []) (.slice xa 1 xc) u' ∧ u'.cell? ⟨D1, 0, none⟩ = some (.int .u8 186) ∧ u'.cell? ⟨D1, 31, none⟩ = some (.int .u8 173) ∧ u'.cell? ⟨D2, 0, none⟩ = some (.int .u8 227) ∧ u'.cell? ⟨D2, 31, none⟩ = some (.int .u8 85) ∧ u'.cell? ⟨g10, 0, none⟩ = some (.slice xa 1 xc) ∧ u'.rangeAt D1 0 (S.map (Value.int .u8)) ∧ (convC (.slice xa 1 xc)).run Tryd.prog u' = .ok (.string (str [97])) u') := fun u u' h hb =>
    HSF.out u' (h.1.trans (hb.mono (Nat.le_of_lt h.2.1))) (Nat.lt_of_lt_of_le h.2.1 hb.size) (h.2.2.1.below hb)
  have HSB := Lib.hid hsb
  have hS12 := HSF.out w12.drew BD12.out hL12 FD12.out
  have HS12 := Lib.hid hS12
  clear hsf hsb hS12 k1 k2 k3 k4 k5 k6 k7 k8
  have hu25 := Tryd.underlying25
  have hi25 : (Tryd.prog.info? 25).map (·.size) = some (S.map (Value.int .u8)).length := by rw [List.length_map, ← HS.out, show (sha [97, 98, 99]).length = 32 by simp [sha, dig, S8.list]]; kernel_rfl
  have hone : ∀ v ∈ S.map (Value.int .u8), v.oneCell' = true := by intro v hv; obtain ⟨x, _, rfl⟩ := List.mem_map.1 hv; rfl
  have q1' : ∀ u : World, (eql25 (.agg (ArrU8 S)) (.agg (S.map (Value.int .u8)).toArray)).run Tryd.prog u = .ok (.bool true) u := q1
  clear q1
  go_region_held3 (fun u => Below L w u ∧ L < u.heap.size ∧ Fx D1 D2 g10 (sha [97, 98, 99]) (sha []) (.slice xa 1 xc) u ∧ u.cell? ⟨D1, 0, none⟩ = some (.int .u8 186) ∧ u.cell? ⟨D1, 31, none⟩ = some (.int .u8 173) ∧ u.cell? ⟨D2, 0, none⟩ = some (.int .u8 227) ∧ u.cell? ⟨D2, 31, none⟩ = some (.int .u8 85) ∧ u.cell? ⟨g10, 0, none⟩ = some (.slice xa 1 xc) ∧ u.rangeAt D1 0 (S.map (Value.int .u8)) ∧ (convC (.slice xa 1 xc)).run Tryd.prog u = .ok (.string (str [97])) u)
    (first | with_reducible exact HS12.out | with_reducible exact HS13.out | with_reducible exact HS14.out | with_reducible exact HS15.out | with_reducible exact HSB.out _ _ HS13.out ((Below.refl _ _).alloc (Nat.le_refl _) _) | with_reducible exact HSB.out _ _ HS14.out ((Below.refl _ _).alloc (Nat.le_refl _) _))
    (first
    | (go_at_call 19; (with_reducible refine (C19.out w12.drew HD12.out BD12.out).mono ?_); rintro e w13 ⟨rfl, hb13⟩; have HS13 := Lib.hid (HSB.out _ _ HS12.out hb13); clear hb13)
    | (go_at_call 15; (with_reducible refine (C15.out w13 HS13.out.1).mono ?_); rintro e w14 ⟨rfl, hb14⟩; have HS14 := Lib.hid (HSB.out _ _ HS13.out hb14); clear hb14)
    | (go_at_call 8; (with_reducible refine (C8.out w14 HS14.out.1 HS14.out.2.1).mono ?_); rintro e w15 ⟨rfl, hb15⟩; have HS15 := Lib.hid (HSB.out _ _ HS14.out hb15); clear hb15)
    | (go_at_call 15; (with_reducible refine (C15.out (w13.alloc (.cells ((zeros 8).map (Value.int .u8)).toArray 5)) (HSB.out w13 (w13.alloc (.cells ((zeros 8).map (Value.int .u8)).toArray 5)) HS13.out ((Below.refl _ _).alloc (Nat.le_refl _) _)).1).mono ?_); rintro e w14 ⟨rfl, hb14⟩; have HS14 := Lib.hid (HSB.out _ _ (HSB.out w13 (w13.alloc (.cells ((zeros 8).map (Value.int .u8)).toArray 5)) HS13.out ((Below.refl _ _).alloc (Nat.le_refl _) _)) hb14); have HZ := Lib.hid hb14; clear hb14)
    | (go_at_call 8; (with_reducible refine (C8b.out w13 w14 HS14.out.1 HS14.out.2.1 HZ.out).mono ?_); rintro e w15 ⟨rfl, hb15⟩; have HS15 := Lib.hid (HSB.out _ _ HS14.out hb15); clear hb15))
  all_goals go_wp2
  all_goals go_ret
  all_goals exact ⟨rfl, by rw [HLL.out]; exact HS15.out.1⟩
end Go.Proofs.YtboadlhpanpljaaDoor
