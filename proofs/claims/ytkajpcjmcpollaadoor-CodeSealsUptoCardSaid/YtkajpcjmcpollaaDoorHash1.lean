import Derived.Test.YtkajpcjmcpollaaDoorSha1
import Derived.Test.YtkajpcjmcpollaaDoorHash0
import Derived.WalkKit
import Derived.ProofKit
import Derived.BigQuiet
import Derived.Deep.QuietTactic
import Derived.WalkSpells
import Derived.WalkLawsBesides
import Derived.Lib.Hide
import Derived.Deep.MidRow
import Derived.Deep.WholeRow
import Derived.BigFrame
import Derived.Deep.RegionWith
import Derived.Deep.RegionHeld3
import Derived.Maps.RangeWalk
import Derived.Laws.CopyOwn
import Derived.StillTailTactics
namespace Go.Proofs.YtkajpcjmcpollaaDoor
open Go.RowKit
def loadAt58 (x : Value) : Sem Value := Instr.loadAt 80 x
theorem loadAt58_eq (x : Value) : Instr.loadAt 80 x = loadAt58 x := rfl
theorem run_loadAt58 (w : World) (b o : Nat) (h : hasCells w b o 64) : (loadAt58 (.pointer (some ⟨b, o, none⟩))).run Tryd.prog w = .ok (.agg (cellsAt w b o 64)) w :=
  run_loadAt_mid (P := Tryd.prog) w b o 80 _ _ (range_cellsAt h) Tryd.underlying80 rfl (by show (Tryd.prog.info? 80).map (·.size) = some (cellsAt w b o 64).toList.length; rw [Array.length_toList, cellsAt_size]; kernel_rfl)
attribute [local go_sem ↓] loadAt58_eq
attribute [local go_sem] run_loadAt58
set_option maxRecDepth 100000 in
set_option maxHeartbeats 800000 in
theorem write_any (H : Nat) (l m : List Int) (bb off cap : Nat) (w : World) (hH : HashAt 82 w H l) (hne : bb ≠ H) (hbb : bb < w.heap.size) (hK0 : 0 < H)
    (hK : ∀ t, t < 64 → w.cell? ⟨0, t, none⟩ = some (.int .u32 (Kt[t]?.getD 0)))
    (hcap : m.length ≤ cap) (hlen : l.length + m.length < 1152921504606846976)
    (hc : ∀ i, i < m.length → w.cell? ⟨bb, off + i, none⟩ = some (.int .u8 (m[i]?.getD 0))) :
    Calls Tryd.prog 45 #[.pointer (some ⟨H, 0, none⟩), .slice (some ⟨bb, off, none⟩) m.length cap] w fun e w' => e = .returned (.tuple #[]) ∧ HashAt 82 w' H (l ++ m) ∧ w.grownBy w' (some H) := by
  have HH := Lib.hid hH
  have HKK := Lib.hid hK
  have HC := Lib.hid hc
  clear hH hK hc
  generalize hm : m.length = len at *
  have HM := Lib.hid hm
  clear hm
  go_enter Tryd.func45, Tryd.ntmps45
  go_wp2_with fail
  go_loopw [1] (fun v1 wr => ∃ (p : Nat) (av : Option Addr), p ≤ len ∧ v1 = .slice av (len - p) (cap - p) ∧ (p < len → av = some ⟨bb, off + p, none⟩) ∧ HashAt 82 wr H (l ++ m.take p) ∧ w.grownBy wr (some H))
    (fun v1 _ => lenV v1)
  case atStart => exact ⟨0, some ⟨bb, off, none⟩, by omega, by simp, fun _ => by simp, by simpa using HH.out, World.grownBy.refl _ _⟩
  case round =>
    obtain ⟨p, av, hp, rfl, hav, hHr, hg⟩ := hrel
    by_cases hlt : p < len
    · obtain rfl := hav hlt
      obtain ⟨bl, hcell, hbl, htk⟩ := hHr
      clear hav
      generalize hL : l ++ m.take p = L at hcell htk
      have hLn : L.length = l.length + p := by rw [← hL, List.length_append, List.length_take, HM.out]; omega
      have c72 := (cell_of_row wr H 72 _ _ _ hcell).trans (hcells_n _ bl L.length hbl)
      have f72 := frozen_of_row wr H 72 _ _ hcell
      have HCELL := Lib.hid hcell
      have HTK := Lib.hid htk
      have HLN := Lib.hid hLn
      have HL := Lib.hid hL
      have HG := Lib.hid hg
      have hb2 : L.length < 1152921504606846976 := by omega
      obtain ⟨u, hu⟩ : ∃ u : Nat, u = L.length % 64 := ⟨_, rfl⟩
      have eu : (L.length : Int) % 64 = u := by omega
      have u64 : u < 64 := by omega
      have ua : u ≤ 64 := by omega
      have ub : (u : Int) ≤ 64 := by omega
      have HU := Lib.hid hu
      clear hcell htk hLn hL hg hu
      obtain ⟨X, hX⟩ : ∃ X, X = (m.drop p).take (64 - u) := ⟨_, rfl⟩
      have hXl : X.length = Nat.min (len - p) (64 - u) := by rw [hX, List.length_take, List.length_drop, HM.out, Nat.min_comm]
      have hXs : ∀ j v, (X.map (Value.int .u8))[j]? = some v → wr.cell? ((⟨bb, off + p, none⟩ : Addr).add j) = some v := by
        intro j v hv
        rw [List.getElem?_map, Option.map_eq_some_iff] at hv
        obtain ⟨x, hx, rfl⟩ := hv
        have hj : j < X.length := (List.getElem?_eq_some_iff.1 hx).1
        have hj2 : p + j < len := by have h9 : Nat.min (len - p) (64 - u) ≤ len - p := Nat.min_le_left _ _; omega
        have e1 := HC.out (p + j) hj2
        rw [hX, List.getElem?_take, if_pos (by have h9 : Nat.min (len - p) (64 - u) ≤ 64 - u := Nat.min_le_right _ _; omega), List.getElem?_drop] at hx
        rw [hx] at e1
        have e2 : wr.cell? ⟨bb, off + (p + j), none⟩ = w.cell? ⟨bb, off + (p + j), none⟩ := World.cell?_of_block (w := w) (HG.out.block bb hbb (by simpa using hne))
        rw [Addr.add_mid, Nat.add_assoc, e2]
        exact e1
      have hXn : ∀ v ∈ X.map (Value.int .u8), v.oneCell' = true := by intro v hv; obtain ⟨x, _, rfl⟩ := List.mem_map.1 hv; rfl
      have hXf : u + X.length ≤ 64 := by have h9 : Nat.min (len - p) (64 - u) ≤ 64 - u := Nat.min_le_right _ _; omega
      have xpos : 0 < X.length := by rw [hXl]; show 0 < min (len - p) (64 - u); omega
      have X1 := Lib.hid hX
      have X2 := Lib.hid hXl
      have X3 := Lib.hid hXs
      have X4 := Lib.hid hXn
      clear hX hXl hXs hXn
      have hbl2 : (splice bl u X).length = 64 := by rw [splice_len _ _ _ (by omega)]; exact hbl
      by_cases hfull : u + X.length = 64
      · have tb : ((u : Int) + (X.length : Int) == 64) = true := by rw [beq_iff_eq]; omega
        have HF := Lib.hid hfull
        clear hfull
        have xle : X.length ≤ len - p := by rw [X2.out]; exact Nat.min_le_left _ _
        have xcap : X.length ≤ cap - p := by omega
        obtain ⟨av2, hav, hav2⟩ : ∃ A : Option Addr, (if cap - p = X.length then some (⟨bb, off + p, none⟩ : Addr) else some ⟨bb, off + p + X.length, none⟩) = A ∧ Hid (p + X.length < len → A = some ⟨bb, off + (p + X.length), none⟩) := by
          by_cases h : cap - p = X.length
          · exact ⟨some ⟨bb, off + p, none⟩, by simp [h], fun h' => by omega⟩
          · exact ⟨some ⟨bb, off + p + X.length, none⟩, by simp [h], fun _ => by rw [Nat.add_assoc]⟩
        go_wp2_with (first | (refine wpList_copy_row rfl (Operand.tmp 19) (Operand.tmp 20) 25 25 rfl 5 Tryd.underlying25 (by kernel_rfl) H (8 + u) (64 - u) (64 - u) (len - p) (cap - p) ⟨bb, off + p, none⟩ rfl rfl _ (hcells (blk L (L.length / 64)) (splice bl u X) L.length) 82 HCELL.out (X.map (Value.int .u8)) (by rw [List.length_map, X2.out]) X3.out (by rw [hcells_len _ _ _ hbl, List.length_map]; omega) X4.out (hcells_splice _ _ _ hbl _ _ hXf) ?_; intro w1 h1 g1; have c73 := (cell_of_row w1 H 72 _ _ _ h1).trans (hcells_n _ _ L.length hbl2); have f73 := frozen_of_row w1 H 72 _ _ h1; have H1 := Lib.hid h1; have G1 := Lib.hid g1; clear h1 g1) | fail)
        have h2 : (w1.setCell ⟨H, 72, none⟩ (.int .u64 ((L.length : Int) + (X.length : Int)))).heap[H]? = some (.cells (hcells (blk L (L.length / 64)) (splice bl u X) (L.length + X.length)).toArray 82 (0, 0)) := by
          refine (heap_setCell_same _ _ _ _ _ _ H1.out).trans ?_
          rw [← Int.natCast_add, hcells_setn _ _ L.length _ hbl2]
        have g2 : w.grownBy (w1.setCell ⟨H, 72, none⟩ (.int .u64 ((L.length : Int) + (X.length : Int)))) (some H) := grownBy_trans (grownBy_trans HG.out G1.out) (grownBy_setCell _ _ _)
        generalize (w1.setCell ⟨H, 72, none⟩ (.int .u64 ((L.length : Int) + (X.length : Int)))) = w2 at *
        clear c73 f73 H1 G1
        obtain ⟨r0, r8, rt⟩ := range_of_hcells h2 hbl2
        have hHb : H < w2.heap.size := by rcases Nat.lt_or_ge H w2.heap.size with h | h; exact h; rw [Array.getElem?_eq_none h] at h2; cases h2
        have cC : ∀ wx : World, w.grownBy wx (some H) → wx.heap[H]? = some (.cells (hcells (blk L (L.length / 64)) (splice bl u X) (L.length + X.length)).toArray 82 (0, 0)) →
            Calls Tryd.prog 51 #[.agg ((blk L (L.length / 64)).list.map (Value.int .u32)).toArray, .agg ((splice bl u X).map (Value.int .u8)).toArray] wx fun e w' =>
              e = .returned (.agg ((compress (blk L (L.length / 64)) (splice bl u X)).list.map (Value.int .u32)).toArray) ∧ w.grownBy w' (some H) ∧ w'.heap[H]? = some (.cells (hcells (blk L (L.length / 64)) (splice bl u X) (L.length + X.length)).toArray 82 (0, 0)) := by
          intro wx hgx hhx
          have h0s : 0 < w.heap.size := by omega
          have hHx : H < wx.heap.size := by rcases Nat.lt_or_ge H wx.heap.size with h | h; exact h; rw [Array.getElem?_eq_none h] at hhx; cases hhx
          refine (compressed_any (blk L (L.length / 64)) (splice bl u X) wx hbl2 (by have := hgx.size; omega) (fun t ht => ?_)).mono ?_
          · exact (World.cell?_of_block (w := w) (hgx.block 0 h0s (by simp; omega))).trans (HKK.out t ht)
          · rintro e w' ⟨hb, he⟩
            exact ⟨he, grownBy_trans hgx (grownBy_of_below hb _), (hb.block H hHx).trans hhx⟩
        have hu57 := Tryd.underlying79
        have hu58 := Tryd.underlying80
        have hi57 : (Tryd.prog.info? 79).map (·.size) = some ((blk L (L.length / 64)).list.map (Value.int .u32)).length := by kernel_rfl
        have hi58 : (Tryd.prog.info? 80).map (·.size) = some ((splice bl u X).map (Value.int .u8)).length := by rw [List.length_map, hbl2]; kernel_rfl
        have h1x : ∀ v ∈ ((compress (blk L (L.length / 64)) (splice bl u X)).list.map (Value.int .u32)), v.oneCell' = true := by intro v hv; obtain ⟨x, _, rfl⟩ := List.mem_map.1 hv; rfl
        generalize hNS : compress (blk L (L.length / 64)) (splice bl u X) = ns at *
        generalize hOS : blk L (L.length / 64) = os at *
        generalize hBL : splice bl u X = bl2 at *
        have HNS := Lib.hid hNS
        have HOS := Lib.hid hOS
        have HBL := Lib.hid hBL
        clear hNS hOS hBL xcap hav HCELL
        obtain ⟨sa, sb, sc, sd, se, sf, sg, sh⟩ := os
        obtain ⟨na, nb, nc, nd, ne, nf, ng, nh⟩ := ns
        clear r0 rt h1x
        have cC2 := cC
        simp only [S8.list, List.map_cons, List.map_nil] at cC2
        clear cC
        have CC := Lib.hid cC2
        clear cC2
        have hS : ∀ wx : World, w.grownBy wx (some H) → wx.heap[H]? = some (.cells (hcells ⟨sa, sb, sc, sd, se, sf, sg, sh⟩ bl2 (L.length + X.length)).toArray 82 (0, 0)) →
            w.grownBy wx (some H) ∧ wx.heap[H]? = some (.cells (hcells ⟨sa, sb, sc, sd, se, sf, sg, sh⟩ bl2 (L.length + X.length)).toArray 82 (0, 0)) ∧ wx.rangeAt H 8 (bl2.map (Value.int .u8)) ∧ wx.cell? ⟨H, 0, none⟩ = some (.int .u32 sa) ∧ wx.cell? ⟨H, 1, none⟩ = some (.int .u32 sb) ∧ wx.cell? ⟨H, 2, none⟩ = some (.int .u32 sc) ∧ wx.cell? ⟨H, 3, none⟩ = some (.int .u32 sd) ∧ wx.cell? ⟨H, 4, none⟩ = some (.int .u32 se) ∧ wx.cell? ⟨H, 5, none⟩ = some (.int .u32 sf) ∧ wx.cell? ⟨H, 6, none⟩ = some (.int .u32 sg) ∧ wx.cell? ⟨H, 7, none⟩ = some (.int .u32 sh) ∧ wx.frozen? ⟨H, 0, none⟩ = false ∧ wx.frozen? ⟨H, 1, none⟩ = false ∧ wx.frozen? ⟨H, 2, none⟩ = false ∧ wx.frozen? ⟨H, 3, none⟩ = false ∧ wx.frozen? ⟨H, 4, none⟩ = false ∧ wx.frozen? ⟨H, 5, none⟩ = false ∧ wx.frozen? ⟨H, 6, none⟩ = false ∧ wx.frozen? ⟨H, 7, none⟩ = false := fun wx hg hh =>
          ⟨hg, hh, (range_of_hcells hh hbl2).2.1, cell_of_row wx H 0 _ _ _ hh, cell_of_row wx H 1 _ _ _ hh, cell_of_row wx H 2 _ _ _ hh, cell_of_row wx H 3 _ _ _ hh, cell_of_row wx H 4 _ _ _ hh, cell_of_row wx H 5 _ _ _ hh, cell_of_row wx H 6 _ _ _ hh, cell_of_row wx H 7 _ _ _ hh,
            frozen_of_row wx H 0 _ _ hh, frozen_of_row wx H 1 _ _ hh, frozen_of_row wx H 2 _ _ hh, frozen_of_row wx H 3 _ _ hh, frozen_of_row wx H 4 _ _ hh, frozen_of_row wx H 5 _ _ hh, frozen_of_row wx H 6 _ _ hh, frozen_of_row wx H 7 _ _ hh⟩
        have HS := Lib.hid hS
        clear hS
        have G2 := Lib.hid (show w.grownBy w2.drew (some H) from ⟨g2.os, g2.tape, g2.output, g2.size, g2.block⟩)
        have H2 := Lib.hid (show w2.drew.heap[H]? = some (.cells (hcells ⟨sa, sb, sc, sd, se, sf, sg, sh⟩ bl2 (L.length + X.length)).toArray 82 (0, 0)) from h2)
        obtain ⟨_, _, hr8, c0, c1, c2, c3, c4, c5, c6, c7, _, _, _, _, _, _, _, _⟩ := HS.out _ G2.out H2.out
        have hha : hasCells w2.drew H 8 64 := hasCells_of_range hr8 (by rw [List.length_map]; exact hbl2)
        have hca : cellsAt w2.drew H 8 64 = (bl2.map (Value.int .u8)).toArray := cellsAt_of_range hr8 (by rw [List.length_map]; exact hbl2)
        clear g2 h2 r8 hu57 hi57 hu58 hi58 hr8
        go_region_with (go_at_call 51; (with_reducible refine (CC.out w2.drew G2.out H2.out).mono ?_); rintro e w3 ⟨rfl, g3, h3⟩; clear hha hca c0 c1 c2 c3 c4 c5 c6 c7; obtain ⟨_, _, _, c0, c1, c2, c3, c4, c5, c6, c7, f0, f1, f2, f3, f4, f5, f6, f7⟩ := HS.out _ g3 h3; have G3 := Lib.hid g3; have H3 := Lib.hid h3; clear g3 h3)
        all_goals
          go_wp2_with fail
          go_roundw
          case rel =>
            have hs := hash_step L bl X hbl HTK.out (by rw [← HU.out]; omega)
            rw [← HU.out] at hs
            have h5 := hcells_set_state H3.out ⟨na, nb, nc, nd, ne, nf, ng, nh⟩
            have e1 := take_add_piece l m L X p (64 - u) HL.out X1.out
            refine ⟨p + X.length, av2, by omega, by rw [Nat.sub_sub, Nat.sub_sub], hav2.out, ?_, ?_⟩
            · rw [e1]
              have e2 := (hs.2.1 HF.out).1
              have e3 := (hs.2.1 HF.out).2
              rw [HOS.out, HBL.out, HNS.out] at e2
              rw [HBL.out] at e3
              refine ⟨bl2, ?_, hbl2, e3⟩
              rw [← e2, List.length_append]
              exact h5
            · exact grownBy_trans G3.out (grownBy_setCells H ((⟨na, nb, nc, nd, ne, nf, ng, nh⟩ : S8).list.map (Value.int .u32)) 0 w3)
          case measure => simp [lenV]; omega
      · have tb : ((u : Int) + (X.length : Int) == 64) = false := by rw [beq_eq_false_iff_ne]; omega
        have hlt64 : u + X.length < 64 := by omega
        have HF := Lib.hid hlt64
        clear hfull hlt64
        have xle : X.length ≤ len - p := by rw [X2.out]; exact Nat.min_le_left _ _
        have xcap : X.length ≤ cap - p := by omega
        obtain ⟨av2, hav, hav2⟩ : ∃ A : Option Addr, (if cap - p = X.length then some (⟨bb, off + p, none⟩ : Addr) else some ⟨bb, off + p + X.length, none⟩) = A ∧ Hid (p + X.length < len → A = some ⟨bb, off + (p + X.length), none⟩) := by
          by_cases h : cap - p = X.length
          · exact ⟨some ⟨bb, off + p, none⟩, by simp [h], fun h' => by omega⟩
          · exact ⟨some ⟨bb, off + p + X.length, none⟩, by simp [h], fun _ => by rw [Nat.add_assoc]⟩
        go_wp2_with (first | (refine wpList_copy_row rfl (Operand.tmp 19) (Operand.tmp 20) 25 25 rfl 5 Tryd.underlying25 (by kernel_rfl) H (8 + u) (64 - u) (64 - u) (len - p) (cap - p) ⟨bb, off + p, none⟩ rfl rfl _ (hcells (blk L (L.length / 64)) (splice bl u X) L.length) 82 HCELL.out (X.map (Value.int .u8)) (by rw [List.length_map, X2.out]) X3.out (by rw [hcells_len _ _ _ hbl, List.length_map]; omega) X4.out (hcells_splice _ _ _ hbl _ _ hXf) ?_; intro w1 h1 g1; have c73 := (cell_of_row w1 H 72 _ _ _ h1).trans (hcells_n _ _ L.length hbl2); have f73 := frozen_of_row w1 H 72 _ _ h1; have H1 := Lib.hid h1; have G1 := Lib.hid g1; clear h1 g1) | fail)
        have h2 : (w1.setCell ⟨H, 72, none⟩ (.int .u64 ((L.length : Int) + (X.length : Int)))).heap[H]? = some (.cells (hcells (blk L (L.length / 64)) (splice bl u X) (L.length + X.length)).toArray 82 (0, 0)) := by
          refine (heap_setCell_same _ _ _ _ _ _ H1.out).trans ?_
          rw [← Int.natCast_add, hcells_setn _ _ L.length _ hbl2]
        have g2 : w.grownBy (w1.setCell ⟨H, 72, none⟩ (.int .u64 ((L.length : Int) + (X.length : Int)))) (some H) := grownBy_trans (grownBy_trans HG.out G1.out) (grownBy_setCell _ _ _)
        go_roundw
        case rel =>
          have hs := hash_step L bl X hbl HTK.out (by rw [← HU.out]; omega)
          rw [← HU.out] at hs
          have e1 := take_add_piece l m L X p (64 - u) HL.out X1.out
          refine ⟨p + X.length, av2, by omega, by rw [Nat.sub_sub, Nat.sub_sub], hav2.out, ?_, g2⟩
          rw [e1]
          have e2 := (hs.2.2 HF.out).1
          refine ⟨splice bl u X, ?_, hbl2, (hs.2.2 HF.out).2⟩
          rw [← e2, List.length_append]
          exact h2
        case measure => simp [lenV]; omega
    · have hp2 : p = len := by omega
      rw [hp2, ← HM.out, List.take_length] at hHr
      have hp3 : len ≤ p := by omega
      clear hav hlt hp2
      have H1 := Lib.hid hHr
      have G1 := Lib.hid hg
      clear hHr hg
      go_wp2_with fail
      go_end0
      exact ⟨rfl, H1.out, G1.out⟩
end Go.Proofs.YtkajpcjmcpollaaDoor
