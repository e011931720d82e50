import Derived.Test.YtaklkjjoplfokaaLogM
import Derived.WalkKit
import Derived.ProofKit
import Derived.BigQuiet
import Derived.Deep.QuietTactic
import Derived.WalkSpells
import Derived.WalkLawsBesides
import Derived.Lib.Hide
import Derived.Deep.MidRow
import Derived.Deep.RegionLaw
import Derived.BigRegion
import Derived.Laws.AppendOwnNone
import Derived.Deep.DeepMust
import Derived.Deep.AppendLies
import Derived.RegionTactic
import Derived.Deep.WholeRow
import Derived.BigFrame
import Derived.Deep.RegionWith
import Derived.Deep.RegionHeld3
import Derived.Maps.RangeWalk
import Derived.Laws.CopyOwn
import Derived.StillTailTactics

namespace Go.Proofs.Ytaklkjjoplfokaa
open Go.RowKit
theorem info62 : (Try.prog.info? 62).map (fun i => (i.zero, i.size, i.bytes)) = some (some (.slice none 0 0), 1, 24) := info22
theorem rng_set {l : List Int} (h : Rng l) (i : Nat) (x : Int) (hx : 0 ≤ x ∧ x < 256) : Rng (l.set i x) := fun y hy => by
  rcases List.mem_or_eq_of_mem_set hy with h1 | h1
  · exact h y h1
  · subst h1; exact hx
set_option maxRecDepth 100000 in
set_option maxHeartbeats 16000000 in
theorem old_walk (v0 v1 v2 : Value) (J : List Int) (A Bb : List (List Int)) (w : World) (hJ : Bs w v0 J) (h1 : Pss0 w v1 A) (h2 : Pss0 w v2 Bb) (hJr : Rng J) (hJl : J.length ≤ 1048576) (hA : ∀ r ∈ A, Rng r ∧ r.length ≤ 16777216) (hB : ∀ r ∈ Bb, Rng r ∧ r.length ≤ 16777216) (hAl : A.length ≤ 1048576) (hBl : Bb.length ≤ 1048576) :
    Calls Try.prog 9 #[v0, v1, v2] w fun e w' => e = .returned (.bool true) ∧ Below w.heap.size w w' := by
  obtain ⟨i0, hinf, hz0, hz1, hz2⟩ := info_parts info62
  have RJ := Lib.hid (bsI_of hJ)
  have R0 := Lib.hid (recs_of_pss h1)
  have R1 := Lib.hid (recs_of_pss h2)
  have HA := Lib.hid hA
  have HB := Lib.hid hB
  have HJR := Lib.hid hJr
  obtain ⟨ja, jc, hja, hqj⟩ := hJ
  obtain ⟨va, vac, hva, hq0⟩ := h1
  obtain ⟨vb, vbc, hvb, hq1⟩ := h2
  subst hja hva hvb
  have HQJ := Lib.hid hqj.2
  clear hA hB hq0 hq1 hqj hJr
  have hz35 := zero35
  have hbz : ∀ u : World, (Instr.build 35 #[]).run Try.prog u = .ok (.agg (ArrU8 (zeros 256))) u := fun u => by kernel_rfl
  have HI35 := Lib.hid (show (Try.prog.info? 35).map (·.size) = some 256 by kernel_rfl)
  have SZ := Lib.hid (show (ArrU8 (zeros 256)).size = 256 by rw [ArrU8_size, zeros, List.length_replicate])
  go_enter Try.func9, Try.ntmps9
  go_wp2_with fail
  refine (lfixed_any w).mono ?_
  rintro e w1 ⟨rfl, hb⟩
  have X1 := Lib.hid hb
  clear hb
  go_wp2_with fail
  refine (new_dk 20 w1 (by decide) (by decide)).mono ?_
  rintro e w2 ⟨rfl, hdk, hb⟩
  have DK2 := Lib.hid (dk_lower hdk X1.out.size)
  have X2 := Lib.hid (X1.out.trans (hb.mono X1.out.size))
  clear hdk hb
  generalize w1.heap.size + 1 = D at *
  generalize w1.heap.size = M at *
  go_wp2_with fail
  go_loopw [8] (fun iv wr => ∃ (n : Nat) (f : Int → List Int) (L : List WR) (lv : Value), n ≤ 20 ∧ iv = .int .i64 (n : Int) ∧ Dk wr w.heap.size D M 20 20 (-1) false f L lv ∧ (∀ m, Rng (f m)) ∧ L.length ≤ n ∧ Below w.heap.size w wr) (fun iv _ => 20 - (intOf iv).toNat)
  case atStart => exact ⟨0, _, [], _, Nat.zero_le _, rfl, DK2.out, fun _ => zeros_rng 256, Nat.zero_le _, X2.out⟩
  case round =>
    obtain ⟨n, f, L, lv, hn, rfl, hdk, hfr, hLn, hbw⟩ := hrel
    have DK := Lib.hid hdk
    have FR := Lib.hid hfr
    have BW := Lib.hid hbw
    have HLN := Lib.hid hLn
    clear hdk hfr hbw hLn
    by_cases hgo : n < 20 ∧ 0 < J.length
    · obtain ⟨hn20, hj0⟩ := hgo
      obtain ⟨bj, oj, rfl, hbj, hcj⟩ := HQJ.out hj0
      have HCJ := Lib.hid hcj
      have HJ0 := Lib.hid hj0
      have hj0i : (0 : Int) < (J.length : Int) := by omega
      have hn20i : (n : Int) < 20 := by omega
      clear hcj
      go_wp2_with (refine wpList_store_nwL rfl 35 (Operand.tmp 9) (Operand.tmp 36) rfl wr _ 35 rfl wr.heap.size (ArrU8 (zeros 256)) rfl rfl rfl (by rw [HI35.out, SZ.out]) (by rw [SZ.out]) (ArrU8_one _) ?_; intro wb hd hb hs; have QB := Lib.hid hd; have XB := Lib.hid hb; have SB := Lib.hid hs; clear hd hb hs)
      obtain ⟨X, hX⟩ : ∃ X, wr.heap.size = X := ⟨_, rfl⟩
      rw [hX] at QB XB SB ⊢
      have HXE := Lib.hid hX
      have HBX := Lib.hid (show bj < X ∧ w.heap.size ≤ X by have := BW.out.size; omega)
      have HFX := Lib.hid (show ∀ k, Foot D M lv k → w.heap.size ≤ k ∧ k < X from fun k hk => by have := DK.out.foot k hk; omega)
      clear hX
      go_loopw [10] (fun iv wy => ∃ (i : Nat) (l : List Int), i ≤ 256 ∧ iv = .int .i64 (i : Int) ∧ l.length = 256 ∧ Rng l ∧ wy.heap[X]? = some (.cells (l.map (Value.int .u8)).toArray 35 (0, 0)) ∧ Chg (fun k => k = X) wb wy) (fun iv _ => 256 - (intOf iv).toNat)
      case atStart => exact ⟨0, zeros 256, Nat.zero_le _, rfl, by simp [zeros], zeros_rng 256, QB.out, Chg.refl _ _⟩
      case round =>
        obtain ⟨i, l, hi256, rfl, hll, hlr, hx, hc⟩ := hrel
        have HX := Lib.hid hx
        have HC := Lib.hid hc
        have HLL := Lib.hid hll
        have HLR := Lib.hid hlr
        clear hc hlr
        by_cases hil : i < 256
        · obtain ⟨q, hq⟩ : ∃ q : Nat, (256 * n + i) % J.length = q := ⟨_, rfl⟩
          have hqlt : q < J.length := by rw [← hq]; exact Nat.mod_lt _ hj0
          have hqi : ((256 : Int) * (n : Int) + (i : Int)).tmod (J.length : Int) = (q : Int) := by rw [Int.tmod_eq_emod_of_nonneg (by omega), ← hq]; push_cast; rfl
          have hqc : (q : Int) < (J.length : Int) := by omega
          have hq0 : (0 : Int) ≤ (q : Int) := by omega
          obtain ⟨y, hy⟩ : ∃ y, J[q]?.getD 0 = y := ⟨_, rfl⟩
          have hyr : 0 ≤ y ∧ y < 256 := by
            rw [← hy]
            exact HJR.out.get q
          have cj := ((HC.out.below (B := X) (fun k hk => by omega) (by have := SB.out; omega)).cell (p := ⟨bj, oj + q, none⟩) HBX.out.1).trans ((XB.out.cell (p := ⟨bj, oj + q, none⟩) HBX.out.1).trans ((BW.out.cell (p := ⟨bj, oj + q, none⟩) hbj).trans (HCJ.out q hqlt)))
          rw [hy] at cj
          have fx := frozen_of_row _ X i _ _ hx
          have cx := cell_of_row _ X i _ _ _ hx
          obtain ⟨cv, hcv⟩ : ∃ cv, ((l.map (Value.int .u8)).toArray)[i]? = some cv := ⟨_, Array.getElem?_eq_getElem (by simp; omega)⟩
          rw [hcv] at cx
          have HYR := Lib.hid hyr
          clear hq hqlt hy hyr hcv hx hll
          go_wp2_with fail
          go_roundw
          case rel =>
            refine ⟨i + 1, l.set i y, by omega, by go_num, by rw [List.length_set]; exact HLL.out, rng_set HLR.out i y HYR.out, ?_, HC.out.setCell _ _ (.inl rfl)⟩
            exact (heap_setCell_same _ X i _ _ _ HX.out).trans (by rw [map_set_arr])
          case measure => simp [intOf]; omega
        · have SL := Lib.hid (show (ArrU8 l).size = 256 by rw [ArrU8_size, hll])
          have HXL := Lib.hid (show wr.heap[X]? = some (.cells (ArrU8 l) 35 (0, 0)) from hx)
          have HBXW := Lib.hid (show Below X wb wr from HC.out.below (fun k hk => by omega) (by have := SB.out; omega))
          have HBB := Lib.hid (XB.out.trans HBXW.out)
          have HDW := Lib.hid (DK.out.chg (F := fun k => X ≤ k) ⟨HBB.out.os, HBB.out.tape, HBB.out.output, HBB.out.size, fun k hk hn => HBB.out.block k (by omega)⟩ (fun k hk e => by have := HFX.out k hk; omega))
          have HWE := Lib.hid (show wErr 20 20 (-1) (n : Int) false = 0 from by simp [wErr, opOk, hasB]; omega)
          have hLs : L.length ≤ 268435456 := by have := HLN.out; omega
          obtain rfl : i = 256 := by omega
          clear hx hil
          go_wp2_with (refine wpList_load_row rfl 35 (Operand.tmp 9) rfl X rfl 35 (ArrU8 l) (0, 0) _ HXL.out Try.underlying35 rfl (by rw [HI35.out, SL.out]) ?_)
          refine (write_any _ D M 20 20 (-1) (n : Int) false f L lv l wr HDW.out HLL.out hLs).mono ?_
          rintro e wz ⟨rfl, lvz, hdk, hch, hft⟩
          rw [HWE.out, if_pos rfl, if_pos rfl] at hdk
          have HDZ := Lib.hid (show Dk wz w.heap.size D M 20 20 (-1) false (fput f (n : Int) l) (L ++ [((n : Int), f (n : Int), l)]) lvz from hdk)
          have HBZ := Lib.hid (show Below w.heap.size w wz from (BW.out.trans (HBB.out.mono HBX.out.2)).trans (hch.below (fun k hk => (HFX.out k hk).1) (by have := HBB.out.size; have := BW.out.size; omega)))
          clear hdk hch hft
          generalize wErr 20 20 (-1) (n : Int) false = E at *
          go_wp2_with fail
          go_roundw
          case rel => exact ⟨n + 1, _, _, lvz, by omega, by go_num, HDZ.out, fun m => by
            by_cases hm : m = (n : Int)
            · rw [hm, fput_at]; exact HLR.out
            · rw [fput_ne _ _ _ _ hm]; exact FR.out m, by simp; exact HLN.out, HBZ.out⟩
          case measure => simp [intOf]; omega
    · by_cases hn20 : (n : Int) < 20
      · have hj0 : ¬ (0 : Int) < (J.length : Int) := by omega
        go_wp2_with fail
        refine (ld_formatL DK.out FR.out (fi := 2) (sz := 16) (by decide) (by decide) (by decide) (by decide) (by decide) (by have := HLN.out; omega)).mono ?_
        rintro e w3 ⟨rfl, f3, lv3, hld, hc, hf⟩
        have LD3 := Lib.hid hld
        have X3 := Lib.hid (BW.out.trans (hc.below (fun k hk => (DK.out.foot k hk).1) BW.out.size))
        clear hld hc hf
        go_wp2_with fail
        refine (ld_open LD3.out).mono ?_
        rintro e w4 ⟨P, v4, rfl, hls, hrc, hP, hb⟩
        have LS4 := Lib.hid hls
        have X4 := Lib.hid (X3.out.trans (hb.mono X3.out.size))
        obtain ⟨ra4, rc4, hv4, _⟩ := hrc
        subst hv4
        clear hls hP hb
        go_wp2_with fail
        go_loopw [14] (fun iv wy => ∃ (i : Nat) (pe : List (List Int)) (av : Value), i ≤ A.length ∧ iv = .int .i64 (i : Int) ∧ LgS wy w.heap.size D M 20 20 f3 lv3 P 2 16 1 1 0 [] av pe ∧ Below w.heap.size w wy) (fun iv _ => A.length - (intOf iv).toNat)
        case atStart => exact ⟨0, [], _, Nat.zero_le _, rfl, LS4.out, X4.out⟩
        case round =>
          obtain ⟨i, pe, av, hi, rfl, hls, hbw⟩ := hrel
          have LS := Lib.hid hls
          have BT := Lib.hid hbw
          clear hls hbw
          by_cases hil : i < A.length
          · obtain ⟨a0, c0, hv0, hc0⟩ := R0.out.under BT.out
            injection hv0 with e1 e2 e3
            subst e1 e3
            obtain ⟨bl, off, rfl, hbl, _, hlt, hcell⟩ := hc0 (by omega)
            obtain ⟨x, hx, hbs, hblk⟩ := hcell i hil
            have hri := HA.out (A[i]?.getD []) (by rw [List.getElem?_eq_getElem hil]; exact List.getElem_mem hil)
            obtain ⟨m, hmm⟩ : ∃ m, A[i]?.getD [] = m := ⟨_, rfl⟩
            rw [hmm] at hbs hblk hri
            clear hmm
            have HBS := Lib.hid hbs
            have HNB := Lib.hid (show ∀ ad n c, x = .slice (some ad) n c → 0 < m.length → av.ownBlock ≠ some ad.block from fun ad n c e h0 e2 => by
              have h3 := (hblk ad n c e h0).2
              have h4 := (LS.out.own.lt ad.block e2).1
              omega)
            have HRI := Lib.hid hri
            obtain ⟨xa, xc, hxv, _⟩ := hbs
            subst hxv
            clear hc0 hcell hblk hri e2
            go_wp2_with fail
            refine (ls_append LS.out _ _ HBS.out HNB.out HRI.out.2 HRI.out.1).mono ?_
            rintro e w5 ⟨rfl, av5, hls, hc, hf⟩
            have LS5 := Lib.hid hls
            have BW5 := Lib.hid (BT.out.trans (LS.out.below hc))
            clear hls hc hf hx
            generalize (if fitsL 16 0 (encs pe).length m.length = true then (0 : Int) else 42) = E5 at *
            go_wp2_with fail
            go_roundw
            case rel => exact ⟨i + 1, _, av5, by omega, by go_num, LS5.out, BW5.out⟩
            case measure => simp [intOf]; omega
          · go_wp2_with fail
            refine (ls_sync LS.out (by decide)).mono ?_
            rintro e w6 ⟨f6, lv6, a6, c6', rs6, av6, hls, hc, hf, hcase⟩
            have hcase2 : e = .returned (.int .i64 0) ∧ a6 ≤ 2 := by
              rcases hcase with ⟨h1, _, h2⟩ | ⟨_, _, _, h, _⟩
              · exact ⟨h1, h2⟩
              · exact absurd h (by decide)
            obtain ⟨he, ha6⟩ := hcase2
            subst he
            have LS6 := Lib.hid hls
            have BW6 := Lib.hid (BT.out.trans (LS.out.below hc))
            have HA6 := Lib.hid ha6
            clear hls hc hf hcase ha6 hil
            go_wp2_with fail
            refine (ls_restart LS6.out (by decide) (by have := HA6.out; omega) (by decide)).mono ?_
            rintro e w7 ⟨rfl, f7, lv7, hls, hc, hf⟩
            have LS7 := Lib.hid hls
            have BW7 := Lib.hid (BW6.out.trans (LS6.out.below hc))
            clear hls hc hf
            have hb8 : Below w7.heap.size w7 (w7.alloc (.cells #[] 62)) := (Below.refl _ _).alloc (Nat.le_refl _) _
            have LS8 := Lib.hid (LS7.out.fresh hb8)
            have BW8 := Lib.hid (BW7.out.trans (hb8.mono BW7.out.size))
            have OW8 := Lib.hid (show OwnW (w7.alloc (.cells #[] 62)) w.heap.size (.slice (some ⟨w7.heap.size, 0, none⟩) 0 0) [] from ⟨[], own_base' (World.ownsRow_lit w7 #[] 0 (Nat.le_refl _) (Nat.zero_le _) (by simp)) BW7.out.size, fun i hi => by simp at hi⟩)
            have NW8 := Lib.hid (show ∀ k, LFoot D M lv7 P av6 k → (Value.slice (some ⟨w7.heap.size, 0, none⟩) 0 0).ownBlock ≠ some k from fun k hk e => by
              injection e with e
              have := (LS7.out.lt k hk).2
              have e' : w7.heap.size = k := e
              omega)
            clear hb8
            go_wp2_with fail
            generalize w7.alloc (.cells #[] 62) = w8 at *
            go_loopw [15, 16] (fun wv iv wy => ∃ (j : Nat) (pe : List (List Int)) (av : Value), j ≤ Bb.length ∧ iv = .int .i64 (j : Int) ∧ LgS wy w.heap.size D M 20 20 f7 lv7 P 2 16 (a6 + 1) (1 + 1) 0 [] av pe ∧ Below w.heap.size w wy ∧ OwnW wy w.heap.size wv pe ∧ (∀ k, LFoot D M lv7 P av k → wv.ownBlock ≠ some k) ∧ pe.length ≤ j) (fun _ iv _ => Bb.length - (intOf iv).toNat)
            case atStart => exact ⟨0, [], av6, Nat.zero_le _, rfl, LS8.out, BW8.out, OW8.out, NW8.out, Nat.le_refl _⟩
            case round =>
              obtain ⟨j, pe2, av2, hj, rfl, hls, hbw, how, hnw, hpl⟩ := hrel
              have LT := Lib.hid hls
              have BZ := Lib.hid hbw
              have OW := Lib.hid how
              have NW := Lib.hid hnw
              have HPL := Lib.hid hpl
              obtain ⟨wa0, wc0, hwv⟩ : ∃ wa wc, u15 = .slice wa pe2.length wc := by
                obtain ⟨a, c, h, _⟩ := how.pss
                exact ⟨a, c, h⟩
              clear hls hbw how hnw hpl
              subst hwv
              by_cases hjl : j < Bb.length
              · obtain ⟨a0, c0, hv0, hc0⟩ := R1.out.under BZ.out
                injection hv0 with e1 e2 e3
                subst e1 e3
                obtain ⟨bl, off, rfl, hbl, _, hlt, hcell⟩ := hc0 (by omega)
                obtain ⟨x, hx, hbs, hblk⟩ := hcell j hjl
                have hri := HB.out (Bb[j]?.getD []) (by rw [List.getElem?_eq_getElem hjl]; exact List.getElem_mem hjl)
                obtain ⟨m, hmm⟩ : ∃ m, Bb[j]?.getD [] = m := ⟨_, rfl⟩
                rw [hmm] at hbs hblk hri
                clear hmm
                have HBS := Lib.hid hbs
                have HBI := Lib.hid (show BsI _ 0 w.heap.size x m from ⟨hbs, hblk⟩)
                have HNB := Lib.hid (show ∀ ad n c, x = .slice (some ad) n c → 0 < m.length → av2.ownBlock ≠ some ad.block from fun ad n c e h0 e2 => by
                  have h3 := (hblk ad n c e h0).2
                  have h4 := (LT.out.own.lt ad.block e2).1
                  omega)
                have HRI := Lib.hid hri
                have HLT := Lib.hid hlt
                obtain ⟨xa, xc, hxv, _⟩ := hbs
                subst hxv
                clear hc0 hcell hblk hri e2
                go_wp2_with fail
                refine (ls_append LT.out _ _ HBS.out HNB.out HRI.out.2 HRI.out.1).mono ?_
                rintro e w9 ⟨he, av9, hls, hc, hf⟩
                have hbel := LT.out.below hc
                have BW9 := Lib.hid (BZ.out.trans hbel)
                have OW9 := Lib.hid (OW.out.chg hc (fun g hg e => NW.out g e hg) hbel)
                have NW9 := Lib.hid (show ∀ k, LFoot D M lv7 P av9 k → (Value.slice wa0 pe2.length wc0).ownBlock ≠ some k from fun k hk e => (hf k hk).elim (fun h => NW.out k h e) (fun h => by
                  obtain ⟨xs, h1, _⟩ := OW.out
                  have := (h1.lt k e).2
                  omega))
                have hx9 := (hbel.cell (p := ⟨bl, off + j, none⟩) HLT.out).trans hx
                have HBI9 := Lib.hid (HBI.out.under hbel)
                by_cases hfit : fitsL 16 0 (encs pe2).length m.length = true
                · rw [if_pos hfit] at he hls
                  subst he
                  have LS9 := Lib.hid hls
                  obtain ⟨xs, ho1, ho2⟩ := OW9.out
                  have HO1 := Lib.hid ho1
                  have HO2 := Lib.hid ho2
                  clear hls hc hf hx hfit hbel ho1 ho2
                  have hp9 : pe2.length ≤ 1048576 := by have := HPL.out; omega
                  go_wp2_with (at_builtin; refine wpList_append_lies _ rfl (Operand.tmp 111) (Operand.tmp 116) 67 rfl w.heap.size 62 i0 (.slice none 0 0) 1 24 Try.underlying67 hinf hz0 hz1 hz2 rfl (by decide) _ pe2.length xs rfl (HO1.out.alloc _) ⟨w9.heap.size, 0, none⟩ 1 1 [.slice xa m.length xc] rfl rfl (cell_one_new _ _ _) (by intro u hu; simp at hu; subst hu; rfl) (by decide) (by unfold maxLen; omega) (by omega) (by have := BW9.out.size; simp; omega) (w9.heap.size + 1) (by simp) ?_; intro g cp3 w10 hown3 hg3 hgH hgl; have HO3 := Lib.hid hown3; have HG3 := Lib.hid hg3; have HH3 := Lib.hid hgH; clear hown3 hg3 hgH hgl)
                  go_roundw
                  case rel =>
                    have hch : Chg (fun k => (Value.slice wa0 pe2.length wc0).ownBlock = some k) w9 w10 := ((Chg.refl (fun k => (Value.slice wa0 pe2.length wc0).ownBlock = some k) w9).alloc (.cells #[.slice xa m.length xc] 62)).trans (Chg.grown (F := fun k => (Value.slice wa0 pe2.length wc0).ownBlock = some k) HG3.out (fun k hk => hk)) (fun k hk => .inl hk)
                    have hbe : Below w.heap.size w9 w10 := hch.below (fun k hk => (HO1.out.lt k hk).1) BW9.out.size
                    have hLS := LS9.out.chg hch (fun k hk e => NW9.out k hk e)
                    refine ⟨j + 1, pe2 ++ [m], av9, by omega, by go_num, hLS, BW9.out.trans hbe, ?_, ?_, by simp; exact HPL.out⟩
                    · exact OwnW.snoc HO2.out (by have := HO1.out.1; simpa using this) HBI9.out HO3.out hbe
                    · intro k hk e
                      have e' : g = k := by injection e
                      subst e'
                      rcases HH3.out with h | h
                      · exact NW9.out g hk h
                      · have := (LS9.out.lt g hk).2
                        omega
                  case measure => simp [intOf]; omega
                · rw [if_neg hfit] at he hls
                  subst he
                  have LS9 := Lib.hid hls
                  clear hls hc hf hx hfit hbel
                  go_wp2_with fail
                  go_roundw
                  case rel => exact ⟨j + 1, pe2, av9, by omega, by go_num, LS9.out, BW9.out, OW9.out, NW9.out, by have := HPL.out; omega⟩
                  case measure => simp [intOf]; omega
              · have HA6' := HA6.out
                have hpeb : pe2.length ≤ 1048576 := by have := HPL.out; omega
                go_wp2_with fail
                refine (ld_open LT.out.disk).mono ?_
                rintro e w11 ⟨P2, v11, rfl, hls, hrc, hP, hb⟩
                have LS11 := Lib.hid (LT.out.fresh hb)
                have BW11 := Lib.hid (BZ.out.trans (hb.mono BZ.out.size))
                have OW11 := Lib.hid (OW.out.chg (Chg.fresh (F := fun _ => False) hb) (fun _ _ h => h) (hb.mono BZ.out.size))
                obtain ⟨rn, rcn, hvn, _⟩ := hrc
                subst hvn
                clear hls hP hb
                go_wp2_with fail
                refine (ls_sync LS11.out (by omega)).mono ?_
                rintro e w12 ⟨f12, lv12, a12, c12, rs12, av12, hls, hc, hf, hcase⟩
                have hcase2 : e = .returned (.int .i64 0) ∧ rs12 = [] ++ pe2 := by
                  rcases hcase with ⟨h1, h2, _⟩ | ⟨_, _, _, h, _⟩
                  · exact ⟨h1, h2⟩
                  · exact absurd h (by decide)
                obtain ⟨he, hrs⟩ := hcase2
                subst he
                rw [List.nil_append] at hrs
                subst hrs
                have hbel := LS11.out.below hc
                have LS12 := Lib.hid hls
                have BW12 := Lib.hid (BW11.out.trans hbel)
                have OW12 := Lib.hid (OW11.out.chg hc (fun g hg e => NW.out g e hg) hbel)
                clear hls hc hf hcase hbel
                go_wp2_with fail
                refine (ld_open LS12.out.disk).mono ?_
                rintro e w13 ⟨P3, v13, rfl, hls, hrc, hP, hb⟩
                have LS13 := Lib.hid (LS12.out.fresh hb)
                have BW13 := Lib.hid (BW12.out.trans (hb.mono BW12.out.size))
                have OW13 := Lib.hid (OW12.out.chg (Chg.fresh (F := fun _ => False) hb) (fun _ _ h => h) (hb.mono BW12.out.size))
                have RC13 := Lib.hid hrc
                clear hls hrc hP hb
                go_wp2_with fail
                refine (rsame_any v13 _ rs12 rs12 w13 RC13.out.pss OW13.out.pss LS13.out.rrs LS13.out.rrs (by omega)).mono ?_
                rintro e w14 ⟨rfl, hb⟩
                have LS14 := Lib.hid (LS13.out.fresh hb)
                have BW14 := Lib.hid (BW13.out.trans (hb.mono BW13.out.size))
                clear hb
                rw [show decide (rs12 = rs12) = true from decide_eq_true rfl]
                go_wp2_with fail
                refine (epoch_any P _ 2 16 a12 (1 + 1) c12 _ w14 LS14.out.box).mono ?_
                rintro e w15 ⟨rfl, rfl⟩
                go_wp2_with fail
                go_ret
                exact ⟨rfl, BW14.out⟩
      · have hn21 := hn20
        go_wp2_with fail
        refine (ld_formatL DK.out FR.out (fi := 2) (sz := 16) (by decide) (by decide) (by decide) (by decide) (by decide) (by have := HLN.out; omega)).mono ?_
        rintro e w3 ⟨rfl, f3, lv3, hld, hc, hf⟩
        have LD3 := Lib.hid hld
        have X3 := Lib.hid (BW.out.trans (hc.below (fun k hk => (DK.out.foot k hk).1) BW.out.size))
        clear hld hc hf
        go_wp2_with fail
        refine (ld_open LD3.out).mono ?_
        rintro e w4 ⟨P, v4, rfl, hls, hrc, hP, hb⟩
        have LS4 := Lib.hid hls
        have X4 := Lib.hid (X3.out.trans (hb.mono X3.out.size))
        obtain ⟨ra4, rc4, hv4, _⟩ := hrc
        subst hv4
        clear hls hP hb
        go_wp2_with fail
        go_loopw [14] (fun iv wy => ∃ (i : Nat) (pe : List (List Int)) (av : Value), i ≤ A.length ∧ iv = .int .i64 (i : Int) ∧ LgS wy w.heap.size D M 20 20 f3 lv3 P 2 16 1 1 0 [] av pe ∧ Below w.heap.size w wy) (fun iv _ => A.length - (intOf iv).toNat)
        case atStart => exact ⟨0, [], _, Nat.zero_le _, rfl, LS4.out, X4.out⟩
        case round =>
          obtain ⟨i, pe, av, hi, rfl, hls, hbw⟩ := hrel
          have LS := Lib.hid hls
          have BT := Lib.hid hbw
          clear hls hbw
          by_cases hil : i < A.length
          · obtain ⟨a0, c0, hv0, hc0⟩ := R0.out.under BT.out
            injection hv0 with e1 e2 e3
            subst e1 e3
            obtain ⟨bl, off, rfl, hbl, _, hlt, hcell⟩ := hc0 (by omega)
            obtain ⟨x, hx, hbs, hblk⟩ := hcell i hil
            have hri := HA.out (A[i]?.getD []) (by rw [List.getElem?_eq_getElem hil]; exact List.getElem_mem hil)
            obtain ⟨m, hmm⟩ : ∃ m, A[i]?.getD [] = m := ⟨_, rfl⟩
            rw [hmm] at hbs hblk hri
            clear hmm
            have HBS := Lib.hid hbs
            have HNB := Lib.hid (show ∀ ad n c, x = .slice (some ad) n c → 0 < m.length → av.ownBlock ≠ some ad.block from fun ad n c e h0 e2 => by
              have h3 := (hblk ad n c e h0).2
              have h4 := (LS.out.own.lt ad.block e2).1
              omega)
            have HRI := Lib.hid hri
            obtain ⟨xa, xc, hxv, _⟩ := hbs
            subst hxv
            clear hc0 hcell hblk hri e2
            go_wp2_with fail
            refine (ls_append LS.out _ _ HBS.out HNB.out HRI.out.2 HRI.out.1).mono ?_
            rintro e w5 ⟨rfl, av5, hls, hc, hf⟩
            have LS5 := Lib.hid hls
            have BW5 := Lib.hid (BT.out.trans (LS.out.below hc))
            clear hls hc hf hx
            generalize (if fitsL 16 0 (encs pe).length m.length = true then (0 : Int) else 42) = E5 at *
            go_wp2_with fail
            go_roundw
            case rel => exact ⟨i + 1, _, av5, by omega, by go_num, LS5.out, BW5.out⟩
            case measure => simp [intOf]; omega
          · go_wp2_with fail
            refine (ls_sync LS.out (by decide)).mono ?_
            rintro e w6 ⟨f6, lv6, a6, c6', rs6, av6, hls, hc, hf, hcase⟩
            have hcase2 : e = .returned (.int .i64 0) ∧ a6 ≤ 2 := by
              rcases hcase with ⟨h1, _, h2⟩ | ⟨_, _, _, h, _⟩
              · exact ⟨h1, h2⟩
              · exact absurd h (by decide)
            obtain ⟨he, ha6⟩ := hcase2
            subst he
            have LS6 := Lib.hid hls
            have BW6 := Lib.hid (BT.out.trans (LS.out.below hc))
            have HA6 := Lib.hid ha6
            clear hls hc hf hcase ha6 hil
            go_wp2_with fail
            refine (ls_restart LS6.out (by decide) (by have := HA6.out; omega) (by decide)).mono ?_
            rintro e w7 ⟨rfl, f7, lv7, hls, hc, hf⟩
            have LS7 := Lib.hid hls
            have BW7 := Lib.hid (BW6.out.trans (LS6.out.below hc))
            clear hls hc hf
            have hb8 : Below w7.heap.size w7 (w7.alloc (.cells #[] 62)) := (Below.refl _ _).alloc (Nat.le_refl _) _
            have LS8 := Lib.hid (LS7.out.fresh hb8)
            have BW8 := Lib.hid (BW7.out.trans (hb8.mono BW7.out.size))
            have OW8 := Lib.hid (show OwnW (w7.alloc (.cells #[] 62)) w.heap.size (.slice (some ⟨w7.heap.size, 0, none⟩) 0 0) [] from ⟨[], own_base' (World.ownsRow_lit w7 #[] 0 (Nat.le_refl _) (Nat.zero_le _) (by simp)) BW7.out.size, fun i hi => by simp at hi⟩)
            have NW8 := Lib.hid (show ∀ k, LFoot D M lv7 P av6 k → (Value.slice (some ⟨w7.heap.size, 0, none⟩) 0 0).ownBlock ≠ some k from fun k hk e => by
              injection e with e
              have := (LS7.out.lt k hk).2
              have e' : w7.heap.size = k := e
              omega)
            clear hb8
            go_wp2_with fail
            generalize w7.alloc (.cells #[] 62) = w8 at *
            go_loopw [15, 16] (fun wv iv wy => ∃ (j : Nat) (pe : List (List Int)) (av : Value), j ≤ Bb.length ∧ iv = .int .i64 (j : Int) ∧ LgS wy w.heap.size D M 20 20 f7 lv7 P 2 16 (a6 + 1) (1 + 1) 0 [] av pe ∧ Below w.heap.size w wy ∧ OwnW wy w.heap.size wv pe ∧ (∀ k, LFoot D M lv7 P av k → wv.ownBlock ≠ some k) ∧ pe.length ≤ j) (fun _ iv _ => Bb.length - (intOf iv).toNat)
            case atStart => exact ⟨0, [], av6, Nat.zero_le _, rfl, LS8.out, BW8.out, OW8.out, NW8.out, Nat.le_refl _⟩
            case round =>
              obtain ⟨j, pe2, av2, hj, rfl, hls, hbw, how, hnw, hpl⟩ := hrel
              have LT := Lib.hid hls
              have BZ := Lib.hid hbw
              have OW := Lib.hid how
              have NW := Lib.hid hnw
              have HPL := Lib.hid hpl
              obtain ⟨wa0, wc0, hwv⟩ : ∃ wa wc, u15 = .slice wa pe2.length wc := by
                obtain ⟨a, c, h, _⟩ := how.pss
                exact ⟨a, c, h⟩
              clear hls hbw how hnw hpl
              subst hwv
              by_cases hjl : j < Bb.length
              · obtain ⟨a0, c0, hv0, hc0⟩ := R1.out.under BZ.out
                injection hv0 with e1 e2 e3
                subst e1 e3
                obtain ⟨bl, off, rfl, hbl, _, hlt, hcell⟩ := hc0 (by omega)
                obtain ⟨x, hx, hbs, hblk⟩ := hcell j hjl
                have hri := HB.out (Bb[j]?.getD []) (by rw [List.getElem?_eq_getElem hjl]; exact List.getElem_mem hjl)
                obtain ⟨m, hmm⟩ : ∃ m, Bb[j]?.getD [] = m := ⟨_, rfl⟩
                rw [hmm] at hbs hblk hri
                clear hmm
                have HBS := Lib.hid hbs
                have HBI := Lib.hid (show BsI _ 0 w.heap.size x m from ⟨hbs, hblk⟩)
                have HNB := Lib.hid (show ∀ ad n c, x = .slice (some ad) n c → 0 < m.length → av2.ownBlock ≠ some ad.block from fun ad n c e h0 e2 => by
                  have h3 := (hblk ad n c e h0).2
                  have h4 := (LT.out.own.lt ad.block e2).1
                  omega)
                have HRI := Lib.hid hri
                have HLT := Lib.hid hlt
                obtain ⟨xa, xc, hxv, _⟩ := hbs
                subst hxv
                clear hc0 hcell hblk hri e2
                go_wp2_with fail
                refine (ls_append LT.out _ _ HBS.out HNB.out HRI.out.2 HRI.out.1).mono ?_
                rintro e w9 ⟨he, av9, hls, hc, hf⟩
                have hbel := LT.out.below hc
                have BW9 := Lib.hid (BZ.out.trans hbel)
                have OW9 := Lib.hid (OW.out.chg hc (fun g hg e => NW.out g e hg) hbel)
                have NW9 := Lib.hid (show ∀ k, LFoot D M lv7 P av9 k → (Value.slice wa0 pe2.length wc0).ownBlock ≠ some k from fun k hk e => (hf k hk).elim (fun h => NW.out k h e) (fun h => by
                  obtain ⟨xs, h1, _⟩ := OW.out
                  have := (h1.lt k e).2
                  omega))
                have hx9 := (hbel.cell (p := ⟨bl, off + j, none⟩) HLT.out).trans hx
                have HBI9 := Lib.hid (HBI.out.under hbel)
                by_cases hfit : fitsL 16 0 (encs pe2).length m.length = true
                · rw [if_pos hfit] at he hls
                  subst he
                  have LS9 := Lib.hid hls
                  obtain ⟨xs, ho1, ho2⟩ := OW9.out
                  have HO1 := Lib.hid ho1
                  have HO2 := Lib.hid ho2
                  clear hls hc hf hx hfit hbel ho1 ho2
                  have hp9 : pe2.length ≤ 1048576 := by have := HPL.out; omega
                  go_wp2_with (at_builtin; refine wpList_append_lies _ rfl (Operand.tmp 111) (Operand.tmp 116) 67 rfl w.heap.size 62 i0 (.slice none 0 0) 1 24 Try.underlying67 hinf hz0 hz1 hz2 rfl (by decide) _ pe2.length xs rfl (HO1.out.alloc _) ⟨w9.heap.size, 0, none⟩ 1 1 [.slice xa m.length xc] rfl rfl (cell_one_new _ _ _) (by intro u hu; simp at hu; subst hu; rfl) (by decide) (by unfold maxLen; omega) (by omega) (by have := BW9.out.size; simp; omega) (w9.heap.size + 1) (by simp) ?_; intro g cp3 w10 hown3 hg3 hgH hgl; have HO3 := Lib.hid hown3; have HG3 := Lib.hid hg3; have HH3 := Lib.hid hgH; clear hown3 hg3 hgH hgl)
                  go_roundw
                  case rel =>
                    have hch : Chg (fun k => (Value.slice wa0 pe2.length wc0).ownBlock = some k) w9 w10 := ((Chg.refl (fun k => (Value.slice wa0 pe2.length wc0).ownBlock = some k) w9).alloc (.cells #[.slice xa m.length xc] 62)).trans (Chg.grown (F := fun k => (Value.slice wa0 pe2.length wc0).ownBlock = some k) HG3.out (fun k hk => hk)) (fun k hk => .inl hk)
                    have hbe : Below w.heap.size w9 w10 := hch.below (fun k hk => (HO1.out.lt k hk).1) BW9.out.size
                    have hLS := LS9.out.chg hch (fun k hk e => NW9.out k hk e)
                    refine ⟨j + 1, pe2 ++ [m], av9, by omega, by go_num, hLS, BW9.out.trans hbe, ?_, ?_, by simp; exact HPL.out⟩
                    · exact OwnW.snoc HO2.out (by have := HO1.out.1; simpa using this) HBI9.out HO3.out hbe
                    · intro k hk e
                      have e' : g = k := by injection e
                      subst e'
                      rcases HH3.out with h | h
                      · exact NW9.out g hk h
                      · have := (LS9.out.lt g hk).2
                        omega
                  case measure => simp [intOf]; omega
                · rw [if_neg hfit] at he hls
                  subst he
                  have LS9 := Lib.hid hls
                  clear hls hc hf hx hfit hbel
                  go_wp2_with fail
                  go_roundw
                  case rel => exact ⟨j + 1, pe2, av9, by omega, by go_num, LS9.out, BW9.out, OW9.out, NW9.out, by have := HPL.out; omega⟩
                  case measure => simp [intOf]; omega
              · have HA6' := HA6.out
                have hpeb : pe2.length ≤ 1048576 := by have := HPL.out; omega
                go_wp2_with fail
                refine (ld_open LT.out.disk).mono ?_
                rintro e w11 ⟨P2, v11, rfl, hls, hrc, hP, hb⟩
                have LS11 := Lib.hid (LT.out.fresh hb)
                have BW11 := Lib.hid (BZ.out.trans (hb.mono BZ.out.size))
                have OW11 := Lib.hid (OW.out.chg (Chg.fresh (F := fun _ => False) hb) (fun _ _ h => h) (hb.mono BZ.out.size))
                obtain ⟨rn, rcn, hvn, _⟩ := hrc
                subst hvn
                clear hls hP hb
                go_wp2_with fail
                refine (ls_sync LS11.out (by omega)).mono ?_
                rintro e w12 ⟨f12, lv12, a12, c12, rs12, av12, hls, hc, hf, hcase⟩
                have hcase2 : e = .returned (.int .i64 0) ∧ rs12 = [] ++ pe2 := by
                  rcases hcase with ⟨h1, h2, _⟩ | ⟨_, _, _, h, _⟩
                  · exact ⟨h1, h2⟩
                  · exact absurd h (by decide)
                obtain ⟨he, hrs⟩ := hcase2
                subst he
                rw [List.nil_append] at hrs
                subst hrs
                have hbel := LS11.out.below hc
                have LS12 := Lib.hid hls
                have BW12 := Lib.hid (BW11.out.trans hbel)
                have OW12 := Lib.hid (OW11.out.chg hc (fun g hg e => NW.out g e hg) hbel)
                clear hls hc hf hcase hbel
                go_wp2_with fail
                refine (ld_open LS12.out.disk).mono ?_
                rintro e w13 ⟨P3, v13, rfl, hls, hrc, hP, hb⟩
                have LS13 := Lib.hid (LS12.out.fresh hb)
                have BW13 := Lib.hid (BW12.out.trans (hb.mono BW12.out.size))
                have OW13 := Lib.hid (OW12.out.chg (Chg.fresh (F := fun _ => False) hb) (fun _ _ h => h) (hb.mono BW12.out.size))
                have RC13 := Lib.hid hrc
                clear hls hrc hP hb
                go_wp2_with fail
                refine (rsame_any v13 _ rs12 rs12 w13 RC13.out.pss OW13.out.pss LS13.out.rrs LS13.out.rrs (by omega)).mono ?_
                rintro e w14 ⟨rfl, hb⟩
                have LS14 := Lib.hid (LS13.out.fresh hb)
                have BW14 := Lib.hid (BW13.out.trans (hb.mono BW13.out.size))
                clear hb
                rw [show decide (rs12 = rs12) = true from decide_eq_true rfl]
                go_wp2_with fail
                refine (epoch_any P _ 2 16 a12 (1 + 1) c12 _ w14 LS14.out.box).mono ?_
                rintro e w15 ⟨rfl, rfl⟩
                go_wp2_with fail
                go_ret
                exact ⟨rfl, BW14.out⟩
end Go.Proofs.Ytaklkjjoplfokaa
