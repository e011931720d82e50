import Derived.Test.YtaklkjjoplfokaaLogI
import Derived.WalkKit
import Derived.ProofKit
import Derived.BigQuiet
import Derived.Deep.QuietTactic
import Derived.WalkSpells
import Derived.WalkLawsBesides
import Derived.Lib.Hide
import Derived.Deep.MidRow
import Derived.Deep.RegionLaw
import Derived.BigRegion
import Derived.Laws.AppendOwnNone
import Derived.Deep.DeepMust
import Derived.Deep.AppendLies
import Derived.RegionTactic
import Derived.Deep.WholeRow
import Derived.BigFrame
import Derived.Deep.RegionWith
import Derived.Deep.RegionHeld3
import Derived.Maps.RangeWalk
import Derived.Laws.CopyOwn
import Derived.StillTailTactics

namespace Go.Proofs.Ytaklkjjoplfokaa
open Go.RowKit
theorem dk_lower {w : World} {B D M : Nat} {nb rm fz : Int} {dn : Bool} {f : Int → List Int} {L : List WR} {lv : Value} (h : Dk w B D M nb rm fz dn f L lv) {B' : Nat} (hB : B' ≤ B) : Dk w B' D M nb rm fz dn f L lv := by
  obtain ⟨h1, h2, h3, h4, h5, h6⟩ := h
  refine ⟨h1, h2, ⟨h3.1, ?_⟩, by omega, by omega, h6⟩
  rcases h3.2 with h | ⟨g, cap, cur, e, hb, hr⟩
  · exact .inl h
  · exact .inr ⟨g, cap, cur, e, by omega, hr⟩
theorem bsI_of {w : World} {v : Value} {l : List Int} (h : Bs w v l) : BsI w 0 w.heap.size v l := ⟨h, fun ad n c e h0 => by
  obtain ⟨a, cap, hv, _, hx⟩ := h
  obtain ⟨b, off, ha, hb, _⟩ := hx h0
  rw [hv, ha] at e
  injection e with e _ _
  injection e with e
  rw [← e]
  exact ⟨Nat.zero_le _, hb⟩⟩
theorem recs_of_pss {w : World} {v : Value} {ps : List (List Int)} (h : Pss0 w v ps) : Recs w 0 w.heap.size v ps := by
  obtain ⟨a, cap, hv, h⟩ := h
  refine ⟨a, cap, hv, fun hl => ?_⟩
  obtain ⟨b, off, ha, hb, hc⟩ := h hl
  exact ⟨b, off, ha, hb, Nat.zero_le _, hb, fun i hi => by
    obtain ⟨x, hx, hbs⟩ := hc i hi
    exact ⟨x, hx, bsI_of hbs⟩⟩
theorem Recs.under {w w' : World} {B : Nat} {v : Value} {ps : List (List Int)} (h : Recs w 0 B v ps) (hb : Below B w w') : Recs w' 0 B v ps :=
  h.chg (F := fun k => B ≤ k) ⟨hb.os, hb.tape, hb.output, hb.size, fun k _ hn => hb.block k (by omega)⟩ (fun _ _ h1 h2 => by omega)
section
variable {w w' : World} {B D M : Nat} {nb rm : Int} {f : Int → List Int} {lv : Value} {P : Nat} {fi sz : Int} {a b c : Nat} {rs : List (List Int)} {av : Value} {pe : List (List Int)}
theorem LgS.below (h : LgS w B D M nb rm f lv P fi sz a b c rs av pe) (hc : Chg (LFoot D M lv P av) w w') : Below B w w' := hc.below (fun k hk => (h.lt k hk).1) h.hB
theorem ls_room (h : LgS w B D M nb rm f lv P fi sz a b c rs av pe) (n : Int) :
    Calls Try.prog 19 #[.pointer (some ⟨D, 0, none⟩), .int .i64 n] w fun e w' => e = .returned (.tuple #[]) ∧ LgS w' B D M nb (if 0 ≤ n then n else 0) f lv P fi sz a b c rs av pe ∧ Chg (fun k => k = D) w w' := by
  refine (room_dk B D M nb rm (-1) n false f [] lv w h.dk).mono ?_
  rintro e w' ⟨rfl, hd, hc⟩
  have hDf : Foot D M lv D := .inl rfl
  refine ⟨rfl, { h with dk := hd, box := h.box.chg hc (fun e => h.nf (by rw [e]; exact hDf)), own := h.own.chg hc (fun g hg e => h.af g hg (by rw [e]; exact hDf)) }, hc⟩
end
set_option maxRecDepth 100000 in
set_option maxHeartbeats 16000000 in
theorem full_walk (v0 v1 : Value) (A Bb : List (List Int)) (room : Int) (w : World) (h0 : Pss0 w v0 A) (h1 : Pss0 w v1 Bb) (hA : ∀ r ∈ A, Rng r ∧ r.length ≤ 16777216) (hB : ∀ r ∈ Bb, Rng r ∧ r.length ≤ 16777216) (hAl : A.length ≤ 1048576) (hBl : Bb.length ≤ 1048576) :
    Calls Try.prog 8 #[v0, v1, .int .i64 room] w fun e w' => e = .returned (.bool true) ∧ Below w.heap.size w w' := by
  have R0 := Lib.hid (recs_of_pss h0)
  have R1 := Lib.hid (recs_of_pss h1)
  have HA := Lib.hid hA
  have HB := Lib.hid hB
  obtain ⟨va, vac, hva, hq0⟩ := h0
  obtain ⟨vb, vbc, hvb, hq1⟩ := h1
  subst hva hvb
  clear hq0 hq1
  clear hA hB
  go_enter Try.func8, Try.ntmps8
  go_wp2_with fail
  refine (lfixed_any w).mono ?_
  rintro e w1 ⟨rfl, hb⟩
  have X1 := Lib.hid hb
  clear hb
  go_wp2_with fail
  refine (new_dk 40 w1 (by decide) (by decide)).mono ?_
  rintro e w2 ⟨rfl, hdk, hb⟩
  have DK2 := Lib.hid (dk_lower hdk X1.out.size)
  have X2 := Lib.hid (X1.out.trans (hb.mono X1.out.size))
  clear hdk hb
  generalize w1.heap.size + 1 = D at *
  generalize w1.heap.size = M at *
  go_wp2_with fail
  refine (ld_format DK2.out (fun _ => zeros_rng 256) (fi := 3) (sz := 30) (by decide) (by decide) (by decide) (by decide) (by decide)).mono ?_
  rintro e w3 ⟨rfl, f3, lv3, hld, hc, hf⟩
  have LD3 := Lib.hid hld
  have X3 := Lib.hid (X2.out.trans (hc.below (fun k hk => (DK2.out.foot k hk).1) X2.out.size))
  clear hld hc hf
  go_wp2_with fail
  refine (ld_open LD3.out).mono ?_
  rintro e w4 ⟨P, v4, rfl, hls, hrc, hP, hb⟩
  have LS4 := Lib.hid hls
  have X4 := Lib.hid (X3.out.trans (hb.mono X3.out.size))
  clear hls hrc hP hb
  go_wp2_with fail
  go_loopw [11] (fun iv wr => ∃ (i : Nat) (pe : List (List Int)) (av : Value), i ≤ A.length ∧ iv = .int .i64 (i : Int) ∧ LgS wr w.heap.size D M 40 40 f3 lv3 P 3 30 1 1 0 [] av pe ∧ Below w.heap.size w wr) (fun iv _ => A.length - (intOf iv).toNat)
  case atStart => exact ⟨0, [], _, Nat.zero_le _, rfl, LS4.out, X4.out⟩
  case round =>
    obtain ⟨i, pe, av, hi, rfl, hls, hbw⟩ := hrel
    have LS := Lib.hid hls
    have BW := Lib.hid hbw
    clear hls hbw
    by_cases hil : i < A.length
    · obtain ⟨a0, c0, hv0, hc0⟩ := R0.out.under BW.out
      injection hv0 with e1 e2 e3
      subst e1 e3
      obtain ⟨bl, off, rfl, hbl, _, hlt, hcell⟩ := hc0 (by omega)
      obtain ⟨x, hx, hbs, hblk⟩ := hcell i hil
      have hri := HA.out (A[i]?.getD []) (by rw [List.getElem?_eq_getElem hil]; exact List.getElem_mem hil)
      obtain ⟨m, hmm⟩ : ∃ m, A[i]?.getD [] = m := ⟨_, rfl⟩
      rw [hmm] at hbs hblk hri
      clear hmm
      have HBS := Lib.hid hbs
      have HNB := Lib.hid (show ∀ ad n c, x = .slice (some ad) n c → 0 < m.length → av.ownBlock ≠ some ad.block from fun ad n c e h0 e2 => by
        have h3 := (hblk ad n c e h0).2
        have h4 := (LS.out.own.lt ad.block e2).1
        omega)
      have HRI := Lib.hid hri
      obtain ⟨xa, xc, hxv, _⟩ := hbs
      subst hxv
      clear hc0 hcell hblk hri e2
      go_wp2_with fail
      refine (ls_append LS.out _ _ HBS.out HNB.out HRI.out.2 HRI.out.1).mono ?_
      rintro e w5 ⟨rfl, av5, hls, hc, hf⟩
      have LS5 := Lib.hid hls
      have BW5 := Lib.hid (BW.out.trans (LS.out.below hc))
      clear hls hc hf hx
      generalize (if fitsL 30 0 (encs pe).length m.length = true then (0 : Int) else 42) = E5 at *
      go_wp2_with fail
      go_roundw
      case rel => exact ⟨i + 1, _, av5, by omega, by go_num, LS5.out, BW5.out⟩
      case measure => simp [intOf]; omega
    · go_wp2_with fail
      refine (ls_sync LS.out (by decide)).mono ?_
      rintro e w6 ⟨f6, lv6, a6, c6', rs6, av6, hls, hc, hf, hcase⟩
      have hcase2 : e = .returned (.int .i64 0) ∧ a6 ≤ 2 := by
        rcases hcase with ⟨h1, _, h2⟩ | ⟨_, _, _, h, _⟩
        · exact ⟨h1, h2⟩
        · exact absurd h (by decide)
      obtain ⟨he, ha6⟩ := hcase2
      subst he
      have LS6 := Lib.hid hls
      have BW6 := Lib.hid (BW.out.trans (LS.out.below hc))
      have HA6 := Lib.hid ha6
      clear hls hc hf hcase ha6 hil
      go_wp2_with fail
      refine (ld_open LS6.out.disk).mono ?_
      rintro e w7 ⟨P2, v7, rfl, hls, hrc, hP, hb⟩
      have LS7 := Lib.hid (LS6.out.fresh hb)
      have RC7 := Lib.hid hrc
      have BW7 := Lib.hid (BW6.out.trans (hb.mono BW6.out.size))
      have HP2 := Lib.hid (show ∀ k, LFoot D M lv6 P av6 k → k < w6.heap.size from fun k hk => (LS6.out.lt k hk).2)
      have HPL := Lib.hid hls.box.lt
      clear hls hrc hP hb
      go_wp2_with fail
      refine (ls_room LS7.out room).mono ?_
      rintro e w8 ⟨rfl, hls, hc⟩
      have LS8 := Lib.hid hls
      have HCH8 := Lib.hid (show Chg (LFoot D M lv6 P av6) w7 w8 from hc.mono (fun k hk => .inl (.inl hk)))
      have BW8 := Lib.hid (BW7.out.trans (LS7.out.below HCH8.out))
      have RC8 := Lib.hid (RC7.out.chg HCH8.out (fun k hk1 _ e => by have := HP2.out k e; omega))
      clear hls hc
      generalize (if 0 ≤ room then room else 0) = rm at *
      go_wp2_with fail
      go_loopw [15] (fun iv wy => ∃ (j : Nat) (pe : List (List Int)) (av : Value), j ≤ Bb.length ∧ iv = .int .i64 (j : Int) ∧ LgS wy w.heap.size D M 40 rm f6 lv6 P 3 30 a6 1 c6' rs6 av pe ∧ Below w.heap.size w wy ∧ Recs wy w6.heap.size P2 v7 rs6 ∧ (∀ k, LFoot D M lv6 P av k → k < w6.heap.size ∨ w7.heap.size ≤ k) ∧ w7.heap.size ≤ wy.heap.size) (fun iv _ => Bb.length - (intOf iv).toNat)
      case atStart => exact ⟨0, [], av6, Nat.zero_le _, rfl, LS8.out, BW8.out, RC8.out, fun k hk => .inl (HP2.out k hk), HCH8.out.size⟩
      case round =>
        obtain ⟨j, pe2, av2, hj, rfl, hls, hbw, hrc, hlf, hsz⟩ := hrel
        have LT := Lib.hid hls
        have BT := Lib.hid hbw
        have RT := Lib.hid hrc
        have FT := Lib.hid hlf
        have ST := Lib.hid hsz
        clear hls hbw hrc hlf hsz
        by_cases hjl : j < Bb.length
        · obtain ⟨a0, c0, hv0, hc0⟩ := R1.out.under BT.out
          injection hv0 with e1 e2 e3
          subst e1 e3
          obtain ⟨bl, off, rfl, hbl, _, hlt, hcell⟩ := hc0 (by omega)
          obtain ⟨x, hx, hbs, hblk⟩ := hcell j hjl
          have hri := HB.out (Bb[j]?.getD []) (by rw [List.getElem?_eq_getElem hjl]; exact List.getElem_mem hjl)
          obtain ⟨m, hmm⟩ : ∃ m, Bb[j]?.getD [] = m := ⟨_, rfl⟩
          rw [hmm] at hbs hblk hri
          clear hmm
          have HBS := Lib.hid hbs
          have HNB := Lib.hid (show ∀ ad n c, x = .slice (some ad) n c → 0 < m.length → av2.ownBlock ≠ some ad.block from fun ad n c e h0 e2 => by
            have h3 := (hblk ad n c e h0).2
            have h4 := (LT.out.own.lt ad.block e2).1
            omega)
          have HRI := Lib.hid hri
          obtain ⟨xa, xc, hxv, _⟩ := hbs
          subst hxv
          clear hc0 hcell hblk hri e2
          go_wp2_with fail
          refine (ls_append LT.out _ _ HBS.out HNB.out HRI.out.2 HRI.out.1).mono ?_
          rintro e w9 ⟨rfl, av9, hls, hc, hf⟩
          have LS9 := Lib.hid hls
          have BW9 := Lib.hid (BT.out.trans (LT.out.below hc))
          have RC9 := Lib.hid (RT.out.chg hc (fun k hk1 hk2 e => by have := FT.out k e; have := HPL.out; omega))
          have FT9 := Lib.hid (show ∀ k, LFoot D M lv6 P av9 k → k < w6.heap.size ∨ w7.heap.size ≤ k from fun k hk => (hf k hk).elim (fun h => FT.out k h) (fun h => .inr (by have := ST.out; omega)))
          have ST9 := Lib.hid (show w7.heap.size ≤ w9.heap.size by have := hc.size; have := ST.out; omega)
          clear hls hc hf hx
          generalize (if fitsL 30 c6' (encs pe2).length m.length = true then (0 : Int) else 42) = E9 at *
          go_wp2_with fail
          go_roundw
          case rel => exact ⟨j + 1, _, av9, by omega, by go_num, LS9.out, BW9.out, RC9.out, FT9.out, ST9.out⟩
          case measure => simp [intOf]; omega
        · have HA6' := HA6.out
          go_wp2_with fail
          refine (ls_sync LT.out (by omega)).mono ?_
          rintro e w10 ⟨f10, lv10, a10, c10, rs10, av10, hls, hc, hf, hcase⟩
          have BW10 := Lib.hid (BT.out.trans (LT.out.below hc))
          rcases hcase with ⟨he, _, _⟩ | ⟨he, hrs, ha10, _, _⟩
          · subst he
            clear hls hc hf hjl
            go_wp2_with fail
            go_ret
            exact ⟨rfl, BW10.out⟩
          · subst he hrs ha10
            have LS10 := Lib.hid hls
            have RC10 := Lib.hid (RT.out.chg hc (fun k hk1 hk2 e => by have := FT.out k e; have := HPL.out; omega))
            have FT10 := Lib.hid (show ∀ k, LFoot D M lv10 P av10 k → k < w6.heap.size ∨ w7.heap.size ≤ k from fun k hk => (hf k hk).elim (fun h => FT.out k h) (fun h => .inr (by have := ST.out; omega)))
            have ST10 := Lib.hid (show w7.heap.size ≤ w10.heap.size by have := hc.size; have := ST.out; omega)
            clear hls hc hf hjl
            go_wp2_with fail
            refine (ld_open LS10.out.disk).mono ?_
            rintro e w11 ⟨P3, v11, rfl, hls, hrc, hP, hb⟩
            have LS11 := Lib.hid (LS10.out.fresh hb)
            have RC11 := Lib.hid hrc
            have RB11 := Lib.hid (RC10.out.chg (Chg.fresh (F := fun _ => False) hb) (fun _ _ _ h => h))
            have BW11 := Lib.hid (BW10.out.trans (hb.mono BW10.out.size))
            have FT11 := Lib.hid (show ∀ k, LFoot D M lv10 P av10 k → k < w10.heap.size from fun k hk => (LS10.out.lt k hk).2)
            clear hls hrc hP hb
            go_wp2_with fail
            refine (ls_room LS11.out 40).mono ?_
            rintro e w12 ⟨rfl, hls, hc⟩
            rw [if_pos (by decide)] at hls
            have LS12 := Lib.hid hls
            have HCH12 := Lib.hid (show Chg (LFoot D M lv10 P av10) w11 w12 from hc.mono (fun k hk => .inl (.inl hk)))
            have BW12 := Lib.hid (BW11.out.trans (LS11.out.below HCH12.out))
            have RC12 := Lib.hid (RC11.out.chg HCH12.out (fun k hk1 _ e => by have := FT11.out k e; omega))
            have RB12 := Lib.hid (RB11.out.chg HCH12.out (fun k hk1 hk2 e => by have := FT10.out k e; have := HPL.out; omega))
            clear hls hc
            have hrsl : rs10.length ≤ 1099511627776 := by
              have h1 := LS12.out.area
              have h2 := areaB_len f10 (3 + 2) LS12.out.dk.2.2.2.2.2.2.1 c10
              have h3 := LS12.out.fits
              have h4 := encs_many [] rs10
              rw [h1, ] at h2
              simp at h4
              omega
            have HRL := Lib.hid hrsl
            clear hrsl
            go_wp2_with fail
            refine (rsame_any v7 v11 rs10 rs10 w12 RB12.out.pss RC12.out.pss LS12.out.rrs LS12.out.rrs HRL.out).mono ?_
            rintro e w13 ⟨rfl, hb⟩
            have LS13 := Lib.hid (LS12.out.fresh hb)
            have BW13 := Lib.hid (BW12.out.trans (hb.mono BW12.out.size))
            clear hb
            rw [show decide (rs10 = rs10) = true from decide_eq_true rfl]
            go_wp2_with fail
            refine (ls_sync LS13.out (by omega)).mono ?_
            rintro e w14 ⟨f14, lv14, a14, c14, rs14, av14, hls, hc, hf, hcase⟩
            have he : e = .returned (.int .i64 0) := by
              rcases hcase with ⟨h1, _⟩ | ⟨_, _, _, _, h⟩
              · exact h1
              · exact absurd rfl h
            subst he
            have LS14 := Lib.hid hls
            have BW14 := Lib.hid (BW13.out.trans (LS13.out.below hc))
            clear hls hc hf hcase
            have hb15 : Below w14.heap.size w14 (w14.alloc (.cells #[.int .u8 1] 5)) := (Below.refl _ _).alloc (Nat.le_refl _) _
            have LS15 := Lib.hid (LS14.out.fresh hb15)
            have BW15 := Lib.hid (BW14.out.trans (hb15.mono BW14.out.size))
            have HNB15 := Lib.hid (show ∀ ad n c, (Value.slice (some ⟨w14.heap.size, 0, none⟩) 1 1) = .slice (some ad) n c → 0 < ([1] : List Int).length → av14.ownBlock ≠ some ad.block from fun ad n c e _ e2 => by
              injection e with e _ _
              injection e with e
              have := (LS14.out.lt ad.block (.inr (.inr e2))).2
              rw [← e] at this
              exact absurd this (Nat.lt_irrefl _))
            clear hb15
            go_wp2_with fail
            refine (ls_append LS15.out (.slice (some ⟨w14.heap.size, 0, none⟩) 1 1) [1] (lit_bs w14 _ [1] _ 1 1 rfl (Nat.le_refl 1)) HNB15.out (by decide) (fun x hx => by simp at hx; omega)).mono ?_
            rintro e w16 ⟨he, av16, hls, hc, hf⟩
            have BW16 := Lib.hid (BW15.out.trans (LS15.out.below hc))
            clear hls hc hf
            have he2 : e = .returned (.int .i64 0) ∨ e = .returned (.int .i64 42) := by
              rw [he]
              split
              · exact .inl rfl
              · exact .inr rfl
            clear he
            rcases he2 with rfl | rfl
            · go_wp2_with fail
              go_ret
              exact ⟨rfl, BW16.out⟩
            · go_wp2_with fail
              go_ret
              exact ⟨rfl, BW16.out⟩
end Go.Proofs.Ytaklkjjoplfokaa
