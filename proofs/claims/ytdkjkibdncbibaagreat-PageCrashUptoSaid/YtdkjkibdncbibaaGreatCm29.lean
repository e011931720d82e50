/- the law's fixed calls -/
import Derived.Test.YtdkjkibdncbibaaGreatCm28
namespace Go.Proofs.YtdkjkibdncbibaaGreat
open Go.RowKit
open Go.Lib (hid)
theorem blk1_ne : blk5 1 ≠ zeros 256 := fun h => by
 have h1 := congrArg (fun l : List Int => l[0]?) h
 have h2 : (blk5 1)[0]? = some ((1 + ((0 : Nat) : Int) * 3) % 256) := blkOf_get 1 0 (by decide)
 simp only [h2] at h1
 revert h1
 decide
theorem FxS.ov {v : PV} {h0 h1 : List Nat} {ca : List (Int × List Int)} {od : List Int} {ch : List (Int × List Int)} (h : FxS v h0 h1 ca od ch) (o : Value) : FxS { v with ov := o } h0 h1 ca od ch := { h with }
theorem LgD.fresh {w w' : World} {B D M : Nat} {nb rm : Int} {f : Int → List Int} {lv : Value} {fi sz : Int} {a b c : Nat} {rs : List (List Int)} (h : LgD w B D M nb rm f lv fi sz a b c rs) (hb : Below w.heap.size w w') : LgD w' B D M nb rm f lv fi sz a b c rs :=
 { h with dk := h.dk.chg (Chg.fresh (F := fun _ => False) hb) (fun _ _ h => h) }
set_option maxRecDepth 100000 in
set_option maxHeartbeats 16000000 in
theorem fixed5_any (w : World) :
    Calls Tryz.prog 6 #[] w fun e w' => e = .returned (.bool true) ∧ Below w.heap.size w w' := by
  go_enter Tryz.func6, Tryz.ntmps6
  go_wp2_with fail
  refine (new_dk 40 w (by decide) (by decide)).mono ?_
  rintro e w2 ⟨rfl, hdk, hb2⟩
  have HDK := hid hdk
  have HB2 := hid hb2
  clear hdk hb2
  go_wp2_with fail
  refine (pformat_any w.heap.size (w.heap.size + 1) w.heap.size 40 40 16 _ [] _ w2 HDK.out (fun _ => rng_zeros _) (by decide) (by decide) (Int.le_refl _) (Nat.zero_le _)).mono ?_
  rintro e w3 ⟨rfl, lv3, hld, hc3, hf3⟩
  have hbw3 : Below w.heap.size w w3 := HB2.out.trans (hc3.below (fun g hg => (HDK.out.foot g hg).1) HB2.out.size)
  have HLD := hid hld
  have HB3 := hid hbw3
  have HNO := hid (pformat_no w.heap.size (w.heap.size + 1) w.heap.size 40 40 (-1) 40 false _ [] _ w3 hld.dk (by decide))
  clear hld hc3 hf3 hbw3
  go_wp2_with fail
  refine HNO.out.mono ?_
  rintro e w4 ⟨rfl, hb4⟩
  have hst : stoF 16 (fputs (fput (fun _ => zeros 256) 16 hdr0) (fw 0)) (lgF [] [] 0) 0 = hdr0 := by
    show fputs _ _ (16 + 0) = hdr0
    rw [fresh_far _ _ _ (by decide) (Int.le_refl _), if_pos rfl]
  have hhd : hdr (stoF 16 (fputs (fput (fun _ => zeros 256) 16 hdr0) (fw 0)) (lgF [] [] 0) 0) = fh 1 0 := by rw [hst, hdr_hdr0]; rfl
  have hu : 1 ≤ hN (hdr (stoF 16 (fputs (fput (fun _ => zeros 256) 16 hdr0) (fw 0)) (lgF [] [] 0) 0)) 0 ∧ (hN (hdr (stoF 16 (fputs (fput (fun _ => zeros 256) 16 hdr0) (fw 0)) (lgF [] [] 0) 0)) 0 : Int) ≤ 40 - 16 := by
    rw [hhd]; decide
  have hld4 := HLD.out.fresh hb4
  have HOP := hid ((popen_any w.heap.size (w.heap.size + 1) w.heap.size 40 40 (-1) 16 4 _ [] lv3 1 1 0 [] w4 hld4.dk (by decide) (by decide) hld4.rng hld4.mkf hld4.fits hld4.area (fun r hr => by cases hr) hu).mono fun e w' he => opened_calm he hld4 (by decide) (Int.le_refl _) (fun r hr => by cases hr) hu)
  have HFT := hid (fun g hg => (hld4.dk.foot g hg).1)
  have HB4 := hid (HB3.out.trans (hb4.mono HB3.out.size))
  have HHD := hid hhd
  clear hst hhd hu hld4 hb4 HNO HLD
  go_wp2_with fail
  refine HOP.out.mono ?_
  rintro e w5 ⟨Pl, P, Lm, C, Hm, rfl, hc5, hk5⟩
  obtain ⟨v0, hv0⟩ : ∃ v : PV, v = (⟨⟨-1, false, fputs (fput (fun _ => zeros 256) 16 hdr0) (fw 0), []⟩, lv3, 1, 1, 0, .slice none 0 0, [], Lm, 0, C, .slice none 0 0, hdr (stoF 16 (fputs (fput (fun _ => zeros 256) 16 hdr0) (fw 0)) (lgF [] [] 0) 0), hdr (stoF 16 (fputs (fput (fun _ => zeros 256) 16 hdr0) (fw 0)) (lgF [] [] 0) 0), Hm, lgF [] [] 0, [], [], []⟩ : PV) := ⟨_, rfl⟩
  obtain ⟨hp0, hcm0, -⟩ := hk5 (fxk w.heap.size (w.heap.size + 1) w.heap.size Pl P 40) v0 rfl hv0
  have hf0 : FxS v0 (fh 1 0) (fh 1 0) [] [] [] := by
    subst hv0
    exact { h0 := HHD.out, h1 := HHD.out, ca := rfl, od := rfl, ch := rfl, lg := rfl, dn := rfl
            f1 := (by show fputs _ _ (16 + 1) = _; rw [fresh_far _ _ _ (by decide) (by decide)]; rfl), f2 := (by show fputs _ _ (16 + 2) = _; rw [fresh_far _ _ _ (by decide) (by decide)]; rfl) }
  have hab0 : v0.a = 1 ∧ v0.b = 1 := by subst hv0; exact ⟨rfl, rfl⟩
  have HP0 := hid hp0
  have HC0 := hid hcm0
  have HF0 := hid hf0
  have HAB0 := hid hab0
  have HW0 := hid (HB4.out.trans (hc5.below (fun g hg => HFT.out g hg) HB4.out.size))
  clear hv0 hp0 hcm0 hf0 hc5 hk5 hab0 HOP HHD HFT HB2 HB3 HB4 HDK
  obtain ⟨v1', he, hf⟩ := fx_alloc1 (B := w.heap.size) (D := w.heap.size + 1) (M := w.heap.size) (Pl := Pl) (P := P) (rm := 40) HF0.out
  have HCL := hid (show Calls Tryz.prog 18 #[.pointer (some ⟨P, 0, none⟩)] w5 (fun e w' => e = .returned (.tuple #[.int .i64 1, .int .i64 0]) ∧ ∃ ov', PE (fxk w.heap.size (w.heap.size + 1) w.heap.size Pl P 40) v0 w5 { v1' with ov := ov' } w') from by have h := alloc_any (fxk w.heap.size (w.heap.size + 1) w.heap.size Pl P 40) v0 w5 HP0.out HC0.out.j; rw [he] at h; exact h)
  have HE := hid he
  have HFF := hid hf
  clear he hf
  go_wp2_with fail
  refine HCL.out.mono ?_
  rintro e w6 ⟨rfl, ov', hpe⟩
  have hcm := HC0.out.alloc ov'
  have hab := alU_s (k := (fxk w.heap.size (w.heap.size + 1) w.heap.size Pl P 40)) (v := v0)
  rw [HE.out] at hcm hab
  replace hab : v1'.a = 1 ∧ v1'.b = 1 := ⟨hab.2.1.trans HAB0.out.1, hab.2.2.1.trans HAB0.out.2⟩
  obtain ⟨v1, hvx⟩ : ∃ v : PV, v = { v1' with ov := ov' } := ⟨_, rfl⟩
  have hf := HFF.out.ov ov'
  rw [← hvx] at hf
  replace hab : v1.a = 1 ∧ v1.b = 1 := by rw [hvx]; exact hab
  replace hpe : PE (fxk w.heap.size (w.heap.size + 1) w.heap.size Pl P 40) v0 w5 v1 w6 := by rw [hvx]; exact hpe
  replace hcm : PCalm (fxk w.heap.size (w.heap.size + 1) w.heap.size Pl P 40) v1 := by rw [hvx]; exact hcm
  clear hvx HE HFF
  have HP1 := hid hpe.1
  have HW1 := hid (HW0.out.trans (hpe.below HP0.out))
  have HC1 := hid hcm
  have HF1 := hid hf
  have HAB1 := hid hab
  clear hpe hcm hf hab HCL HP0 HC0 HF0 HW0 HAB0
  clear v1'
  obtain ⟨v2', he, hf⟩ := fx_alloc2 (B := w.heap.size) (D := w.heap.size + 1) (M := w.heap.size) (Pl := Pl) (P := P) (rm := 40) HF1.out
  have HCL := hid (show Calls Tryz.prog 18 #[.pointer (some ⟨P, 0, none⟩)] w6 (fun e w' => e = .returned (.tuple #[.int .i64 2, .int .i64 0]) ∧ ∃ ov', PE (fxk w.heap.size (w.heap.size + 1) w.heap.size Pl P 40) v1 w6 { v2' with ov := ov' } w') from by have h := alloc_any (fxk w.heap.size (w.heap.size + 1) w.heap.size Pl P 40) v1 w6 HP1.out HC1.out.j; rw [he] at h; exact h)
  have HE := hid he
  have HFF := hid hf
  clear he hf
  go_wp2_with fail
  refine HCL.out.mono ?_
  rintro e w7 ⟨rfl, ov', hpe⟩
  have hcm := HC1.out.alloc ov'
  have hab := alU_s (k := (fxk w.heap.size (w.heap.size + 1) w.heap.size Pl P 40)) (v := v1)
  rw [HE.out] at hcm hab
  replace hab : v2'.a = 1 ∧ v2'.b = 1 := ⟨hab.2.1.trans HAB1.out.1, hab.2.2.1.trans HAB1.out.2⟩
  obtain ⟨v2, hvx⟩ : ∃ v : PV, v = { v2' with ov := ov' } := ⟨_, rfl⟩
  have hf := HFF.out.ov ov'
  rw [← hvx] at hf
  replace hab : v2.a = 1 ∧ v2.b = 1 := by rw [hvx]; exact hab
  replace hpe : PE (fxk w.heap.size (w.heap.size + 1) w.heap.size Pl P 40) v1 w6 v2 w7 := by rw [hvx]; exact hpe
  replace hcm : PCalm (fxk w.heap.size (w.heap.size + 1) w.heap.size Pl P 40) v2 := by rw [hvx]; exact hcm
  clear hvx HE HFF
  have HP2 := hid hpe.1
  have HW2 := hid (HW1.out.trans (hpe.below HP1.out))
  have HC2 := hid hcm
  have HF2 := hid hf
  have HAB2 := hid hab
  clear hpe hcm hf hab HCL HP1 HC1 HF1 HW1 HAB1
  clear v2'
  have HBL := hid (block5_any 1 w7 (by decide))
  go_wp2_with fail
  refine HBL.out.mono ?_
  rintro e wb2 ⟨rfl, hbb⟩
  have hp := HP2.out.fresh hbb
  have HPB := hid hp
  have HWB := hid (HW2.out.trans (hbb.mono HW2.out.size))
  have HCL := hid (show Calls Tryz.prog 23 #[.pointer (some ⟨P, 0, none⟩), .int .i64 1, .agg (ArrU8 (blk5 1))] wb2 (PuEnds (fxk w.heap.size (w.heap.size + 1) w.heap.size Pl P 40) v2 1 (blk5 1) wb2) from put_any (fxk w.heap.size (w.heap.size + 1) w.heap.size Pl P 40) v2 1 (blk5 1) wb2 hp HC2.out.j.pin (usedN_le HC2.out.j) (by decide) (blk5_len 1))
  clear hbb hp HBL
  go_wp2_with fail
  refine HCL.out.mono ?_
  rintro e w8 ⟨rfl, ov', hpe⟩
  obtain ⟨hi, hf⟩ := fx_put1 (B := w.heap.size) (D := w.heap.size + 1) (M := w.heap.size) (Pl := Pl) (P := P) (rm := 40) blk1_ne HF2.out ov'
  rw [if_pos hi]
  have hcm := HC2.out.put 1 (blk5 1) (blk5_len 1) (blk5_rng 1 (by decide)) ov'
  obtain ⟨v3, hvx⟩ : ∃ v : PV, v = { v2 with ov := ov', ca := (puV (fxk w.heap.size (w.heap.size + 1) w.heap.size Pl P 40) v2 1 (blk5 1)).1, od := (puV (fxk w.heap.size (w.heap.size + 1) w.heap.size Pl P 40) v2 1 (blk5 1)).2.1, ch := (puV (fxk w.heap.size (w.heap.size + 1) w.heap.size Pl P 40) v2 1 (blk5 1)).2.2 } := ⟨_, rfl⟩
  rw [← hvx] at hpe hcm hf
  have hab : v3.a = v2.a ∧ v3.b = v2.b := by rw [hvx]; exact ⟨rfl, rfl⟩
  clear hvx
  clear hi
  have HP3 := hid hpe.1
  have HW3 := hid (HWB.out.trans (hpe.below HPB.out))
  have HC3 := hid hcm
  have HF3 := hid hf
  have HAB3 := hid (show v3.a = 1 ∧ v3.b = 1 from ⟨hab.1.trans HAB2.out.1, hab.2.trans HAB2.out.2⟩)
  clear hpe hcm hf hab HCL HP2 HC2 HF2 HW2 HAB2 HPB HWB
  have HCL := hid (show Calls Tryz.prog 27 #[.pointer (some ⟨P, 0, none⟩), .int .i64 2] w8 (FrEnds (fxk w.heap.size (w.heap.size + 1) w.heap.size Pl P 40) v3 2 w8) from free_page (fxk w.heap.size (w.heap.size + 1) w.heap.size Pl P 40) v3 2 w8 HP3.out HC3.out.j (by decide))
  go_wp2_with fail
  refine HCL.out.mono ?_
  rintro e w9 ⟨rfl, ov', hpe⟩
  obtain ⟨hi, hf⟩ := fx_free (B := w.heap.size) (D := w.heap.size + 1) (M := w.heap.size) (Pl := Pl) (P := P) (rm := 40) HF3.out ov'
  rw [if_pos hi]
  have hcm := HC3.out.free 2 ov'
  obtain ⟨v4, hvx⟩ : ∃ v : PV, v = { frU (fxk w.heap.size (w.heap.size + 1) w.heap.size Pl P 40) v3 2 with ov := ov' } := ⟨_, rfl⟩
  rw [← hvx] at hpe hcm hf
  have hab : v4.a = v3.a ∧ v4.b = v3.b := by rw [hvx]; unfold frU; rw [if_pos hi]; exact ⟨rfl, rfl⟩
  clear hvx hi
  have HP4 := hid hpe.1
  have HW4 := hid (HW3.out.trans (hpe.below HP3.out))
  have HC4 := hid hcm
  have HF4 := hid hf
  have HAB4 := hid (show v4.a = 1 ∧ v4.b = 1 from ⟨hab.1.trans HAB3.out.1, hab.2.trans HAB3.out.2⟩)
  clear hpe hcm hf hab HCL HP3 HC3 HF3 HW3 HAB3
  obtain ⟨v5', he, hf⟩ := fx_alloc3 (B := w.heap.size) (D := w.heap.size + 1) (M := w.heap.size) (Pl := Pl) (P := P) (rm := 40) HF4.out
  have HCL := hid (show Calls Tryz.prog 18 #[.pointer (some ⟨P, 0, none⟩)] w9 (fun e w' => e = .returned (.tuple #[.int .i64 2, .int .i64 0]) ∧ ∃ ov', PE (fxk w.heap.size (w.heap.size + 1) w.heap.size Pl P 40) v4 w9 { v5' with ov := ov' } w') from by have h := alloc_any (fxk w.heap.size (w.heap.size + 1) w.heap.size Pl P 40) v4 w9 HP4.out HC4.out.j; rw [he] at h; exact h)
  have HE := hid he
  have HFF := hid hf
  clear he hf
  go_wp2_with fail
  refine HCL.out.mono ?_
  rintro e w10 ⟨rfl, ov', hpe⟩
  have hcm := HC4.out.alloc ov'
  have hab := alU_s (k := (fxk w.heap.size (w.heap.size + 1) w.heap.size Pl P 40)) (v := v4)
  rw [HE.out] at hcm hab
  replace hab : v5'.a = 1 ∧ v5'.b = 1 := ⟨hab.2.1.trans HAB4.out.1, hab.2.2.1.trans HAB4.out.2⟩
  obtain ⟨v5, hvx⟩ : ∃ v : PV, v = { v5' with ov := ov' } := ⟨_, rfl⟩
  have hf := HFF.out.ov ov'
  rw [← hvx] at hf
  replace hab : v5.a = 1 ∧ v5.b = 1 := by rw [hvx]; exact hab
  replace hpe : PE (fxk w.heap.size (w.heap.size + 1) w.heap.size Pl P 40) v4 w9 v5 w10 := by rw [hvx]; exact hpe
  replace hcm : PCalm (fxk w.heap.size (w.heap.size + 1) w.heap.size Pl P 40) v5 := by rw [hvx]; exact hcm
  clear hvx HE HFF
  have HP5 := hid hpe.1
  have HW5 := hid (HW4.out.trans (hpe.below HP4.out))
  have HC5 := hid hcm
  have HF5 := hid hf
  have HAB5 := hid hab
  clear hpe hcm hf hab HCL HP4 HC4 HF4 HW4 HAB4
  clear v5'
  have HCL := hid (show Calls Tryz.prog 25 #[.pointer (some ⟨P, 0, none⟩)] w10 (fun e w' => e = .returned (.int .i64 2) ∧ Below w10.heap.size w10 w') from by have h := changed_any (fxk w.heap.size (w.heap.size + 1) w.heap.size Pl P 40) v5 w10 HP5.out HC5.out.j.hin HC5.out.j.chlen; rw [fx_changed HF5.out] at h; exact h)
  go_wp2_with fail
  refine HCL.out.mono ?_
  rintro e wc ⟨rfl, hbc⟩
  have HPB := hid (HP5.out.fresh hbc)
  have HWB := hid (HW5.out.trans (hbc.mono HW5.out.size))
  clear hbc HCL
  have HCL := hid (show Calls Tryz.prog 19 #[.pointer (some ⟨P, 0, none⟩)] wc (CmtEnds (fxk w.heap.size (w.heap.size + 1) w.heap.size Pl P 40) v5 wc) from commit_any (fxk w.heap.size (w.heap.size + 1) w.heap.size Pl P 40) v5 wc HPB.out HC5.out (by rw [HAB5.out.1]; decide) (by rw [HAB5.out.2]; decide))
  go_wp2_with fail
  refine HCL.out.mono ?_
  rintro e w11 hcc
  obtain ⟨rfl, v6, hpe, hcm, hf, h1⟩ := fx_done HF5.out hcc
  have HP6 := hid hpe.1
  have HW6 := hid (HWB.out.trans (hpe.below HPB.out))
  have HC6 := hid hcm
  have HF6 := hid (And.intro hf h1)
  clear hcc hpe hcm hf h1 HCL HPB HWB HP5 HC5 HF5 HW5 HAB5
  have HBL := hid (block5_any 2 w11 (by decide))
  go_wp2_with fail
  refine HBL.out.mono ?_
  rintro e wb6 ⟨rfl, hbb⟩
  have hp := HP6.out.fresh hbb
  have HPB := hid hp
  have HWB := hid (HW6.out.trans (hbb.mono HW6.out.size))
  have HCL := hid (show Calls Tryz.prog 23 #[.pointer (some ⟨P, 0, none⟩), .int .i64 1, .agg (ArrU8 (blk5 2))] wb6 (PuEnds (fxk w.heap.size (w.heap.size + 1) w.heap.size Pl P 40) v6 1 (blk5 2) wb6) from put_any (fxk w.heap.size (w.heap.size + 1) w.heap.size Pl P 40) v6 1 (blk5 2) wb6 hp HC6.out.j.pin (usedN_le HC6.out.j) (by decide) (blk5_len 2))
  clear hbb hp HBL
  go_wp2_with fail
  refine HCL.out.mono ?_
  rintro e w12 ⟨rfl, ov', hpe⟩
  obtain ⟨hi, hf⟩ := fxc_put (B := w.heap.size) (D := w.heap.size + 1) (M := w.heap.size) (Pl := Pl) (P := P) (rm := 40) HF6.out.1 (blk5 2) HF6.out.2 ov'
  rw [if_pos hi]
  have hcm := HC6.out.put 1 (blk5 2) (blk5_len 2) (blk5_rng 2 (by decide)) ov'
  obtain ⟨v7, hvx⟩ : ∃ v : PV, v = { v6 with ov := ov', ca := (puV (fxk w.heap.size (w.heap.size + 1) w.heap.size Pl P 40) v6 1 (blk5 2)).1, od := (puV (fxk w.heap.size (w.heap.size + 1) w.heap.size Pl P 40) v6 1 (blk5 2)).2.1, ch := (puV (fxk w.heap.size (w.heap.size + 1) w.heap.size Pl P 40) v6 1 (blk5 2)).2.2 } := ⟨_, rfl⟩
  rw [← hvx] at hpe hcm hf
  clear hvx hi
  have HP7 := hid hpe.1
  have HW7 := hid (HWB.out.trans (hpe.below HPB.out))
  have HC7 := hid hcm
  have HF7 := hid hf
  clear hpe hcm hf HCL HPB HWB HP6 HC6 HF6 HW6
  have HCL := hid (show Calls Tryz.prog 21 #[.pointer (some ⟨P, 0, none⟩)] w12 (AbEnds (fxk w.heap.size (w.heap.size + 1) w.heap.size Pl P 40) v7 w12) from abort_any (fxk w.heap.size (w.heap.size + 1) w.heap.size Pl P 40) v7 w12 HP7.out)
  go_wp2_with fail
  refine HCL.out.mono ?_
  rintro e w13 ⟨rfl, H', hpe⟩
  have hcm := HC7.out.abort H'
  have hf : FxC { v7 with h1 := v7.h0, Hm := H', ch := [] } (blk5 1) ∧ ({ v7 with h1 := v7.h0, Hm := H', ch := [] } : PV).h1 = fh 3 0 ∧ ({ v7 with h1 := v7.h0, Hm := H', ch := [] } : PV).ch = [] := ⟨⟨HF7.out.h0, HF7.out.c1⟩, HF7.out.h0, rfl⟩
  obtain ⟨v8, hvx⟩ : ∃ v : PV, v = { v7 with h1 := v7.h0, Hm := H', ch := [] } := ⟨_, rfl⟩
  rw [← hvx] at hpe hcm hf
  clear hvx
  have HP8 := hid hpe.1
  have HW8 := hid (HW7.out.trans (hpe.below HP7.out))
  have HC8 := hid hcm
  have HF8 := hid hf
  clear hpe hcm hf HCL HP7 HC7 HF7 HW7
  have hz35 := zero35
  have HI35 := hid (show (Tryz.prog.info? 50).map (·.size) = some 256 by kernel_rfl)
  have SZ := hid (show (ArrU8 (zeros 256)).size = 256 by rw [ArrU8_size, zeros_len])
  have SB := hid (show (ArrU8 (blk5 1)).size = 256 by rw [ArrU8_size, blk5_len])
  have HCL := hid (show Calls Tryz.prog 20 #[.pointer (some ⟨P, 0, none⟩), .int .i64 1] w13 (GeEnds (fxk w.heap.size (w.heap.size + 1) w.heap.size Pl P 40) v8 1 w13) from get_any (fxk w.heap.size (w.heap.size + 1) w.heap.size Pl P 40) v8 1 w13 HP8.out HC8.out.j.pin (usedN_le HC8.out.j) (by decide))
  go_wp2_with fail
  refine HCL.out.mono ?_
  rintro e w14 ⟨rfl, ov', hpe⟩
  rw [fxc_get (B := w.heap.size) (D := w.heap.size + 1) (M := w.heap.size) (Pl := Pl) (P := P) (rm := 40) HF8.out.1 HF8.out.2.1 HF8.out.2.2]
  have hcm := HC8.out.get 1 ov'
  have hf : ({ v8 with ov := ov', ca := (geV (fxk w.heap.size (w.heap.size + 1) w.heap.size Pl P 40) v8 1).1, od := (geV (fxk w.heap.size (w.heap.size + 1) w.heap.size Pl P 40) v8 1).2 } : PV).h1 = fh 3 0 ∧ ({ v8 with ov := ov', ca := (geV (fxk w.heap.size (w.heap.size + 1) w.heap.size Pl P 40) v8 1).1, od := (geV (fxk w.heap.size (w.heap.size + 1) w.heap.size Pl P 40) v8 1).2 } : PV).h0 = fh 3 0 ∧ ({ v8 with ov := ov', ca := (geV (fxk w.heap.size (w.heap.size + 1) w.heap.size Pl P 40) v8 1).1, od := (geV (fxk w.heap.size (w.heap.size + 1) w.heap.size Pl P 40) v8 1).2 } : PV).ch = [] := ⟨HF8.out.2.1, HF8.out.1.h0, HF8.out.2.2⟩
  obtain ⟨v9, hvx⟩ : ∃ v : PV, v = { v8 with ov := ov', ca := (geV (fxk w.heap.size (w.heap.size + 1) w.heap.size Pl P 40) v8 1).1, od := (geV (fxk w.heap.size (w.heap.size + 1) w.heap.size Pl P 40) v8 1).2 } := ⟨_, rfl⟩
  rw [← hvx] at hpe hcm hf
  clear hvx
  have hba : Below w14.heap.size w14 ((w14.alloc (.cells (ArrU8 (zeros 256)) 50)).setRow w14.heap.size (ArrU8 (blk5 1))) := below_setRow ((Below.refl _ _).alloc (Nat.le_refl _) _) (Nat.le_refl _) _
  have HX := hid (setRow_heap _ _ _ (ArrU8 (blk5 1)) _ _ (heap_alloc_new w14 (.cells (ArrU8 (zeros 256)) 50)))
  have HXO := hid (heap_alloc_new w14 (.cells (ArrU8 (zeros 256)) 50))
  have HP9 := hid (hpe.1.fresh hba)
  have hbw14 := HW8.out.trans (hpe.below HP8.out)
  have HW9 := hid (hbw14.trans (hba.mono hbw14.size))
  have HC9 := hid hcm
  have HF9 := hid hf
  have HNF := hid (fun g hg => (hpe.1.lt g hg).2)
  clear hbw14 hpe hcm hf hba HCL HP8 HC8 HF8 HW8
  go_wp2_with (refine wpList_store_row rfl 50 (Operand.tmp 15) (Operand.tmp 75) rfl w14.heap.size (ArrU8 (blk5 1)) rfl rfl 50 (ArrU8 (zeros 256)) HXO.out (by rw [HI35.out, SB.out]) (by rw [SB.out, SZ.out]) (ArrU8_one _) ?_)
  generalize hw15 : (w14.alloc (.cells (ArrU8 (zeros 256)) 50)).setRow w14.heap.size (ArrU8 (blk5 1)) = w15 at *
  clear hw15
  have HCL := hid (show Calls Tryz.prog 20 #[.pointer (some ⟨P, 0, none⟩), .int .i64 0] w15 (GeEnds (fxk w.heap.size (w.heap.size + 1) w.heap.size Pl P 40) v9 0 w15) from get_any (fxk w.heap.size (w.heap.size + 1) w.heap.size Pl P 40) v9 0 w15 HP9.out HC9.out.j.pin (usedN_le HC9.out.j) (by decide))
  refine HCL.out.mono ?_
  rintro e w16 ⟨rfl, ov', hpe⟩
  rw [fxc_get0 (B := w.heap.size) (D := w.heap.size + 1) (M := w.heap.size) (Pl := Pl) (P := P) (rm := 40)]
  have hcm := HC9.out.get 0 ov'
  have hf : ({ v9 with ov := ov', ca := (geV (fxk w.heap.size (w.heap.size + 1) w.heap.size Pl P 40) v9 0).1, od := (geV (fxk w.heap.size (w.heap.size + 1) w.heap.size Pl P 40) v9 0).2 } : PV).h1 = fh 3 0 ∧ ({ v9 with ov := ov', ca := (geV (fxk w.heap.size (w.heap.size + 1) w.heap.size Pl P 40) v9 0).1, od := (geV (fxk w.heap.size (w.heap.size + 1) w.heap.size Pl P 40) v9 0).2 } : PV).h0 = fh 3 0 ∧ ({ v9 with ov := ov', ca := (geV (fxk w.heap.size (w.heap.size + 1) w.heap.size Pl P 40) v9 0).1, od := (geV (fxk w.heap.size (w.heap.size + 1) w.heap.size Pl P 40) v9 0).2 } : PV).ch = [] := HF9.out
  obtain ⟨v10, hvx⟩ : ∃ v : PV, v = { v9 with ov := ov', ca := (geV (fxk w.heap.size (w.heap.size + 1) w.heap.size Pl P 40) v9 0).1, od := (geV (fxk w.heap.size (w.heap.size + 1) w.heap.size Pl P 40) v9 0).2 } := ⟨_, rfl⟩
  rw [← hvx] at hpe hcm hf
  clear hvx
  have hx16 : w16.heap[w14.heap.size]? = some (.cells (ArrU8 (blk5 1)) 50 (0, 0)) := (hpe.2.1.block _ (Array.getElem?_eq_some_iff.1 HX.out).1 (fun hF => by have := HNF.out _ hF; omega)).trans HX.out
  have HP10 := hid hpe.1
  have HW10 := hid (HW9.out.trans (hpe.below HP9.out))
  have HC10 := hid hcm
  have HF10 := hid hf
  have HX16 := hid (show w16.drew.heap[w14.heap.size]? = some (.cells (ArrU8 (blk5 1)) 50 (0, 0)) from hx16)
  have HXN := hid (heap_alloc_new w16 (.cells (ArrU8 (zeros 256)) 50))
  clear hx16 hpe hcm hf HCL HP9 HC9 HF9 HW9 HX HXO
  go_wp2_with (refine wpList_store_row rfl 50 (Operand.tmp 17) (Operand.tmp 80) rfl w16.heap.size (ArrU8 (zeros 256)) rfl rfl 50 (ArrU8 (zeros 256)) HXN.out (by rw [HI35.out, SZ.out]) rfl (ArrU8_one _) ?_)
  have hb17 : Below w16.heap.size w16 ((w16.alloc (.cells (ArrU8 (zeros 256)) 50)).setRow w16.heap.size (ArrU8 (zeros 256))) := below_setRow ((Below.refl _ _).alloc (Nat.le_refl _) _) (Nat.le_refl _) _
  have HP11 := hid ((HP10.out.fresh hb17).fresh ((Below.refl _ _).drew))
  have HW11 := hid ((HW10.out.trans (hb17.mono HW10.out.size)).drew)
  have HX17 := hid (show ((w16.alloc (.cells (ArrU8 (zeros 256)) 50)).setRow w16.heap.size (ArrU8 (zeros 256))).drew.heap[w14.heap.size]? = some (.cells (ArrU8 (blk5 1)) 50 (0, 0)) from (hb17.block _ (Array.getElem?_eq_some_iff.1 HX16.out).1).trans HX16.out)
  clear hb17 HP10 HW10 HX16 HXN
  generalize (w16.alloc (.cells (ArrU8 (zeros 256)) 50)).setRow w16.heap.size (ArrU8 (zeros 256)) = w17 at *
  have HCH := hid (show chN v10 = 0 from by unfold chN; rw [HF10.out.2.2, HF10.out.1, HF10.out.2.1]; rfl)
  have HRT := hid (show hN v10.h1 (2 + 3) = 0 from by rw [HF10.out.1]; rfl)
  refine wp_region_held_drew (S := fun u => u.heap[w14.heap.size]? = some (.cells (ArrU8 (blk5 1)) 50 (0, 0))) (by kernel_rfl) (HX17.out) (fun hHeld => ?_)
  refine tk (i := 0) (oi := ⟨some 82, .move (.tmp 4), 3, "law.go:47", #[], none⟩) (v := ?_) (Or.inl ⟨by rfl, ?_⟩) ?_
  rotate_left 1
  · (intro u hSw; go_simp; try with_reducible rfl)
  try simp only [Act.put, sA, sB, sC]
  refine tk (i := 1) (oi := ⟨some 83, .binOp BinOp.eql 3 (.tmp 82) (.const (Value.int IntKind.i64 1)) 3, 4, "law.go:47", #[⟨0, .data⟩], none⟩) (v := ?_) (Or.inl ⟨by rfl, ?_⟩) ?_
  rotate_left 1
  · (intro u hSw; go_simp; try with_reducible rfl)
  try simp only [Act.put, sA, sB, sC]
  refine tk (i := 2) (oi := ⟨some 84, .move (.tmp 83), 4, "law.go:47", #[⟨1, .data⟩], none⟩) (v := ?_) (Or.inl ⟨by rfl, ?_⟩) ?_
  rotate_left 1
  · (intro u hSw; go_simp; try with_reducible rfl)
  try simp only [Act.put, sA, sB, sC]
  refine tk (i := 3) (oi := ⟨some 85, .move (.tmp 6), 3, "law.go:47", #[⟨2, .guard⟩], some (2, true)⟩) (v := ?_) (Or.inl ⟨by rfl, ?_⟩) ?_
  rotate_left 1
  · (intro u hSw; go_simp; try with_reducible rfl)
  try simp only [Act.put, sA, sB, sC]
  refine tk (i := 4) (oi := ⟨some 86, .binOp BinOp.eql 3 (.tmp 85) (.const (Value.int IntKind.i64 2)) 3, 4, "law.go:47", #[⟨3, .data⟩, ⟨2, .guard⟩], some (2, true)⟩) (v := ?_) (Or.inl ⟨by rfl, ?_⟩) ?_
  rotate_left 1
  · (intro u hSw; go_simp; try with_reducible rfl)
  try simp only [Act.put, sA, sB, sC]
  refine tk (i := 5) (oi := ⟨some 87, .pick (.tmp 84) (.tmp 86) (.const (Value.bool false)), 4, "law.go:47", #[⟨2, .data⟩, ⟨4, .data⟩], none⟩) (v := ?_) (Or.inl ⟨by rfl, ?_⟩) ?_
  rotate_left 1
  · (intro u hSw; go_simp; try with_reducible rfl)
  try simp only [Act.put, sA, sB, sC]
  refine tk (i := 6) (oi := ⟨some 88, .move (.tmp 87), 4, "law.go:47", #[⟨5, .data⟩, ⟨2, .chain⟩], none⟩) (v := ?_) (Or.inl ⟨by rfl, ?_⟩) ?_
  rotate_left 1
  · (intro u hSw; go_simp; try with_reducible rfl)
  try simp only [Act.put, sA, sB, sC]
  refine tk (i := 7) (oi := ⟨some 89, .move (.tmp 10), 3, "law.go:47", #[⟨6, .guard⟩], some (6, true)⟩) (v := ?_) (Or.inl ⟨by rfl, ?_⟩) ?_
  rotate_left 1
  · (intro u hSw; go_simp; try with_reducible rfl)
  try simp only [Act.put, sA, sB, sC]
  refine tk (i := 8) (oi := ⟨some 90, .binOp BinOp.eql 3 (.tmp 89) (.const (Value.int IntKind.i64 2)) 3, 4, "law.go:47", #[⟨7, .data⟩, ⟨6, .guard⟩], some (6, true)⟩) (v := ?_) (Or.inl ⟨by rfl, ?_⟩) ?_
  rotate_left 1
  · (intro u hSw; go_simp; try with_reducible rfl)
  try simp only [Act.put, sA, sB, sC]
  refine tk (i := 9) (oi := ⟨some 91, .pick (.tmp 88) (.tmp 90) (.const (Value.bool false)), 4, "law.go:47", #[⟨6, .data⟩, ⟨8, .data⟩], none⟩) (v := ?_) (Or.inl ⟨by rfl, ?_⟩) ?_
  rotate_left 1
  · (intro u hSw; go_simp; try with_reducible rfl)
  try simp only [Act.put, sA, sB, sC]
  refine tk (i := 10) (oi := ⟨some 92, .move (.tmp 91), 4, "law.go:47", #[⟨9, .data⟩, ⟨6, .chain⟩], none⟩) (v := ?_) (Or.inl ⟨by rfl, ?_⟩) ?_
  rotate_left 1
  · (intro u hSw; go_simp; try with_reducible rfl)
  try simp only [Act.put, sA, sB, sC]
  refine tk (i := 11) (oi := ⟨some 93, .move (.tmp 5), 28, "law.go:47", #[⟨10, .guard⟩], some (10, true)⟩) (v := ?_) (Or.inl ⟨by rfl, ?_⟩) ?_
  rotate_left 1
  · (intro u hSw; go_simp; try with_reducible rfl)
  try simp only [Act.put, sA, sB, sC]
  refine tk (i := 12) (oi := ⟨some 94, .move (.tmp 7), 28, "law.go:47", #[⟨10, .guard⟩], some (10, true)⟩) (v := ?_) (Or.inl ⟨by rfl, ?_⟩) ?_
  rotate_left 1
  · (intro u hSw; go_simp; try with_reducible rfl)
  try simp only [Act.put, sA, sB, sC]
  refine tk (i := 13) (oi := ⟨some 95, .binOp BinOp.add 28 (.tmp 93) (.tmp 94) 28, 28, "law.go:47", #[⟨11, .data⟩, ⟨12, .data⟩, ⟨10, .guard⟩], some (10, true)⟩) (v := ?_) (Or.inl ⟨by rfl, ?_⟩) ?_
  rotate_left 1
  · (intro u hSw; go_simp; try with_reducible rfl)
  try simp only [Act.put, sA, sB, sC]
  refine tk (i := 14) (oi := ⟨some 96, .move (.tmp 8), 28, "law.go:47", #[⟨10, .guard⟩], some (10, true)⟩) (v := ?_) (Or.inl ⟨by rfl, ?_⟩) ?_
  rotate_left 1
  · (intro u hSw; go_simp; try with_reducible rfl)
  try simp only [Act.put, sA, sB, sC]
  refine tk (i := 15) (oi := ⟨some 97, .binOp BinOp.add 28 (.tmp 95) (.tmp 96) 28, 28, "law.go:47", #[⟨13, .data⟩, ⟨14, .data⟩, ⟨10, .guard⟩], some (10, true)⟩) (v := ?_) (Or.inl ⟨by rfl, ?_⟩) ?_
  rotate_left 1
  · (intro u hSw; go_simp; try with_reducible rfl)
  try simp only [Act.put, sA, sB, sC]
  refine tk (i := 16) (oi := ⟨some 98, .move (.tmp 9), 28, "law.go:47", #[⟨10, .guard⟩], some (10, true)⟩) (v := ?_) (Or.inl ⟨by rfl, ?_⟩) ?_
  rotate_left 1
  · (intro u hSw; go_simp; try with_reducible rfl)
  try simp only [Act.put, sA, sB, sC]
  refine tk (i := 17) (oi := ⟨some 99, .binOp BinOp.add 28 (.tmp 97) (.tmp 98) 28, 28, "law.go:47", #[⟨15, .data⟩, ⟨16, .data⟩, ⟨10, .guard⟩], some (10, true)⟩) (v := ?_) (Or.inl ⟨by rfl, ?_⟩) ?_
  rotate_left 1
  · (intro u hSw; go_simp; try with_reducible rfl)
  try simp only [Act.put, sA, sB, sC]
  refine tk (i := 18) (oi := ⟨some 100, .move (.tmp 11), 28, "law.go:47", #[⟨10, .guard⟩], some (10, true)⟩) (v := ?_) (Or.inl ⟨by rfl, ?_⟩) ?_
  rotate_left 1
  · (intro u hSw; go_simp; try with_reducible rfl)
  try simp only [Act.put, sA, sB, sC]
  refine tk (i := 19) (oi := ⟨some 101, .binOp BinOp.add 28 (.tmp 99) (.tmp 100) 28, 28, "law.go:47", #[⟨17, .data⟩, ⟨18, .data⟩, ⟨10, .guard⟩], some (10, true)⟩) (v := ?_) (Or.inl ⟨by rfl, ?_⟩) ?_
  rotate_left 1
  · (intro u hSw; go_simp; try with_reducible rfl)
  try simp only [Act.put, sA, sB, sC]
  refine tk (i := 20) (oi := ⟨some 102, .move (.tmp 13), 28, "law.go:47", #[⟨10, .guard⟩], some (10, true)⟩) (v := ?_) (Or.inl ⟨by rfl, ?_⟩) ?_
  rotate_left 1
  · (intro u hSw; go_simp; try with_reducible rfl)
  try simp only [Act.put, sA, sB, sC]
  refine tk (i := 21) (oi := ⟨some 103, .binOp BinOp.add 28 (.tmp 101) (.tmp 102) 28, 28, "law.go:47", #[⟨19, .data⟩, ⟨20, .data⟩, ⟨10, .guard⟩], some (10, true)⟩) (v := ?_) (Or.inl ⟨by rfl, ?_⟩) ?_
  rotate_left 1
  · (intro u hSw; go_simp; try with_reducible rfl)
  try simp only [Act.put, sA, sB, sC]
  refine tk (i := 22) (oi := ⟨some 104, .move (.tmp 14), 28, "law.go:47", #[⟨10, .guard⟩], some (10, true)⟩) (v := ?_) (Or.inl ⟨by rfl, ?_⟩) ?_
  rotate_left 1
  · (intro u hSw; go_simp; try with_reducible rfl)
  try simp only [Act.put, sA, sB, sC]
  refine tk (i := 23) (oi := ⟨some 105, .binOp BinOp.add 28 (.tmp 103) (.tmp 104) 28, 28, "law.go:47", #[⟨21, .data⟩, ⟨22, .data⟩, ⟨10, .guard⟩], some (10, true)⟩) (v := ?_) (Or.inl ⟨by rfl, ?_⟩) ?_
  rotate_left 1
  · (intro u hSw; go_simp; try with_reducible rfl)
  try simp only [Act.put, sA, sB, sC]
  refine tk (i := 24) (oi := ⟨some 106, .move (.tmp 16), 28, "law.go:47", #[⟨10, .guard⟩], some (10, true)⟩) (v := ?_) (Or.inl ⟨by rfl, ?_⟩) ?_
  rotate_left 1
  · (intro u hSw; go_simp; try with_reducible rfl)
  try simp only [Act.put, sA, sB, sC]
  refine tk (i := 25) (oi := ⟨some 107, .binOp BinOp.add 28 (.tmp 105) (.tmp 106) 28, 28, "law.go:47", #[⟨23, .data⟩, ⟨24, .data⟩, ⟨10, .guard⟩], some (10, true)⟩) (v := ?_) (Or.inl ⟨by rfl, ?_⟩) ?_
  rotate_left 1
  · (intro u hSw; go_simp; try with_reducible rfl)
  try simp only [Act.put, sA, sB, sC]
  refine tk (i := 26) (oi := ⟨some 108, .binOp BinOp.eql 28 (.tmp 107) (.const (Value.int IntKind.i64 0)) 28, 4, "law.go:47", #[⟨25, .data⟩, ⟨10, .guard⟩], some (10, true)⟩) (v := ?_) (Or.inl ⟨by rfl, ?_⟩) ?_
  rotate_left 1
  · (intro u hSw; go_simp; try with_reducible rfl)
  try simp only [Act.put, sA, sB, sC]
  refine tk (i := 27) (oi := ⟨some 109, .pick (.tmp 92) (.tmp 108) (.const (Value.bool false)), 4, "law.go:47", #[⟨10, .data⟩, ⟨26, .data⟩], none⟩) (v := ?_) (Or.inl ⟨by rfl, ?_⟩) ?_
  rotate_left 1
  · (intro u hSw; go_simp; try with_reducible rfl)
  try simp only [Act.put, sA, sB, sC]
  refine tk (i := 28) (oi := ⟨some 110, .move (.tmp 109), 4, "law.go:47", #[⟨27, .data⟩, ⟨10, .chain⟩], none⟩) (v := ?_) (Or.inl ⟨by rfl, ?_⟩) ?_
  rotate_left 1
  · (intro u hSw; go_simp; try with_reducible rfl)
  try simp only [Act.put, sA, sB, sC]
  refine tk (i := 29) (oi := ⟨some 111, .move (.tmp 12), 3, "law.go:47", #[⟨28, .guard⟩], some (28, true)⟩) (v := ?_) (Or.inl ⟨by rfl, ?_⟩) ?_
  rotate_left 1
  · (intro u hSw; go_simp; try with_reducible rfl)
  try simp only [Act.put, sA, sB, sC]
  refine tk (i := 30) (oi := ⟨some 112, .binOp BinOp.eql 3 (.tmp 111) (.const (Value.int IntKind.i64 2)) 3, 4, "law.go:47", #[⟨29, .data⟩, ⟨28, .guard⟩], some (28, true)⟩) (v := ?_) (Or.inl ⟨by rfl, ?_⟩) ?_
  rotate_left 1
  · (intro u hSw; go_simp; try with_reducible rfl)
  try simp only [Act.put, sA, sB, sC]
  refine tk (i := 31) (oi := ⟨some 113, .pick (.tmp 110) (.tmp 112) (.const (Value.bool false)), 4, "law.go:47", #[⟨28, .data⟩, ⟨30, .data⟩], none⟩) (v := ?_) (Or.inl ⟨by rfl, ?_⟩) ?_
  rotate_left 1
  · (intro u hSw; go_simp; try with_reducible rfl)
  try simp only [Act.put, sA, sB, sC]
  refine tk (i := 32) (oi := ⟨some 114, .move (.tmp 113), 4, "law.go:47", #[⟨31, .data⟩, ⟨28, .chain⟩], none⟩) (v := ?_) (Or.inl ⟨by rfl, ?_⟩) ?_
  rotate_left 1
  · (intro u hSw; go_simp; try with_reducible rfl)
  try simp only [Act.put, sA, sB, sC]
  refine tk (i := 33) (oi := ⟨some 115, .load 50 (.tmp 15), 50, "law.go:47", #[⟨32, .guard⟩], some (32, true)⟩) (v := ?_) (Or.inl ⟨by rfl, ?_⟩) ?_
  rotate_left 1
  · intro u hSw
    refine exec_load_row 50 (Operand.tmp 15) ?_ u w14.heap.size ?_ (ArrU8 (blk5 1)) 50 (0, 0) _ hSw Tryz.underlying50 rfl (by rw [HI35.out, SB.out]) <;> rfl
  try simp only [Act.put, sA, sB, sC]
  refine wpAnyH_ready (rs := [34]) (by kernel_rfl) (by simp) ?_
  refine (AllReadyH.cons (o := ⟨some 116, .call ⟨.value (.func 24), #[.const (Value.int IntKind.u8 1)], #[5]⟩, 50, "law.go:47", #[⟨32, .chain⟩, ⟨32, .guard⟩], some (32, true)⟩) rfl (fun K hK => ?_) AllReadyH.nil)
  go_simp
  refine (block5_any 1 _ (by decide)).mono ?_
  rintro e w18 ⟨rfl, hb18⟩
  have HS18 := hid ((hb18.block _ (Array.getElem?_eq_some_iff.1 HX17.out).1).trans HX17.out)
  have HP12 := hid (HP11.out.fresh hb18)
  have HW12 := hid (HW11.out.trans (hb18.mono HW11.out.size))
  have HCC := hid (show Calls Tryz.prog 25 #[.pointer (some ⟨P, 0, none⟩)] w18 (fun e w' => e = .returned (.int .i64 0) ∧ Below w18.heap.size w18 w') from by have h := changed_any (fxk w.heap.size (w.heap.size + 1) w.heap.size Pl P 40) v10 w18 HP12.out HC10.out.j.hin HC10.out.j.chlen; rw [HCH.out] at h; exact h)
  clear hb18
  go_wp2_with fail
  refine hK.out _ _ HS18.out (fun hHeld => ?_)
  clear hK K
  try simp only [Act.put, sA, sB, sC]
  refine tk (i := 35) (oi := ⟨some 117, .binOp BinOp.eql 50 (.tmp 115) (.tmp 116) 50, 4, "law.go:47", #[⟨33, .data⟩, ⟨34, .data⟩, ⟨32, .guard⟩], some (32, true)⟩) (v := .bool true) (Or.inl ⟨by rfl, ?_⟩) ?_
  · intro u hSw
    exact exec_eql_blk (Operand.tmp 115) (Operand.tmp 116) 50 rfl (blk5 1) (blk5 1) rfl rfl (blk5_len 1) (blk5_len 1) true (by simp)
  try simp only [Act.put, sA, sB, sC]
  refine tk (i := 36) (oi := ⟨some 118, .pick (.tmp 114) (.tmp 117) (.const (Value.bool false)), 4, "law.go:47", #[⟨32, .data⟩, ⟨35, .data⟩], none⟩) (v := ?_) (Or.inl ⟨by rfl, ?_⟩) ?_
  rotate_left 1
  · (intro u hSw; go_simp; try with_reducible rfl)
  try simp only [Act.put, sA, sB, sC]
  refine tk (i := 37) (oi := ⟨some 119, .move (.tmp 118), 4, "law.go:47", #[⟨36, .data⟩, ⟨34, .chain⟩], none⟩) (v := ?_) (Or.inl ⟨by rfl, ?_⟩) ?_
  rotate_left 1
  · (intro u hSw; go_simp; try with_reducible rfl)
  try simp only [Act.put, sA, sB, sC]
  refine tk (i := 38) (oi := ⟨some 120, .move (.tmp 18), 28, "law.go:47", #[⟨37, .guard⟩], some (37, true)⟩) (v := ?_) (Or.inl ⟨by rfl, ?_⟩) ?_
  rotate_left 1
  · (intro u hSw; go_simp; try with_reducible rfl)
  try simp only [Act.put, sA, sB, sC]
  refine tk (i := 39) (oi := ⟨some 121, .binOp BinOp.eql 28 (.tmp 120) (.const (Value.int IntKind.i64 2)) 28, 4, "law.go:47", #[⟨38, .data⟩, ⟨37, .guard⟩], some (37, true)⟩) (v := ?_) (Or.inl ⟨by rfl, ?_⟩) ?_
  rotate_left 1
  · (intro u hSw; go_simp; try with_reducible rfl)
  try simp only [Act.put, sA, sB, sC]
  refine tk (i := 40) (oi := ⟨some 122, .pick (.tmp 119) (.tmp 121) (.const (Value.bool false)), 4, "law.go:47", #[⟨37, .data⟩, ⟨39, .data⟩], none⟩) (v := ?_) (Or.inl ⟨by rfl, ?_⟩) ?_
  rotate_left 1
  · (intro u hSw; go_simp; try with_reducible rfl)
  try simp only [Act.put, sA, sB, sC]
  refine tk (i := 41) (oi := ⟨some 123, .move (.tmp 122), 4, "law.go:47", #[⟨40, .data⟩, ⟨37, .chain⟩], none⟩) (v := ?_) (Or.inl ⟨by rfl, ?_⟩) ?_
  rotate_left 1
  · (intro u hSw; go_simp; try with_reducible rfl)
  try simp only [Act.put, sA, sB, sC]
  refine tk (i := 42) (oi := ⟨some 124, .move (.tmp 2), 30, "law.go:47", #[⟨41, .guard⟩], some (41, true)⟩) (v := ?_) (Or.inl ⟨by rfl, ?_⟩) ?_
  rotate_left 1
  · (intro u hSw; go_simp; try with_reducible rfl)
  try simp only [Act.put, sA, sB, sC]
  refine wpAnyH_ready (rs := [43]) (by kernel_rfl) (by simp) ?_
  refine (AllReadyH.cons (o := ⟨some 125, .call ⟨.value (.func 25), #[.tmp 124], #[30]⟩, 3, "law.go:47", #[⟨42, .data⟩, ⟨41, .chain⟩, ⟨41, .guard⟩], some (41, true)⟩) rfl (fun K hK => ?_) AllReadyH.nil)
  go_simp
  refine HCC.out.mono ?_
  rintro e w19 ⟨rfl, hb19⟩
  have HS19 := hid ((hb19.block _ (Array.getElem?_eq_some_iff.1 HS18.out).1).trans HS18.out)
  have HP13 := hid (HP12.out.fresh hb19)
  have HW13 := hid (HW12.out.trans (hb19.mono HW12.out.size))
  have HRR := hid (show Calls Tryz.prog 28 #[.pointer (some ⟨P, 0, none⟩), .int .i64 3] w19 (fun e w' => e = .returned (.int .u64 0) ∧ w19 = w') from by have h := root_any (fxk w.heap.size (w.heap.size + 1) w.heap.size Pl P 40) v10 3 w19 HP13.out; rw [if_pos (by decide), show (3 : Int).toNat = 3 from rfl, HRT.out] at h; exact h)
  clear hb19
  go_wp2_with fail
  refine hK.out _ _ HS19.out (fun hHeld => ?_)
  clear hK K
  try simp only [Act.put, sA, sB, sC]
  refine tk (i := 44) (oi := ⟨some 126, .binOp BinOp.eql 3 (.tmp 125) (.const (Value.int IntKind.i64 0)) 3, 4, "law.go:47", #[⟨43, .data⟩, ⟨41, .guard⟩], some (41, true)⟩) (v := ?_) (Or.inl ⟨by rfl, ?_⟩) ?_
  rotate_left 1
  · (intro u hSw; go_simp; try with_reducible rfl)
  try simp only [Act.put, sA, sB, sC]
  refine tk (i := 45) (oi := ⟨some 127, .pick (.tmp 123) (.tmp 126) (.const (Value.bool false)), 4, "law.go:47", #[⟨41, .data⟩, ⟨44, .data⟩], none⟩) (v := ?_) (Or.inl ⟨by rfl, ?_⟩) ?_
  rotate_left 1
  · (intro u hSw; go_simp; try with_reducible rfl)
  try simp only [Act.put, sA, sB, sC]
  refine tk (i := 46) (oi := ⟨some 128, .move (.tmp 127), 4, "law.go:47", #[⟨45, .data⟩, ⟨43, .chain⟩], none⟩) (v := ?_) (Or.inl ⟨by rfl, ?_⟩) ?_
  rotate_left 1
  · (intro u hSw; go_simp; try with_reducible rfl)
  try simp only [Act.put, sA, sB, sC]
  refine tk (i := 47) (oi := ⟨some 129, .move (.tmp 2), 30, "law.go:47", #[⟨46, .guard⟩], some (46, true)⟩) (v := ?_) (Or.inl ⟨by rfl, ?_⟩) ?_
  rotate_left 1
  · (intro u hSw; go_simp; try with_reducible rfl)
  try simp only [Act.put, sA, sB, sC]
  refine wpAnyH_ready (rs := [48]) (by kernel_rfl) (by simp) ?_
  refine (AllReadyH.cons (o := ⟨some 130, .call ⟨.value (.func 28), #[.tmp 129, .const (Value.int IntKind.i64 3)], #[30, 3]⟩, 60, "law.go:47", #[⟨47, .data⟩, ⟨46, .chain⟩, ⟨46, .guard⟩], some (46, true)⟩) rfl (fun K hK => ?_) AllReadyH.nil)
  go_simp
  refine HRR.out.mono ?_
  rintro e w20 ⟨rfl, hw20⟩
  have HS20 := hid (hw20 ▸ HS19.out)
  have HW14 := hid (hw20 ▸ HW13.out)
  clear hw20
  go_wp2_with fail
  refine hK.out _ _ HS20.out (fun hHeld => ?_)
  clear hK K
  try simp only [Act.put, sA, sB, sC]
  refine tk (i := 49) (oi := ⟨some 131, .binOp BinOp.eql 60 (.tmp 130) (.const (Value.int IntKind.u64 0)) 60, 4, "law.go:47", #[⟨48, .data⟩, ⟨46, .guard⟩], some (46, true)⟩) (v := ?_) (Or.inl ⟨by rfl, ?_⟩) ?_
  rotate_left 1
  · (intro u hSw; go_simp; try with_reducible rfl)
  try simp only [Act.put, sA, sB, sC]
  refine tk (i := 50) (oi := ⟨some 132, .pick (.tmp 128) (.tmp 131) (.const (Value.bool false)), 4, "law.go:47", #[⟨46, .data⟩, ⟨49, .data⟩], none⟩) (v := ?_) (Or.inl ⟨by rfl, ?_⟩) ?_
  rotate_left 1
  · (intro u hSw; go_simp; try with_reducible rfl)
  try simp only [Act.put, sA, sB, sC]
  refine tk (i := 51) (oi := ⟨some 0, .assign (.tmp 132), 4, "law.go:47", #[⟨50, .data⟩, ⟨48, .chain⟩, ⟨0, .phase⟩, ⟨1, .phase⟩, ⟨2, .phase⟩, ⟨3, .phase⟩, ⟨4, .phase⟩, ⟨5, .phase⟩, ⟨6, .phase⟩, ⟨7, .phase⟩, ⟨8, .phase⟩, ⟨9, .phase⟩, ⟨10, .phase⟩, ⟨11, .phase⟩, ⟨12, .phase⟩, ⟨13, .phase⟩, ⟨14, .phase⟩, ⟨15, .phase⟩, ⟨16, .phase⟩, ⟨17, .phase⟩, ⟨18, .phase⟩, ⟨19, .phase⟩, ⟨20, .phase⟩, ⟨21, .phase⟩, ⟨22, .phase⟩, ⟨23, .phase⟩, ⟨24, .phase⟩, ⟨25, .phase⟩, ⟨26, .phase⟩, ⟨27, .phase⟩, ⟨28, .phase⟩, ⟨29, .phase⟩, ⟨30, .phase⟩, ⟨31, .phase⟩, ⟨32, .phase⟩, ⟨33, .phase⟩, ⟨34, .phase⟩, ⟨35, .phase⟩, ⟨36, .phase⟩, ⟨37, .phase⟩, ⟨38, .phase⟩, ⟨39, .phase⟩, ⟨40, .phase⟩, ⟨41, .phase⟩, ⟨42, .phase⟩, ⟨43, .phase⟩, ⟨44, .phase⟩, ⟨45, .phase⟩, ⟨46, .phase⟩, ⟨47, .phase⟩, ⟨48, .phase⟩, ⟨49, .phase⟩, ⟨50, .phase⟩], none⟩) (v := ?_) (Or.inl ⟨by rfl, ?_⟩) ?_
  rotate_left 1
  · (intro u hSw; go_simp; try with_reducible rfl)
  try simp only [Act.put, sA, sB]
  refine wpAnyH_done (by kernel_rfl) ?_ _
  go_wp2_with fail
  go_ret
  exact ⟨rfl, HW14.out⟩
end Go.Proofs.YtdkjkibdncbibaaGreat
/- PageDoes: the walk -/
namespace Go.Proofs.YtdkjkibdncbibaaGreat
open Go.RowKit
open Go.Lib (hid)
end Go.Proofs.YtdkjkibdncbibaaGreat
