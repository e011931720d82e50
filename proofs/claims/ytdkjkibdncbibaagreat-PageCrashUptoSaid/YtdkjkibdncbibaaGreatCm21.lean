/- a disk made a pager's -/
import Derived.Test.YtdkjkibdncbibaaGreatCm18
import Derived.Test.YtdkjkibdncbibaaGreatCm20
namespace Go.Proofs.YtdkjkibdncbibaaGreat
open Go.RowKit
open Go.Lib (hid)
def hdr0 : List Int := ovB (1 :: List.replicate 17 0) (zeros 256)
theorem hdr0_len : hdr0.length = 256 := ovL_len _ _ 18 rfl (zeros_len _) (Nat.le_refl _)
theorem hdr0_rng : Rng hdr0 := ovL_rng _ _ _ (rng_zeros _)
theorem fput_rngP {f : Int → List Int} (h : ∀ n, Rng (f n)) (m : Int) {b : List Int} (hb : Rng b) : ∀ n, Rng (fput f m b n) := fun n => by
 unfold fput
 split
 ·exact hb
 ·exact h n
def FmX (B D M : Nat) (nb rm : Int) (f : Int → List Int) (lv : Value) (fi sz : Int) (w : World) (e : Ending) (w' : World) : Prop :=
 e = .returned (.int .i64 0) ∧ ∃ lv', LgD w' B D M nb rm (fputs f (fw fi)) lv' fi sz 1 1 0 [] ∧ Chg (Foot D M lv) w w' ∧ (∀ k, Foot D M lv' k → Foot D M lv k ∨ w.heap.size ≤ k)
theorem ld_formatX {w : World} {B D M : Nat} {nb rm : Int} {f : Int → List Int} {lv : Value} {fi sz : Int} {L : List WR} (hd : Dk w B D M nb rm (-1) false f L lv) (hr : ∀ n, Rng (f n)) (h1 : 0 ≤ fi) (h2 : 3 ≤ sz) (h3 : fi ≤ nb - sz) (h4 : nb ≤ 4096) (hrm : fi + 1 < rm) (hL : L.length ≤ 4097) :
  Calls Tryz.prog 33 #[.pointer (some ⟨D, 0, none⟩), .int .i64 fi, .int .i64 sz] w (FmX B D M nb rm f lv fi sz w) := by
 refine (format_yes B D M nb rm fi sz ⟨-1, false, f, L⟩ lv w hd h1 h2 h3 h4 (by show L.length ≤ _; omega)).mono ?_
 obtain ⟨g1, g2⟩ := wsy_calm (nb := nb) (rm := rm) (fw fi) (s := ⟨-1, false, f, L⟩) ⟨rfl, rfl⟩ (fun x hx => by
  rw [fw, List.mem_cons, List.mem_singleton] at hx
  rcases hx with rfl | rfl
  ·show 0 ≤ fi + 1 ∧ fi + 1 < nb ∧ fi + 1 < rm; omega
  ·show 0 ≤ fi ∧ fi < nb ∧ fi < rm; omega)
 rw [g1, g2]
 rintro e w' ⟨rfl, lv', hdk, hc, hf⟩
 refine ⟨rfl, lv', ⟨hdk, mk_format f fi, rfl, by omega, fputs_rng _ _ hr (fun x hx => ?_), (fun r hr => by cases hr), h1, h2, h3, h4, by decide, by decide⟩, hc, hf⟩
 rw [fw, List.mem_cons, List.mem_singleton] at hx
 rcases hx with rfl | rfl
 ·exact mb_rng _ _ _
 ·exact rng_zeros _
def PfEnds (B D M : Nat) (nb rm : Int) (f : Int → List Int) (lv : Value) (sz : Int) (w : World) (e : Ending) (w' : World) : Prop :=
 e = .returned (.int .i64 0) ∧ ∃ lv', LgD w' B D M nb rm (fputs (fput f sz hdr0) (fw 0)) lv' 0 sz 1 1 0 [] ∧ Chg (Foot D M lv) w w' ∧ (∀ k, Foot D M lv' k → Foot D M lv k ∨ w.heap.size ≤ k)
set_option maxRecDepth 100000 in
set_option maxHeartbeats 1000000 in
theorem pformat_no (B D M : Nat) (nb rm fz sz : Int) (dn : Bool) (f : Int → List Int) (L : List WR) (lv : Value) (w : World) (h : Dk w B D M nb rm fz dn f L lv) (hs : ¬ (3 ≤ sz ∧ sz < nb)) :
  Calls Tryz.prog 8 #[.pointer (some ⟨D, 0, none⟩), .int .i64 sz] w fun e w' => e = .returned (.int .i64 1) ∧ Below w.heap.size w w' := by
 have hz := zeroLay
 have HLO := hid (layoutOf_any B D M nb rm fz sz dn f L lv w h)
 have HS := hid hs
 clear h hs
 go_enter Tryz.func8, Tryz.ntmps8
 go_wp2_with fail
 refine HLO.out.mono ?_
 rintro e w1 ⟨rfl, hb1⟩
 rw [if_neg HS.out]
 have HB1 := hid hb1
 clear hb1 HLO
 go_wp2_with fail
 go_ret
 exact ⟨rfl, HB1.out.alloc HB1.out.size _⟩
set_option maxRecDepth 100000 in
set_option maxHeartbeats 2000000 in
theorem pformat_any (B D M : Nat) (nb rm sz : Int) (f : Int → List Int) (L : List WR) (lv : Value) (w : World) (h : Dk w B D M nb rm (-1) false f L lv) (hr : ∀ n, Rng (f n)) (hs : 3 ≤ sz ∧ sz < nb) (h4 : nb ≤ 4096) (hrm : nb ≤ rm) (hL : L.length ≤ 4096) :
  Calls Tryz.prog 8 #[.pointer (some ⟨D, 0, none⟩), .int .i64 sz] w (PfEnds B D M nb rm f lv sz w) := by
 have hz := zeroLay
 have hbH := fun u => buildHdr u 1 0
 have HLO := hid (layoutOf_any B D M nb rm (-1) sz false f L lv w h)
 have HS := hid hs
 have H := hid h
 have HR := hid (And.intro hr (And.intro h4 (And.intro hrm hL)))
 clear h hs hr h4 hrm hL
 go_enter Tryz.func8, Tryz.ntmps8
 go_wp2_with fail
 refine HLO.out.mono ?_
 rintro e w1 ⟨rfl, hb1⟩
 rw [if_pos HS.out]
 have HB1 := hid hb1
 clear hb1 HLO
 go_wp2_with fail
 have HS0 := hid (show (w1.alloc (.cells #[.pointer (some ⟨D, 0, none⟩), .int .i64 sz] 63)).drew.heap[w1.heap.size]? = some (.cells #[.pointer (some ⟨D, 0, none⟩), .int .i64 sz] 63 (0, 0)) from heap_alloc_new _ _)
 have hbb : Below w.heap.size w (w1.alloc (.cells #[.pointer (some ⟨D, 0, none⟩), .int .i64 sz] 63)).drew := (HB1.out.alloc HB1.out.size _).drew
 have HBB := hid hbb
 have HIL := hid (show (Tryz.prog.info? 63).map (·.size) = some 2 by kernel_rfl)
 have hbl : ∀ u : World, (Instr.build 50 #[]).run Tryz.prog u = .ok (.agg (ArrU8 (zeros 256))) u := fun u => by kernel_rfl
 clear hbb
 refine wp_region_held_drew (S := fun u => u.heap[w1.heap.size]? = some (.cells #[.pointer (some ⟨D, 0, none⟩), .int .i64 sz] 63 (0, 0))) (by kernel_rfl) (HS0.out) (fun hHeld => ?_)
 refine tk (i := 0) (oi := ⟨some 17, .load 63 (.tmp 5), 63, "page.go:28", #[], none⟩) (v := ?_) (Or.inl ⟨by rfl, ?_⟩) ?_
 rotate_left 1
 ·intro u hSw
  refine exec_load_row 63 (Operand.tmp 5) ?_ u w1.heap.size ?_ #[.pointer (some ⟨D, 0, none⟩), .int .i64 sz] 63 (0, 0) _ hSw Tryz.underlying63 rfl (by rw [HIL.out]; rfl) <;> rfl
 try simp only [Act.put, sA, sB, sC]
 refine tk (i := 1) (oi := ⟨some 18, .build 68 #[(0, .const (Value.int IntKind.u64 1))], 68, "page.go:28", #[], none⟩) (v := ?_) (Or.inl ⟨by rfl, ?_⟩) ?_
 rotate_left 1
 ·(intro u hSw; go_simp; try with_reducible rfl)
 try simp only [Act.put, sA, sB, sC]
 refine tk (i := 2) (oi := ⟨some 19, .build 50 #[], 50, "page.go:28", #[], none⟩) (v := ?_) (Or.inl ⟨by rfl, ?_⟩) ?_
 rotate_left 1
 ·(intro u hSw; go_simp; try with_reducible rfl)
 try simp only [Act.put, sA, sB, sC]
 refine wpAnyH_ready (rs := [3]) (by kernel_rfl) (by simp) ?_
 refine (AllReadyH.cons (o := ⟨some 20, .call ⟨.value (.func 32), #[.tmp 18, .tmp 19], #[68, 50]⟩, 50, "page.go:28", #[⟨1, .data⟩, ⟨2, .data⟩], none⟩) rfl (fun K hK => ?_) AllReadyH.nil)
 go_simp
 refine (over_any (1 :: List.replicate 17 0) (zeros 256) _ rfl (by decide) (zeros_len _)).mono ?_
 rintro e w2 ⟨rfl, hb2⟩
 have HBC := hid (HBB.out.trans (hb2.mono HBB.out.size))
 have HS2 := hid ((hb2.block _ (Array.getElem?_eq_some_iff.1 HS0.out).1).trans HS0.out)
 have HWH := hid (writeHome_any B D M nb rm (-1) sz 0 false f L lv hdr0 w2 (H.out.chg (Chg.fresh (F := fun _ => False) HBC.out) (fun _ _ h => h)) hdr0_len (by have := HR.out.2.2.2; omega) (by have := HR.out.2.1; have := HS.out; omega) (by omega))
 clear hb2
 rw [show ovB (1 :: List.replicate 17 0) (zeros 256) = hdr0 from rfl]
 go_wp2_with fail
 refine hK.out _ _ HS2.out (fun hHeld => ?_)
 clear hK K
 try simp only [Act.put, sA, sB, sC]
 refine wpAnyH_ready (rs := [4]) (by kernel_rfl) (by simp) ?_
 refine (AllReadyH.cons (o := ⟨some 21, .call ⟨.value (.func 31), #[.tmp 17, .const (Value.int IntKind.i64 0), .tmp 20], #[63, 3, 50]⟩, 28, "page.go:28", #[⟨0, .data⟩, ⟨3, .data⟩, ⟨3, .chain⟩], none⟩) rfl (fun K hK => ?_) AllReadyH.nil)
 go_simp
 refine HWH.out.mono ?_
 rintro e w3 ⟨rfl, lv3, hdk, hch, hft⟩
 have hwe : wErr nb rm (-1) (sz + 0) false = 0 := by
  have h1 := HR.out; have h2 := HS.out
  exact (wr_calm (nb := nb) (rm := rm) (s := ⟨-1, false, f, L⟩) ⟨rfl, rfl⟩ (sz + 0) [] (by omega) (by omega) (by omega)).1
 rw [hwe, if_pos rfl, if_pos rfl] at hdk
 rw [hwe]
 have hof : opFz (-1) false = -1 := rfl
 have hod : opDn (-1) false = false := rfl
 rw [hof, hod, show sz + 0 = sz from by omega] at hdk
 have HS3 := hid ((hch.block _ (by have := (Array.getElem?_eq_some_iff.1 HS2.out).1; exact this) (fun hF => by have := (H.out.foot _ hF).2; have := HB1.out.size; omega)).trans HS2.out)
 have HLF := hid (ld_formatX (fi := 0) (sz := sz) hdk (fput_rngP HR.out.1 sz hdr0_rng) (Int.le_refl _) HS.out.1 (by have := HS.out.2; omega) HR.out.2.1 (by have := HR.out.2.2.1; have := HS.out; omega) (by simp; exact HR.out.2.2.2))
 have HDK := hid hdk
 have HCH := hid hch
 have HFT := hid hft
 clear hdk hch hft hwe hof hod HWH
 go_wp2_with fail
 refine hK.out _ _ HS3.out (fun hHeld => ?_)
 clear hK K
 try simp only [Act.put, sA, sB, sC]
 refine tk (i := 5) (oi := ⟨some 7, .assign (.tmp 21), 28, "page.go:28", #[⟨4, .data⟩, ⟨4, .chain⟩, ⟨0, .phase⟩, ⟨1, .phase⟩, ⟨2, .phase⟩, ⟨3, .phase⟩, ⟨4, .phase⟩], none⟩) (v := ?_) (Or.inl ⟨by rfl, ?_⟩) ?_
 rotate_left 1
 ·(intro u hSw; go_simp; try with_reducible rfl)
 try simp only [Act.put, sA, sB, sC]
 refine wpAnyH_done (by kernel_rfl) ?_ _
 go_wp2_with fail
 refine HLF.out.mono ?_
 rintro e w4 ⟨rfl, lv4, hld, hch, hft⟩
 have HE := hid (show PfEnds B D M nb rm f lv sz w (.returned (.int .i64 0)) w4 from ⟨rfl, lv4, hld, ((Chg.fresh (F := Foot D M lv) HBC.out).trans HCH.out (fun _ h => .inl h)).trans hch (fun k hk => (HFT.out k hk).elim .inl (fun h => .inr (by have := HBC.out.size; omega))), fun k hk => (hft k hk).elim (fun h => (HFT.out k h).elim .inl (fun h => .inr (by have := HBC.out.size; omega))) (fun h => .inr (by have := HBC.out.size; have := HCH.out.size; omega))⟩)
 clear hld hch hft
 go_wp2_with fail
 go_ret
 exact HE.out
end Go.Proofs.YtdkjkibdncbibaaGreat
/- a pager on a disk that does not fail: each call keeps it one -/
namespace Go.Proofs.YtdkjkibdncbibaaGreat
open Go.RowKit
open Go.Lib (hid)
section
variable {k : PK} {v : PV}
theorem PCalm.as (h : PCalm k v) {v' : PV} (hj : PJ k v') (h1 : v'.s = v.s) (h2 : v'.a = v.a) (h3 : v'.b = v.b) (h4 : v'.c = v.c) (h5 : v'.pe = v.pe) (h6 : v'.en = v.en) (h7 : v'.lg = v.lg) : PCalm k v' := by
 obtain ⟨_, rs, g⟩ := h
 exact ⟨hj, rs, g.same h1 h2 h3 h4 h5 h6 h7⟩
theorem usedN_le (h : PJ k v) : usedN v ≤ k.nb - k.sz := h.u1.2
theorem PCalm.get (h : PCalm k v) (n : Int) (o : Value) : PCalm k { v with ov := o, ca := (geV k v n).1, od := (geV k v n).2 } := by
 refine h.as ?_ rfl rfl rfl rfl rfl rfl rfl
 unfold geV
 split
 ·rename_i hi
  exact (h.j.cu n (inU_rng hi (usedN_le h.j))).ov o
 ·exact h.j.ov o
theorem PCalm.put (h : PCalm k v) (n : Int) (b : List Int) (hb : b.length = 256) (hr : Rng b) (o : Value) : PCalm k { v with ov := o, ca := (puV k v n b).1, od := (puV k v n b).2.1, ch := (puV k v n b).2.2 } := by
 refine h.as ?_ rfl rfl rfl rfl rfl rfl rfl
 unfold puV
 split
 ·rename_i hi
  exact (h.j.st n b (inU_rng hi (usedN_le h.j)) hb hr).ov o
 ·exact h.j.ov o
theorem ahU_j (h : PJ k v) (n : Int) (hn : 0 ≤ n ∧ n < k.nb - k.sz) : PJ k (ahU k v n).1 := by
 unfold ahU
 split
 ·refine PJ.st ?_ n _ hn (zeros_len _) (rng_zeros _)
  exact (h.cu n hn).head _ (take8_rng (h.cuR n).2)
 ·exact h.cu n hn
theorem alU_j (h : PJ k v) : PJ k (alU k v).1 := by
 have hu := h.u1
 unfold alU
 split
 ·rename_i h1
  exact ahU_j h _ (by omega)
 ·split
  ·exact h
  ·rename_i h2
   refine PJ.st (h.used (by omega)) _ _ (by omega) (zeros_len _) (rng_zeros _)
theorem ahU_s (n : Int) : (ahU k v n).1.s = v.s ∧ (ahU k v n).1.a = v.a ∧ (ahU k v n).1.b = v.b ∧ (ahU k v n).1.c = v.c ∧ (ahU k v n).1.pe = v.pe ∧ (ahU k v n).1.en = v.en ∧ (ahU k v n).1.lg = v.lg := by
 unfold ahU
 split <;> exact ⟨rfl, rfl, rfl, rfl, rfl, rfl, rfl⟩
theorem alU_s : (alU k v).1.s = v.s ∧ (alU k v).1.a = v.a ∧ (alU k v).1.b = v.b ∧ (alU k v).1.c = v.c ∧ (alU k v).1.pe = v.pe ∧ (alU k v).1.en = v.en ∧ (alU k v).1.lg = v.lg := by
 unfold alU
 split
 ·exact ahU_s _
 ·split <;> exact ⟨rfl, rfl, rfl, rfl, rfl, rfl, rfl⟩
theorem PCalm.alloc (h : PCalm k v) (o : Value) : PCalm k { (alU k v).1 with ov := o } := by
 obtain ⟨h1, h2, h3, h4, h5, h6, h7⟩ := alU_s (k := k) (v := v)
 exact h.as ((alU_j h.j).ov o) h1 h2 h3 h4 h5 h6 h7
theorem PCalm.free (h : PCalm k v) (n : Int) (o : Value) : PCalm k { frU k v n with ov := o } := by
  refine h.as ?_ ?_ ?_ ?_ ?_ ?_ ?_ ?_
  · unfold frU
    split
    · rename_i hi
      have hr := inU_rng hi (usedN_le h.j)
      refine PJ.ov ?_ o
      refine (h.j.st n (frB v) hr (frB_len v) (frB_rng v)).head n.toNat ?_
      have := h.j.z3; have := h.j.z1; omega
    · exact h.j.ov o
  all_goals (unfold frU; split <;> rfl)
theorem PCalm.abort (h : PCalm k v) (H : Nat) : PCalm k { v with h1 := v.h0, Hm := H, ch := [] } := h.as (h.j.ab H) rfl rfl rfl rfl rfl rfl rfl
end
end Go.Proofs.YtdkjkibdncbibaaGreat
/- homes written: plain; what a log and pages hold on a disk that has not failed -/
namespace Go.Proofs.YtdkjkibdncbibaaGreat
open Go.RowKit
open Go.Lib (hid)
theorem ws_app (nb rm : Int) : ∀ (l r : List (Int × List Int)) (s : DS), s.ws nb rm (l ++ r) = if (s.ws nb rm l).2 = 0 then (s.ws nb rm l).1.ws nb rm r else s.ws nb rm l
 | [], r, s => by simp [DS.ws]
 | x :: l, r, s => by
  by_cases h : s.we nb rm x.1 = 0
  ·have e : ∀ l', s.ws nb rm (x :: l') = (s.wr nb rm x.1 x.2).ws nb rm l' := fun l' => by simp only [DS.ws]; rw [if_pos h]
   rw [List.cons_append, e, e, ws_app nb rm l r]
  ·have e : ∀ l', s.ws nb rm (x :: l') = (s.wr nb rm x.1 x.2, s.we nb rm x.1) := fun l' => by simp only [DS.ws]; rw [if_neg h]
   rw [List.cons_append, e, e, if_neg h]
theorem ws_one (nb rm : Int) (s : DS) (x : Int × List Int) : s.ws nb rm [x] = (s.wr nb rm x.1 x.2, s.we nb rm x.1) := by
 simp only [DS.ws]
 split
 ·rename_i h; rw [h]
 ·rfl
/-- what a row of writes leaves where it writes nothing -/
theorem ws_far (nb rm : Int) : ∀ (l : List (Int × List Int)) (s : DS) (n : Int), (∀ x ∈ l, x.1 ≠ n) → (s.ws nb rm l).1.f n = s.f n
 | [], _, _, _ => rfl
 | x :: l, s, n, h => by
  have hw : (s.wr nb rm x.1 x.2).f n = s.f n := by
   unfold DS.wr
   dsimp only
   split
   ·exact fput_ne _ _ _ _ (Ne.symm (h x (by simp)))
   ·rfl
  simp only [DS.ws]
  split
  ·rw [ws_far nb rm l _ n (fun y hy => h y (by simp [hy])), hw]
  ·exact hw
theorem ws_dn (nb rm : Int) : ∀ (l : List (Int × List Int)) (s : DS), s.dn = false → (s.ws nb rm l).2 ≠ 44 → (s.ws nb rm l).1.dn = false
 | [], s, h, _ => h
 | x :: l, s, h, h2 => by
  simp only [DS.ws] at h2 ⊢
  have hw : s.we nb rm x.1 ≠ 44 → (s.wr nb rm x.1 x.2).dn = false := fun h3 => by
   unfold DS.we wErr at h3
   unfold DS.wr
   show opDn s.fz s.dn = false
   by_cases ho : opOk s.fz s.dn = true
   ·rw [h] at ho ⊢; simp [opOk] at ho; simp [opDn, ho]
   ·rw [if_neg ho] at h3; exact absurd rfl h3
  split at h2
  ·rename_i h4
   rw [if_pos h4]
   exact ws_dn nb rm l _ (hw (by rw [h4]; decide)) h2
  ·rename_i h4
   rw [if_neg h4]
   exact hw h2
theorem we_range (nb rm : Int) (s : DS) (n : Int) (h0 : 0 ≤ n) (h1 : n < nb) : s.we nb rm n = 0 ∨ (s.we nb rm n = 42 ∧ rm ≤ n) ∨ s.we nb rm n = 44 := by
 have e1 : hasB nb n = true := by simp [hasB, h0, h1]
 unfold DS.we wErr
 split
 ·split
  ·exact .inr (.inl ⟨rfl, by assumption⟩)
  ·exact .inl rfl
 ·exact .inr (.inr rfl)
theorem ws_range (nb rm : Int) : ∀ (l : List (Int × List Int)) (s : DS), (∀ x ∈ l, 0 ≤ x.1 ∧ x.1 < nb) → (s.ws nb rm l).2 = 0 ∨ ((s.ws nb rm l).2 = 42 ∧ ∃ x ∈ l, rm ≤ x.1) ∨ (s.ws nb rm l).2 = 44
 | [], _, _ => .inl rfl
 | x :: l, s, h => by
  simp only [DS.ws]
  split
  ·rcases ws_range nb rm l (s.wr nb rm x.1 x.2) (fun y hy => h y (by simp [hy])) with h1 | ⟨h1, y, hy, h2⟩ | h1
   ·exact .inl h1
   ·exact .inr (.inl ⟨h1, y, by simp [hy], h2⟩)
   ·exact .inr (.inr h1)
  ·rcases we_range nb rm s x.1 (h x (by simp)).1 (h x (by simp)).2 with h1 | ⟨h1, h2⟩ | h1
   ·contradiction
   ·exact .inr (.inl ⟨h1, x, by simp, h2⟩)
   ·exact .inr (.inr h1)
theorem ws_dn44 (nb rm : Int) : ∀ (l : List (Int × List Int)) (s : DS), (s.ws nb rm l).2 = 44 → (s.ws nb rm l).1.dn = true
 | [], _, h => by simp [DS.ws] at h
 | x :: l, s, h => by
  simp only [DS.ws] at h ⊢
  split at h
  ·rename_i h4; rw [if_pos h4]; exact ws_dn44 nb rm l _ h
  ·rename_i h4
   rw [if_neg h4]
   unfold DS.we wErr at h
   show opDn s.fz s.dn = true
   split at h
   ·split at h
    ·split at h <;> simp at h
    ·simp at h
   ·rename_i ho
    simp only [Bool.not_eq_true] at ho
    simp [opOk] at ho
    simp [opDn]
    cases hd : s.dn
    ·right; exact ho hd
    ·left; rfl
theorem wsy_far (nb rm : Int) (l : List (Int × List Int)) (s : DS) (n : Int) (h : ∀ x ∈ l, x.1 ≠ n) : (s.wsy nb rm l).1.f n = s.f n := by
 unfold DS.wsy
 split
 ·exact ws_far nb rm l s n h
 ·exact ws_far nb rm l s n h
/-- a row of writes and a sync, and then a crash: where nothing was written nothing has changed -/
theorem wsy_up (nb rm : Int) (l : List (Int × List Int)) (s : DS) (hL : s.L = []) (n : Int) (h : ∀ x ∈ l, x.1 ≠ n) (ks : List Bool) (t : Int) : upF (s.wsy nb rm l).1.f (s.wsy nb rm l).1.L ks t n = s.f n := by
 obtain ⟨hu, hm⟩ := ws_undo nb rm l s
 have hof : ∀ x ∈ (s.ws nb rm l).1.L, x.1 ≠ n := fun x hx => by
  rcases hm x hx with h1 | ⟨y, hy, h1, _⟩
  ·rw [hL] at h1; cases h1
  ·rw [h1]; exact h y hy
 have hw : ∀ ks t, upF (s.ws nb rm l).1.f (s.ws nb rm l).1.L ks t n = s.f n := fun ks t => by
  refine upF_every (S := fun m b => m = n → b = s.f n) (fun m hm => ?_) (fun x hx e => absurd e (hof x hx)) (fun x hx b _ e => absurd e (hof x hx)) ks n rfl
  rw [hm, hu, hL]
  rfl
 unfold DS.wsy
 split
 ·unfold DS.sy
  dsimp only
  split
  ·rw [upF_nil]; exact ws_far nb rm l s n h
  ·exact hw ks t
 ·exact hw ks t
theorem wsy_range (nb rm : Int) (l : List (Int × List Int)) (s : DS) (hx : ∀ x ∈ l, 0 ≤ x.1 ∧ x.1 < nb) (hd : s.dn = false) :
  ((s.wsy nb rm l).2 = 0 ∧ (s.wsy nb rm l).1.dn = false) ∨ ((s.wsy nb rm l).2 = 42 ∧ (s.wsy nb rm l).1.dn = false ∧ ∃ x ∈ l, rm ≤ x.1) ∨ ((s.wsy nb rm l).2 = 44 ∧ (s.wsy nb rm l).1.dn = true) := by
 unfold DS.wsy
 rcases ws_range nb rm l s hx with h | ⟨h, h2⟩ | h
 ·rw [if_pos h]
  have hd1 := ws_dn nb rm l s hd (by rw [h]; decide)
  unfold DS.se DS.sy
  dsimp only
  by_cases ho : opOk (s.ws nb rm l).1.fz (s.ws nb rm l).1.dn = true
  ·rw [if_pos ho]
   refine .inl ⟨rfl, ?_⟩
   simp [opOk] at ho
   simp [opDn, ho, hd1]
  ·rw [if_neg ho]
   refine .inr (.inr ⟨rfl, ?_⟩)
   rw [hd1] at ho ⊢
   simp [opOk] at ho
   simp [opDn, ho]
 ·rw [if_neg (by rw [h]; decide)]
  exact .inr (.inl ⟨h, ws_dn nb rm l s hd (by rw [h]; decide), h2⟩)
 ·rw [if_neg (by rw [h]; decide)]
  exact .inr (.inr ⟨h, ws_dn44 nb rm l s h⟩)
/-- the homes of a row of pages, and what comes there -/
def homeL (sz : Int) (W : Int → List Int) (l : List Int) : List (Int × List Int) := l.map fun n => (sz + n, W n)
theorem homeL_mem {sz : Int} {W : Int → List Int} {l : List Int} {x : Int × List Int} (h : x ∈ homeL sz W l) : ∃ n ∈ l, x = (sz + n, W n) := by
 obtain ⟨n, hn, rfl⟩ := List.mem_map.1 h
 exact ⟨n, hn, rfl⟩
theorem fputs_home (sz : Int) (W : Int → List Int) : ∀ (l : List Int) (f : Int → List Int) (n : Int), n ∈ l → fputs f (homeL sz W l) (sz + n) = W n
 | x :: l, f, n, h => by
  show fputs (fput f (sz + x) (W x)) (homeL sz W l) (sz + n) = W n
  by_cases hl : n ∈ l
  ·exact fputs_home sz W l _ n hl
  ·have hx : n = x := by simpa [hl] using h
   subst hx
   rw [fputs_far _ _ _ (fun y hy => by
    obtain ⟨m, hm, rfl⟩ := homeL_mem hy
    intro e
    have : m = n := by simp at e; omega
    rw [this] at hm
    exact hl hm)]
   exact fput_at _ _ _
theorem arRd_eq (f g : Int → List Int) (a : Nat) (h : ∀ q : Nat, a / 256 ≤ q → q ≤ (a + 255) / 256 → f (2 + q) = g (2 + q)) : arRd f a = arRd g a := by
 unfold arRd
 refine List.map_congr_left (fun i hi => ?_)
 have hi := List.mem_range.1 hi
 unfold gb
 rw [h ((a + i) / 256) (by omega) (by omega)]
/-- what is stored, where the log's blocks are the same -/
theorem stoF_same {sz : Int} {f g : Int → List Int} {lg : List (Int × Int)} (hl : ∀ n x, gl lg n = some x → 0 ≤ x ∧ x + 256 ≤ (sz - 2) * 256) (hfg : ∀ m, 0 ≤ m → m < sz → g m = f m) (n : Int) (hn : n ∈ gk lg ∨ g (sz + n) = f (sz + n)) : stoF sz g lg n = stoF sz f lg n := by
  unfold stoF
  cases hg : gl lg n with
  | some x =>
    have := hl n x hg
    exact arRd_eq g f x.toNat (fun q h1 h2 => hfg _ (by omega) (by omega))
  | none =>
    rcases hn with h | h
    · exact absurd h (gl_none.1 hg)
    · exact h
end Go.Proofs.YtdkjkibdncbibaaGreat
/- what a log and pages hold on a disk that has not failed, and behind a crash; a checkpoint: plain -/
namespace Go.Proofs.YtdkjkibdncbibaaGreat
open Go.RowKit
open Go.Lib (hid)
/-- a disk's bytes: these pages, whoever opens it -/
def OKD (A : Nat) (nb sz : Int) (g : Int → List Int) (W : Int → List Int) : Prop :=
 ∃ a b c rs, (a ≤ A ∧ b ≤ A) ∧ Good nb 0 0 g 0 sz a b c rs [] ∧ (∀ r ∈ rs, RecOK (nb - sz) r) ∧ ∀ n, 0 ≤ n → n < nb - sz → stoF sz g (lgF rs [] 0) n = W n
theorem OKD.mono {A A' : Nat} {nb sz : Int} {g W : Int → List Int} (h : OKD A nb sz g W) (hA : A ≤ A') : OKD A' nb sz g W := by
 obtain ⟨a, b, c, rs, h0, h1⟩ := h
 exact ⟨a, b, c, rs, ⟨by omega, by omega⟩, h1⟩
/-- a log and pages on a disk that has not failed -/
structure PL (k : PK) (v : PV) (rs : List (List Int)) (W : Int → List Int) : Prop where
 dn : v.s.dn = false
 g : Good k.nb k.rm v.s.fz v.s.f 0 k.sz v.a v.b v.c rs []
 pe : v.pe = []
 en : v.en = (v.c : Nat)
 lg : v.lg = lgF rs [] 0
 rk : ∀ r ∈ rs, RecOK (k.nb - k.sz) r
 w : ∀ n, 0 ≤ n → n < k.nb - k.sz → stoF k.sz v.s.f v.lg n = W n
/-- behind a crash -/
def Crash (k : PK) (s : DS) (Q : (Int → List Int) → Prop) : Prop := s.dn = true ∧ s.L.length ≤ 8192 ∧ ∀ ks t, Q (upF s.f s.L ks t)
/-- what is held in memory stays -/
structure SameM (v v' : PV) : Prop where
 h0 : v'.h0 = v.h0
 h1 : v'.h1 = v.h1
 ca : v'.ca = v.ca
 od : v'.od = v.od
 ch : v'.ch = v.ch
def CkR (k : PK) (v : PV) (rs : List (List Int)) (W : Int → List Int) (E : Int) (v' : PV) : Prop :=
 (E = 0 ∧ PL k v' [] W ∧ v'.s.L = [] ∧ v'.a = v.a + 1 ∧ v'.b = v.b + 1 ∧ v'.c = 0) ∨
 (E = 42 ∧ PL k v' rs W ∧ v'.a = v.a ∧ v'.b = v.b ∧ v'.c = v.c) ∨
 (E = 44 ∧ v'.a = v.a ∧ v'.b = v.b ∧ Crash k v'.s fun g => OKD (v.a + v.b + 1) k.nb k.sz g W)
section
variable {k : PK} {v : PV} {rs : List (List Int)} {W : Int → List Int}
theorem PL.okd (h : PL k v rs W) : OKD (v.a + v.b + 1) k.nb k.sz v.s.f W := ⟨_, _, _, rs, ⟨by omega, by omega⟩, h.g.other 0 0, h.rk, fun n h0 h1 => by rw [← h.lg]; exact h.w n h0 h1⟩
theorem Good.same {nb rm fz : Int} {f g : Int → List Int} {sz : Int} {a b c : Nat} {rs : List (List Int)} (h : Good nb rm fz f 0 sz a b c rs []) (hfg : ∀ m, 0 ≤ m → m < sz → g m = f m) (hr : ∀ n, Rng (g n)) (hl : ∀ n, (g n).length = 256) (rm' fz' : Int) : Good nb rm' fz' g 0 sz a b c rs [] := by
 have hfit := h.fits
 have h2 := h.h2
 rw [show encs ([] : List (List Int)) = [] from rfl, List.length_nil] at hfit
 refine { h with mkf := h.mkf.away (hfg 0 (by omega) (by omega)) (hfg (0 + 1) (by omega) (by omega)), clean := ?_, area := ?_, rng := hr, fl := hl }
 ·rw [hfg _ (by omega) (by omega)]; exact h.clean
 ·rw [← h.area, ← areaB_eq g (0 + 2) hl ((sz - 2).toNat) c (by omega), ← areaB_eq f (0 + 2) h.fl ((sz - 2).toNat) c (by omega), arB_same g f (0 + 2) _ (fun q hq => hfg _ (by omega) (by omega))]
theorem PL.lgr (h : PL k v rs W) : ∀ n x, gl v.lg n = some x → 0 ≤ x ∧ x + 256 ≤ (k.sz - 2) * 256 := by
 rw [h.lg]
 refine lgF_rng rs h.rk [] 0 (Int.le_refl _) (fun n x hx => by simp [gl] at hx) ?_
 have h1 := h.g.clen
 have h2 := h.g.fits
 rw [show encs ([] : List (List Int)) = [] from rfl, List.length_nil] at h2
 rw [h1]
 omega
theorem PL.lgk (h : PL k v rs W) : ∀ n ∈ gk v.lg, 0 ≤ n ∧ n < k.nb - k.sz := by
 rw [h.lg]
 exact lgF_keys rs h.rk [] 0 (fun n hn => by simp [gk] at hn)
theorem tearL_blk {b a : List Int} {t : Int} (hb : b.length = 256 ∧ Rng b) (ha : a.length = 256 ∧ Rng a) : (tearL b a t).length = 256 ∧ Rng (tearL b a t) := by
 unfold tearL
 split
 ·exact ha
 ·refine ⟨by rw [List.length_append, List.length_take, List.length_drop]; omega, fun x hx => ?_⟩
  rcases List.mem_append.1 hx with h | h
  ·exact ha.2 x (List.mem_of_mem_take h)
  ·exact hb.2 x (List.mem_of_mem_drop h)
/-- blocks stay blocks behind a row of writes, a sync and a crash -/
theorem wsy_blk (nb rm : Int) (l : List (Int × List Int)) (s : DS) (hL : s.L = []) (hs : ∀ n, (s.f n).length = 256 ∧ Rng (s.f n)) (hl : ∀ x ∈ l, x.2.length = 256 ∧ Rng x.2) :
  (∀ n, ((s.wsy nb rm l).1.f n).length = 256 ∧ Rng ((s.wsy nb rm l).1.f n)) ∧ ∀ ks t n, (upF (s.wsy nb rm l).1.f (s.wsy nb rm l).1.L ks t n).length = 256 ∧ Rng (upF (s.wsy nb rm l).1.f (s.wsy nb rm l).1.L ks t n) := by
 have hw : ∀ (l : List (Int × List Int)) (s : DS), (∀ n, (s.f n).length = 256 ∧ Rng (s.f n)) → (∀ x ∈ l, x.2.length = 256 ∧ Rng x.2) → ∀ n, ((s.ws nb rm l).1.f n).length = 256 ∧ Rng ((s.ws nb rm l).1.f n) := by
  intro l
  induction l with
  | nil => intro s hs _; exact hs
  | cons x l ih =>
   intro s hs hl
   have h1 : ∀ n, ((s.wr nb rm x.1 x.2).f n).length = 256 ∧ Rng ((s.wr nb rm x.1 x.2).f n) := fun n => by
    unfold DS.wr
    dsimp only
    split
    ·unfold fput
     split
     ·exact hl x (by simp)
     ·exact hs n
    ·exact hs n
   simp only [DS.ws]
   split
   ·exact ih _ h1 (fun y hy => hl y (by simp [hy]))
   ·exact h1
 have hf : ∀ n, ((s.wsy nb rm l).1.f n).length = 256 ∧ Rng ((s.wsy nb rm l).1.f n) := by
  unfold DS.wsy
  split
  ·exact hw l s hs hl
  ·exact hw l s hs hl
 refine ⟨hf, ?_⟩
 obtain ⟨hu, hm⟩ := ws_undo nb rm l s
 have hx : ∀ ks t n, (upF (s.ws nb rm l).1.f (s.ws nb rm l).1.L ks t n).length = 256 ∧ Rng (upF (s.ws nb rm l).1.f (s.ws nb rm l).1.L ks t n) := fun ks t n => by
  have hx2 : ∀ x ∈ (s.ws nb rm l).1.L, x.2.2.length = 256 ∧ Rng x.2.2 := fun x hx => by
   rcases hm x hx with h1 | ⟨y, hy, _, h1⟩
   ·rw [hL] at h1; cases h1
   ·rw [h1]; exact hl y hy
  refine upF_every (S := fun _ b => b.length = 256 ∧ Rng b) (fun m => ?_) hx2 (fun x hx b hb => tearL_blk hb (hx2 x hx)) ks n
  rw [hu, hL]
  exact hs m
 unfold DS.wsy
 split
 ·unfold DS.sy
  dsimp only
  intro ks t n
  split
  ·rw [upF_nil]; exact hw l s hs hl n
  ·exact hx ks t n
 ·exact hx
theorem PL.fb (h : PL k v rs W) : ∀ n, (v.s.f n).length = 256 ∧ Rng (v.s.f n) := fun n => ⟨h.g.fl n, h.g.rng n⟩
/-- pages' homes written, a sync: the disk refuses -/
theorem ck_one (h : PL k v rs W) (hL : v.s.L = []) (hW : ∀ n, (W n).length = 256 ∧ Rng (W n)) (hz : k.sz < k.nb) (lv' : Value) (hn : (v.s.wsy k.nb k.rm (homeL k.sz W (srt (gk v.lg)))).2 ≠ 0) (hLL : (v.s.wsy k.nb k.rm (homeL k.sz W (srt (gk v.lg)))).1.L.length ≤ 8192) :
    CkR k v rs W (v.s.wsy k.nb k.rm (homeL k.sz W (srt (gk v.lg)))).2 { v with s := (v.s.wsy k.nb k.rm (homeL k.sz W (srt (gk v.lg)))).1, lv := lv' } := by
  have hbk := wsy_blk k.nb k.rm (homeL k.sz W (srt (gk v.lg))) v.s hL h.fb (fun x hx => by obtain ⟨n, _, rfl⟩ := homeL_mem hx; exact hW n)
  have hlo : ∀ m, m < k.sz → ∀ x ∈ homeL k.sz W (srt (gk v.lg)), x.1 ≠ m := fun m hm x hx => by
    obtain ⟨n, hn, rfl⟩ := homeL_mem hx
    have := (h.lgk n ((srt_mem _ n).1 hn)).1
    show k.sz + n ≠ m
    omega
  have hhi : ∀ n, n ∉ gk v.lg → ∀ x ∈ homeL k.sz W (srt (gk v.lg)), x.1 ≠ k.sz + n := fun n hn x hx => by
    obtain ⟨m, hm, rfl⟩ := homeL_mem hx
    have h1 := (srt_mem _ m).1 hm
    show k.sz + m ≠ k.sz + n
    intro e
    have : m = n := by omega
    rw [this] at h1
    exact hn h1
  have hsto : ∀ g : Int → List Int, (∀ n, (∀ x ∈ homeL k.sz W (srt (gk v.lg)), x.1 ≠ n) → g n = v.s.f n) → ∀ n, 0 ≤ n → n < k.nb - k.sz → stoF k.sz g v.lg n = W n := fun g hg n h0 h1 => by
    rw [stoF_same h.lgr (fun m _ hm => hg m (hlo m hm)) n ?_]
    · exact h.w n h0 h1
    · by_cases hn : n ∈ gk v.lg
      · exact .inl hn
      · exact .inr (hg _ (hhi n hn))
  rcases wsy_range k.nb k.rm (homeL k.sz W (srt (gk v.lg))) v.s (fun x hx => by
    obtain ⟨n, hn, rfl⟩ := homeL_mem hx
    have := h.lgk n ((srt_mem _ n).1 hn)
    have := h.g.h2
    show 0 ≤ k.sz + n ∧ k.sz + n < k.nb
    omega) h.dn with ⟨h1, _⟩ | ⟨h1, h2, _⟩ | ⟨h1, h2⟩
  · exact absurd h1 hn
  · refine .inr (.inl ⟨h1, ?_, rfl, rfl, rfl⟩)
    have hf := wsy_far k.nb k.rm (homeL k.sz W (srt (gk v.lg))) v.s
    exact { dn := h2, g := h.g.same (fun m _ hm => hf m (hlo m hm)) (fun n => (hbk.1 n).2) (fun n => (hbk.1 n).1) _ _, pe := h.pe, en := h.en, lg := h.lg, rk := h.rk, w := hsto _ hf }
  · refine .inr (.inr ⟨h1, rfl, rfl, h2, hLL, fun ks t => ?_⟩)
    have hf := fun n hn => wsy_up k.nb k.rm (homeL k.sz W (srt (gk v.lg))) v.s hL n hn ks t
    exact ⟨_, _, _, rs, ⟨by omega, by omega⟩, h.g.same (fun m _ hm => hf m (hlo m hm)) (fun n => (hbk.2 ks t n).2) (fun n => (hbk.2 ks t n).1) 0 0, h.rk, fun n h0 h1 => by rw [← h.lg]; exact hsto _ hf n h0 h1⟩
/-- behind the sync: the homes have what is stored -/
theorem ck_home (h : PL k v rs W) (hL : v.s.L = []) (hW : ∀ n, (W n).length = 256 ∧ Rng (W n)) (hz : k.sz < k.nb) (h0 : (v.s.wsy k.nb k.rm (homeL k.sz W (srt (gk v.lg)))).2 = 0) :
    (v.s.wsy k.nb k.rm (homeL k.sz W (srt (gk v.lg)))).1 = ⟨(v.s.wsy k.nb k.rm (homeL k.sz W (srt (gk v.lg)))).1.fz, false, (v.s.wsy k.nb k.rm (homeL k.sz W (srt (gk v.lg)))).1.f, []⟩ ∧
    Good k.nb k.rm (v.s.wsy k.nb k.rm (homeL k.sz W (srt (gk v.lg)))).1.fz (v.s.wsy k.nb k.rm (homeL k.sz W (srt (gk v.lg)))).1.f 0 k.sz v.a v.b v.c rs [] ∧
    ∀ n, 0 ≤ n → n < k.nb - k.sz → (v.s.wsy k.nb k.rm (homeL k.sz W (srt (gk v.lg)))).1.f (k.sz + n) = W n ∧ ∀ g : Int → List Int, (∀ m, 2 ≤ m → g m = (v.s.wsy k.nb k.rm (homeL k.sz W (srt (gk v.lg)))).1.f m) → stoF k.sz g v.lg n = W n := by
  have hbk := wsy_blk k.nb k.rm (homeL k.sz W (srt (gk v.lg))) v.s hL h.fb (fun x hx => by obtain ⟨n, _, rfl⟩ := homeL_mem hx; exact hW n)
  have hlo : ∀ m, m < k.sz → ∀ x ∈ homeL k.sz W (srt (gk v.lg)), x.1 ≠ m := fun m hm x hx => by
    obtain ⟨n, hn, rfl⟩ := homeL_mem hx
    have := (h.lgk n ((srt_mem _ n).1 hn)).1
    show k.sz + n ≠ m
    omega
  have hf := wsy_far k.nb k.rm (homeL k.sz W (srt (gk v.lg))) v.s
  obtain ⟨e1, e2, e3⟩ := wsy_ok h0
  have hho : ∀ n, 0 ≤ n → n < k.nb - k.sz → (v.s.wsy k.nb k.rm (homeL k.sz W (srt (gk v.lg)))).1.f (k.sz + n) = W n := fun n h0 h1 => by
    by_cases hn : n ∈ gk v.lg
    · rw [e1]
      exact fputs_home _ _ _ _ _ ((srt_mem _ n).2 hn)
    · rw [hf _ (fun x hx => by
        obtain ⟨m, hm, rfl⟩ := homeL_mem hx
        have h1 := (srt_mem _ m).1 hm
        show k.sz + m ≠ k.sz + n
        intro e
        have : m = n := by omega
        rw [this] at h1
        exact hn h1), ← h.w n h0 h1]
      unfold stoF
      rw [gl_none.2 hn]
  refine ⟨?_, h.g.same (fun m _ hm => hf m (hlo m hm)) (fun n => (hbk.1 n).2) (fun n => (hbk.1 n).1) _ _, fun n h0 h1 => ⟨hho n h0 h1, fun g hg => ?_⟩⟩
  · rw [← e2, ← e3]
  · have hh2 := h.g.h2
    unfold stoF
    cases hgl : gl v.lg n with
    | some x =>
      have hr := h.lgr n x hgl
      have h2 := h.w n h0 h1
      unfold stoF at h2
      rw [hgl] at h2
      dsimp only at h2 ⊢
      rw [← h2]
      exact arRd_eq _ _ _ (fun q q1 q2 => by rw [hg _ (by omega)]; exact hf _ (hlo _ (by omega)))
    | none =>
      dsimp only
      rw [hg _ (by omega)]
      exact hho n h0 h1
/-- the log begun anew -/
theorem ck_two (h : PL k v rs W) (hL : v.s.L = []) (hW : ∀ n, (W n).length = 256 ∧ Rng (W n)) (hz : k.sz < k.nb) (ha : v.a + 1 < 1099511627776) (hb : v.b + 1 < 1099511627776) (h0 : (v.s.wsy k.nb k.rm (homeL k.sz W (srt (gk v.lg)))).2 = 0)
  {s1 s2 : DS} {E : Int} (hs1 : s1 = (v.s.wsy k.nb k.rm (homeL k.sz W (srt (gk v.lg)))).1) (hs2 : s2 = (s1.wsy k.nb k.rm (mw 0 (v.a + 1) (v.b + 1) 0)).1) (hE : E = (s1.wsy k.nb k.rm (mw 0 (v.a + 1) (v.b + 1) 0)).2) (hLL : s2.L.length ≤ 8192) (lv' av' : Value) (L' : Nat) :
  (E ≠ 0 → CkR k v rs W E { v with s := s2, lv := lv', av := av' }) ∧ (E = 0 → CkR k v rs W 0 { v with s := s2, lv := lv', a := v.a + 1, b := v.b + 1, c := 0, av := av', Lm := L', lg := [], en := 0 }) := by
 obtain ⟨e1, hg, hho⟩ := ck_home h hL hW hz h0
 rw [← hs1] at e1 hg hho
 have hrs := Good.restart (nb := k.nb) (rm := k.rm) (fz := s1.fz) (sF := s2) (E := E) (aF := if E = 0 then v.a + 1 else v.a) (bF := if E = 0 then v.b + 1 else v.b) (cF := if E = 0 then 0 else v.c) hg ha hb (by rw [← e1]; exact hs2) (by rw [← e1]; exact hE) rfl rfl rfl hLL
 have hmw : ∀ m, 2 ≤ m → ∀ x ∈ mw 0 (v.a + 1) (v.b + 1) 0, x.1 ≠ m := fun m hm x hx => by
  unfold mw at hx
  rw [List.mem_singleton] at hx
  subst hx
  show (0 : Int) + (((v.a + 1) % 2 : Nat) : Int) ≠ m
  omega
 have hfar : ∀ m, 2 ≤ m → s2.f m = s1.f m := fun m hm => by rw [hs2]; exact wsy_far _ _ _ _ _ (hmw m hm)
 have hup : ∀ ks t m, 2 ≤ m → upF s2.f s2.L ks t m = s1.f m := fun ks t m hm => by rw [hs2]; exact wsy_up _ _ _ _ (by rw [e1]) _ (hmw m hm) ks t
 have hblk := wsy_blk k.nb k.rm (mw 0 (v.a + 1) (v.b + 1) 0) s1 (by rw [e1]) (fun n => ⟨hg.fl n, hg.rng n⟩) (fun x hx => by
  unfold mw at hx
  rw [List.mem_singleton] at hx
  subst hx
  exact ⟨mb_len _ _ _, mb_rng _ _ _⟩)
 rw [← hs2] at hblk
 have hz2 := h.g.h2
 refine ⟨fun hne => ?_, fun heq => ?_⟩
 ·rcases hrs with ⟨h1, _⟩ | ⟨h1, h2, h3, h4, _⟩ | ⟨h1, h2⟩
  ·exact absurd h1 hne
  ·refine .inr (.inl ⟨h1, ?_, rfl, rfl, rfl⟩)
   exact { dn := h2, g := (by show Good _ _ s2.fz s2.f _ _ _ _ _ _ _; rw [h4]; exact hg.other _ _), pe := h.pe, en := h.en, lg := h.lg, rk := h.rk, w := fun n n0 n1 => (hho n n0 n1).2 _ (fun m hm => hfar m hm) }
  ·obtain ⟨f1, f2, f3⟩ := h2
   refine .inr (.inr ⟨h1, rfl, rfl, f1, f2, fun ks t => ?_⟩)
   obtain ⟨u1, u2⟩ := f3 ks t
   rcases Good.up3 (nb := k.nb) (rm := k.rm) (fz := s1.fz) hg u1 u2 (fun n => (hblk.2 ks t n).1) ha hb (by omega) (fun r hr => by cases hr) 0 0 with g1 | g1
   ·exact ⟨_, _, _, rs, ⟨by omega, by omega⟩, g1, h.rk, fun n n0 n1 => by rw [← h.lg]; exact (hho n n0 n1).2 _ (fun m hm => hup ks t m hm)⟩
   ·refine ⟨_, _, _, [], ⟨by omega, by omega⟩, g1, fun r hr => (by cases hr), fun n n0 n1 => ?_⟩
    show upF s2.f s2.L ks t (k.sz + n) = W n
    rw [hup ks t _ (by omega)]
    exact (hho n n0 n1).1
 ·rcases hrs with ⟨h1, h2, h3, _, _, _, h4⟩ | ⟨h1, _⟩ | ⟨h1, _⟩
  ·refine .inl ⟨rfl, ?_, h3, rfl, rfl, rfl⟩
   exact { dn := h2, g := h4, pe := h.pe, en := rfl, lg := rfl, rk := fun r hr => (by cases hr), w := fun n n0 n1 => (by
    show s2.f (k.sz + n) = W n
    rw [hfar _ (by omega)]
    exact (hho n n0 n1).1) }
  ·rw [heq] at h1; exact absurd h1 (by decide)
  ·rw [heq] at h1; exact absurd h1 (by decide)
end
end Go.Proofs.YtdkjkibdncbibaaGreat
