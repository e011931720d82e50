/- stage 7: clash, whole; Clash -/
import Derived.Test.YtbmlkocpjboodaaDoorMt11
namespace Go.Proofs.YtbmlkocpjboodaaDoor
open Go.RowKit
open Go.Lib (hid)
/-- what clash's two slices are -/
def CF (B : Nat) (w' : World) (va vb : Value) : Option (List Int × List Int) → Prop
 | none => va = .slice none 0 0 ∧ vb = .slice none 0 0
 | some (a, b) => KIs w' (fun q => B ≤ q) va a ∧ KIs w' (fun q => B ≤ q) vb b
theorem CF.base {B B' : Nat} {w' : World} {va vb : Value} {R : Option (List Int × List Int)} (h : CF B w' va vb R) (hB : B' ≤ B) : CF B' w' va vb R := by
 cases R with
 | none => exact h
 | some ab => exact ⟨h.1.mono (fun q hq => Nat.le_trans hB hq), h.2.mono (fun q hq => Nat.le_trans hB hq)⟩
theorem CEnd.form {w w' : World} {e : Ending} {R : Option (List Int × List Int)} (h : CEnd w e w' R) : ∃ va vb, e = .returned (.tuple #[va, vb, .bool R.isSome]) ∧ Below w.heap.size w w' ∧ CF w.heap.size w' va vb R := by
 cases R with
 | none => exact ⟨_, _, h.1, h.2, rfl, rfl⟩
 | some ab =>
  obtain ⟨a, b⟩ := ab
  obtain ⟨va, vb, h1, h2, h3, h4⟩ := h
  exact ⟨va, vb, h1, h4, h2, h3⟩
theorem CEnd.of {w w' : World} {va vb : Value} {e : Ending} {R : Option (List Int × List Int)} (he : e = .returned (.tuple #[va, vb, .bool R.isSome])) (h : Below w.heap.size w w') (hc : CF w.heap.size w' va vb R) : CEnd w e w' R := by
 subst he
 cases R with
 | none =>
  obtain ⟨rfl, rfl⟩ := hc
  exact ⟨rfl, h⟩
 | some ab => exact ⟨va, vb, rfl, hc.1, hc.2, h⟩
theorem joinB_rng (ps : List (List Int)) (h : ∀ p ∈ ps, Rng p) : Rng (joinB ps) := fun x hx => by
 unfold joinB at hx
 obtain ⟨p, hp, hx⟩ := List.mem_flatMap.1 hx
 rw [List.mem_append] at hx
 rcases hx with hx | hx
 ·exact be8_rng _ x hx
 ·exact h p hp x hx
theorem joined_rng {ps : List (List Int)} (h : ∀ p ∈ ps, Rng p) : Rng (joined ps) := fun x hx => by
 unfold joined at hx
 rw [List.mem_append] at hx
 rcases hx with hx | hx
 ·exact be8_rng _ x hx
 ·exact joinB_rng ps h x hx
theorem txt0_rng : Rng txt0 := joined_rng (fun p hp => by
 simp only [List.mem_cons, List.not_mem_nil, or_false] at hp
 subst hp
 intro x hx
 simp only [List.mem_cons, List.not_mem_nil, or_false] at hx
 omega)
theorem txtN_rng {k : List Int} {n : Nat} {dl dr : List Int} (hk : Rng k) (h1 : Rng dl) (h2 : Rng dr) : Rng (txtN k n dl dr) := joined_rng (fun p hp => by
 simp only [List.mem_cons, List.not_mem_nil, or_false] at hp
 rcases hp with rfl | rfl | rfl | rfl | rfl
 ·intro x hx
  simp only [List.mem_cons, List.not_mem_nil, or_false] at hx
  omega
 ·exact h1
 ·exact hk
 ·exact be8_rng n
 ·exact h2)
theorem MT.Good.trng : ∀ {t : MT}, t.Good → t.cutQ = false → Rng t.txt
 | .nil, _, _ => txt0_rng
 | .cut _, _, h => by cases h
 | .nd .., g, _ => by
  obtain ⟨-, gl, gr, -, hk, -⟩ := g
  exact txtN_rng hk gl.drng.2 gr.drng.2
theorem txt0_ne (k : List Int) (n : Nat) (dl dr : List Int) : txt0 ≠ txtN k n dl dr := fun e => by
 have h := congrArg List.length e
 have h0 : txt0.length = 21 := by unfold txt0; rw [joined_len]; rfl
 rw [txtN_len, h0] at h
 omega
set_option maxRecDepth 100000 in
set_option maxHeartbeats 8000000 in
theorem clash_nil (w : World) :
  Calls Tryd.prog 47 #[.pointer none, .pointer none] w fun e w' => CEnd w e w' none := by
 have HP1 := hid (isPruned_any (S := fun _ => True) w (.pointer none) .nil rfl)
 have HP2 := hid (isPruned_any (S := fun _ => True) w (.pointer none) .nil rfl)
 rw [show MT.nil.cutQ = false from rfl] at HP1 HP2
 have HT1 := hid (ntext_nil w)
 have HT2 := hid (fun u (hu : Below w.heap.size w u) => ntext_nil u)
 have HE := hid txt0_rng
 generalize txt0 = a at *
 go_enter Tryd.func47, Tryd.ntmps47
 go_wp2_with fail
 refine HP1.out.mono ?_
 rintro e w1 ⟨rfl, rfl⟩
 go_wp2_with fail
 refine HP2.out.mono ?_
 rintro e w1 ⟨rfl, rfl⟩
 go_wp2_with fail
 refine HT1.out.mono ?_
 rintro e w2 ⟨va, rfl, hka, hb2⟩
 obtain ⟨aa, ca, rfl⟩ := hka.form
 have HT2' := hid (HT2.out w2 hb2)
 have HA := hid (And.intro hka hb2)
 clear hka hb2 HT2
 go_wp2_with fail
 refine HT2'.out.mono ?_
 rintro e w3 ⟨vb, rfl, hkb, hb3⟩
 obtain ⟨ab, cb, rfl⟩ := hkb.form
 have hb03 := HA.out.2.trans (hb3.mono HA.out.2.size)
 have HQ := hid (equal_any _ _ a a w3 (HA.out.1.below hb3).1 hkb.1 HE.out HE.out)
 rw [show decide (a = a) = true from decide_eq_true rfl] at HQ
 have HB := hid hb03
 clear hkb hb3 hb03
 go_wp2_with fail
 refine HQ.out.mono ?_
 rintro e w4 ⟨rfl, rfl⟩
 go_wp2_with fail
 go_ret3
 exact ⟨rfl, HB.out⟩
set_option maxRecDepth 100000 in
set_option maxHeartbeats 8000000 in
theorem clash_any {S S' : Nat → Prop} : ∀ (x y : MT) (w : World) (p q : Value), MIs w S p x → MIs w S' q y → x.Good → y.Good → KC w →
  Calls Tryd.prog 47 #[p, q] w fun e w' => CEnd w e w' (clashM x y) := by
 intro x
 induction x with
 | nil =>
  intro y w p q hp hq gx gy hK
  cases y with
  | nil =>
   obtain rfl : p = .pointer none := hp
   obtain rfl : q = .pointer none := hq
   exact clash_nil w
  | cut d => exact clash_cut _ _ w p q hp hq (.inr rfl)
  | nd k n rk d l r => exact clash_ne _ _ w p q hp hq gx gy hK rfl rfl (txt0_ne _ _ _ _) txt0_rng (gy.trng rfl)
 | cut d =>
  intro y w p q hp hq gx gy hK
  have e : clashM (.cut d) y = none := by cases y <;> rfl
  rw [e]
  exact clash_cut _ _ w p q hp hq (.inl rfl)
 | nd k n rk d l r ihl ihr =>
  intro y w p q hp hq gx gy hK
  cases y with
  | nil => exact clash_ne _ _ w p q hp hq gx gy hK rfl rfl (fun e => txt0_ne _ _ _ _ e.symm) (gx.trng rfl) txt0_rng
  | cut d => exact clash_cut _ _ w p q hp hq (.inr rfl)
  | nd k' n' rk' d' l' r' =>
   by_cases ht : (MT.nd k n rk d l r).txt = (MT.nd k' n' rk' d' l' r').txt
   ·have hR : clashM (.nd k n rk d l r) (.nd k' n' rk' d' l' r') = (match clashM l l' with | some p => some p | none => clashM r r') := by
     rw [clashM, if_pos ht]
     cases clashM l l' <;> rfl
    have HP1 := hid (isPruned_any w p _ hp)
    have HP2 := hid (isPruned_any w q _ hq)
    rw [show (MT.nd k n rk d l r).cutQ = false from rfl] at HP1
    rw [show (MT.nd k' n' rk' d' l' r').cutQ = false from rfl] at HP2
    have HT1 := hid (text_any w p _ hp gx hK rfl)
    have HT2 := hid (fun u (hu : Below w.heap.size w u) => text_any u q _ (hq.below hu) gy (hK.below hu hK.1) rfl)
    have HE := hid (gx.trng rfl)
    rw [← ht] at HT2
    obtain ⟨b, kv, lp, rp, rfl, -, h1, h2, hx, -, hl, hr⟩ := hp
    obtain ⟨b', kv', lp', rp', rfl, -, h1', h2', hx', -, hl', hr'⟩ := hq
    obtain ⟨-, gl, gr, -⟩ := gx
    obtain ⟨-, gl', gr', -⟩ := gy
    have HN := hid (NR.of hx h1)
    have HN' := hid (NR.of hx' h1')
    have HIL := hid (fun u (hu : Below w.heap.size w u) => ihl l' u lp lp' (hl.below hu) (hl'.below hu) gl gl' (hK.below hu hK.1))
    have HIR := hid (fun u (hu : Below w.heap.size w u) => ihr r' u rp rp' (hr.below hu) (hr'.below hu) gr gr' (hK.below hu hK.1))
    obtain ⟨al, rfl⟩ := hl.form
    obtain ⟨ar, rfl⟩ := hr.form
    obtain ⟨al', rfl⟩ := hl'.form
    obtain ⟨ar', rfl⟩ := hr'.form
    have HR := hid hR
    generalize clashM (.nd k n rk d l r) (.nd k' n' rk' d' l' r') = R at *
    generalize (MT.nd k n rk d l r).txt = a at *
    generalize clashM l l' = RL at *
    generalize clashM r r' = RR at *
    clear hR ht h1 h2 hx hl hr h1' h2' hx' hl' hr' gl gr gl' gr' ihl ihr hK
    go_enter Tryd.func47, Tryd.ntmps47
    go_wp2_with fail
    refine HP1.out.mono ?_
    rintro e w1 ⟨rfl, rfl⟩
    go_wp2_with fail
    refine HP2.out.mono ?_
    rintro e w1 ⟨rfl, rfl⟩
    go_wp2_with fail
    refine HT1.out.mono ?_
    rintro e w2 ⟨va, rfl, hka, hb2⟩
    obtain ⟨aa, ca, rfl⟩ := hka.form
    have HT2' := hid (HT2.out w2 hb2)
    have HA := hid (And.intro hka hb2)
    clear hka hb2 HT2
    go_wp2_with fail
    refine HT2'.out.mono ?_
    rintro e w3 ⟨vb, rfl, hkb, hb3⟩
    obtain ⟨ab, cb, rfl⟩ := hkb.form
    have hb03 := HA.out.2.trans (hb3.mono HA.out.2.size)
    have HQ := hid (equal_any _ _ a a w3 (HA.out.1.below hb3).1 hkb.1 HE.out HE.out)
    rw [show decide (a = a) = true from decide_eq_true rfl] at HQ
    have HB := hid hb03
    clear hkb hb3 hb03
    go_wp2_with fail
    refine HQ.out.mono ?_
    rintro e w4 ⟨rfl, rfl⟩
    go_wp2_with fail
    have HB0 := hid HB.out.drew
    have hb0 := HB.out.drew
    refine wp_region_held_drew (S := fun u => Below w1.heap.size w1 u) (by kernel_rfl) (hb0) (fun hHeld => ?_)
    refine tk (i := 0) (oi := ⟨some 40, .move (.tmp 0), 68, "proof.go:62", #[], none⟩) (v := ?_) (Or.inl ⟨by rfl, ?_⟩) ?_
    rotate_left 1
    ·(intro u hSw; go_simp; try with_reducible rfl)
    try simp only [Act.put, sA, sB, sC]
    refine tk (i := 1) (oi := ⟨some 41, .nilCheck (.tmp 40), 0, "proof.go:62", #[⟨0, .data⟩], none⟩) (v := ?_) (Or.inl ⟨by rfl, ?_⟩) ?_
    rotate_left 1
    ·(intro u hSw; go_simp; try with_reducible rfl)
    try simp only [Act.put, sA, sB, sC]
    refine tk (i := 2) (oi := ⟨some 42, .fieldAddr 115 (.tmp 41) 1, 0, "proof.go:62", #[⟨1, .data⟩], none⟩) (v := ?_) (Or.inl ⟨by rfl, ?_⟩) ?_
    rotate_left 1
    ·(intro u hSw; go_simp; try with_reducible rfl)
    try simp only [Act.put, sA, sB, sC]
    refine tk (i := 3) (oi := ⟨some 43, .load 68 (.tmp 42), 68, "proof.go:62", #[⟨2, .data⟩], none⟩) (v := ?_) (Or.inl ⟨by rfl, ?_⟩) ?_
    rotate_left 1
    ·(intro u hSw; have c34 := (HN.out.below hSw).c34; have d34 := (HN'.out.below hSw).c34; go_simp; try with_reducible rfl)
    try simp only [Act.put, sA, sB, sC]
    refine tk (i := 4) (oi := ⟨some 44, .move (.tmp 1), 68, "proof.go:62", #[], none⟩) (v := ?_) (Or.inl ⟨by rfl, ?_⟩) ?_
    rotate_left 1
    ·(intro u hSw; go_simp; try with_reducible rfl)
    try simp only [Act.put, sA, sB, sC]
    refine tk (i := 5) (oi := ⟨some 45, .nilCheck (.tmp 44), 0, "proof.go:62", #[⟨4, .data⟩], none⟩) (v := ?_) (Or.inl ⟨by rfl, ?_⟩) ?_
    rotate_left 1
    ·(intro u hSw; go_simp; try with_reducible rfl)
    try simp only [Act.put, sA, sB, sC]
    refine tk (i := 6) (oi := ⟨some 46, .fieldAddr 115 (.tmp 45) 1, 0, "proof.go:62", #[⟨5, .data⟩], none⟩) (v := ?_) (Or.inl ⟨by rfl, ?_⟩) ?_
    rotate_left 1
    ·(intro u hSw; go_simp; try with_reducible rfl)
    try simp only [Act.put, sA, sB, sC]
    refine tk (i := 7) (oi := ⟨some 47, .load 68 (.tmp 46), 68, "proof.go:62", #[⟨6, .data⟩], none⟩) (v := ?_) (Or.inl ⟨by rfl, ?_⟩) ?_
    rotate_left 1
    ·(intro u hSw; have c34 := (HN.out.below hSw).c34; have d34 := (HN'.out.below hSw).c34; go_simp; try with_reducible rfl)
    try simp only [Act.put, sA, sB, sC]
    refine wpAnyH_ready (rs := [8]) (by kernel_rfl) (by simp) ?_
    refine (AllReadyH.cons (o := ⟨some 48, .call ⟨.value (.func 47), #[.tmp 43, .tmp 47], #[68, 68]⟩, 55, "proof.go:62", #[⟨3, .data⟩, ⟨7, .data⟩], none⟩) rfl (fun K hK => ?_) AllReadyH.nil)
    go_simp
    refine (HIL.out _ hb0).mono ?_
    rintro e w6 he
    obtain ⟨va, vb, rfl, hb6, hcf⟩ := he.form
    have HCF := hid hcf
    have hb6' := hb0.trans (hb6.mono hb0.size)
    clear hcf hb6 he
    go_wp2_with fail
    refine hK.out _ _ hb6' (fun hHeld => ?_)
    clear hK K
    try simp only [Act.put, sA, sB, sC]
    refine tk (i := 9) (oi := ⟨some 39, .move (.tmp 48), 55, "proof.go:62", #[⟨8, .data⟩], none⟩) (v := ?_) (Or.inl ⟨by rfl, ?_⟩) ?_
    rotate_left 1
    ·(intro u hSw; go_simp; try with_reducible rfl)
    try simp only [Act.put, sA, sB, sC]
    refine tk (i := 10) (oi := ⟨some 49, .extract (.tmp 39) 0, 31, "proof.go:62", #[⟨9, .data⟩], none⟩) (v := ?_) (Or.inl ⟨by rfl, ?_⟩) ?_
    rotate_left 1
    ·(intro u hSw; go_simp; try with_reducible rfl)
    try simp only [Act.put, sA, sB, sC]
    refine tk (i := 11) (oi := ⟨some 50, .extract (.tmp 39) 1, 31, "proof.go:62", #[⟨9, .data⟩, ⟨13, .gcOnly Departure.lateStores⟩], none⟩) (v := ?_) (Or.inl ⟨by rfl, ?_⟩) ?_
    rotate_left 1
    ·(intro u hSw; go_simp; try with_reducible rfl)
    try simp only [Act.put, sA, sB, sC]
    refine tk (i := 12) (oi := ⟨some 51, .extract (.tmp 39) 2, 4, "proof.go:62", #[⟨9, .data⟩, ⟨14, .gcOnly Departure.lateStores⟩], none⟩) (v := ?_) (Or.inl ⟨by rfl, ?_⟩) ?_
    rotate_left 1
    ·(intro u hSw; go_simp; try with_reducible rfl)
    try simp only [Act.put, sA, sB, sC]
    refine tk (i := 13) (oi := ⟨some 9, .assign (.tmp 49), 31, "proof.go:62", #[⟨10, .data⟩, ⟨8, .chain⟩, ⟨0, .phase⟩, ⟨1, .phase⟩, ⟨2, .phase⟩, ⟨3, .phase⟩, ⟨4, .phase⟩, ⟨5, .phase⟩, ⟨6, .phase⟩, ⟨7, .phase⟩, ⟨8, .phase⟩, ⟨9, .phase⟩, ⟨10, .phase⟩, ⟨11, .textOnly Departure.lateStores⟩, ⟨12, .textOnly Departure.lateStores⟩], none⟩) (v := ?_) (Or.inl ⟨by rfl, ?_⟩) ?_
    rotate_left 1
    ·(intro u hSw; go_simp; try with_reducible rfl)
    try simp only [Act.put, sA, sB, sC]
    refine tk (i := 14) (oi := ⟨some 10, .assign (.tmp 50), 31, "proof.go:62", #[⟨11, .data⟩, ⟨13, .chain⟩, ⟨0, .phase⟩, ⟨1, .phase⟩, ⟨2, .phase⟩, ⟨3, .phase⟩, ⟨4, .phase⟩, ⟨5, .phase⟩, ⟨6, .phase⟩, ⟨7, .phase⟩, ⟨8, .phase⟩, ⟨9, .phase⟩, ⟨10, .phase⟩, ⟨11, .phase⟩, ⟨12, .textOnly Departure.lateStores⟩, ⟨13, .phase⟩], none⟩) (v := ?_) (Or.inl ⟨by rfl, ?_⟩) ?_
    rotate_left 1
    ·(intro u hSw; go_simp; try with_reducible rfl)
    try simp only [Act.put, sA, sB, sC]
    refine tk (i := 15) (oi := ⟨some 11, .assign (.tmp 51), 4, "proof.go:62", #[⟨12, .data⟩, ⟨14, .chain⟩, ⟨0, .phase⟩, ⟨1, .phase⟩, ⟨2, .phase⟩, ⟨3, .phase⟩, ⟨4, .phase⟩, ⟨5, .phase⟩, ⟨6, .phase⟩, ⟨7, .phase⟩, ⟨8, .phase⟩, ⟨9, .phase⟩, ⟨10, .phase⟩, ⟨11, .phase⟩, ⟨12, .phase⟩, ⟨13, .phase⟩, ⟨14, .phase⟩], none⟩) (v := ?_) (Or.inl ⟨by rfl, ?_⟩) ?_
    rotate_left 1
    ·(intro u hSw; go_simp; try with_reducible rfl)
    try simp only [Act.put, sA, sB, sC]
    refine wpAnyH_done (by kernel_rfl) ?_ _
    have HB6 := hid hb6'
    have hb7 := hb6'.drew
    clear hb6'
    cases RL with
    | some ab =>
     go_wp2_with fail
     go_ret3
     rw [HR.out]
     exact CEnd.of rfl HB6.out (HCF.out.base HB0.out.size)
    | none =>
     go_wp2_with fail
     refine wp_region_held_drew (S := fun u => Below w1.heap.size w1 u) (by kernel_rfl) (hb7) (fun hHeld => ?_)
     refine tk (i := 0) (oi := ⟨some 55, .move (.tmp 0), 68, "proof.go:65", #[], none⟩) (v := ?_) (Or.inl ⟨by rfl, ?_⟩) ?_
     rotate_left 1
     ·(intro u hSw; go_simp; try with_reducible rfl)
     try simp only [Act.put, sA, sB, sC]
     refine tk (i := 1) (oi := ⟨some 56, .nilCheck (.tmp 55), 0, "proof.go:65", #[⟨0, .data⟩], none⟩) (v := ?_) (Or.inl ⟨by rfl, ?_⟩) ?_
     rotate_left 1
     ·(intro u hSw; go_simp; try with_reducible rfl)
     try simp only [Act.put, sA, sB, sC]
     refine tk (i := 2) (oi := ⟨some 57, .fieldAddr 115 (.tmp 56) 2, 0, "proof.go:65", #[⟨1, .data⟩], none⟩) (v := ?_) (Or.inl ⟨by rfl, ?_⟩) ?_
     rotate_left 1
     ·(intro u hSw; go_simp; try with_reducible rfl)
     try simp only [Act.put, sA, sB, sC]
     refine tk (i := 3) (oi := ⟨some 58, .load 68 (.tmp 57), 68, "proof.go:65", #[⟨2, .data⟩], none⟩) (v := ?_) (Or.inl ⟨by rfl, ?_⟩) ?_
     rotate_left 1
     ·(intro u hSw; have c35 := (HN.out.below hSw).c35; have d35 := (HN'.out.below hSw).c35; go_simp; try with_reducible rfl)
     try simp only [Act.put, sA, sB, sC]
     refine tk (i := 4) (oi := ⟨some 59, .move (.tmp 1), 68, "proof.go:65", #[], none⟩) (v := ?_) (Or.inl ⟨by rfl, ?_⟩) ?_
     rotate_left 1
     ·(intro u hSw; go_simp; try with_reducible rfl)
     try simp only [Act.put, sA, sB, sC]
     refine tk (i := 5) (oi := ⟨some 60, .nilCheck (.tmp 59), 0, "proof.go:65", #[⟨4, .data⟩], none⟩) (v := ?_) (Or.inl ⟨by rfl, ?_⟩) ?_
     rotate_left 1
     ·(intro u hSw; go_simp; try with_reducible rfl)
     try simp only [Act.put, sA, sB, sC]
     refine tk (i := 6) (oi := ⟨some 61, .fieldAddr 115 (.tmp 60) 2, 0, "proof.go:65", #[⟨5, .data⟩], none⟩) (v := ?_) (Or.inl ⟨by rfl, ?_⟩) ?_
     rotate_left 1
     ·(intro u hSw; go_simp; try with_reducible rfl)
     try simp only [Act.put, sA, sB, sC]
     refine tk (i := 7) (oi := ⟨some 62, .load 68 (.tmp 61), 68, "proof.go:65", #[⟨6, .data⟩], none⟩) (v := ?_) (Or.inl ⟨by rfl, ?_⟩) ?_
     rotate_left 1
     ·(intro u hSw; have c35 := (HN.out.below hSw).c35; have d35 := (HN'.out.below hSw).c35; go_simp; try with_reducible rfl)
     try simp only [Act.put, sA, sB, sC]
     refine wpAnyH_ready (rs := [8]) (by kernel_rfl) (by simp) ?_
     refine (AllReadyH.cons (o := ⟨some 63, .call ⟨.value (.func 47), #[.tmp 58, .tmp 62], #[68, 68]⟩, 55, "proof.go:65", #[⟨3, .data⟩, ⟨7, .data⟩], none⟩) rfl (fun K hK => ?_) AllReadyH.nil)
     go_simp
     refine (HIR.out _ hb7).mono ?_
     rintro e w8 he
     obtain ⟨va', vb', rfl, hb8, hcf⟩ := he.form
     have HCF8 := hid hcf
     have hb8' := hb7.trans (hb8.mono hb7.size)
     clear hcf hb8 he
     go_wp2_with fail
     refine hK.out _ _ hb8' (fun hHeld => ?_)
     clear hK K
     try simp only [Act.put, sA, sB, sC]
     refine tk (i := 9) (oi := ⟨some 64, .extract (.tmp 63) 0, 31, "proof.go:65", #[⟨8, .data⟩], none⟩) (v := ?_) (Or.inl ⟨by rfl, ?_⟩) ?_
     rotate_left 1
     ·(intro u hSw; go_simp; try with_reducible rfl)
     try simp only [Act.put, sA, sB, sC]
     refine tk (i := 10) (oi := ⟨some 65, .extract (.tmp 63) 1, 31, "proof.go:65", #[⟨8, .data⟩], none⟩) (v := ?_) (Or.inl ⟨by rfl, ?_⟩) ?_
     rotate_left 1
     ·(intro u hSw; go_simp; try with_reducible rfl)
     try simp only [Act.put, sA, sB, sC]
     refine tk (i := 11) (oi := ⟨some 66, .extract (.tmp 63) 2, 4, "proof.go:65", #[⟨8, .data⟩], none⟩) (v := ?_) (Or.inl ⟨by rfl, ?_⟩) ?_
     rotate_left 1
     ·(intro u hSw; go_simp; try with_reducible rfl)
     try simp only [Act.put, sA, sB, sC]
     refine tk (i := 12) (oi := ⟨some 4, .assign (.tmp 64), 31, "proof.go:65", #[⟨9, .data⟩, ⟨8, .chain⟩, ⟨0, .phase⟩, ⟨1, .phase⟩, ⟨2, .phase⟩, ⟨3, .phase⟩, ⟨4, .phase⟩, ⟨5, .phase⟩, ⟨6, .phase⟩, ⟨7, .phase⟩, ⟨8, .phase⟩, ⟨9, .phase⟩, ⟨10, .phase⟩, ⟨11, .phase⟩], none⟩) (v := ?_) (Or.inl ⟨by rfl, ?_⟩) ?_
     rotate_left 1
     ·(intro u hSw; go_simp; try with_reducible rfl)
     try simp only [Act.put, sA, sB, sC]
     refine tk (i := 13) (oi := ⟨some 5, .assign (.tmp 65), 31, "proof.go:65", #[⟨10, .data⟩, ⟨12, .chain⟩, ⟨0, .phase⟩, ⟨1, .phase⟩, ⟨2, .phase⟩, ⟨3, .phase⟩, ⟨4, .phase⟩, ⟨5, .phase⟩, ⟨6, .phase⟩, ⟨7, .phase⟩, ⟨8, .phase⟩, ⟨9, .phase⟩, ⟨10, .phase⟩, ⟨11, .phase⟩, ⟨12, .phase⟩], none⟩) (v := ?_) (Or.inl ⟨by rfl, ?_⟩) ?_
     rotate_left 1
     ·(intro u hSw; go_simp; try with_reducible rfl)
     try simp only [Act.put, sA, sB, sC]
     refine tk (i := 14) (oi := ⟨some 6, .assign (.tmp 66), 4, "proof.go:65", #[⟨11, .data⟩, ⟨13, .chain⟩, ⟨0, .phase⟩, ⟨1, .phase⟩, ⟨2, .phase⟩, ⟨3, .phase⟩, ⟨4, .phase⟩, ⟨5, .phase⟩, ⟨6, .phase⟩, ⟨7, .phase⟩, ⟨8, .phase⟩, ⟨9, .phase⟩, ⟨10, .phase⟩, ⟨11, .phase⟩, ⟨12, .phase⟩, ⟨13, .phase⟩], none⟩) (v := ?_) (Or.inl ⟨by rfl, ?_⟩) ?_
     rotate_left 1
     ·(intro u hSw; go_simp; try with_reducible rfl)
     try simp only [Act.put, sA, sB, sC]
     refine wpAnyH_done (by kernel_rfl) ?_ _
     go_wp2_with fail
     go_ret3
     rw [HR.out]
     exact CEnd.of rfl hb8' (HCF8.out.base hb7.size)
   ·have hR : clashM (.nd k n rk d l r) (.nd k' n' rk' d' l' r') = if d = d' then some ((MT.nd k n rk d l r).txt, (MT.nd k' n' rk' d' l' r').txt) else none := by
     rw [clashM, if_neg ht]
    rw [hR]
    exact clash_ne _ _ w p q hp hq gx gy hK rfl rfl ht (gx.trng rfl) (gy.trng rfl)
end Go.Proofs.YtbmlkocpjboodaaDoor
