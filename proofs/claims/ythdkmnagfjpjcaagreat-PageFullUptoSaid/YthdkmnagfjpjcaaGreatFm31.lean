/-
 PageFull, second form: for any two scripts and any room, where the arguments are of bulk at most 1048576, the law returns true and its arguments read as before. Conditions: those of the given statement alone.
-/
import Derived.Test.YthdkmnagfjpjcaaGreatFm01
import Derived.Test.YthdkmnagfjpjcaaGreatFm29
import Derived.Test.YthdkmnagfjpjcaaGreatFm30
namespace Go.Proofs.YthdkmnagfjpjcaaGreat
open Go.RowKit
set_option maxRecDepth 100000 in
set_option maxHeartbeats 12800000 in
theorem full_walk (va vb : Value) (xs ys : List S5) (room : Int) (w : World) (hva : Steps5 w va xs) (hvb : Steps5 w vb ys) (hlx : xs.length ≤ 1048576) (hly : ys.length ≤ 1048576) :
    Calls Tryz.prog 5 #[va, vb, .int .i64 room] w fun e w' => e = .returned (.bool true) ∧ Below w.heap.size w w' := by
  have HFX := Lib.hid (fixed5_any w)
  have HVA := Lib.hid hva
  have HVB := Lib.hid hvb
  have hz44 : ∀ w : World, (zeroValue 44).run Tryz.prog w = .ok (.agg #[.slice none 0 0, .slice none 0 0, .int .i64 0, .int .i64 0]) w := fun w => by kernel_rfl
  clear hva hvb
  go_enter Tryz.func5, Tryz.ntmps5
  go_wp2_with fail
  refine HFX.out.mono ?_
  rintro e w1 ⟨rfl, hb1⟩
  have HB1 := Lib.hid hb1
  have HLD0 := Lib.hid (laid_any 40 0 w1 (by decide) (by decide))
  clear hb1 HFX
  go_wp2_with fail
  refine HLD0.out.mono ?_
  rintro e w2 ⟨ga, rfl, hld, hb2⟩
  have hst := two_start_n hld 16 (by decide) (by decide) (by decide) 5 hb2.size
  simp only [show ((16 : Nat) : Int) = 16 from rfl] at hst
  have HST := Lib.hid hst
  have HB2 := Lib.hid hb2
  clear hld hb2 hst HLD0
  go_wp2_with fail
  refine HST.out.mono ?_
  rintro e w3 ⟨rfl, hop⟩
  have HOP := Lib.hid (hop w3 (Below.refl _ _))
  clear hop HST
  go_wp2_with fail
  refine HOP.out.mono ?_
  rintro e w4 ⟨k, hkD, hks, hkn, rfl, hnw⟩
  have HNW := Lib.hid (hnw w4 (Below.refl _ _))
  have HK := Lib.hid (And.intro hkD (And.intro hks hkn))
  clear hnw hkD hks hkn HOP
  go_wp2_with fail
  refine HNW.out.mono ?_
  rintro e w5 ⟨Bx, P, t, rfl, htw, hnow, hta, htb, hbe, htf⟩
  have hplay := play_any k Bx P w1.heap.size w1 _ w5 va xs (two_u htw) htw.cm htw.L0 (by show t.v.a ≤ 1; omega) (by show t.v.b ≤ 1; omega) (HVA.out.below HB1.out) hlx (HB2.out.trans hbe) ((HB2.out.trans hbe).size) (Nat.le_refl _) htf hnow
  rw [HK.out.1] at hplay
  have HPL := Lib.hid hplay
  clear htw hnow hta htb hbe htf HNW hplay
  go_wp2_with fail
  refine HPL.out.mono ?_
  rintro e w6 ⟨t1, gf, cap, a, n, c, u1, u2, rfl, hbk, htu, hcm, hL, ha, hb, hbw, hap, hgf⟩
  clear HPL
  have HTU := Lib.hid htu
  have HBK := Lib.hid hbk
  have HQ := Lib.hid (And.intro hcm (And.intro hL (And.intro ha (And.intro hb (And.intro hbw (And.intro hap hgf))))))
  clear htu hbk hcm hL ha hb hbw hap hgf
  go_wp2_with fail
  obtain ⟨qcm, qL, qa, qb, qbw, qap, qgf⟩ := HQ.out
  have htu := HTU.out
  generalize hw7 : World.alloc (World.alloc w6 _) _ = w7
  have hb7 : Below w6.heap.size w6 w7 := by rw [← hw7]; exact bl_al5 (bl_al5 (Below.refl _ _) _) _
  have h12 : w7.heap[w6.heap.size]? = some (PB (.slice (some ⟨gf, 0, none⟩) t1.was.length cap) (.slice a n c) u1 u2) := by
    rw [← hw7]; exact (((Below.refl _ _).alloc (Nat.le_refl _) _).block _ (by simp)).trans (heap_alloc_new _ _)
  have htu7 := htu.chg (Chg.fresh (F := fun _ => False) hb7) (fun _ _ e => e)
  have hl12 := hlt5 h12
  have HAB := Lib.hid (u_abort htu7)
  have HW7 := Lib.hid (And.intro hb7 (And.intro h12 hl12))
  clear hw7 hb7 h12 htu7 hl12 htu qcm qL qa qb qbw qap qgf
  refine HAB.out.mono ?_
  rintro e w8 ⟨rfl, hc8, hnx⟩
  have HNX := Lib.hid (hnx w8 (Below.refl _ _))
  clear hnx hc8 HAB
  go_wp2_with fail
  refine HNX.out.mono ?_
  rintro e w9 ⟨rfl, t2, hte, hkp⟩
  clear HNX
  obtain ⟨qcm, qL, qa, qb, qbw, qap, qgf⟩ := HQ.out
  obtain ⟨hb7, h12, hl12⟩ := HW7.out
  have htu := HTU.out
  have hltu := htu.lt
  have hg6 := HBK.out.2.2.1
  have hs7 := hb7.size
  have hs9 := hte.2.1.size
  have hu12 : ∀ g, UF k P t1 g → g ≠ w6.heap.size ∧ g ≠ gf := fun g hg => ⟨by have := hltu g hg; omega, (qap g hg).2⟩
  have hap2 : ∀ g, UF k P t2 g → g ≠ w6.heap.size ∧ g ≠ gf ∧ w1.heap.size ≤ g := fun g hg => by
    rcases hte.2.2.1 g hg with e | e
    · exact ⟨(hu12 g e).1, (hu12 g e).2, (qap g e).1⟩
    · refine ⟨by omega, by omega, ?_⟩
      have := qbw.size
      omega
  have hbk7 := HBK.out.of (hb7.block gf hg6) (by omega)
  have hrp : RPg w9 Bx w6.heap.size gf (.slice (some ⟨gf, 0, none⟩) t1.was.length cap) (.slice a n c) u1 u2 t1.was :=
    { box := (hte.2.1.block _ hl12 (fun e => (hu12 _ e).1 rfl)).trans h12, nw := hbk7.of (hte.2.1.block gf (by omega) (fun e => (hu12 _ e).2 rfl)) (by omega), np := by omega, bp := by have := htu.rf.pg.bp; have := htu.rf.pg.lt.1; omega, rg := htu.rf.rw, ne := by rw [htu.rf.ln]; exact htu.rf.pg.ne }
  have hbw9 : Below w1.heap.size w1 w9 := (qbw.trans (hb7.mono qbw.size)).trans (hte.2.1.below (fun g hg => (qap g hg).1) (by have := qbw.size; omega))
  have hp9 : P1 k t2.v t2.rs t2.W w9 := ⟨hte.1.pg, hte.1.pl, hte.1.pj, hte.1.pm, hte.1.w0⟩
  have hrw9 : Rel (nP k) t2.W t1.was := by have := hte.1.rw; rw [hkp.2.1] at this; exact this
  have hL9 : t2.v.s.L = [] := by rw [hkp.1]; exact qL
  have hab9 : t2.v.a ≤ 1 + 2 * xs.length ∧ t2.v.b ≤ 1 + xs.length := by rw [hkp.2.2.2.2.1, hkp.2.2.2.2.2]; exact ⟨qa, qb⟩
  have hrm : Calls Tryz.prog 22 #[.pointer (some ⟨w1.heap.size + 1, 0, none⟩), .int .i64 room] w9 fun e w' => e = .returned (.tuple #[]) ∧ P1 { k with rm := if 0 ≤ room then room else 0 } t2.v t2.rs t2.W w' ∧ Chg (fun q => q = k.D) w9 w' := by
    rw [← HK.out.1]; exact p1_room hp9 room
  have HRM := Lib.hid hrm
  have HP9 := Lib.hid hp9
  have HRP := Lib.hid hrp
  have HAP := Lib.hid (fun g (hg : PF k t2.v g) => hap2 g (.inl hg))
  have HBW := Lib.hid hbw9
  have HRW := Lib.hid hrw9
  have HL9 := Lib.hid hL9
  have HA9 := Lib.hid hab9
  clear qcm qL qa qb qbw qap qgf hb7 h12 hl12 htu hltu hg6 hs7 hs9 hu12 hap2 hbk7 hrp hbw9 hp9 hrw9 hL9 hab9 hrm hte hkp HW7 HQ HTU HBK
  go_wp2_with fail
  refine HRM.out.mono ?_
  rintro e wA ⟨rfl, pA, hcA⟩
  generalize (if 0 ≤ room then room else 0) = rr at *
  have hDf : PF k t2.v k.D := .inl (.inl (.inl rfl))
  obtain ⟨kA, hkA⟩ : ∃ kA : PK, kA = { k with rm := rr } := ⟨_, rfl⟩
  have eP : kA.P = k.P := by rw [hkA]
  have eD : kA.D = k.D := by rw [hkA]
  have eS : kA.sz = k.sz := by rw [hkA]
  have eN : nP kA = nP k := by rw [hkA]; rfl
  have eF : ∀ g, PF kA t2.v g → PF k t2.v g := fun g hg => by rw [hkA] at hg; exact hg
  rw [← hkA] at pA
  have hrpA := HRP.out.chg hcA (fun e => (HAP.out _ hDf).1 e.symm) (fun e => (HAP.out _ hDf).2.1 e.symm)
  have hbwA : Below w1.heap.size w1 wA := HBW.out.trans (hcA.below (fun g e => by rw [e]; exact (HAP.out _ hDf).2.2) HBW.out.size)
  have PA := Lib.hid pA
  have RA := Lib.hid hrpA
  have BA := Lib.hid hbwA
  have APA := Lib.hid (fun g (hg : PF kA t2.v g) => HAP.out g (eF g hg))
  have KA := Lib.hid (And.intro eP (And.intro eD (And.intro eS eN)))
  have RWA := Lib.hid (show Rel (nP kA) t2.W t1.was from eN ▸ HRW.out)
  rw [show k.P = kA.P from eP.symm]
  clear pA hcA hDf hrpA hbwA hkA eP eD eS eN eF HRM HP9 HRP HAP HBW HRW
  obtain ⟨vb1, vb2, rfl, -⟩ := HVB.out
  go_wp2_with fail
  go_loopw [14] (fun iv wr => ∃ (j : Nat) (v2 : PV), iv = .int .i64 (j : Int) ∧ j ≤ ys.length ∧ P1E kA t2.v t2.rs t2.W wA v2 wr) (fun iv _ => ys.length - (intOf iv).toNat)
  case atStart => exact ⟨0, t2.v, rfl, Nat.zero_le _, P1E.refl PA.out⟩
  case round =>
    obtain ⟨j, v2, rfl, hj, hpe⟩ := hrel
    have hbr : Below w1.heap.size w1 wr := BA.out.trans (hpe.2.1.2.1.below (fun g hg => (APA.out g hg).2.2) BA.out.size)
    have hvw := (HVB.out.below HB1.out).below hbr
    by_cases hlt : j < ys.length
    · obtain ⟨a', cap', hv', hvc⟩ := hvw
      simp only [Value.slice.injEq, true_and] at hv'
      obtain ⟨rfl, rfl⟩ := hv'
      obtain ⟨vb, vo, hva, hvl, hvx⟩ := hvc (by omega)
      subst hva
      obtain ⟨x, hx⟩ : ∃ x, ys[j]? = some x := ⟨_, List.getElem?_eq_getElem hlt⟩
      obtain ⟨c0, c1, c2, hok⟩ := hvx j x hx
      obtain ⟨xk, xn, xb⟩ := x
      have HOK := Lib.hid hok
      simp only at c0 c1 c2
      have hci : (j : Int) < (ys.length : Int) := by omega
      have HX := Lib.hid (heap_alloc_new wr (.cells #[.int .i64 xk, .int .i64 xn, .int .u8 xb] 36))
      have HNB := Lib.hid (fun g (hg : PF kA v2 g) => (hpe.1.pg.lt g hg).2)
      have HPE := Lib.hid (hpe.fresh (w2 := wr.alloc (.cells #[.int .i64 xk, .int .i64 xn, .int .u8 xb] 36)) ((Below.refl _ _).alloc (Nat.le_refl _) _))
      clear hpe hbr hvc hvx hx hok
      by_cases hk2 : xk = 2
      · subst hk2
        have HC := Lib.hid (p1_alloc HPE.out.1)
        go_wp2_with (go_at_call 18; refine HC.out.mono ?_; rintro e wB ⟨A, E, rfl, v3, hp3⟩; have HP3 := Lib.hid (HPE.out.trans hp3); clear hp3 HC)
        go_roundw
        case rel => exact ⟨j + 1, v3, by go_num, by omega, HP3.out⟩
        case measure => simp [intOf]; omega
      · have k2 : (xk == 2) = false := beq_false_of_ne hk2
        have HBL := Lib.hid (fun u => block5_any xb u HOK.out.hb.1)
        clear hk2
        go_wp2_with fail
        refine wp_region_held_drew (S := fun u => u.heap[wr.heap.size]? = some (.cells #[.int .i64 xk, .int .i64 xn, .int .u8 xb] 36 (0, 0))) (by kernel_rfl) (HX.out) (fun hHeld => ?_)
        refine wpAnyH_take (i := 0) (oi := ({ dst := some 65, op := .move (.tmp 9), type := 30, pos := "law.go:293", after := #[], guard := none } : Oper)) (v := ?_) rfl (by kernel_rfl) (by kernel_rfl) (by kernel_rfl) (fun _ _ _ h => h) (Or.inl ⟨by rfl, ?_⟩) (by assumption) ?_
        rotate_left 1
        · (intro u hSw; go_simp; try with_reducible rfl)
        try simp only [Act.put, List.setIfInBounds_toArray, List.set_cons_zero, List.set_cons_succ]
        refine wpAnyH_take (i := 1) (oi := ({ dst := some 66, op := .fieldAddr 36 (.tmp 15) 1, type := 0, pos := "law.go:293", after := #[], guard := none } : Oper)) (v := ?_) rfl (by kernel_rfl) (by kernel_rfl) (by kernel_rfl) (fun _ _ _ h => h) (Or.inl ⟨by rfl, ?_⟩) (by assumption) ?_
        rotate_left 1
        · (intro u hSw; go_simp; try with_reducible rfl)
        try simp only [Act.put, List.setIfInBounds_toArray, List.set_cons_zero, List.set_cons_succ]
        refine wpAnyH_take (i := 2) (oi := ({ dst := some 67, op := .load 3 (.tmp 66), type := 3, pos := "law.go:293", after := #[{ on := 1, ground := .data }], guard := none } : Oper)) (v := ?_) rfl (by kernel_rfl) (by kernel_rfl) (by kernel_rfl) (fun _ _ _ h => h) (Or.inl ⟨by rfl, ?_⟩) (by assumption) ?_
        rotate_left 1
        · (intro u hSw; have p1 := (cell_of_row u wr.heap.size 1 _ _ _ hSw).trans (show (#[Value.int .i64 xk, .int .i64 xn, .int .u8 xb] : Array Value)[1]? = some (.int .i64 xn) from rfl); have p2 := (cell_of_row u wr.heap.size 2 _ _ _ hSw).trans (show (#[Value.int .i64 xk, .int .i64 xn, .int .u8 xb] : Array Value)[2]? = some (.int .u8 xb) from rfl); go_simp; try with_reducible rfl)
        try simp only [Act.put, List.setIfInBounds_toArray, List.set_cons_zero, List.set_cons_succ]
        refine wpAnyH_take (i := 3) (oi := ({ dst := some 68, op := .fieldAddr 36 (.tmp 15) 2, type := 0, pos := "law.go:293", after := #[], guard := none } : Oper)) (v := ?_) rfl (by kernel_rfl) (by kernel_rfl) (by kernel_rfl) (fun _ _ _ h => h) (Or.inl ⟨by rfl, ?_⟩) (by assumption) ?_
        rotate_left 1
        · (intro u hSw; go_simp; try with_reducible rfl)
        try simp only [Act.put, List.setIfInBounds_toArray, List.set_cons_zero, List.set_cons_succ]
        refine wpAnyH_take (i := 4) (oi := ({ dst := some 69, op := .load 5 (.tmp 68), type := 5, pos := "law.go:293", after := #[{ on := 3, ground := .data }], guard := none } : Oper)) (v := ?_) rfl (by kernel_rfl) (by kernel_rfl) (by kernel_rfl) (fun _ _ _ h => h) (Or.inl ⟨by rfl, ?_⟩) (by assumption) ?_
        rotate_left 1
        · (intro u hSw; have p1 := (cell_of_row u wr.heap.size 1 _ _ _ hSw).trans (show (#[Value.int .i64 xk, .int .i64 xn, .int .u8 xb] : Array Value)[1]? = some (.int .i64 xn) from rfl); have p2 := (cell_of_row u wr.heap.size 2 _ _ _ hSw).trans (show (#[Value.int .i64 xk, .int .i64 xn, .int .u8 xb] : Array Value)[2]? = some (.int .u8 xb) from rfl); go_simp; try with_reducible rfl)
        try simp only [Act.put, List.setIfInBounds_toArray, List.set_cons_zero, List.set_cons_succ]
        refine wpAnyH_ready (rs := [5]) (by kernel_rfl) (by simp) ?_
        refine AllReadyH.cons (o := ({ dst := some 70, op := .call { callee := Callee.value (Operand.func 24), args := #[.tmp 69], argTypes := #[5] }, type := 50, pos := "law.go:293", after := #[{ on := 4, ground := .data }], guard := none } : Oper)) rfl (fun K hK => ?_) AllReadyH.nil
        go_simp
        refine (HBL.out _).mono ?_
        rintro e wB ⟨rfl, hbB⟩
        have HX1 := Lib.hid ((hbB.block wr.heap.size (hlt5 HX.out)).trans HX.out)
        have HPB := Lib.hid (HPE.out.fresh ((Below.refl _ _).drew.trans hbB))
        have HC := Lib.hid (p1_put HPB.out.1 xn (blk5 xb) HOK.out.hn.2 (blk5_len xb) (blk5_rng xb HOK.out.hb.1))
        clear hbB
        go_wp2_with fail
        refine hK.out _ _ HX1.out (fun hHeld => ?_)
        clear hK K
        try simp only [Act.put, List.setIfInBounds_toArray, List.set_cons_zero, List.set_cons_succ]
        refine wpAnyH_ready (rs := [6]) (by kernel_rfl) (by simp) ?_
        refine AllReadyH.cons (o := ({ dst := some 71, op := .call { callee := Callee.value (Operand.func 23), args := #[.tmp 65, .tmp 67, .tmp 70], argTypes := #[30, 3, 50] }, type := 28, pos := "law.go:293", after := #[{ on := 0, ground := .data }, { on := 2, ground := .data }, { on := 5, ground := .data }, { on := 5, ground := .chain }], guard := none } : Oper)) rfl (fun K hK => ?_) AllReadyH.nil
        go_simp
        refine HC.out.mono ?_
        rintro e wC ⟨E, rfl, v3, hp3⟩
        have HP3 := Lib.hid (HPB.out.trans hp3)
        have HX2 := Lib.hid ((hp3.2.1.2.1.block wr.heap.size (hlt5 HX1.out) (fun e => by have := HNB.out _ e; omega)).trans HX1.out)
        clear hp3
        go_wp2_with fail
        refine hK.out _ _ HX2.out (fun hHeld => ?_)
        clear hK K
        try simp only [Act.put, List.setIfInBounds_toArray, List.set_cons_zero, List.set_cons_succ]
        refine wpAnyH_done (by kernel_rfl) ?_ _
        go_wp2_with fail
        go_roundw
        case rel => exact ⟨j + 1, v3, by go_num, by omega, HP3.out⟩
        case measure => simp [intOf]; omega
    · have hje : j = ys.length := by omega
      subst hje
      have hce : decide ((ys.length : Int) < (ys.length : Int)) = false := decide_eq_false (by omega)
      have HPE := Lib.hid hpe
      clear hbr hvw hlt hpe
      have h1 := HPE.out.1
      have hL2 : v2.s.L = [] := by rw [HPE.out.2.2.1]; exact HL9.out
      have HCM := Lib.hid (commit2 kA v2 t2.rs t2.W wr h1.pg h1.pj h1.pl h1.pm hL2 h1.w0 (by have := HPE.out.2.2.2.1; have := HA9.out.1; omega) (by have := HPE.out.2.2.2.2; have := HA9.out.2; omega))
      clear h1 hL2
      go_wp2_with fail
      refine HCM.out.mono ?_
      rintro e wB ⟨E, v3, rfl, hp3, -, -, hor, -⟩
      have hbB : Below w1.heap.size w1 wB := BA.out.trans ((HPE.out.2.1.trans hp3).2.1.below (fun g hg => (APA.out g hg).2.2) BA.out.size)
      by_cases hE : E = 42
      · subst hE
        obtain ⟨rs2, x2, xj, xm, x1, xc⟩ : ∃ rs2, PL kA v3 rs2 t2.W ∧ PJ kA v3 ∧ PM v3 t2.W ∧ v3.h1 = v2.h0 ∧ v3.ch = [] := by
          rcases hor with ⟨_, h0, _⟩ | ⟨_, h0, _⟩ | ⟨_, _, ⟨rs2, x2⟩, xj, xm, x1, xc, _⟩ | ⟨_, h0, _⟩
          · exact absurd h0 (by decide)
          · exact absurd h0 (by decide)
          · exact ⟨rs2, x2, xj, xm, x1, xc⟩
          · exact absurd h0 (by decide)
        have pB : P1 kA v3 rs2 t2.W wB := ⟨hp3.1, x2, xj, xm, HPE.out.1.w0⟩
        have hh : v3.h1 = v3.h0 := by rw [x1, xm.h0, HPE.out.1.pm.h0]
        have hpe := HPE.out.2.1.trans hp3
        have hrB := RA.out.chg hpe.2.1 (fun e => (APA.out _ e).1 rfl) (fun e => (APA.out _ e).2.1 rfl)
        have hlA := RA.out.lt
        have apB : ∀ g, PF kA v3 g → g ≠ w6.heap.size ∧ g ≠ gf ∧ w1.heap.size ≤ g := fun g hg => by
          rcases hpe.2.2 g hg with e | e
          · exact APA.out g e
          · have := BA.out.size
            refine ⟨by omega, by omega, by omega⟩
        have eDA : kA.D = w1.heap.size + 1 := KA.out.2.1.trans HK.out.1
        have hrm : Calls Tryz.prog 22 #[.pointer (some ⟨w1.heap.size + 1, 0, none⟩), .int .i64 40] wB fun e w' => e = .returned (.tuple #[]) ∧ P1 { kA with rm := 40 } v3 rs2 t2.W w' ∧ Chg (fun q => q = kA.D) wB w' := by
          rw [← eDA]; exact p1_room pB 40
        have HRM := Lib.hid hrm
        have PB := Lib.hid pB
        have RB := Lib.hid hrB
        have APB := Lib.hid apB
        have BB := Lib.hid hbB
        have HH := Lib.hid (And.intro hh xc)
        have EDA := Lib.hid eDA
        clear hor hp3 hbB x2 xj xm x1 xc pB hh hpe hrB hlA apB eDA hrm HCM
        go_wp2_with fail
        refine HRM.out.mono ?_
        rintro e wC ⟨rfl, pC, hcC⟩
        have hDf : PF kA v3 kA.D := .inl (.inl (.inl rfl))
        obtain ⟨kC, hkC⟩ : ∃ kC : PK, kC = { kA with rm := 40 } := ⟨_, rfl⟩
        have eP : kC.P = kA.P := by rw [hkC]
        have eD : kC.D = w1.heap.size + 1 := by rw [hkC]; exact EDA.out
        have eS : kC.sz = 16 := by rw [hkC]; exact KA.out.2.2.1.trans HK.out.2.1
        have eN : nP kC = nP kA := by rw [hkC]; rfl
        have eF : ∀ g, PF kC v3 g → PF kA v3 g := fun g hg => by rw [hkC] at hg; exact hg
        rw [← hkC] at pC
        have hrC := RB.out.chg hcC (fun e => (APB.out _ hDf).1 e.symm) (fun e => (APB.out _ hDf).2.1 e.symm)
        have hbC : Below w1.heap.size w1 wC := BB.out.trans (hcC.below (fun g e => by rw [e]; exact (APB.out _ hDf).2.2) BB.out.size)
        have hopn := p1_open pC 5
        rw [show (#[.pointer (some ⟨kC.D, 0, none⟩), .int .i64 kC.sz, .int .i64 5] : Array Value) = #[.pointer (some ⟨w1.heap.size + 1, 0, none⟩), .int .i64 16, .int .i64 5] by rw [eD, eS]] at hopn
        have HON := Lib.hid hopn
        have PC' := Lib.hid pC
        have RC := Lib.hid hrC
        have APC := Lib.hid (fun g (hg : PF kC v3 g) => APB.out g (eF g hg))
        have BC := Lib.hid hbC
        have KC := Lib.hid (And.intro eP eN)
        rw [show kA.P = kC.P from eP.symm]
        clear pC hcC hDf hkC eP eD eS eN eF hrC hbC hopn HRM PB RB APB BB
        go_wp2_with fail
        refine HON.out.mono ?_
        rintro e wD ⟨kq, vq, rfl, q1, q2, q3, q4, q5, q6, pq, qs, ql, qn, pD, hcD, hqf⟩
        have hfoot : ∀ g, Foot kC.D kC.M v3.lv g → PF kC v3 g := fun g hg => .inl (.inl hg)
        have hrD := RC.out.chg hcD (fun e => (APC.out _ (hfoot _ e)).1 rfl) (fun e => (APC.out _ (hfoot _ e)).2.1 rfl)
        have hlC := RC.out.lt
        have apq : ∀ g, PF kq vq g → g ≠ w6.heap.size ∧ g ≠ gf ∧ w1.heap.size ≤ g := fun g hg => by
          rcases hqf g hg with e | e
          · exact APC.out g (hfoot g e)
          · have := BC.out.size
            refine ⟨by omega, by omega, by omega⟩
        have hbD : Below w1.heap.size w1 wD := BC.out.trans (hcD.below (fun g hg => (APC.out g (hfoot g hg)).2.2) BC.out.size)
        have hltC := PC'.out.pg.lt
        have hsw : ∀ g, PF kq vq g → ¬ Foot kq.D kq.M vq.lv g → ¬ PF kC v3 g := fun g hg hn hf => by
          rw [q2, q3, ql] at hn
          rcases hqf g hg with e | e
          · exact hn e
          · have := hltC g hf; omega
        have hch := changed_any kC v3 wD pD.pg pD.pj.hin pD.pj.chlen
        rw [show chN v3 = 0 by unfold chN; rw [HH.out.1, HH.out.2, if_pos rfl]; rfl] at hch
        have hrel3 : Rel (nP kC) (NL v3 t2.W) t1.was := by
          rw [KC.out.2]
          exact RWA.out.congr (fun m => NL_clean pD.pm (pD.w0 0) HH.out.1 HH.out.2 m)
        have hrelq : Rel (nP kq) (NL vq t2.W) t1.was := by
          have e9 : nP kq = nP kA := by unfold nP; rw [q4, q6]; have := KC.out.2; unfold nP at this; exact this
          rw [e9]
          exact RWA.out.congr qn
        have HCH := Lib.hid hch
        have HD1 := Lib.hid (And.intro pD (And.intro hrD (And.intro pq (And.intro hbD (And.intro hrel3 hrelq)))))
        have HD2 := Lib.hid (And.intro apq hsw)
        have HD3 := Lib.hid (And.intro q1 (And.intro q2 (And.intro q3 (And.intro q4 (And.intro q5 (And.intro qs ql))))))
        clear q1 q2 q3 q4 q5 q6 pq qs ql qn pD hcD hqf hfoot hrD hlC apq hbD hltC hsw hch hrel3 hrelq HON
        go_wp2_with fail
        refine HCH.out.mono ?_
        rintro e wE ⟨rfl, hbE⟩
        obtain ⟨pD, hrD, pq, hbD, hrel3, hrelq⟩ := HD1.out
        obtain ⟨apq, hsw⟩ := HD2.out
        have pE : P1 kC v3 rs2 t2.W wE := { pD with pg := pD.pg.fresh hbE }
        have pqE : P1 kq vq rs2 t2.W wE := { pq with pg := pq.pg.fresh hbE }
        have hrE := hrD.fresh hbE
        have HS1 := Lib.hid (same_wk (k := kC) (Bx := Bx) (P := w6.heap.size) ⟨pE, hrE, fun g hg => ⟨(APC.out g hg).1, (APC.out g hg).2.1⟩, hrel3⟩)
        have HE := Lib.hid (And.intro pE (And.intro pqE (And.intro hrE (hbD.trans (hbE.mono hbD.size)))))
        clear hbE pD hrD pq hbD hrel3 apq hsw pE pqE hrE HCH hrelq
        go_wp2_with fail
        refine HS1.out.mono ?_
        rintro e wF ⟨rfl, v4, hwe⟩
        obtain ⟨pE, pqE, hrE, hbE⟩ := HE.out
        obtain ⟨-, -, -, -, -, hrelq⟩ := HD1.out
        obtain ⟨apq, hsw⟩ := HD2.out
        obtain ⟨q1, q2, q3, q4, q5, qs, ql⟩ := HD3.out
        have hdk : DkS wF kC.B kC.D kC.M kC.nb kC.rm v4.s v4.lv := hwe.1.1.pg.ls.dk
        rw [hwe.1.2.2.1, hwe.2.2, ← q1, ← q2, ← q3, ← q4, ← q5, ← qs, ← ql] at hdk
        have pqF : P1 kq vq rs2 t2.W wF := pqE.swap (r := kq.rm) hdk hwe.1.2.1.2.1 hsw
        have hrF := hrE.chg hwe.1.2.1.2.1 (fun e => (APC.out _ e).1 rfl) (fun e => (APC.out _ e).2.1 rfl)
        have HS2 := Lib.hid (same_wk (k := kq) (Bx := Bx) (P := w6.heap.size) ⟨pqF, hrF, fun g hg => ⟨(apq g hg).1, (apq g hg).2.1⟩, hrelq⟩)
        have BF := Lib.hid (show Below w1.heap.size w1 wF from hbE.trans (hwe.1.2.1.2.1.below (fun g hg => (APC.out g hg).2.2) hbE.size))
        have APQ := Lib.hid apq
        clear pE pqE hrE hbE hrelq apq hsw q1 q2 q3 q4 q5 qs ql hdk pqF hrF hwe HS1 HE HD1 HD2 HD3
        go_wp2_with fail
        refine HS2.out.mono ?_
        rintro e wG ⟨rfl, v5, hwe⟩
        have BG := Lib.hid (show Below w1.heap.size w1 wG from BF.out.trans (hwe.1.2.1.2.1.below (fun g hg => (APQ.out g hg).2.2) BF.out.size))
        clear hwe HS2
        go_wp2_with fail
        go_ret
        exact ⟨rfl, HB1.out.trans (BG.out.mono HB1.out.size)⟩
      · have gE : (E != 42) = true := bne_iff_ne.2 hE
        have BB := Lib.hid hbB
        clear hor hp3 hbB hE HCM
        go_wp2_with fail
        go_ret
        exact ⟨rfl, HB1.out.trans (BB.out.mono HB1.out.size)⟩
end Go.Proofs.YthdkmnagfjpjcaaGreat
namespace Go.Proofs.YthdkmnagfjpjcaaGreat
open Go.ChangeShapes Go.WideShapes Go.ChangeAt Go.RowKit Go.Deep
namespace plainPageFull
set_option maxRecDepth 100000 in
theorem contract (H : Type) (enc : TypeId × Value → H) (W : World) (base : Nat) (args : Array Value) (ds gs : List (DataW H)) (before : List MemPlace)
  (hval : ∀ (j : Nat) t v, Tryz.f5.params[j]? = some t → args[j]? = some v → Value.okWide Tryz.prog W .any base t v)
  (hW : DataW.Whole enc Tryz.prog Tryz.f5.params.toList Rows.pageFullSpec.vars false W args.toList ds gs before) (hk : Rows.uptoSmall H (ds ++ gs) = true) :
  Calls Tryz.prog 5 args W fun e W' => ∃ v, e = .returned v ∧ Rows.pageFullSpec.post enc Tryz.prog Tryz.f5 false true false false W args v W' := by
 have hW' := hW
 obtain ⟨p, q, hA0, hV, rfl, hfz, hnd⟩ := hW
 have hA : DataW.TrodAll enc Tryz.prog W 0 (fun _ => true) true Tryz.f5.params.toList args.toList ds p := hA0
 rw [Tryz.params5] at hA hval
 obtain ⟨v0, vs0, d0, ds0, p0, q0, hargs, rfl, rfl, h0, r0⟩ := trodAll_cons hA
 obtain ⟨v1, vs1, d1, ds1, p1, q1, rfl, rfl, rfl, h1, r1⟩ := trodAll_cons r0
 obtain ⟨v2, vs2, d2, ds2, p2, q2, rfl, rfl, rfl, h2, r2⟩ := trodAll_cons r1
 obtain ⟨rfl, rfl, rfl⟩ := trodAll_nil r2
 obtain rfl : args = #[v0, v1, v2] := by cases args; simp_all
 obtain ⟨rfl, rfl⟩ := trodVars_none hV
 have hbulk : Rows.uptoBulkAll ([d0, d1, d2] ++ []) ≤ 1048576 := of_decide_eq_true hk
 simp only [List.append_nil, Rows.uptoBulkAll] at hbulk
 obtain ⟨a0, b0, g0⟩ := steps5_of_trod (hval 0 22 v0 rfl rfl) h0 (by omega)
 obtain ⟨a1, b1, g1⟩ := steps5_of_trod (hval 1 22 v1 rfl rfl) h1 (by omega)
 obtain ⟨a2, rfl, rfl, rfl, g2⟩ := open_int Tryz.underlying3 (hval 2 3 v2 rfl rfl) h2
 replace g2 := i64_of_wf g2
 refine (full_walk v0 v1 a0 a1 a2 W b0 b1 g0 g1).mono fun e W' ⟨he, hb⟩ => ⟨_, he, ?_⟩
 exact law_post (T := 4) laidOut (by rw [Tryz.params5]; decide +kernel) rfl rfl Tryz.underlying4 (fun gs h => by subst h; rfl) hW' hb
set_option maxRecDepth 100000 in
theorem lifted (os : Os) (started : os.Started) (H : Type) (enc : TypeId × Value → H) (F : Stop.Interp) :
  ReturnsInHanded {} Tryz.checked os 5 .any ((Rows.OpenSpec.upto Rows.pageFullSpec).pre6 enc Tryz.prog Tryz.f5 Rows.pageFullUptoRow.domain false) (((Rows.OpenSpec.upto Rows.pageFullSpec).at F).post enc Tryz.prog Tryz.f5 false true false false) := by
 refine returnsInHanded_of_cond (C := Tryz.checked) (s := Rows.OpenSpec.upto Rows.pageFullSpec) (k := Rows.uptoSmall) rfl own started (by kernel_rfl) Tryz.func5
  (OpenSpec.witness (enc := enc) (C := Tryz.checked) (s := Rows.OpenSpec.upto Rows.pageFullSpec) (k := Rows.uptoSmall) rfl false ⟨#[], #[.slice none 0 0, .slice none 0 0, .int .i64 0], []⟩ 8 (by kernel_rfl) (by kernel_rfl) (by kernel_rfl)
   (x := ([.nil, .nil, .lit (.int .i64 0)], [], [])) (by kernel_rfl) rfl (by kernel_rfl)) ?_
 intro W base args ds gs before hval hW _ hk _
 exact contract H enc W base args ds gs before hval hW hk
theorem over : Rows.pageFullUptoRow.holds Tryz.pinned (Rows.OpenSpec.upto Rows.pageFullSpec) :=
 OpenClaim.holds_of_cond 5 Tryz.f5 rfl rfl rfl rfl rfl rfl rfl ⟨rfl, rfl, rfl, rfl, rfl⟩ rfl rfl rfl rfl rfl (by kernel_rfl) Tryz.func5 (by kernel_rfl)
  (of_decide_eq_true (by kernel_rfl)) (by unfold Func.isWrapper; first | (rw [if_pos (by decide +kernel)]; kernel_rfl) | (rw [if_neg (by decide +kernel)]; exact ⟨rfl, rfl⟩))
  (fun os started H enc _ F => lifted os started H enc F)
/-- the statement, its second form -/
theorem proved : Rows.PageFullUptoSaid := over
end plainPageFull
theorem pageFullUpto : Rows.PageFullUptoSaid := plainPageFull.proved
end Go.Proofs.YthdkmnagfjpjcaaGreat
