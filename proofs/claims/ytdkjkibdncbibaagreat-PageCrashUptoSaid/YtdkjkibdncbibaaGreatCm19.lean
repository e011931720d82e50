/- a save -/
import Derived.Test.YtdkjkibdncbibaaGreatCm18
namespace Go.Proofs.YtdkjkibdncbibaaGreat
open Go.RowKit
open Go.Lib (hid)
theorem exec_lookupB {ρ : Operand → Value} {o : Oper} {w : World} (x y : Operand) (ho : o.op = .lookup 76 x y false) (m kk v : Value) (hx : ρ x = m) (hy : ρ y = kk) (h : (Instr.lookup 76 m kk false).run Tryz.prog w = .ok v w) :
  (execOp ρ o).run Tryz.prog w = .ok (.value v) w := by
 unfold execOp
 simp only [ho, hx, hy, Sem.run_bind, h, Result.andThen_ok]
 rfl
section
variable {k : PK} {v : PV} {w : World} {rs : List (List Int)}
theorem GS.lgS1 {m : List Int} (g : GS k v rs) (h : PgS k { v with pe := [m] } w) (hj : PJ k v) (hm : Rng m) (hf : ((v.c + (8 + m.length) : Nat) : Int) ≤ (k.sz - 2) * 256) : LgS w k.B k.D k.M k.nb k.rm v.s.f v.lv k.Pl 0 k.sz v.a v.b v.c rs v.av [m] := by
  have hl := h.ls
  have hl2 : LS w k.B k.D k.M k.nb k.rm ⟨-1, false, v.s.f, []⟩ v.lv k.Pl 0 k.sz v.a v.b v.c v.av [m] := by rw [← g.s]; exact hl
  exact { dk := hl2.dk, box := hl2.box, own := hl2.own, nf := hl2.nf, ne := hl2.ne, af := hl2.af, base := hl2.base, mkf := g.mkf, area := g.area
          fits := by rw [enc1, List.length_append, be8_len]; omega
          rng := hj.fr, rrs := g.rrs, rpe := fun r hr => by rw [List.mem_singleton.1 hr]; exact hm
          h1 := Int.le_refl _, h2 := hj.z1, h3 := by have := hj.z2; omega, h4 := hj.z3, ha := g.ha, hb := g.hb }
/-- what a save keeps -/
structure SvI (k : PK) (v v' : PV) : Prop where
 j : PJ k v'
 g : ∃ rs, GS k v' rs
 e0 : v'.h0 = v.h0
 e1 : v'.h1 = v.h1
 eh : v'.ch = v.ch
 em : v'.Hm = v.Hm
 a : v'.a ≤ v.a + 2
 b : v'.b ≤ v.b + 1
/-- the cache behind a row of pages kept -/
def keepL (most : Int) (pg : Int → List Int) : List Int → List (Int × List Int) × List Int → List (Int × List Int) × List Int
 | [], c => c
 | n :: r, c => keepL most pg r (keepP most c.1 c.2 n (pg n))
theorem keepL_snoc (most : Int) (pg : Int → List Int) : ∀ (l : List Int) (n : Int) (c : List (Int × List Int) × List Int), keepL most pg (l ++ [n]) c = keepP most (keepL most pg l c).1 (keepL most pg l c).2 n (pg n)
 | [], _, _ => rfl
 | _ :: r, n, _ => keepL_snoc most pg r n _
def savedC (k : PK) (v : PV) : List (Int × List Int) × List Int := keepL k.most (fun n => (gl (chgP k v) n).getD (zeros 256)) (srt (gk (chgP k v))) ((chU k v).ca, (chU k v).od)
def chL (k : PK) (v : PV) : Nat := (chgP k v).length
def SvEnds (k : PK) (v : PV) (w : World) (e : Ending) (w' : World) : Prop :=
 ∃ v', PE k v w v' w' ∧ SvI k v v' ∧ ((e = .returned (.int .i64 0) ∧ (v'.ca, v'.od) = savedC k v) ∨ (e = .returned (.int .i64 42) ∧ ¬ (8 + 264 * (chL k v : Int) ≤ (k.sz - 2) * 256)))
theorem chgP_ok (hj : PJ k v) : (∀ n l, gl (chgP k v) n = some l → Blk n l) ∧ (∀ n ∈ gk (chgP k v), 0 ≤ n ∧ n < k.nb - k.sz) := by
 unfold chgP
 split
 ·exact ⟨hj.chl, hj.chr⟩
 ·refine ⟨fun n l hl => ?_, fun n hn => ?_⟩
  ·rw [gl_gp] at hl
   split at hl
   ·injection hl with hl
    rw [← hl]
    exact ⟨ovL_len _ _ _ hj.l1 (hj.cmR 0).1 (Nat.le_refl _), ovL_rng _ _ _ (hj.cmR 0).2⟩
   ·exact hj.chl n l hl
  ·rw [gk_gp] at hn
   split at hn
   ·exact hj.chr n hn
   ·rcases List.mem_append.1 hn with h1 | h1
    ·exact hj.chr n h1
    ·rw [List.mem_singleton] at h1; rw [h1]; have := hj.z2; omega
theorem chgP_pos (h : chN v ≠ 0) : 0 < (chgP k v).length := by
 have e : (chgP k v).length = (gk (chgP k v)).length := by simp [gk]
 rw [e]
 unfold chN at h
 unfold chgP
 split
 ·rename_i h2
  rw [if_pos h2] at h
  simp only [gk, List.length_map]
  omega
 ·rw [gk_gp]
  split
  ·rename_i h3; exact List.length_pos_of_mem h3
  ·simp
theorem gl_rcL : ∀ (l : List Int) (lg : List (Int × Int)) (p n x : Int), gl (rcL lg p l) n = some x → gl lg n = some x ∨ ∃ i : Nat, i < l.length ∧ x = p + 264 * i + 8
 | [], lg, p, n, x, h => .inl h
 | m :: r, lg, p, n, x, h => by
  rcases gl_rcL r _ _ n x h with h1 | ⟨i, hi, rfl⟩
  ·rw [gl_gp] at h1
   split at h1
   ·injection h1 with h1
    exact .inr ⟨0, by simp, by omega⟩
   ·exact .inl h1
  ·exact .inr ⟨i + 1, by simpa using hi, by omega⟩
theorem gk_rcL : ∀ (l : List Int) (lg : List (Int × Int)) (p n : Int), n ∈ gk (rcL lg p l) → n ∈ gk lg ∨ n ∈ l
 | [], lg, p, n, h => .inl h
 | m :: r, lg, p, n, h => by
  rcases gk_rcL r _ _ n h with h1 | h1
  ·rw [gk_gp] at h1
   split at h1
   ·exact .inl h1
   ·rcases List.mem_append.1 h1 with h2 | h2
    ·exact .inl h2
    ·rw [List.mem_singleton] at h2; exact .inr (by simp [h2])
  ·exact .inr (by simp [h1])
theorem GS.chE (g : GS k v rs) : chE k v = 0 := by
 unfold Go.Proofs.YtdkjkibdncbibaaGreat.chE
 split
 ·rfl
 ·unfold Go.Proofs.YtdkjkibdncbibaaGreat.cmR
  split
  ·rfl
  ·rw [g.s]; rfl
theorem PJ.chU (hj : PJ k v) : PJ k (chU k v) := by
 unfold Go.Proofs.YtdkjkibdncbibaaGreat.chU
 split
 ·exact hj
 ·exact hj.cm 0 (by have := hj.z2; omega)
theorem chU_eq : (chU k v).s = v.s ∧ (chU k v).a = v.a ∧ (chU k v).b = v.b ∧ (chU k v).c = v.c ∧ (chU k v).pe = v.pe ∧ (chU k v).en = v.en ∧ (chU k v).lg = v.lg ∧ (chU k v).h0 = v.h0 ∧ (chU k v).h1 = v.h1 ∧ (chU k v).ch = v.ch ∧ (chU k v).Hm = v.Hm := by
 unfold chU
 split <;> exact ⟨rfl, rfl, rfl, rfl, rfl, rfl, rfl, rfl, rfl, rfl, rfl⟩
end
set_option maxRecDepth 100000 in
set_option maxHeartbeats 4000000 in
theorem save_any (k : PK) (v : PV) (rs : List (List Int)) (w : World) (h : PgS k v w) (hj : PJ k v) (hg : GS k v rs) (hc : chN v ≠ 0) (ha : v.a + 2 < 1099511627776) (hb : v.b + 1 < 1099511627776) :
    Calls Tryz.prog 60 #[.pointer (some ⟨k.P, 0, none⟩)] w (SvEnds k v w) := by
  have hz := zero35
  have HPOK := hid (chgP_ok hj)
  have HPP := hid (chgP_pos (k := k) hc)
  have HCH := hid (changes_any k v w h hj)
  have HE0 := hid hg.chE
  have HJU := hid hj.chU
  have HUE := hid (chU_eq (k := k) (v := v))
  have HGU := hid (show GS k (chU k v) rs from hg.same HUE.out.1 HUE.out.2.1 HUE.out.2.2.1 HUE.out.2.2.2.1 HUE.out.2.2.2.2.1 HUE.out.2.2.2.2.2.1 HUE.out.2.2.2.2.2.2.1)
  have H := hid h
  have HAB := hid (And.intro ha hb)
  clear h hj hg ha hb hc
  have HSC := hid (show savedC k v = keepL k.most (fun n => (gl (chgP k v) n).getD (zeros 256)) (srt (gk (chgP k v))) ((chU k v).ca, (chU k v).od) from rfl)
  have HCN := hid (show chL k v = (chgP k v).length from rfl)
  go_enter Tryz.func60, Tryz.ntmps60
  go_wp2_with fail
  refine HCH.out.mono ?_
  rintro e w1 (⟨_, M, ov1, rfl, hpe, hmp, hnp, hM⟩ | ⟨hne, _⟩)
  case inr => exact absurd HE0.out hne
  generalize chgP k v = pp at *
  generalize chU k v = v1 at *
  have hnd := hmp.nodup
  have hpl : pp.length ≤ 4096 := by
    have h1 := nodup_len (k.nb - k.sz).toNat (gk pp) hnd (fun x hx => by have := HPOK.out.2 x hx; omega)
    have h2 : (gk pp).length = pp.length := by simp [gk]
    have := HJU.out.z1; have := HJU.out.z3
    omega
  have HSO := hid (sortedB_any hmp (fun n hn => by have := HPOK.out.2 n hn; have := HJU.out.z3; have := HJU.out.z1; omega) (by omega))
  have HPE := hid hpe
  have HMP := hid hmp
  have HNP := hid hnp
  clear hpe hmp hnp hnd HCH
  go_wp2_with fail
  refine (keysB_any (some M) w1).mono ?_
  rintro e wk ⟨rfl, rfl⟩
  go_wp2_with fail
  refine HSO.out.mono ?_
  rintro e w2 ⟨nv, rfl, hrow, hb1⟩
  have hll : (srt (gk pp)).length = pp.length := by rw [srt_len]; simp [gk]
  have HLK := hid (fun x (hx : x ∈ srt (gk pp)) => HPOK.out.2 x ((srt_mem _ x).1 hx))
  generalize hl : srt (gk pp) = l at *
  have hbw : Below w1.heap.size w1 w2 := ((Below.refl _ w1).alloc (Nat.le_refl _) _).trans (hb1.mono (by simp))
  have hnum := hrow.nums
  have hnlt := hrow.lt
  have hm2 := HMP.out.of (hbw.block M HMP.out.lt)
  have hp2 := PE.post HPE.out hbw
  have HP2 := hid hp2
  have HM2 := hid hm2
  have HNV := hid hnum
  have hno : ∀ g, nv.ownBlock = some g → ¬ PF k { v1 with ov := ov1 } g ∧ g < w2.heap.size := fun g hg => ⟨fun hp => by
    have h1 := (HPE.out.1.lt g hp).2
    have h2 := (hnlt g hg).1
    omega, (hnlt g hg).2⟩
  have HNO := hid hno
  have HRE := hid (record_any M pp nv l w2 hm2 hnum (by have := HPP.out; omega) (by omega) (fun n hn => by have := HLK.out n hn; have := HJU.out.z3; have := HJU.out.z1; omega) (fun n b hb => (HPOK.out.1 n b hb).1))
  have HLL := hid (show l.length ≤ 4096 ∧ 0 < l.length by have := HPP.out; omega)
  have HLQ := hid hll
  have hrl := recL_len (fun n => (gl pp n).getD (zeros 256)) l (fun n _ => by
    cases hgn : gl pp n with
    | none => exact zeros_len 256
    | some b => exact (HPOK.out.1 n b hgn).1)
  have hrr := recL_rng (fun n => (gl pp n).getD (zeros 256)) l (fun n _ => by
    cases hgn : gl pp n with
    | none => exact fun x hx => by have := List.eq_of_mem_replicate hx; omega
    | some b => exact (HPOK.out.1 n b hgn).2)
  generalize hm : recL (fun n => (gl pp n).getD (zeros 256)) l = m at *
  have HRL := hid hrl
  have HRR := hid hrr
  have HJ1 := hid (HJU.out.ov ov1)
  have HG1 := hid (show GS k { v1 with ov := ov1 } rs from HGU.out.same rfl rfl rfl rfl rfl rfl rfl)
  clear hl hbw hrow hb1 hnlt hnum hm2 hp2 hno hrl hrr hm hll HSO
  go_wp2_with fail
  refine HRE.out.mono ?_
  rintro e w3 ⟨⟨rv, rfl, hbs, hrn⟩, hb3⟩
  have HP3 := hid (PE.same HP2.out.1 hb3)
  have HAR := hid (appendRec_page k _ rs rv m w3 HP3.out.1 HJ1.out HG1.out (by have := HAB.out.1; have := HUE.out.2.1; show v1.a + 1 < _; omega) (by have := HAB.out.2; have := HUE.out.2.2.1; show v1.b + 1 < _; omega) hbs (fun ad n c e hp => by
    have h1 := hrn ad.block (by rw [e]; rfl)
    have h2 := (HP2.out.1.lt _ hp).2
    omega) (by rw [HRL.out]; have := HLL.out; omega) (by rw [HRL.out]; have := HLL.out; omega))
  clear hbs hrn hb3 HRE
  go_wp2_with fail
  refine HAR.out.mono ?_
  rintro e w4 (⟨rfl, f4, lv4, av4, a4, b4, c4, L4, lg4, en4, rs4, hpe, hr4, hg4, hf4, ha4, hb4, hl4⟩ | ⟨rfl, f4, lv4, av4, L4, hpe, hr4, hg4, hnf4⟩)
  case inr =>
    have hp4 := PE.trans HP3.out hpe
    have HPX := hid (PE.trans HP2.out hp4)
    have HJX := hid (show PJ k { v1 with ov := ov1, s := ⟨-1, false, f4, []⟩, lv := lv4, a := v1.a + 1, b := v1.b + 1, c := 0, av := av4, Lm := L4, lg := [], en := 0 } from
      { (HJ1.out.disk (s' := ⟨-1, false, f4, []⟩) hp4.1.dkl hr4 lv4 av4 (v1.a + 1) (v1.b + 1) 0 v1.pe) with lgr := fun n x hx => by simp [gl] at hx })
    have HGX := hid hg4
    have HNF := hid hnf4
    clear hpe hr4 hg4 hp4 hnf4 HAR
    go_wp2_with fail
    go_ret
    have u := HUE.out
    refine ⟨_, HPX.out, { j := HJX.out, g := ⟨_, HGX.out⟩, e0 := u.2.2.2.2.2.2.2.1, e1 := u.2.2.2.2.2.2.2.2.1, eh := u.2.2.2.2.2.2.2.2.2.1, em := u.2.2.2.2.2.2.2.2.2.2, a := by have := u.2.1; show v1.a + 1 ≤ _; omega, b := by have := u.2.2.1; show v1.b + 1 ≤ _; omega }, .inr ⟨rfl, ?_⟩⟩
    rw [HCN.out, ← HLQ.out]
    have h1 := HNF.out
    rw [HRL.out] at h1
    intro h2
    first | exact h1 (by push_cast; omega) | (push_cast at h1; omega)
  have hp4 := PE.trans HP3.out hpe
  have hj4 : PJ k { v1 with ov := ov1, s := ⟨-1, false, f4, []⟩, lv := lv4, a := a4, b := b4, c := c4, av := av4, Lm := L4, lg := lg4, en := en4, pe := [m] } :=
    { (HJ1.out.disk (s' := ⟨-1, false, f4, []⟩) hp4.1.dkl hr4 lv4 av4 a4 b4 c4 [m]) with lgr := hl4 }
  have hls := GS.lgS1 (v := { v1 with ov := ov1, s := ⟨-1, false, f4, []⟩, lv := lv4, a := a4, b := b4, c := c4, av := av4, Lm := L4, lg := lg4, en := en4 }) (m := m) (hg4.same rfl rfl rfl rfl rfl rfl rfl) hp4.1 (HJ1.out.disk (s' := ⟨-1, false, f4, []⟩) hp4.1.dkl hr4 lv4 av4 a4 b4 c4 v1.pe |> fun h => { h with lgr := hl4 }) HRR.out hf4
  have HSY := hid (ls_sync hls (by have h1 := HAB.out.1; have h2 := HUE.out.2.1; have h3 : a4 ≤ v1.a + 1 := ha4; show a4 + 1 < _; omega))
  have HP4 := hid hp4
  have HJ4 := hid hj4
  have HG4 := hid hg4
  have HF4 := hid hf4
  have HA4 := hid (show a4 ≤ v1.a + 1 ∧ b4 ≤ v1.b + 1 from ⟨ha4, hb4⟩)
  have p0 := (cell_of_row w4 k.P 0 _ _ _ hp4.1.box).trans (PC_lo 0 (by decide))
  clear hpe hp4 hj4 hls hr4 hg4 hf4 ha4 hb4 hl4 HAR
  go_wp2_with fail
  refine HSY.out.mono ?_
  rintro e w5 ⟨f5, lv5, a5, c5, rs5, av5, hlg, hch, hft, (⟨rfl, rfl, ha5⟩ | ⟨_, _, _, hrm, _⟩)⟩
  case inr => exact absurd hrm (by have := HG4.out.rm; omega)
  have hp5 := PE.trans HP4.out (HP4.out.1.relog (s' := ⟨-1, false, f5, []⟩) (lv' := lv5) (a' := a5) (b' := b4) (c' := c5) (av' := av5) (pe' := []) hlg.ls hch hft)
  have hc5 : c5 = c4 + (8 + m.length) := by
    have h1 := areaB_len f5 (0 + 2) hp5.1.dkl c5
    have h2 := areaB_len f4 (0 + 2) HP4.out.1.dkl c4
    have h3 := hlg.area
    have h4 : areaB f4 (0 + 2) c4 = encs rs4 := HG4.out.area
    rw [h3, encs_append, enc1, List.length_append, List.length_append, be8_len, ← h4, h2] at h1
    omega
  have HP5 := hid hp5
  have HLG := hid hlg
  have HC5 := hid hc5
  have HA5 := hid ha5
  have hno : ∀ g, nv.ownBlock = some g → ¬ PF k { v1 with ov := ov1, s := ⟨-1, false, f5, []⟩, lv := lv5, a := a5, b := b4, c := c5, av := av5, Lm := L4, lg := lg4, en := en4, pe := [] } g := fun g hg hp => (HP5.out.2.2 g hp).elim (HNO.out g hg).1 (fun e => by have := (HNO.out g hg).2; omega)
  have HRC := hid (recorded_any k _ nv l w5 hp5.1 (HNV.out.of (fun g hg hl => HP5.out.2.1.block g hl (HNO.out g hg).1) HP5.out.2.1.size) hno (show 0 ≤ en4 ∧ en4 ≤ 1099511627776 by have h1 : en4 = (c4 : Nat) := HG4.out.en; have h2 := HF4.out; have := HJU.out.z2; have := HJU.out.z3; omega) (by have := HLL.out; omega))
  clear hp5 hc5 hlg hch hft ha5 hno p0 HSY
  go_wp2_with fail
  refine HRC.out.mono ?_
  rintro e w6 ⟨rfl, hpe⟩
  have HP6 := hid (PE.trans HP5.out hpe)
  have hgs : GS k { v1 with ov := ov1, s := ⟨-1, false, f5, []⟩, lv := lv5, a := a5, b := b4, c := c5, av := av5, Lm := L4, lg := rcL lg4 (en4 + 8) l, en := en4 + 8 + 264 * l.length, pe := [] } (rs4 ++ [m]) := by
    have h1 := HC5.out
    have h2 : en4 = (c4 : Nat) := HG4.out.en
    have h3 := HRL.out
    have h4 := HF4.out
    exact { s := rfl, rm := HG4.out.rm, mkf := HLG.out.mkf, area := HLG.out.area, fits := by show (c5 : Int) ≤ _; omega, rrs := HLG.out.rrs, ha := HLG.out.ha, hb := HLG.out.hb, pe := rfl
            en := by show en4 + 8 + 264 * (l.length : Int) = (c5 : Nat); omega
            lgk := fun n hn => (gk_rcL l lg4 (en4 + 8) n hn).elim (HG4.out.lgk n) (HLK.out n) }
  have hjs : PJ k { v1 with ov := ov1, s := ⟨-1, false, f5, []⟩, lv := lv5, a := a5, b := b4, c := c5, av := av5, Lm := L4, lg := rcL lg4 (en4 + 8) l, en := en4 + 8 + 264 * l.length, pe := [] } :=
    { (HJ4.out.disk (s' := ⟨-1, false, f5, []⟩) HP5.out.1.dkl HLG.out.rng lv5 av5 a5 b4 c5 []) with lgr := fun n x hx => (gl_rcL l lg4 (en4 + 8) n x hx).elim (HJ4.out.lgr n x) (fun ⟨i, hi, e⟩ => by
        have h1 := HC5.out
        have h2 : en4 = (c4 : Nat) := HG4.out.en
        have h3 := HRL.out
        have h4 := HF4.out
        omega) }
  have hsv : SvI k v { v1 with ov := ov1, s := ⟨-1, false, f5, []⟩, lv := lv5, a := a5, b := b4, c := c5, av := av5, Lm := L4, lg := rcL lg4 (en4 + 8) l, en := en4 + 8 + 264 * l.length, pe := [] } := by
    have u := HUE.out
    have h1 := HA5.out
    have h2 := HA4.out
    exact { j := hjs, g := ⟨_, hgs⟩, e0 := u.2.2.2.2.2.2.2.1, e1 := u.2.2.2.2.2.2.2.2.1, eh := u.2.2.2.2.2.2.2.2.2.1, em := u.2.2.2.2.2.2.2.2.2.2, a := by have := u.2.1; show a5 ≤ _; omega, b := by have := u.2.2.1; show b4 ≤ _; omega }
  have hp6 := HP6.out
  generalize hv6 : ({ v1 with ov := ov1, s := ⟨-1, false, f5, []⟩, lv := lv5, a := a5, b := b4, c := c5, av := av5, Lm := L4, lg := rcL lg4 (en4 + 8) l, en := en4 + 8 + 264 * l.length, pe := [] } : PV) = v6 at hgs hjs hsv hp6
  have HSV := hid hsv
  have HPB := hid hp6
  have HC6 := hid (show (v6.ca, v6.od) = (v1.ca, v1.od) by rw [← hv6])
  clear hv6 hpe HRC hgs hjs hsv hp6 HP6
  obtain ⟨na, nc, rfl, hcells⟩ := HNV.out
  have HNC := hid hcells
  have hll : (l.length : Int) ≤ 4096 := by have := HLL.out; omega
  have HLE0 := hid HLL.out.2
  clear hcells HNV
  generalize hle : l.length = len at *
  have HLE := hid hle
  clear hle
  go_wp2_with fail
  go_loopw [42] (fun iv wr => ∃ (i : Nat) (v' : PV), i ≤ len ∧ iv = .int .i64 (i : Int) ∧ PE k { v1 with ov := ov1 } w2 v' wr ∧ SvI k v v' ∧ (v'.ca, v'.od) = keepL k.most (fun n => (gl pp n).getD (zeros 256)) (l.take i) (v1.ca, v1.od)) (fun iv _ => len - (intOf iv).toNat)
  case atStart => exact ⟨0, v6, by omega, rfl, HPB.out, HSV.out, by rw [List.take_zero]; exact HC6.out⟩
  case round =>
    obtain ⟨i, v', hi, rfl, hpe, hsv, hcq⟩ := hrel
    have HCQ := hid hcq
    have HPR := hid hpe
    have HSR := hid hsv
    by_cases hlt : i < len
    · have hne : l ≠ [] := by intro e; have := HLE.out; rw [e] at this; simp at this; omega
      obtain ⟨g, rfl, hgl, hgc⟩ := HNC.out.resolve_left hne
      obtain ⟨x, hxi⟩ : ∃ x, l[i]? = some x := ⟨_, List.getElem?_eq_getElem (by rw [HLE.out]; exact hlt)⟩
      have cx : wr.cell? ⟨g, i, none⟩ = some (.int .i64 x) := by
        have h2 := hgc i x hxi
        unfold World.cell? at h2 ⊢
        simp only at h2 ⊢
        rw [hpe.2.1.block g hgl (HNO.out g rfl).1]
        exact h2
      have hxr := HLK.out x (List.mem_of_getElem? hxi)
      have hmr := HM2.out.of (hpe.2.1.block M HM2.out.lt HNP.out)
      have hlk := fun (u : World) (hu : u.heap[M]? = wr.heap[M]?) => run_look1_g (P := Tryz.prog) (mT := 76) (kT := 3) (eT := 50) (enc := blkV) Tryz.underlying76 Tryz.underlying3 (zeros 256) (fun u => zero35 u) x (hmr.of hu)
      have HLK1 := hid hlk
      have HXR := hid hxr
      have HBB := hid (show Blk x ((gl pp x).getD (zeros 256)) by
        cases hgn : gl pp x with
        | none => exact ⟨zeros_len 256, fun x hx => by have := List.eq_of_mem_replicate hx; omega⟩
        | some b => exact HPOK.out.1 x b hgn)
      have hd := hpe.1.fresh ((Below.refl _ wr).drew)
      have HKP := hid (keep_any k.B k.P (PC k v') 82 v'.C v'.ov k.most v'.ca v'.od x ((gl pp x).getD (zeros 256)) wr.drew hd.cache hsv.j.m0 HBB.out.1 hsv.j.pin.cal hsv.j.pin.odl hd.hB)
      have HD := hid hd
      have HCS := hid (show keepL k.most (fun n => (gl pp n).getD (zeros 256)) (l.take (i + 1)) (v1.ca, v1.od) = keepP k.most v'.ca v'.od x ((gl pp x).getD (zeros 256)) by
        have h1 := List.take_append_getElem (show i < l.length by rw [HLE.out]; exact hlt)
        have h2 : l[i]'(by rw [HLE.out]; exact hlt) = x := (List.getElem?_eq_some_iff.1 hxi).2
        rw [h2] at h1
        rw [← h1, keepL_snoc, ← hcq])
      generalize (gl pp x).getD (zeros 256) = bb at *
      clear hpe hsv hcq hne hgl hgc hxi hxr hmr hlk hd
      go_wp2_with fail
      refine wp_region_held_drew (S := fun u => u.heap[M]? = wr.heap[M]?) (by kernel_rfl) (rfl) (fun hHeld => ?_)
      refine tk (i := 0) (oi := ⟨some 46, .move (.tmp 0), 30, "commit.go:65", #[], none⟩) (v := ?_) (Or.inl ⟨by rfl, ?_⟩) ?_
      rotate_left 1
      · (intro u hSw; go_simp; try with_reducible rfl)
      try simp only [Act.put, sA, sB, sC]
      refine tk (i := 1) (oi := ⟨some 47, .nilCheck (.tmp 46), 0, "commit.go:65", #[⟨0, .data⟩], none⟩) (v := ?_) (Or.inl ⟨by rfl, ?_⟩) ?_
      rotate_left 1
      · (intro u hSw; go_simp; try with_reducible rfl)
      try simp only [Act.put, sA, sB, sC]
      refine tk (i := 2) (oi := ⟨some 48, .fieldAddr 82 (.tmp 47) 4, 0, "commit.go:65", #[⟨1, .data⟩], none⟩) (v := ?_) (Or.inl ⟨by rfl, ?_⟩) ?_
      rotate_left 1
      · (intro u hSw; go_simp; try with_reducible rfl)
      try simp only [Act.put, sA, sB, sC]
      refine tk (i := 3) (oi := ⟨some 49, .move (.tmp 9), 3, "commit.go:65", #[], none⟩) (v := ?_) (Or.inl ⟨by rfl, ?_⟩) ?_
      rotate_left 1
      · (intro u hSw; go_simp; try with_reducible rfl)
      try simp only [Act.put, sA, sB, sC]
      refine tk (i := 4) (oi := ⟨some 50, .move (.tmp 3), 76, "commit.go:65", #[], none⟩) (v := ?_) (Or.inl ⟨by rfl, ?_⟩) ?_
      rotate_left 1
      · (intro u hSw; go_simp; try with_reducible rfl)
      try simp only [Act.put, sA, sB, sC]
      refine tk (i := 5) (oi := ⟨some 51, .move (.tmp 9), 3, "commit.go:65", #[], none⟩) (v := ?_) (Or.inl ⟨by rfl, ?_⟩) ?_
      rotate_left 1
      · (intro u hSw; go_simp; try with_reducible rfl)
      try simp only [Act.put, sA, sB, sC]
      refine tk (i := 6) (oi := ⟨some 52, .lookup 76 (.tmp 50) (.tmp 51) false, 50, "commit.go:65", #[⟨4, .data⟩, ⟨5, .data⟩], none⟩) (v := ?_) (Or.inl ⟨by rfl, ?_⟩) ?_
      rotate_left 1
      · intro u hSw
        refine exec_lookupB (Operand.tmp 50) (Operand.tmp 51) ?_ (.map (some M)) (.int .i64 x) (.agg (ArrU8 bb)) ?_ ?_ (HLK1.out u hSw) <;> rfl
      try simp only [Act.put, sA, sB, sC]
      refine wpAnyH_ready (rs := [7]) (by kernel_rfl) (by simp) ?_
      refine (AllReadyH.cons (o := ⟨some 53, .call ⟨.value (.func 87), #[.tmp 48, .tmp 49, .tmp 52], #[79, 3, 50]⟩, 0, "commit.go:65", #[⟨2, .data⟩, ⟨3, .data⟩, ⟨6, .data⟩], none⟩) rfl (fun K hK => ?_) AllReadyH.nil)
      go_simp
      go_at_call 87
      refine HKP.out.mono ?_
      rintro e wc ⟨rfl, ov', hca, hch, hot⟩
      have hpe := HD.out.recache hca hch hot
      have HPC := hid (PE.trans (PE.post HPR.out ((Below.refl _ wr).drew)) hpe)
      have HMC := hid (show wc.heap[M]? = wr.heap[M]? from by
        have h1 := HPC.out.2.1.block M HM2.out.lt HNP.out
        have h2 := HPR.out.2.1.block M HM2.out.lt HNP.out
        exact h1.trans h2.symm)
      clear hca hch hot hpe
      go_wp2_with fail
      refine hK.out _ _ HMC.out (fun hHeld => ?_)
      clear hK K
      try simp only [Act.put, sA, sB, sC]
      refine wpAnyH_done (by kernel_rfl) ?_ _
      go_wp2_with fail
      go_roundw
      case rel => 
        have s := HSR.out
        obtain ⟨rs9, hg9⟩ := s.g
        exact ⟨i + 1, _, by omega, by go_num, HPC.out, { s with j := { s.j with ci := s.j.ci.keep s.j.m0 x bb HBB.out HXR.out }, g := ⟨rs9, hg9.same rfl rfl rfl rfl rfl rfl rfl⟩ }, HCS.out.symm⟩
      case measure => simp [intOf]; omega
    · obtain rfl : i = len := by omega
      clear hpe hsv hcq
      go_wp2_with fail
      go_ret
      refine ⟨v', PE.trans HP2.out HPR.out, HSR.out, .inl ⟨rfl, ?_⟩⟩
      have h1 := HCQ.out
      rw [List.take_of_length_le (by rw [HLE.out]; omega)] at h1
      rw [h1, HSC.out]
end Go.Proofs.YtdkjkibdncbibaaGreat
/- Commit -/
namespace Go.Proofs.YtdkjkibdncbibaaGreat
open Go.RowKit
open Go.Lib (hid)
/-- a pager between calls, on a disk that does not fail -/
structure PCalm (k : PK) (v : PV) : Prop where
 j : PJ k v
 g : ∃ rs, GS k v rs
def CmtEnds (k : PK) (v : PV) (w : World) (e : Ending) (w' : World) : Prop :=
 ∃ v', PE k v w v' w' ∧ PCalm k v' ∧ v'.a ≤ v.a + 2 ∧ v'.b ≤ v.b + 1 ∧
  ((chN v = 0 ∧ e = .returned (.int .i64 0) ∧ v' = v) ∨
   (chN v ≠ 0 ∧ e = .returned (.int .i64 0) ∧ v'.h0 = v.h1 ∧ v'.h1 = v.h1 ∧ v'.ch = [] ∧ (v'.ca, v'.od) = savedC k v) ∨
   (chN v ≠ 0 ∧ e = .returned (.int .i64 42) ∧ ¬ (8 + 264 * (chL k v : Int) ≤ (k.sz - 2) * 256)))
theorem PJ.done {k : PK} {v : PV} (h : PJ k v) (H : Nat) : PJ k { v with h0 := v.h1, Hm := H, ch := [] } :=
 { h with chl := fun n l hl => by simp [gl] at hl, chn := List.nodup_nil, chr := fun n hn => by simp [gk] at hn, b0 := h.b1, u0 := h.u1, l0 := h.l1 }
set_option maxRecDepth 100000 in
set_option maxHeartbeats 2000000 in
theorem commit_any (k : PK) (v : PV) (w : World) (h : PgS k v w) (hv : PCalm k v) (ha : v.a + 2 < 1099511627776) (hb : v.b + 1 < 1099511627776) :
  Calls Tryz.prog 19 #[.pointer (some ⟨k.P, 0, none⟩)] w (CmtEnds k v w) := by
 obtain ⟨hj, rs, hg⟩ := hv
 have H := hid h
 have HJ := hid hj
 have HG := hid hg
 have HAB := hid (And.intro ha hb)
 have HCN := hid (changed_any k v w h hj.hin hj.chlen)
 have HNN := hid (show (0 : Int) ≤ chN v by unfold chN; split <;> omega)
 clear h hj hg ha hb
 go_enter Tryz.func19, Tryz.ntmps19
 go_wp2_with fail
 refine HCN.out.mono ?_
 rintro e w1 ⟨rfl, hb1⟩
 by_cases hc : chN v = 0
 ·have HC := hid hc
  have HB := hid hb1
  rw [hc]
  clear hc hb1
  go_wp2_with fail
  go_ret
  exact ⟨v, PE.same H.out HB.out, ⟨HJ.out, rs, HG.out⟩, by omega, by omega, .inl ⟨HC.out, rfl, rfl⟩⟩
 ·have HC := hid hc
  have HP1 := hid (PE.same H.out hb1)
  have HSV := hid (save_any k v rs w1 HP1.out.1 HJ.out HG.out hc HAB.out.1 HAB.out.2)
  generalize hcn : chN v = cn at *
  clear hb1
  go_wp2_with fail
  refine HSV.out.mono ?_
  rintro e w2 ⟨v2, hpe, hsv, (⟨rfl, hca⟩ | ⟨rfl, hnf⟩)⟩
  ·have hp2 := PE.trans HP1.out hpe
   have HP2 := hid hp2
   have HV2 := hid hsv
   have HCA := hid hca
   have h0 : v2.h0.length = 18 := hp2.1.l0
   have h1 : v2.h1.length = 18 := hp2.1.l1
   have HL := hid (And.intro h0 h1)
   have HRG := hid (box_rg h0 h1 hp2.1.box).2
   have HIH := hid (show (Tryz.prog.info? 68).map (·.size) = some (HV v2.h1).length by rw [HV_len, h1]; kernel_rfl)
   have HIH2 := hid (show (Tryz.prog.info? 68).map (·.size) = some (HV v2.h1).toArray.size by rw [List.size_toArray, HV_len, h1]; kernel_rfl)
   have hx1 : (w2.alloc (.map #[] 0)).heap[k.P]? = some (.cells (PC k v2) 82 (0, 0)) := (heap_alloc_old _ _ hp2.1.ltP).trans hp2.1.box
   have hth : (w2.alloc (.map #[] 0)).there k.P 8 (HV v2.h1).toArray.size := fun j hj => by
    rw [List.size_toArray, HV_len, h1] at hj
    rw [cell_of_row _ _ _ _ _ _ hx1, PC_h0 j h0 hj, HV_at _ _ (by rw [h0]; exact hj)]
    exact ⟨rfl, frozen_of_row _ _ _ _ _ hx1⟩
   have HTH := hid hth
   have hb2 := heap_setCells k.P 82 (HV v2.h1) 8 _ _ hx1
   rw [PC_seth0 h0 v2.h1 h1] at hb2
   have HB2 := hid hb2
   have c44 := (cell_of_row _ k.P 44 _ _ _ hb2).trans (PC_44 (k := k) (v := { v2 with h0 := v2.h1 }) h1 h1)
   have f44 := frozen_of_row _ k.P 44 _ _ hb2
   have H1C := hid (all_oneCell_toArray (cs := HV v2.h1) (fun x hx => by obtain ⟨n, _, rfl⟩ := List.mem_map.1 hx; rfl))
   have hmk := run_mkmap_blk
   clear hpe hsv hca hp2 hx1 hth hb2 h0 h1 HSV
   go_wp2_with (first | (refine wpList_load_mid rfl 68 (Operand.tmp 18) rfl k.P 26 rfl (HV v2.h1) _ HRG.out Tryz.underlying68 rfl HIH.out ?_) | (refine wpList_store_mid rfl 68 (Operand.tmp 22) (Operand.tmp 19) rfl k.P 8 (HV v2.h1).toArray rfl rfl HTH.out HIH2.out H1C.out ?_))
   go_ret
   have hm : MapG blkV (((w2.alloc (.map #[] 0)).setCells k.P 8 (HV v2.h1)).setCell ⟨k.P, 44, none⟩ (.map (some w2.heap.size))) w2.heap.size [] := by
    refine (MapG.empty blkV w2).of ((heap_setCell_other _ _ _ _ (by have := HP2.out.1.ltP; simp; omega)).trans ?_)
    exact (Chg.setCells k.P (HV v2.h1) 8 _ (Chg.refl (fun g => g = k.P) (w2.alloc (.map #[] 0))) rfl).block w2.heap.size (by simp) (by have := HP2.out.1.ltP; omega)
   have hbx := heap_setCell_same _ k.P 44 _ 82 (.map (some w2.heap.size)) HB2.out
   rw [PC_set44 (k := k) (v := { v2 with h0 := v2.h1 }) HL.out.2 HL.out.2] at hbx
   have hpf := HP2.out.1.rebox (h0' := v2.h1) (h1' := v2.h1) (en' := v2.en) (Lm' := v2.Lm) (lg' := v2.lg) (ch' := []) ((Chg.setCells k.P (HV v2.h1) 8 _ ((Chg.refl (fun g => g = k.P) w2).alloc _) rfl).setCell ⟨k.P, 44, none⟩ _ (.inl rfl)) hbx HL.out.2 HL.out.2 (.inl ⟨rfl, rfl⟩) (.inr ⟨Nat.le_refl _, hm⟩) (by have := HP2.out.1.lg.lt; omega)
   obtain ⟨rs2, hg2⟩ := HV2.out.g
   exact ⟨_, PE.trans HP2.out hpf, ⟨HV2.out.j.done _, rs2, hg2.same rfl rfl rfl rfl rfl rfl rfl⟩, HV2.out.a, HV2.out.b, .inr (.inl ⟨by rw [hcn]; exact HC.out, rfl, HV2.out.e1, HV2.out.e1, rfl, HCA.out⟩)⟩
  ·have hp2 := PE.trans HP1.out hpe
   have HP2 := hid hp2
   have HV2 := hid hsv
   have HNF := hid hnf
   have HAB2 := hid (abort_any k v2 w2 hp2.1)
   clear hpe hsv hnf hp2 HSV
   go_wp2_with fail
   refine HAB2.out.mono ?_
   rintro e w3 ⟨rfl, H3, hpe⟩
   have HP3 := hid (PE.trans HP2.out hpe)
   clear hpe HAB2
   go_wp2_with fail
   go_ret
   obtain ⟨rs2, hg2⟩ := HV2.out.g
   exact ⟨_, HP3.out, ⟨HV2.out.j.ab _, rs2, hg2.same rfl rfl rfl rfl rfl rfl rfl⟩, HV2.out.a, HV2.out.b, .inr (.inr ⟨by rw [hcn]; exact HC.out, rfl, by have := HNF.out; first | exact this | omega⟩)⟩
end Go.Proofs.YtdkjkibdncbibaaGreat
