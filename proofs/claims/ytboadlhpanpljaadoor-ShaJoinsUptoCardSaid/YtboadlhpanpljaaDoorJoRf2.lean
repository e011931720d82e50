import Derived.Test.YtboadlhpanpljaaDoorJoRf1
import Derived.WalkKit
import Derived.ProofKit
import Derived.BigQuiet
import Derived.Deep.QuietTactic
import Derived.WalkSpells
import Derived.WalkLawsBesides
import Derived.Lib.Hide
import Derived.Deep.MidRow
import Derived.Deep.RegionLaw
import Derived.BigRegion
import Derived.Laws.AppendOwnNone
import Derived.Deep.DeepMust
import Derived.Deep.AppendLies
import Derived.RegionTactic
import Derived.Deep.WholeRow
import Derived.BigFrame
import Derived.Deep.RegionWith
import Derived.Deep.RegionHeld3
import Derived.Maps.RangeWalk
import Derived.Laws.CopyOwn
import Derived.StillTailTactics
import Derived.Deep.Cut
import Derived.Deep.CutRange
namespace Go.Proofs.YtboadlhpanpljaaDoor
open Go.RowKit
theorem wpList_move {P : Program} {w : World} {ops : Array Oper} {rest : List Oper} {o : Oper} {a : Act} {Q : Exit → Act → World → Prop} (hgd : o.guard = none) (x : Operand)
    (ho : o.op = .move x) (h : wpList P ops Q rest (a.put o.dst (a.eval x)) w) : wpList P ops Q (o :: rest) a w := by
  refine wpList_plain hgd fun K hK => ?_
  unfold Oper.wp
  simp [execOp, ho, Oper.upon]
  exact hK _ _ h
theorem build29 (w : World) : (Instr.buildSlice 29 0 #[]).run Tryd.prog w = .ok (.slice (some ⟨w.heap.size, 0, none⟩) 0 0) (w.alloc (.cells #[] 22)) := by kernel_rfl
set_option maxRecDepth 100000 in
set_option maxHeartbeats 2000000 in
theorem refSplit_short (a : Option Addr) (len cap : Nat) (w : World) (h : len < 8) :
    Calls Tryd.prog 12 #[.slice a len cap] w fun e w' => Below w.heap.size w w' ∧ e = .returned (.tuple #[.slice none 0 0, .bool false]) := by
  go_enter Tryd.func12, Tryd.ntmps12
  go_wp2_with (go_at_call 26; refine (take_short _ _ _ _ h).mono ?_; rintro e w' ⟨rfl, rfl⟩)
  go_loop [5] (fun _ => True) (fun _ => 0)
  case atStart => trivial
  case round =>
    clear hrel
    go_wp2
    go_ret2
    exact ⟨(Below.refl _ _).alloc (Nat.le_refl _) _, rfl⟩
set_option maxRecDepth 100000 in
set_option maxHeartbeats 4000000 in
theorem refSplit_any (b off len cap : Nat) (l : List Int) (w : World) (hll : l.length = len) (h : 8 ≤ len) (hlc : len ≤ cap) (hr : Rng l) (hcap : len ≤ 1099511627776) (hbw : b < w.heap.size)
    (hc : ∀ i, i < len → w.cell? ⟨b, off + i, none⟩ = some (.int .u8 (l[i]?.getD 0))) :
    Calls Tryd.prog 12 #[.slice (some ⟨b, off, none⟩) len cap] w (SplitPost 22 5 l w) := by
  obtain ⟨i0, hi, hz0, hz1, hz2⟩ := info_parts info22
  obtain ⟨i1, hi1, hy0, hy1, hy2⟩ := info_parts info5
  have HC := Lib.hid hc
  have HL := Lib.hid hll
  have HR := Lib.hid hr
  generalize hN : beI (l.take 8) = N at *
  have hN64 : N < 18446744073709551616 := by
    have := beI_lt (l.take 8) (hr.take 8)
    rw [List.length_take, hll, Nat.min_eq_left h] at this
    rw [← hN]; exact this
  have HN := Lib.hid hN
  have HN64 := Lib.hid hN64
  clear hc hll hr hN hN64
  go_enter Tryd.func12, Tryd.ntmps12
  go_wp2_with fail
  refine (take_any b off len cap l w HL.out h hlc HR.out HC.out).mono ?_
  rintro e w1 ⟨hb1, A, rfl, hA⟩
  rw [HN.out]
  have HB := Lib.hid hb1
  have HA := Lib.hid hA
  clear hb1 hA
  go_wp2_with (first
    | (refine wpList_build_empty (o := ⟨some 17, _, _, _, _, _⟩) rfl 29 22 1 rfl build29 ?_; intro v7 w2 ho2 hb2 hob hs2; have HO2 := Lib.hid ho2; have HB2 := Lib.hid hb2; clear ho2 hb2 hob hs2)
    | fail)
  go_loopw [5, 7] (fun v5 v7 wr => ∃ (k pos : Nat) (av : Option Addr) (cp : Nat) (ps : List (List Int)) , k ≤ N ∧ pos ≤ len ∧ 8 + 8 * k ≤ pos ∧ v5 = .slice av (len - pos) cp ∧ len - pos ≤ cp ∧ (pos < len → av = some ⟨b, off + pos, none⟩) ∧
      ps.length = k ∧ Hid (splitN N (l.drop 8) = (splitN (N - k) (l.drop pos)).map fun q => (ps ++ q.1, q.2)) ∧ OwnPs 22 5 wr w.heap.size v7 ps ∧ Below w.heap.size w wr)
    (fun v5 _ _ => lenV v5)
  case atStart =>
    refine ⟨0, 8, some A, cap - 8, [], by omega, h, by omega, rfl, by omega, fun h8 => by rw [HA.out h8], rfl, by show _ = _; simp, ⟨[], own_lower HO2.out HB.out.size, fun i hi => by simp at hi⟩, HB.out.trans (HB2.out.mono HB.out.size)⟩
  case round =>
    clear HO2 HB2 HB HA
    obtain ⟨k, pos, av, cp, ps, hk, hp, hkp, rfl, hcp, hav, hps, hsp, hown, hbr⟩ := hrel
    obtain ⟨oa, oc, rfl, hof⟩ : ∃ oa oc, u7 = .slice oa k oc ∧ k ≤ oc := by
      obtain ⟨xs, h1, _⟩ := hown
      rw [hps] at h1
      rcases h1.2 with ⟨rfl, h0⟩ | ⟨g, cap, cur, rfl, hg, hh, hle, _⟩
      · exact ⟨_, _, by rw [h0], by omega⟩
      · exact ⟨_, _, rfl, hle⟩
    have HO := Lib.hid hown
    have HBR := Lib.hid hbr
    have HAV := Lib.hid hav
    have HPS := Lib.hid hps
    have hsb := hbr.size
    have hrl : (l.drop pos).length = len - pos := by rw [List.length_drop, HL.out]
    have HRL := Lib.hid hrl
    have hk64 : (k : Int) ≤ 1099511627776 := by omega
    clear hown hbr hav hps hrl
    by_cases hlt : k < N
    · have hkn : (k : Int) < (N : Int) := by omega
      by_cases h8 : len - pos < 8
      · go_wp2_with (go_at_call 26; refine (take_short _ _ _ _ h8).mono ?_; rintro e w' ⟨rfl, rfl⟩)
        go_ret2
        refine SplitPost.bad HBR.out ?_
        rw [splitL, if_neg (by rw [HL.out]; omega), HN.out, splitN_bad hsp.out hlt (.inl (by rw [HRL.out]; exact h8))]
      · have hpos : pos < len := by omega
        obtain rfl := HAV.out hpos
        have hcell : ∀ i, i < len - pos → wr.cell? ⟨b, off + pos + i, none⟩ = some (.int .u8 ((l.drop pos)[i]?.getD 0)) := by
          intro i hi
          rw [List.getElem?_drop, Nat.add_assoc]
          exact (HBR.out.cell (p := ⟨b, off + (pos + i), none⟩) hbw).trans (HC.out (pos + i) (by omega))
        have HCELL := Lib.hid hcell
        clear hcell
        go_wp2_with fail
        refine (take_any b (off + pos) (len - pos) cp (l.drop pos) wr HRL.out (by omega) hcp (HR.out.drop _) HCELL.out).mono ?_
        rintro e w2 ⟨hb2, A2, rfl, hA2⟩
        have hspb := fun hbad => splitN_bad hsp.out hlt (.inr hbad)
        have hspg := splitN_step hsp.out hlt (by rw [HRL.out]; omega)
        have hM64 : beI ((l.drop pos).take 8) < 18446744073709551616 := by
          have := beI_lt ((l.drop pos).take 8) ((HR.out.drop _).take 8)
          rw [List.length_take, HRL.out, Nat.min_eq_left (by omega)] at this
          exact this
        rw [HRL.out] at hspb hspg
        generalize hM : beI ((l.drop pos).take 8) = M at *
        have HM := Lib.hid hM
        have HB2 := Lib.hid hb2
        have HA2 := Lib.hid hA2
        have HSPB := Lib.hid hspb
        have HSPG := Lib.hid hspg
        clear hb2 hA2 hM hspb hspg
        clear hM64
        by_cases hbig : len - pos - 8 < M
        · have hbi : ((len - pos - 8 : Nat) : Int) < (M : Int) := by omega
          go_wp2
          go_ret2
          refine SplitPost.bad (HBR.out.trans (HB2.out.mono hsb)) ?_
          rw [splitL, if_neg (by rw [HL.out]; omega), HN.out, HSPB.out hbig]
        · have hbi : ¬ ((len - pos - 8 : Nat) : Int) < (M : Int) := by omega
          have hbi2 : (M : Int) ≤ ((len - pos - 8 : Nat) : Int) := by omega
          have hbi3 : (M : Int) ≤ ((cp - 8 : Nat) : Int) := by omega
          have hbi4 : M ≤ cp - 8 := by omega
          obtain ⟨A3, hA3, hA3b⟩ : ∃ A3 : Addr, (if cp - 8 = M then some A2 else some (A2.add M)) = some A3 ∧ Hid (8 + M < len - pos → A3 = ⟨b, off + (pos + (8 + M)), none⟩) := by
            by_cases h8 : cp - 8 = M
            · exact ⟨A2, by simp [h8], fun h' => by omega⟩
            · refine ⟨A2.add M, by simp [h8], fun h' => ?_⟩
              rw [HA2.out (by omega), Addr.add_mid]
              congr 1
              omega
          obtain ⟨p, hp'⟩ : ∃ p, p = ((l.drop pos).drop 8).take M := ⟨_, rfl⟩
          have hpl : p.length = M := by rw [hp', List.length_take, List.length_drop, HRL.out]; omega
          have hbs2 : Bs w2 (.slice (some A2) M (cp - 8)) p := by
            refine ⟨some A2, cp - 8, by rw [hpl], ⟨by omega, fun e => by cases e⟩, fun hl0 => ⟨b, off + pos + 8, congrArg some (HA2.out (by omega)), Nat.lt_of_lt_of_le hbw (Nat.le_trans hsb HB2.out.size), fun i hi => ?_⟩⟩
            have h1 := HCELL.out (8 + i) (by omega)
            rw [← Nat.add_assoc] at h1
            refine ((HB2.out.cell (p := ⟨b, off + pos + 8 + i, none⟩) (by show b < wr.heap.size; omega)).trans h1).trans ?_
            rw [hp', List.getElem?_take_of_lt (by omega)]
            simp only [List.getElem?_drop]
          have HBS2 := Lib.hid hbs2
          have HP := Lib.hid hp'
          have HPL := Lib.hid hpl
          have hzz2 := HB2.out.size
          clear hbs2 hp' hpl HCELL
          go_upto_region 7 with (fail)
          refine wp_region_lit ?_
          refine wpList_move rfl (Operand.tmp 7) rfl ?_
          refine wpList_build_empty rfl 22 5 1 rfl build22 ?_
          intro v42 w3 ho3 hb3 hob hs3
          have HO3 := Lib.hid ho3
          have HB3 := Lib.hid hb3
          have HOB := Lib.hid hob
          have hz3 := hb3.size
          clear ho3 hb3 hob hs3
          go_wp2_with (first
            | (at_builtin; refine wpList_append_bs (o := ⟨some 46, _, _, _, _, _⟩) rfl (Operand.tmp 42) (Operand.tmp 45) 22 rfl w2.heap.size 5 i1 Tryd.underlying22 hi1 hy0 hy1 hy2 v42 0 [] rfl HO3.out (.slice (some A2) M (cp - 8)) p rfl (HBS2.out.below HB3.out) (by rw [HPL.out]; omega) hz3 ?_; intro v46 w4 hown4 hg4; rw [Nat.zero_add, List.nil_append] at hown4; have hb4 := HB2.out.trans ((HB3.out.grown hg4 hz3 (fun g hg => by rw [HOB.out] at hg; injection hg with hg; omega)).mono hzz2); have hz4 := hb4.size; obtain ⟨xs, hx1, hx2⟩ := HO.out.below hb4 (Nat.le_refl _); rw [HPS.out] at hx1; have X1 := Lib.hid hx1; have X2 := Lib.hid hx2; obtain ⟨va, vc, hv46, _⟩ := slice_of_own hown4; subst hv46; have HO4 := Lib.hid hown4; have HB4 := Lib.hid hb4; clear hx1 hx2 hown4 hb4 hg4)
            | (at_builtin; refine wpList_append_lies (o := ⟨some 48, _, _, _, _, _⟩) _ rfl (Operand.tmp 41) (Operand.tmp 47) 29 rfl w.heap.size 22 i0 (.slice none 0 0) 1 24 Tryd.underlying29 hi hz0 hz1 hz2 rfl (by decide) (.slice oa k oc) k xs rfl (X1.out.alloc _) ⟨w4.heap.size, 0, none⟩ 1 1 [.slice va p.length vc] rfl rfl (cell_one_new _ _ _) (by intro u hu; simp at hu; subst hu; rfl) (by decide) (by unfold maxLen; omega) (by omega) (by simp; omega) (w4.heap.size + 1) (by simp) ?_; intro g cp3 w5 hown5 hg5 hgH hgl; have HO5 := Lib.hid hown5; have HG5 := Lib.hid hg5; have HH5 := Lib.hid hgH; clear hown5 hg5 hgH)
            | fail)
          have hq := HSPG.out (by omega)
          have hd : (l.drop pos).drop (8 + M) = l.drop (pos + (8 + M)) := by rw [List.drop_drop]
          rw [hd, ← HP.out] at hq
          have hne : (Value.slice va p.length vc).ownBlock = none ∨ (Value.slice va p.length vc).ownBlock ≠ (Value.slice oa k oc).ownBlock := by
            obtain ⟨xs', hy1, _⟩ := HO.out
            cases h1 : (Value.slice va p.length vc).ownBlock with
            | none => exact .inl rfl
            | some g =>
              right
              intro he
              have a1 := (HO4.out.lt g h1).1
              have a2 := (hy1.lt g he.symm).2
              omega
          have hsn := OwnPs.snoc (T := 22) (E := 5) (p := p) (w := w4.alloc (.cells #[.slice va p.length vc] 22)) (w' := w5) (v := .slice oa k oc) (x := .slice va p.length vc) (ps := ps) (xs := xs) (g := g) (cap := cp3) (B := w.heap.size)
              (by rw [HPS.out]; exact X1.out.alloc _)
              (fun i hi => by obtain ⟨x, h1, h2, h3⟩ := X2.out i hi; exact ⟨x, h1, h2.alloc _, h3⟩)
              ((own_lower HO4.out (by omega)).alloc _) hne (by rw [HPS.out]; exact HO5.out) HG5.out (by simpa using HH5.out)
          rw [HPS.out] at hsn
          have hx1lt := fun g' hg' => (X1.out.lt g' hg').1
          refine ⟨⟨k + 1, pos + (8 + M), some A3, cp - 8 - M, ps ++ [p], by omega, by omega, by omega, by rw [show len - (pos + (8 + M)) = len - pos - 8 - M by omega], by omega, fun hlt2 => by rw [hA3b.out (by omega)], by simp [HPS.out], hq, hsn, ?_⟩, by simp [lenV]; omega⟩
          exact ((HBR.out.trans (HB4.out.mono hsb)).alloc (by omega) _).grown HG5.out (by simp; omega) hx1lt
    · have hkN : k = N := by omega
      have hsp2 := hsp.out
      rw [hkN, Nat.sub_self, splitN] at hsp2
      have HSP := Lib.hid hsp2
      have hkn : (N : Int) ≤ (k : Int) := by omega
      clear hsp2 hkN hsp hlt
      by_cases hend : pos < len
      · have h0 : 0 < len - pos := by omega
        have h0i : (0 : Int) < ((len - pos : Nat) : Int) := by omega
        go_wp2
        go_ret2
        refine SplitPost.bad HBR.out ?_
        rw [splitL, if_neg (by rw [HL.out]; omega), HN.out, HSP.out]
        have h9 : 0 < (l.drop pos).length := by rw [List.length_drop, HL.out]; omega
        simp only [Option.map_some]
        split
        · rename_i heq
          simp only [Option.some.injEq, Prod.mk.injEq] at heq
          rw [heq.2] at h9
          simp at h9
        · rfl
      · have h0 : len - pos = 0 := by omega
        have h01 : ¬ 0 < len - pos := by omega
        go_wp2
        go_ret2
        refine ⟨HBR.out, ?_⟩
        have h9 : l.drop pos = [] := List.drop_of_length_le (by rw [HL.out]; omega)
        rw [splitL, if_neg (by rw [HL.out]; omega), HN.out, HSP.out, h9]
        simp only [Option.map_some, List.append_nil]
        exact ⟨_, rfl, HO.out⟩
end Go.Proofs.YtboadlhpanpljaaDoor
