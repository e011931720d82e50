import Derived.Test.YtboadlhpanpljaaDoorJoin1
import Derived.Test.YtboadlhpanpljaaDoorHash0
import Derived.WalkKit
import Derived.ProofKit
import Derived.BigQuiet
import Derived.Deep.QuietTactic
import Derived.WalkSpells
import Derived.WalkLawsBesides
import Derived.Lib.Hide
import Derived.Deep.MidRow
import Derived.Deep.RegionLaw
import Derived.Deep.DeepMust
import Derived.Deep.AppendLies
import Derived.RegionTactic
import Derived.Deep.WholeRow
import Derived.BigFrame
import Derived.Deep.RegionWith
import Derived.Deep.RegionHeld3
import Derived.Maps.RangeWalk
import Derived.Laws.CopyOwn
import Derived.StillTailTactics
namespace Go.Proofs.YtboadlhpanpljaaDoor
open Go.RowKit
def splitN : Nat → List Int → Option (List (List Int) × List Int)
  | 0, l => some ([], l)
  | n + 1, l => if l.length < 8 then none else if l.length - 8 < beI (l.take 8) then none else
      (splitN n (l.drop (8 + beI (l.take 8)))).map fun r => ((l.drop 8).take (beI (l.take 8)) :: r.1, r.2)
def splitL (l : List Int) : Option (List (List Int)) :=
  if l.length < 8 then none else
    match splitN (beI (l.take 8)) (l.drop 8) with
    | some (ps, []) => some ps
    | _ => none
/-- v is a slice of slices of the call's own, that reads as ps -/
def OwnPs (T E : TypeId) (w : World) (B : Nat) (v : Value) (ps : List (List Int)) : Prop :=
  ∃ xs : List Value, w.ownsRow B T 1 v ps.length xs ∧ ∀ i, i < ps.length → ∃ x, xs[i]? = some x ∧ w.ownsRow B E 1 x (ps[i]?.getD []).length ((ps[i]?.getD []).map (Value.int .u8)) ∧ (x.ownBlock = none ∨ x.ownBlock ≠ v.ownBlock)
def SplitPost (T E : TypeId) (l : List Int) (w : World) (e : Ending) (w' : World) : Prop :=
  Below w.heap.size w w' ∧ match splitL l with
    | none => e = .returned (.tuple #[.slice none 0 0, .bool false])
    | some ps => ∃ v, e = .returned (.tuple #[v, .bool true]) ∧ OwnPs T E w' w.heap.size v ps
theorem OwnPs.nil (T E : TypeId) (w : World) (B : Nat) : OwnPs T E w B (.slice none 0 0) [] :=
  ⟨[], World.ownsRow_nil _ _ _ _, fun i hi => by simp at hi⟩
theorem OwnPs.below {T E : TypeId} {w w' : World} {B B' : Nat} {v : Value} {ps : List (List Int)} (h : OwnPs T E w B v ps) (hb : Below B' w w') (hB : w.heap.size ≤ B') : OwnPs T E w' B v ps := by
  have hg : w.grownBy w' none := ⟨hb.os, hb.tape, hb.output, hb.size, fun k hk _ => hb.block k (by omega)⟩
  obtain ⟨xs, h1, h2⟩ := h
  refine ⟨xs, h1.kept hg ?_, fun i hi => ?_⟩
  · cases hv : v.ownBlock with
    | none => exact .inl rfl
    | some g => exact .inr (by simp)
  · obtain ⟨x, hx, ho, hne⟩ := h2 i hi
    refine ⟨x, hx, ho.kept hg ?_, hne⟩
    cases hv : x.ownBlock with
    | none => exact .inl rfl
    | some g => exact .inr (by simp)
/-- one part more -/
theorem OwnPs.snoc {T E : TypeId} {w w' : World} {B g cap : Nat} {v x : Value} {ps : List (List Int)} {p : List Int} {xs : List Value}
    (h1 : w.ownsRow B T 1 v ps.length xs) (h2 : ∀ i, i < ps.length → ∃ x, xs[i]? = some x ∧ w.ownsRow B E 1 x (ps[i]?.getD []).length ((ps[i]?.getD []).map (Value.int .u8)) ∧ (x.ownBlock = none ∨ x.ownBlock ≠ v.ownBlock))
    (hx : w.ownsRow B E 1 x p.length (p.map (Value.int .u8))) (hne : x.ownBlock = none ∨ x.ownBlock ≠ v.ownBlock)
    (hown : w'.ownsRow B T 1 (.slice (some ⟨g, 0, none⟩) (ps.length + 1) cap) (ps.length + 1) (xs ++ [x])) (hg : w.grownBy w' v.ownBlock) (hH : v.ownBlock = some g ∨ g = w.heap.size) :
    OwnPs T E w' B (.slice (some ⟨g, 0, none⟩) (ps.length + 1) cap) (ps ++ [p]) := by
  have key : ∀ (y : Value) (q : List Int), w.ownsRow B E 1 y q.length (q.map (Value.int .u8)) → (y.ownBlock = none ∨ y.ownBlock ≠ v.ownBlock) →
      w'.ownsRow B E 1 y q.length (q.map (Value.int .u8)) ∧ (y.ownBlock = none ∨ y.ownBlock ≠ (Value.slice (some ⟨g, 0, none⟩) (ps.length + 1) cap).ownBlock) := by
    intro y q ho hn
    refine ⟨ho.kept hg hn, ?_⟩
    rcases hn with hn | hn
    · exact .inl hn
    · right
      show y.ownBlock ≠ some g
      rcases hH with hH | hH
      · rw [← hH]; exact hn
      · intro he
        have := (ho.lt g he).2
        omega
  refine ⟨xs ++ [x], by simpa using hown, fun i hi => ?_⟩
  have hxl : xs.length = ps.length := by have := h1.1; simpa using this
  by_cases hi2 : i < ps.length
  · obtain ⟨y, hy, ho, hn⟩ := h2 i hi2
    rw [List.getElem?_append_left (by omega), List.getElem?_append_left hi2]
    exact ⟨y, hy, (key y _ ho hn).1, (key y _ ho hn).2⟩
  · have hi3 : i = ps.length := by simp at hi; omega
    subst hi3
    refine ⟨x, by rw [List.getElem?_append_right (by omega), hxl]; simp, ?_⟩
    rw [List.getElem?_append_right (by omega), Nat.sub_self]
    exact key x p hx hne
theorem info22 : (Tryd.prog.info? 22).map (fun i => (i.zero, i.size, i.bytes)) = some (some (.slice none 0 0), 1, 24) := by kernel_rfl
theorem splitN_step {l r : List Int} {k c : Nat} {ps : List (List Int)} (h : splitN c l = (splitN (c - k) r).map fun q => (ps ++ q.1, q.2)) (hk : k < c) (hr : ¬ r.length < 8) (hn : ¬ r.length - 8 < beI (r.take 8)) :
    splitN c l = (splitN (c - (k + 1)) (r.drop (8 + beI (r.take 8)))).map fun q => ((ps ++ [(r.drop 8).take (beI (r.take 8))]) ++ q.1, q.2) := by
  rw [h, show c - k = (c - (k + 1)) + 1 by omega, splitN, if_neg hr, if_neg hn]
  cases splitN (c - (k + 1)) (r.drop (8 + beI (r.take 8))) <;> simp
theorem splitN_bad {l r : List Int} {k c : Nat} {ps : List (List Int)} (h : splitN c l = (splitN (c - k) r).map fun q => (ps ++ q.1, q.2)) (hk : k < c) (hr : r.length < 8 ∨ r.length - 8 < beI (r.take 8)) : splitN c l = none := by
  rw [h, show c - k = (c - (k + 1)) + 1 by omega, splitN]
  rcases hr with hr | hr
  · rw [if_pos hr]; rfl
  · by_cases h8 : r.length < 8
    · rw [if_pos h8]; rfl
    · rw [if_neg h8, if_pos hr]; rfl
theorem SplitPost.bad {T E : TypeId} {l : List Int} {w w' : World} (hb : Below w.heap.size w w') (h : splitL l = none) : SplitPost T E l w (.returned (.tuple #[.slice none 0 0, .bool false])) w' := by
  refine ⟨hb, ?_⟩
  rw [h]
theorem own_base' {w : World} {B B' e size n : Nat} {v : Value} {xs : List Value} (h : w.ownsRow B' e size v n xs) (hB : B ≤ B') : w.ownsRow B e size v n xs :=
  ⟨h.1, h.2.imp id (fun ⟨g, cap, cur, a, b, c⟩ => ⟨g, cap, cur, a, Nat.le_trans hB b, c⟩)⟩
set_option maxHeartbeats 800000 in
theorem split_any (b off len cap : Nat) (l : List Int) (w : World) (hll : l.length = len) (h : 8 ≤ len) (hlc : len ≤ cap) (hr : Rng l) (hcap : len ≤ 1099511627776) (hbw : b < w.heap.size)
    (hc : ∀ i, i < len → w.cell? ⟨b, off + i, none⟩ = some (.int .u8 (l[i]?.getD 0))) :
    Calls Tryd.prog 11 #[.slice (some ⟨b, off, none⟩) len cap] w (SplitPost 22 5 l w) := by
  obtain ⟨i0, hi, hz0, hz1, hz2⟩ := info_parts info22
  have HC := Lib.hid hc
  have HL := Lib.hid hll
  have HR := Lib.hid hr
  generalize hN : beI (l.take 8) = N at *
  have hN64 : N < 18446744073709551616 := by
    have := beI_lt (l.take 8) (hr.take 8)
    rw [List.length_take, hll, Nat.min_eq_left h] at this
    rw [← hN]; exact this
  have HN := Lib.hid hN
  clear hc hll hr hN
  go_enter Tryd.func11, Tryd.ntmps11
  go_wp2_with fail
  refine (takeNumber_any b off len cap l w HL.out h hlc HR.out HC.out).mono ?_
  rintro e w1 ⟨hb1, A, rfl, hA⟩
  rw [HN.out]
  have HB := Lib.hid hb1
  have HA := Lib.hid hA
  clear hb1 hA
  go_wp2_with fail
  go_loopw [5, 7, 18] (fun v5 v7 i wr => ∃ (k pos : Nat) (av : Option Addr) (cp : Nat) (ps : List (List Int)) , k ≤ N ∧ pos ≤ len ∧ 8 + 8 * k ≤ pos ∧ i = .int .u64 k ∧ v5 = .slice av (len - pos) cp ∧ len - pos ≤ cp ∧ (pos < len → av = some ⟨b, off + pos, none⟩) ∧
      ps.length = k ∧ Hid (splitN N (l.drop 8) = (splitN (N - k) (l.drop pos)).map fun q => (ps ++ q.1, q.2)) ∧ OwnPs 22 5 wr w.heap.size v7 ps ∧ Below w.heap.size w wr)
    (fun v5 _ _ _ => lenV v5)
  case atStart =>
    exact ⟨0, 8, some A, cap - 8, [], by omega, h, by omega, rfl, rfl, by omega, fun h8 => by rw [HA.out h8], rfl, by show _ = _; simp, OwnPs.nil _ _ _ _, HB.out⟩
  case round =>
    obtain ⟨k, pos, av, cp, ps, hk, hp, hkp, rfl, rfl, hcp, hav, hps, hsp, hown, hbr⟩ := hrel
    by_cases hlt : k < N
    · have hkn : (k : Int) < (N : Int) := by omega
      have HO := Lib.hid hown
      have HBR := Lib.hid hbr
      have HAV := Lib.hid hav
      have HPS := Lib.hid hps
      have hsb := hbr.size
      have hrl : (l.drop pos).length = len - pos := by rw [List.length_drop, HL.out]
      have HRL := Lib.hid hrl
      clear hown hbr hav hps hrl
      by_cases h8 : len - pos < 8
      · go_wp2_with (go_at_call 25; refine (takePart_short _ _ _ _ h8).mono ?_; rintro e w' ⟨rfl, rfl⟩)
        go_ret2
        refine SplitPost.bad HBR.out ?_
        rw [splitL, if_neg (by rw [HL.out]; omega), HN.out, splitN_bad hsp.out hlt (.inl (by rw [HRL.out]; exact h8))]
      · have hpos : pos < len := by omega
        obtain rfl := HAV.out hpos
        have hcell : ∀ i, i < len - pos → wr.cell? ⟨b, off + pos + i, none⟩ = some (.int .u8 ((l.drop pos)[i]?.getD 0)) := by
          intro i hi
          rw [List.getElem?_drop, Nat.add_assoc]
          exact (HBR.out.cell (p := ⟨b, off + (pos + i), none⟩) hbw).trans (HC.out (pos + i) (by omega))
        have HCELL := Lib.hid hcell
        clear hcell
        by_cases hbig : len - pos - 8 < beI ((l.drop pos).take 8)
        · go_wp2_with fail
          refine (takePart_long b (off + pos) (len - pos) cp (l.drop pos) wr HRL.out (by omega) hcp (HR.out.drop _) (by omega) HCELL.out hbig).mono ?_
          rintro e w2 ⟨hb2, rfl⟩
          have HB2 := Lib.hid hb2
          clear hb2
          go_wp2_with fail
          go_ret2
          refine SplitPost.bad (HBR.out.trans (HB2.out.mono hsb)) ?_
          rw [splitL, if_neg (by rw [HL.out]; omega), HN.out, splitN_bad hsp.out hlt (.inr (by rw [HRL.out]; exact hbig))]
        · go_wp2_with fail
          refine (takePart_any b (off + pos) (len - pos) cp (l.drop pos) wr HRL.out (by omega) hcp (HR.out.drop _) (by omega) (by omega) HCELL.out (by omega)).mono ?_
          rintro e w2 ⟨hb2, v1, A2, rfl, hown1, hA2⟩
          obtain ⟨va, vn, vc, rfl⟩ : ∃ va vn vc, v1 = .slice va vn vc := by
            rcases hown1.2 with ⟨e1, _⟩ | ⟨g, cap', cur, e1, _⟩
            · exact ⟨_, _, _, e1⟩
            · exact ⟨_, _, _, e1⟩
          generalize hM : beI ((l.drop pos).take 8) = M at *
          have HM := Lib.hid hM
          have HO1 := Lib.hid hown1
          have HB2 := Lib.hid hb2
          have HA2 := Lib.hid hA2
          clear hM hown1 hb2 hA2
          have hown2 := HO.out.below HB2.out (Nat.le_refl _)
          obtain ⟨xs, hx1, hx2⟩ := hown2
          have hne : (Value.slice va vn vc).ownBlock = none ∨ (Value.slice va vn vc).ownBlock ≠ u7.ownBlock := by
            obtain ⟨xs', hy1, _⟩ := HO.out
            cases h1 : (Value.slice va vn vc).ownBlock with
            | none => exact .inl rfl
            | some g =>
              right
              cases h7 : u7.ownBlock with
              | none => simp
              | some g7 =>
                have a1 := (HO1.out.lt g h1).1
                have a2 := (hy1.lt g7 h7).2
                intro he
                injection he with he
                omega
          have X1 := Lib.hid (show w2.ownsRow w.heap.size 22 1 u7 k xs by rw [← HPS.out]; exact hx1)
          have X2 := Lib.hid hx2
          have HNE := Lib.hid hne
          have hs2 := HB2.out.size
          clear hx1 hx2 hne
          go_wp2_with (at_builtin; refine wpList_append_lies _ rfl (Operand.tmp 28) (Operand.tmp 30) 29 rfl w.heap.size 22 i0 (.slice none 0 0) 1 24 Tryd.underlying29 hi hz0 hz1 hz2 rfl (by decide) u7 k xs rfl (X1.out.alloc _) ⟨w2.heap.size, 0, none⟩ 1 1 [.slice va vn vc] rfl rfl (cell_one_new _ _ _) (by intro u hu; simp at hu; subst hu; rfl) (by decide) (by unfold maxLen; omega) (by omega) (by simp; omega) (w2.heap.size + 1) (by simp) ?_; intro g cp3 w3 hown3 hg3 hgH hgl; have HO3 := Lib.hid hown3; have HG3 := Lib.hid hg3; have HH3 := Lib.hid hgH; clear hown3 hg3 hgH)
          go_roundw
          case rel =>
            have hq := splitN_step hsp.out hlt (by rw [HRL.out]; omega) (by rw [HRL.out, HM.out]; omega)
            have hd : (l.drop pos).drop (8 + M) = l.drop (pos + (8 + M)) := by rw [List.drop_drop]
            rw [HM.out, hd] at hq
            have hplen : ((l.drop pos).drop 8 |>.take M).length = M := by rw [List.length_take, List.length_drop, HRL.out]; omega
            have hsn := OwnPs.snoc (T := 22) (E := 5) (p := ((l.drop pos).drop 8).take M) (w := w2.alloc (.cells #[.slice va vn vc] 22)) (w' := w3) (v := u7) (x := .slice va vn vc) (ps := ps) (xs := xs) (g := g) (cap := cp3) (B := w.heap.size)
              (by rw [HPS.out]; exact X1.out.alloc _)
              (fun i hi => by obtain ⟨x, h1, h2, h3⟩ := X2.out i hi; exact ⟨x, h1, h2.alloc _, h3⟩)
              (by rw [hplen]; exact (own_base' HO1.out hsb).alloc _) HNE.out (by rw [HPS.out]; exact HO3.out) HG3.out (by simpa using HH3.out)
            rw [HPS.out] at hsn
            refine ⟨k + 1, pos + (8 + M), some A2, cp - 8 - M, ps ++ [((l.drop pos).drop 8).take M], by omega, by omega, by omega, by go_num, by rw [show len - (pos + (8 + M)) = len - pos - 8 - M by omega], by omega, fun hlt2 => by rw [HA2.out (by omega), Nat.add_assoc], by simp [HPS.out], hq, hsn, ?_⟩
            exact ((HBR.out.trans (HB2.out.mono hsb)).alloc (by omega) _).grown HG3.out (by simp; omega) (fun g' hg' => ((HO.out.choose_spec.1).lt g' hg').1)
          case measure => simp [lenV]; omega
    · have hkN : k = N := by omega
      have hsp2 := hsp.out
      rw [hkN, Nat.sub_self, splitN] at hsp2
      have HSP := Lib.hid hsp2
      have hkn : (N : Int) ≤ (k : Int) := by omega
      have HO := Lib.hid hown
      have HBR := Lib.hid hbr
      clear hsp2 hkN hsp hown hbr hav hps hlt
      by_cases hend : pos < len
      · have h0 : 0 < len - pos := by omega
        go_wp2
        go_ret2
        refine SplitPost.bad HBR.out ?_
        rw [splitL, if_neg (by rw [HL.out]; omega), HN.out, HSP.out]
        have h9 : 0 < (l.drop pos).length := by rw [List.length_drop, HL.out]; omega
        simp only [Option.map_some]
        split
        · rename_i heq
          simp only [Option.some.injEq, Prod.mk.injEq] at heq
          rw [heq.2] at h9
          simp at h9
        · rfl
      · have h0 : len - pos = 0 := by omega
        have h01 : ¬ 0 < len - pos := by omega
        go_wp2
        go_ret2
        refine ⟨HBR.out, ?_⟩
        have h9 : l.drop pos = [] := List.drop_of_length_le (by rw [HL.out]; omega)
        rw [splitL, if_neg (by rw [HL.out]; omega), HN.out, HSP.out, h9]
        simp only [Option.map_some, List.append_nil]
        exact ⟨_, rfl, HO.out⟩
end Go.Proofs.YtboadlhpanpljaaDoor
