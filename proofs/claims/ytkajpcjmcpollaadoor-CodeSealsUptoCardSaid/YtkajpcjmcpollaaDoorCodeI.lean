import Derived.Test.YtkajpcjmcpollaaDoorCodeH
import Derived.WalkKit
import Derived.ProofKit
import Derived.BigQuiet
import Derived.Deep.QuietTactic
import Derived.WalkSpells
import Derived.WalkLawsBesides
import Derived.Lib.Hide
import Derived.Deep.MidRow
import Derived.Deep.RegionLaw
import Derived.BigRegion
import Derived.Lib.SlBytesConst
import Derived.Laws.AppendOwnNone
import Derived.Deep.DeepMust
import Derived.Deep.AppendLies
import Derived.RegionTactic
import Derived.Deep.WholeRow
import Derived.BigFrame
import Derived.Deep.RegionWith
import Derived.Deep.RegionHeld3
import Derived.Maps.RangeWalk
import Derived.Laws.CopyOwn
import Derived.StillTailTactics
namespace Go.Proofs.YtkajpcjmcpollaaDoor
open Go.RowKit
attribute [local go_sem ↓] convC_eq
theorem flatMap_len (r : List Val) : (r.flatMap vcells).length = r.length * 3 := by
  induction r with
  | nil => rfl
  | cons x r ih => rw [List.flatMap_cons, List.length_append, ih, List.length_cons]; simp only [vcells, List.length_cons, List.length_nil]; omega
theorem vcells_one {r : List Val} : ∀ u ∈ r.flatMap vcells, u.oneCell' = true := by
  intro u hu
  simp only [List.mem_flatMap, vcells, List.mem_cons, List.not_mem_nil, or_false] at hu
  obtain ⟨x, _, rfl | rfl | rfl⟩ := hu <;> rfl
theorem wpList_append_rw {ops : Array Oper} {rest : List Oper} {o : Oper} {a : Act} {w : World} {Q : Exit → Act → World → Prop} (hgd : o.guard = none) (s x : Operand)
    (ho : o.op = .call { callee := .builtin .append, args := #[s, x], argTypes := #[23, 23] }) (B : Nat)
    (v : Value) (l : List Val) (hs : a.eval s = v) (hown : OwnR w B v l) (v2 : Value) (m : List Val) (hx : a.eval x = v2) (hbs : Rw w v2 m) (h63 : l.length + m.length ≤ 1099511627776) (hbase : B ≤ w.heap.size)
    (h : ∀ v' w', OwnR w' B v' (l ++ m) → Below B w w' → wpList Tryd.prog ops Q rest (a.put o.dst v') w') : wpList Tryd.prog ops Q (o :: rest) a w := by
  obtain ⟨i0, hi, hz0, hz1, hz2⟩ := info_parts info32
  obtain ⟨ad, cap, rfl, hcap, hc⟩ := hbs
  cases ad with
  | none =>
    have h0 : cap = 0 := hcap.2 rfl
    have h1 : m = [] := List.eq_nil_of_length_eq_zero (by omega)
    subst h0 h1
    refine wpList_append_own_none hgd s x 23 ho B 32 i0 3 Tryd.underlying23 hi v l.length _ hs hown hx ?_
    exact h v w (by simpa using hown) (Below.refl _ _)
  | some ad =>
    refine wpList_append_own w hgd s x 23 ho B 32 i0 _ 3 32 Tryd.underlying23 hi hz0 hz1 hz2 rfl (by decide) v l.length _ hs hown ad m.length cap (m.flatMap vcells) hx (flatMap_len m) ?_ vcells_one (by unfold maxLen; omega) (by omega) hbase (fun v' w' h1 h2 _ => h v' w' ?_ ?_)
    · intro q u hu
      have hq : q < (m.flatMap vcells).length := (List.getElem?_eq_some_iff.1 hu).1
      rw [flatMap_len] at hq
      obtain ⟨pb, po, e1, e2, e3⟩ := hc (by omega)
      injection e1 with e1
      have hi3 : q / 3 < m.length := by omega
      have e4 := e3 (q / 3) _ (List.getElem?_eq_getElem hi3)
      have e5 := flatMap_get m (q / 3) _ (q % 3) (List.getElem?_eq_getElem hi3) (by omega)
      rw [show q / 3 * 3 + q % 3 = q by omega, hu] at e5
      rw [e1, Addr.add_mid]
      rcases (by omega : q % 3 = 0 ∨ q % 3 = 1 ∨ q % 3 = 2) with hq3 | hq3 | hq3
      · rw [hq3] at e5
        rw [show po + q = po + q / 3 * 3 by omega, e4.1, e5]; rfl
      · rw [hq3] at e5
        rw [show po + q = po + q / 3 * 3 + 1 by omega, e4.2.1, e5]; rfl
      · rw [hq3] at e5
        rw [show po + q = po + q / 3 * 3 + 2 by omega, e4.2.2, e5]; rfl
    · unfold OwnR; rw [List.length_append, List.flatMap_append]; exact h1
    · exact (Below.refl _ _).grown h2 hbase (fun g hg => (hown.lt g hg).1)
theorem buildR (w : World) : (Instr.buildSlice 23 0 #[]).run Tryd.prog w = .ok (.slice (some ⟨w.heap.size, 0, none⟩) 0 0) (w.alloc (.cells #[] 32)) := by kernel_rfl
/-- what a call of Key leaves, plain: a slice that reads as bytes, and whether -/
theorem keyPost_bs {rs : List Val} {w w' : World} {e : Ending} (h : KeyPost rs w e w') : Below w.heap.size w w' ∧ ∃ v, e = .returned (.tuple #[v, .bool (rs.all vld)]) ∧ Bs w' v (if rs.all vld = true then keyR rs else []) := by
  obtain ⟨hb, hp⟩ := h
  refine ⟨hb, ?_⟩
  cases hv : rs.all vld with
  | true => rw [hv, if_pos rfl] at hp; obtain ⟨v, rfl, ho⟩ := hp; exact ⟨v, rfl, by rw [if_pos rfl]; exact ho.bs⟩
  | false => rw [hv, if_neg (by decide)] at hp; obtain rfl := hp; exact ⟨_, rfl, by rw [if_neg (by decide)]; exact Bs.nil _⟩
theorem valuePost_bs {x : Val} {w w' : World} {e : Ending} (h : ValuePost x w e w') : Below w.heap.size w w' ∧ ∃ v, e = .returned (.tuple #[v, .bool (vld x)]) ∧ Bs w' v (if vld x = true then keyV x else []) := by
  obtain ⟨hb, hp⟩ := h
  refine ⟨hb, ?_⟩
  cases hv : vld x with
  | true => rw [hv, if_pos rfl] at hp; obtain ⟨v, _, rfl, ho⟩ := hp; exact ⟨v, rfl, by rw [if_pos rfl]; exact ho.bs⟩
  | false => rw [hv, if_neg (by decide)] at hp; obtain rfl := hp; exact ⟨_, rfl, by rw [if_neg (by decide)]; exact Bs.nil _⟩
theorem rvaluePost_bs {x : Val} {w w' : World} {e : Ending} (h : RValuePost x w e w') : Below w.heap.size w w' ∧ ∃ v, e = .returned (.tuple #[v, .bool (vld x)]) ∧ Bs w' v (if vld x = true then keyV x else []) := by
  obtain ⟨hb, hp⟩ := h
  refine ⟨hb, ?_⟩
  cases hv : vld x with
  | true => rw [hv, if_pos rfl] at hp; obtain ⟨v, rfl, ho⟩ := hp; exact ⟨v, rfl, by rw [if_pos rfl]; exact ho.bs⟩
  | false => rw [hv, if_neg (by decide)] at hp; obtain rfl := hp; exact ⟨_, rfl, by rw [if_neg (by decide)]; exact Bs.nil _⟩
set_option maxHeartbeats 3200000 in
theorem keys_walk (v1 : Value) (r : List Val) (w : World) (h1 : Rw w v1 r) (ho1 : ∀ x ∈ r, x.OK ∧ x.s.length ≤ 1099511627) (hl : r.length ≤ 1048576) (hK : KC w) :
    Calls Tryd.prog 3 #[v1] w fun e w' => e = .returned (.bool true) ∧ Below w.heap.size w w' := by
  have H1 := Lib.hid h1
  have HO1 := Lib.hid ho1
  have HO2 := Lib.hid (show ∀ x ∈ r, x.OK ∧ x.s.length ≤ 1099511627776 from fun x hx => ⟨(ho1 x hx).1, by have := (ho1 x hx).2; omega⟩)
  obtain ⟨ra, rc, rfl, hrc, hrcell⟩ := h1
  have HRC := Lib.hid hrcell
  clear ho1 hrcell
  generalize hn : r.length = n at *
  have HN := Lib.hid hn
  clear hn
  go_enter Tryd.func3, Tryd.ntmps3
  go_wp2_with fail
  refine (fixed_any w hK).mono ?_
  rintro e w1 ⟨rfl, b1⟩
  have B1 := Lib.hid b1
  have s1 := b1.size
  clear b1 hK
  go_wp2_with (first
    | (refine wpList_build_empty (o := ⟨some 15, _, _, _, _, _⟩) rfl 23 32 3 rfl buildR ?_; intro v15 w2 ho2 hb2 hob2 hs2; have O2 := Lib.hid (show OwnR w2 w1.heap.size v15 [] from ho2); have B2 := Lib.hid hb2; have hs2' := hb2.size; clear ho2 hb2 hob2 hs2)
    | (at_builtin; refine wpList_append_rw (o := ⟨some 17, _, _, _, _, _⟩) rfl (Operand.tmp 15) (Operand.tmp 16) rfl w1.heap.size _ [] rfl O2.out _ r rfl ((H1.out.below B1.out).below B2.out) (by rw [HN.out]; simp; omega) hs2' ?_; intro v17 w3 hown3 hb3; have O3 := Lib.hid (show OwnR w3 w1.heap.size v17 r from hown3); have B3 := Lib.hid (B1.out.trans ((B2.out.trans hb3).mono s1)); clear hown3 hb3))
  have s3 := B3.out.size
  refine (key_any v17 r w3 O3.out.rw HO2.out (by rw [HN.out]; omega)).mono ?_
  rintro e w4 hp4
  obtain ⟨hb4, v4, rfl, hbs4⟩ := keyPost_bs hp4
  have B4 := Lib.hid (B3.out.trans (hb4.mono s3))
  have S4 := Lib.hid hbs4
  have OR4 := Lib.hid (O3.out.rw.below hb4)
  have s4 := B4.out.size
  clear hb4 hbs4 hp4
  go_wp2_with fail
  refine (rkey_any _ r w4 (H1.out.below B4.out) HO1.out (by rw [HN.out]; omega)).mono ?_
  rintro e w5 hp5
  obtain ⟨hb5, v5, rfl, hbs5⟩ := keyPost_bs hp5
  have B5 := Lib.hid (B4.out.trans (hb5.mono s4))
  have c1 := conv_bs (S4.out.below hb5)
  have c2 := conv_bs hbs5
  have OR5 := Lib.hid (OR4.out.below hb5)
  have s5 := B5.out.size
  have hsame := same_any v17 _ r r w5 OR5.out (H1.out.below B5.out) (fun x hx => (HO1.out x hx).1) (fun x hx => (HO1.out x hx).1) (by rw [HN.out]; omega) (by rw [HN.out]; omega)
  rw [decide_eq_true rfl] at hsame
  have HS := Lib.hid hsame
  generalize str (if r.all vld = true then keyR r else []) = S1 at *
  generalize r.all vld = bb at *
  clear hb5 hbs5 hp5 hsame
  cases bb
  all_goals
    go_wp2_with fail
    refine HS.out.mono ?_
    rintro e w6 ⟨rfl, hb6⟩
    have B6 := Lib.hid (B5.out.trans (hb6.mono s5))
    clear hb6
    go_wp2_with fail
    go_loopw [8] (fun i wr => ∃ k : Nat, k ≤ n ∧ i = .int .i64 k ∧ Below w.heap.size w wr) (fun i _ => n - (intOf i).toNat)
    case atStart => exact ⟨0, Nat.zero_le _, rfl, B6.out⟩
    case round =>
      obtain ⟨k, hk, rfl, hbw⟩ := hrel
      have HBW := Lib.hid hbw
      have hsz := hbw.size
      clear hbw
      by_cases hlt : k < n
      · obtain ⟨b, off, rfl, hb, hc⟩ := HRC.out (by omega)
        obtain ⟨x, hx⟩ : ∃ x, r[k]? = some x := ⟨_, List.getElem?_eq_getElem (by rw [HN.out]; exact hlt)⟩
        obtain ⟨d0, d1, d2⟩ := hc k x hx
        have hxm := List.mem_of_getElem? hx
        have g0 := (HBW.out.cell (p := ⟨b, off + k * 3, none⟩) hb).trans d0
        have g1 := (HBW.out.cell (p := ⟨b, off + k * 3 + 1, none⟩) hb).trans d1
        have g2 := (HBW.out.cell (p := ⟨b, off + k * 3 + 2, none⟩) hb).trans d2
        have D0 := Lib.hid d0
        have D1 := Lib.hid d1
        have D2 := Lib.hid d2
        have hv := value_any x wr (HO2.out x hxm).1 (HO2.out x hxm).2
        have hrv := rvalue_any x
        unfold vagg at hv hrv
        have HV := Lib.hid hv
        have HRV := Lib.hid hrv
        have HXO := Lib.hid (HO1.out x hxm)
        clear hc hx hxm d0 d1 d2 hv hrv
        go_wp2_with fail
        refine HV.out.mono ?_
        rintro e w7 hp7
        obtain ⟨hb7, v7, rfl, hbs7⟩ := valuePost_bs hp7
        have B7 := Lib.hid (HBW.out.trans (hb7.mono hsz))
        have s7 := B7.out.size
        have g3 := (B7.out.cell (p := ⟨b, off + k * 3, none⟩) hb).trans D0.out
        have g4 := (B7.out.cell (p := ⟨b, off + k * 3 + 1, none⟩) hb).trans D1.out
        have g5 := (B7.out.cell (p := ⟨b, off + k * 3 + 2, none⟩) hb).trans D2.out
        have S7 := Lib.hid hbs7
        clear hb7 hbs7 hp7 g0 g1 g2
        go_wp2_with fail
        refine (HRV.out w7 HXO.out.1 HXO.out.2).mono ?_
        rintro e w8 hp8
        obtain ⟨hb8, v8, rfl, hbs8⟩ := rvaluePost_bs hp8
        have B8 := Lib.hid (B7.out.trans (hb8.mono s7))
        have e1 := conv_bs (S7.out.below hb8)
        have e2 := conv_bs hbs8
        generalize str (if vld x = true then keyV x else []) = S2 at *
        generalize vld x = cc at *
        clear hb8 hbs8 hp8 g3 g4 g5
        cases cc
        all_goals
          go_wp2_with fail
          go_roundw
          case rel => exact ⟨k + 1, by omega, by go_num, B8.out⟩
          case measure => simp [intOf]; omega
      · have hkn : n ≤ k := by omega
        go_wp2_with fail
        go_ret
        exact ⟨rfl, HBW.out⟩
end Go.Proofs.YtkajpcjmcpollaaDoor
