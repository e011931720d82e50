import Derived.Test.YtkajpcjmcpollaaDoorCodeK
import Derived.Test.YtkajpcjmcpollaaDoorCodeE
import Derived.WalkKit
import Derived.ProofKit
import Derived.BigQuiet
import Derived.Deep.QuietTactic
import Derived.WalkSpells
import Derived.WalkLawsBesides
import Derived.Lib.Hide
import Derived.Deep.MidRow
import Derived.Deep.RegionLaw
import Derived.BigRegion
import Derived.Lib.SlBytesConst
import Derived.Laws.AppendOwnNone
import Derived.Deep.DeepMust
import Derived.Deep.AppendLies
import Derived.RegionTactic
import Derived.Deep.WholeRow
import Derived.BigFrame
import Derived.Deep.RegionWith
import Derived.Deep.RegionHeld3
import Derived.Maps.RangeWalk
import Derived.Laws.CopyOwn
import Derived.StillTailTactics
namespace Go.Proofs.YtkajpcjmcpollaaDoor
open Go.RowKit
attribute [local go_sem ↓] convC_eq
def rrow : RR → List Val | .ok r => r | .err _ _ => []
def rerr : RR → Int | .ok _ => 0 | .err e _ => e
def rat : RR → Nat | .ok _ => 0 | .err _ p => p
theorem rowPost_own {l : List Int} {w w' : World} {e : Ending} (h : RowPost l w e w') : Below w.heap.size w w' ∧ ∃ v, e = .returned (.tuple #[v, .int .i64 (rerr (rows l)), .int .i64 (rat (rows l))]) ∧ OwnR w' w.heap.size v (rrow (rows l)) := by
  obtain ⟨hb, hp⟩ := h
  refine ⟨hb, ?_⟩
  cases hr : rows l with
  | ok r => rw [hr] at hp; exact hp
  | err e2 p => rw [hr] at hp; exact ⟨_, hp, OwnR.nil _ _⟩
theorem rrow_ok {l : List Int} (hr : Rng l) : (∀ x ∈ rrow (rows l), x.OK) ∧ (rrow (rows l)).length ≤ l.length := by
  cases h : rows l with
  | ok r =>
    obtain ⟨h1, h2⟩ := rows_back l r hr h
    refine ⟨fun x hx => (h2 x hx).2, ?_⟩
    have := keyR_ge r
    rw [h1] at this
    exact this
  | err e p => exact ⟨fun x hx => by simp [rrow] at hx, by simp [rrow]⟩
/-- a row of the call's own, of known room: each place may be written -/
theorem own_room {w : World} {B : Nat} {v : Value} {l : List Int} (h : Own w B v l) (h0 : 0 < l.length) : ∃ g cap cur, v = .slice (some ⟨g, 0, none⟩) l.length cap ∧ B ≤ g ∧ g < w.heap.size ∧ w.heap[g]? = some (.cells cur 5 (0, 0)) ∧ l.length ≤ cur.size := by
  rcases h.2 with ⟨_, h1⟩ | ⟨g, cap, cur, rfl, hg, hh, hle, _, hs, _⟩
  · omega
  · exact ⟨g, cap, cur, rfl, hg, (h.lt g rfl).2, hh, by omega⟩
set_option maxHeartbeats 3200000 in
theorem rows_walk (v1 : Value) (l : List Int) (w : World) (h1 : Bs w v1 l) (hr : Rng l) (hl : l.length ≤ 1048576) (hK : KC w) :
    Calls Tryd.prog 4 #[v1] w fun e w' => e = .returned (.bool true) ∧ Below w.heap.size w w' := by
  have H1 := Lib.hid h1
  have HR := Lib.hid hr
  obtain ⟨hok, hlen⟩ := rrow_ok hr
  have HOK := Lib.hid hok
  clear h1 hr hok
  go_enter Tryd.func4, Tryd.ntmps4
  go_wp2_with fail
  refine (fixed_any w hK).mono ?_
  rintro e w1 ⟨rfl, b1⟩
  have B1 := Lib.hid b1
  have s1 := b1.size
  clear b1 hK
  go_wp2_with (first
    | (refine wpList_build_empty (o := ⟨some 13, _, _, _, _, _⟩) rfl 25 5 1 rfl buildB ?_; intro v13 w2 ho2 hb2 hob2 hs2; have O2 := Lib.hid (show Own w2 w1.heap.size v13 [] from ho2); have B2 := Lib.hid hb2; have hs2' := hb2.size; clear ho2 hb2 hob2 hs2)
    | (at_builtin; refine wpList_append_Own (o := ⟨some 15, _, _, _, _, _⟩) rfl (Operand.tmp 13) (Operand.tmp 14) rfl w1.heap.size _ [] rfl O2.out _ l rfl ((H1.out.below B1.out).below B2.out) (by simp; omega) hs2' ?_; intro v15 w3 hown3 hb3; have O3 := Lib.hid (show Own w3 w1.heap.size v15 l from hown3); have B3 := Lib.hid (B1.out.trans ((B2.out.trans hb3).mono s1)); clear hown3 hb3))
  have s3 := B3.out.size
  obtain ⟨oa, oc, rfl, _, _⟩ := O3.out.bs
  refine (row_any _ l w3 O3.out.bs HR.out (by omega)).mono ?_
  rintro e w4 hp4
  obtain ⟨hb4, v4, rfl, hown4⟩ := rowPost_own hp4
  have B4 := Lib.hid (B3.out.trans (hb4.mono s3))
  have O4 := Lib.hid hown4
  have O34 := Lib.hid (O3.out.below hb4 (Nat.le_refl _))
  have s4 := B4.out.size
  have s34 := hb4.size
  clear hb4 hown4 hp4
  go_wp2_with fail
  refine (rrow_any _ l w4 (H1.out.below B4.out) HR.out (by omega)).mono ?_
  rintro e w5 hp5
  obtain ⟨hb5, v5, rfl, hown5⟩ := rowPost_own hp5
  have B5 := Lib.hid (B4.out.trans (hb5.mono s4))
  have O5 := Lib.hid hown5
  have O45 := Lib.hid (O4.out.below hb5 (Nat.le_refl _))
  have O35 := Lib.hid (O34.out.below hb5 (Nat.le_refl _))
  have s5 := B5.out.size
  have s45 := hb5.size
  have hsame := fun u (hu1 : Rw u v4 (rrow (rows l))) (hu2 : Rw u v5 (rrow (rows l))) => same_any v4 v5 (rrow (rows l)) (rrow (rows l)) u hu1 hu2 HOK.out HOK.out (by omega) (by omega)
  rw [decide_eq_true rfl] at hsame
  have HS := Lib.hid hsame
  generalize hE : rerr (rows l) = E at *
  generalize hA : rat (rows l) = AT at *
  clear hb5 hown5 hp5 hsame hE hA
  go_wp2_with fail
  refine (HS.out w5 O45.out.rw O5.out.rw).mono ?_
  rintro e w6 ⟨rfl, hb6⟩
  have B6 := Lib.hid (B5.out.trans (hb6.mono s5))
  have O46 := Lib.hid (O45.out.below hb6 (Nat.le_refl _))
  have O56 := Lib.hid (O5.out.below hb6 (Nat.le_refl _))
  have O36 := Lib.hid (O35.out.below hb6 (Nat.le_refl _))
  have c1 := conv_bs O36.out.bs
  have c2 := conv_bs (H1.out.below B6.out)
  have s6 := B6.out.size
  have s56 := hb6.size
  generalize str l = S1 at *
  clear hb6
  go_wp2_with fail
  by_cases h0 : 0 < l.length
  · obtain ⟨g, cap, cur, he, hg, _, hh, hsz⟩ := own_room O36.out h0
    injection he with he1 _ he2
    subst he1 he2
    have hg3 : g < w3.heap.size := (O3.out.lt g rfl).2
    have HNR := Lib.hid (show v4.ownBlock ≠ some g from fun e => by have := (O46.out.lt g e).1; omega)
    have HNS := Lib.hid (show v5.ownBlock ≠ some g from fun e => by have := (O56.out.lt g e).1; omega)
    have HH := Lib.hid hh
    clear hh
    go_loopw [10] (fun i wr => ∃ (k : Nat) (cur : Array Value), k ≤ l.length ∧ i = .int .i64 k ∧ wr.heap[g]? = some (.cells cur 5 (0, 0)) ∧ l.length ≤ cur.size ∧ Below w.heap.size w wr ∧ OwnR wr w3.heap.size v4 (rrow (rows l)) ∧ OwnR wr w4.heap.size v5 (rrow (rows l))) (fun i _ => l.length - (intOf i).toNat)
    case atStart => exact ⟨0, cur, Nat.zero_le _, rfl, HH.out, hsz, B6.out, O46.out, O56.out⟩
    case round =>
      obtain ⟨k, cu, hk, rfl, hh, hcs, hbw, hor, hos⟩ := hrel
      have HBW := Lib.hid hbw
      have HOR := Lib.hid hor
      have HOS := Lib.hid hos
      have hbsz := hbw.size
      by_cases hlt : k < l.length
      · have hki : k < cu.size := by omega
        have hck := (cell_of_row wr g k cu _ _ hh).trans (Array.getElem?_eq_getElem hki)
        have hfz := frozen_of_row wr g k cu 5 hh
        generalize cu[k] = y at hck
        have HHC := Lib.hid hh
        clear hbw hor hos hh
        go_wp2_with fail
        go_roundw
        case rel => exact ⟨k + 1, cu.setIfInBounds k (.int .u8 3), by omega, by go_num, heap_setCell_same wr g k _ _ _ HHC.out, by simpa using hcs, HBW.out.setCell (show w.heap.size ≤ g by omega) _, OwnR.setCell HOR.out ⟨g, k, none⟩ _ HNR.out, OwnR.setCell HOS.out ⟨g, k, none⟩ _ HNS.out⟩
        case measure => simp [intOf]; omega
      · have hkn : l.length ≤ k := by omega
        clear hbw hor hos hh hlt
        go_wp2_with fail
        refine (HS.out wr HOR.out.rw HOS.out.rw).mono ?_
        rintro e w7 ⟨rfl, hb7⟩
        have B7 := Lib.hid (HBW.out.trans (hb7.mono hbsz))
        clear hb7
        go_wp2_with fail
        go_ret
        exact ⟨rfl, B7.out⟩
  · go_loopw [10] (fun i wr => i = .int .i64 0 ∧ wr = w6) (fun i _ => l.length - (intOf i).toNat)
    case atStart => exact ⟨rfl, rfl⟩
    case round =>
      obtain ⟨rfl, rfl⟩ := hrel
      have hl0 : l.length = 0 := by omega
      go_wp2_with fail
      refine (HS.out _ O46.out.rw O56.out.rw).mono ?_
      rintro e w7 ⟨rfl, hb7⟩
      have B7 := Lib.hid (B6.out.trans (hb7.mono s6))
      clear hb7
      go_wp2_with fail
      go_ret
      exact ⟨rfl, B7.out⟩
end Go.Proofs.YtkajpcjmcpollaaDoor
