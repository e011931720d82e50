import Derived.Test.YtkajpcjmcpollaaDoorCode3
import Derived.WalkKit
import Derived.ProofKit
import Derived.BigQuiet
import Derived.Deep.QuietTactic
import Derived.WalkSpells
import Derived.WalkLawsBesides
import Derived.Lib.Hide
import Derived.Deep.MidRow
import Derived.Deep.RegionLaw
import Derived.BigRegion
import Derived.Lib.SlBytesConst
import Derived.Laws.AppendOwnNone
import Derived.Deep.DeepMust
import Derived.Deep.AppendLies
import Derived.RegionTactic
import Derived.Deep.WholeRow
import Derived.BigFrame
import Derived.Deep.RegionWith
import Derived.Deep.RegionHeld3
import Derived.Maps.RangeWalk
import Derived.Laws.CopyOwn
import Derived.StillTailTactics
namespace Go.Proofs.YtkajpcjmcpollaaDoor
open Go.RowKit
def Rw (w : World) (v : Value) (rs : List Val) : Prop :=
  ∃ (a : Option Addr) (cap : Nat), v = .slice a rs.length cap ∧ (rs.length ≤ cap ∧ (a = none → cap = 0)) ∧ (0 < rs.length → ∃ b off, a = some ⟨b, off, none⟩ ∧ b < w.heap.size ∧
    ∀ i x, rs[i]? = some x → w.cell? ⟨b, off + i * 3, none⟩ = some (.int .i64 x.k) ∧ w.cell? ⟨b, off + i * 3 + 1, none⟩ = some (.int .i64 x.n) ∧ w.cell? ⟨b, off + i * 3 + 2, none⟩ = some (.string (str x.s)))
theorem Rw.below {w w' : World} {v : Value} {rs : List Val} (h : Rw w v rs) (hb : Below w.heap.size w w') : Rw w' v rs := by
  obtain ⟨a, cap, hv, hc, h⟩ := h
  refine ⟨a, cap, hv, hc, fun hl => ?_⟩
  obtain ⟨b, off, ha, hbs, hcell⟩ := h hl
  refine ⟨b, off, ha, Nat.lt_of_lt_of_le hbs hb.size, fun i x hx => ?_⟩
  obtain ⟨h0, h1, h2⟩ := hcell i x hx
  exact ⟨(hb.cell (p := ⟨b, off + i * 3, none⟩) hbs).trans h0, (hb.cell (p := ⟨b, off + i * 3 + 1, none⟩) hbs).trans h1, (hb.cell (p := ⟨b, off + i * 3 + 2, none⟩) hbs).trans h2⟩
theorem keyV_len (x : Val) (h : vld x = true) : (keyV x).length ≤ 131 := by
  obtain ⟨k, n, s⟩ := x
  simp only [keyV, List.length_cons, body]
  by_cases k1 : k = 1
  · simp only [k1, if_true, dg_len]; omega
  by_cases k2 : k = 2
  · simp [vld, k2] at h
    have := esc_len_le s
    simp [k2]; omega
  by_cases k3 : k = 3
  · simp [k3]
  · simp [k1, k2, k3]
theorem keyR_len (rs : List Val) (h : ∀ x ∈ rs, vld x = true) : (keyR rs).length ≤ 131 * rs.length := by
  induction rs with
  | nil => simp [keyR]
  | cons x rs ih =>
    have h1 := keyV_len x (h x (by simp))
    have h2 := ih (fun y hy => h y (by simp [hy]))
    simp only [keyR, List.flatMap_cons, List.length_append, List.length_cons] at h2 ⊢
    omega
theorem keyR_append (a b : List Val) : keyR (a ++ b) = keyR a ++ keyR b := by simp [keyR]
theorem take_succ_vs {α : Type} (rs : List α) (k : Nat) (x : α) (h : rs[k]? = some x) : rs.take (k + 1) = rs.take k ++ [x] := by
  have hk : k < rs.length := (List.getElem?_eq_some_iff.1 h).1
  rw [List.take_succ_eq_append_getElem hk, (List.getElem?_eq_some_iff.1 h).2]
theorem box_below {w w1 : World} {c0 c1 c2 : Value} {T : TypeId} (hb : Below (w.alloc (.cells #[c0, c1, c2] T)).heap.size (w.alloc (.cells #[c0, c1, c2] T)) w1) :
    w1.cell? ⟨w.heap.size, 0, none⟩ = some c0 ∧ w1.cell? ⟨w.heap.size, 1, none⟩ = some c1 ∧ w1.cell? ⟨w.heap.size, 2, none⟩ = some c2 := by
  have h0 : w1.heap[w.heap.size]? = some (.cells #[c0, c1, c2] T (0, 0)) := (hb.block w.heap.size (by simp)).trans (heap_alloc_new _ _)
  exact ⟨cell_of_row w1 _ 0 _ _ _ h0, cell_of_row w1 _ 1 _ _ _ h0, cell_of_row w1 _ 2 _ _ _ h0⟩
def KeyPost (rs : List Val) (w : World) (e : Ending) (w' : World) : Prop :=
  Below w.heap.size w w' ∧ if rs.all vld = true then ∃ v', e = .returned (.tuple #[v', .bool true]) ∧ Own w' w.heap.size v' (keyR rs) else e = .returned (.tuple #[.slice none 0 0, .bool false])
set_option maxHeartbeats 800000 in
theorem key_any (v : Value) (rs : List Val) (w : World) (hv : Rw w v rs) (ho : ∀ x ∈ rs, x.OK ∧ x.s.length ≤ 1099511627776) (hl : rs.length ≤ 1073741824) :
    Calls Tryd.prog 10 #[v] w fun e w' => KeyPost rs w e w' := by
  obtain ⟨a, cap, rfl, hcap, hcells⟩ := hv
  have HC := Lib.hid hcells
  have HO := Lib.hid ho
  generalize hn : rs.length = n at *
  have HN := Lib.hid hn
  clear hcells ho hn
  go_enter Tryd.func10, Tryd.ntmps10
  go_wp2_with fail
  go_loopw [4, 9] (fun v4 i wr => ∃ k : Nat, k ≤ n ∧ i = .int .i64 k ∧ Own wr w.heap.size v4 (keyR (rs.take k)) ∧ Below w.heap.size w wr ∧ ∀ x ∈ rs.take k, vld x = true) (fun _ i _ => n - (intOf i).toNat)
  case atStart => exact ⟨0, Nat.zero_le _, rfl, Own.nil _ _, Below.refl _ _, fun x hx => by simp at hx⟩
  case round =>
    obtain ⟨k, hk, rfl, hown, hbw, hall⟩ := hrel
    have hsz := hbw.size
    have HOW := Lib.hid hown
    have HBW := Lib.hid hbw
    have HA := Lib.hid hall
    have hkl := keyR_len (rs.take k) hall
    have htl : (rs.take k).length ≤ k := List.length_take_le _ _
    clear hown hbw hall
    by_cases hlt : k < n
    · obtain ⟨b, off, rfl, hbw, hc⟩ := HC.out (by omega)
      obtain ⟨x, hx⟩ : ∃ x, rs[k]? = some x := ⟨_, List.getElem?_eq_getElem (by rw [HN.out]; exact hlt)⟩
      obtain ⟨c0, c1, c2⟩ := hc k x hx
      replace c0 := (HBW.out.cell (p := ⟨b, off + k * 3, none⟩) hbw).trans c0
      replace c1 := (HBW.out.cell (p := ⟨b, off + k * 3 + 1, none⟩) hbw).trans c1
      replace c2 := (HBW.out.cell (p := ⟨b, off + k * 3 + 2, none⟩) hbw).trans c2
      have HX := Lib.hid hx
      clear hc hx
      have hxm : x ∈ rs := List.mem_of_getElem? HX.out
      obtain ⟨hxo, hxl⟩ := HO.out x hxm
      have HXO := Lib.hid hxo
      clear hxm hxo
      cases hvx : vld x with
      | false =>
        have HV := Lib.hid hvx
        clear hvx
        go_wp2_with fail
        refine (valid_any x _ HXO.out hxl).mono ?_
        rintro e w1 ⟨rfl, hb1⟩
        rw [HV.out]
        have HB1 := Lib.hid (((Below.refl w.heap.size wr).alloc (by omega) _).trans (hb1.mono (by simp; omega)))
        clear hb1
        go_wp2_with fail
        go_ret2
        refine ⟨HBW.out.trans HB1.out, ?_⟩
        have hna : ¬ rs.all vld = true := fun h => by
          have := List.all_eq_true.1 h x (List.mem_of_getElem? HX.out)
          rw [HV.out] at this
          cases this
        rw [if_neg hna]
        rfl
      | true =>
        have HV := Lib.hid hvx
        clear hvx
        go_wp2_with fail
        refine (valid_any x _ HXO.out hxl).mono ?_
        rintro e w1 ⟨rfl, hb1⟩
        rw [HV.out]
        obtain ⟨q0, q1, q2⟩ := box_below hb1
        have HO1 := Lib.hid ((HOW.out.alloc _).below hb1 (Nat.le_refl _))
        have HB1 := Lib.hid (HBW.out.trans (((Below.refl w.heap.size wr).alloc (by omega) _).trans (hb1.mono (by simp; omega))))
        have hs1 := HB1.out.size
        clear hb1
        go_wp2_with fail
        refine (appendKey_any u4 (keyR (rs.take k)) x w.heap.size w1 HO1.out hs1 (by omega) HV.out HXO.out).mono ?_
        rintro e w2 ⟨v2, rfl, hown2, hb2⟩
        have HO2 := Lib.hid hown2
        have HB2 := Lib.hid hb2
        clear hown2 hb2
        go_wp2_with fail
        go_roundw
        case rel =>
          have ht := take_succ_vs rs k x HX.out
          refine ⟨k + 1, by omega, by go_num, HO2.out.eq ?_, HB1.out.trans HB2.out, fun y hy => ?_⟩
          · rw [ht, keyR_append]; simp [keyR]
          · rw [ht, List.mem_append] at hy
            rcases hy with hy | hy
            · exact HA.out y hy
            · rw [List.mem_singleton.1 hy]; exact HV.out
        case measure => simp [intOf]; omega
    · have hkn : n ≤ k := by omega
      have ht : rs.take k = rs := List.take_of_length_le (by rw [HN.out]; exact hkn)
      rw [ht] at HOW HA
      clear ht
      go_wp2_with fail
      go_ret2
      refine ⟨HBW.out, ?_⟩
      rw [if_pos (List.all_eq_true.2 HA.out)]
      exact ⟨_, rfl, HOW.out⟩
theorem Rw.one {w : World} {T : TypeId} (x : Val) {H : Nat} (hH : w.heap.size = H) : Rw (w.alloc (.cells #[.int .i64 x.k, .int .i64 x.n, .string (str x.s)] T)) (.slice (some ⟨H, 0, none⟩) 1 1) [x] := by
  subst hH
  refine ⟨some ⟨w.heap.size, 0, none⟩, 1, rfl, ⟨Nat.le_refl _, fun e => by cases e⟩, fun _ => ⟨w.heap.size, 0, rfl, by simp, fun i y hy => ?_⟩⟩
  match i, hy with
  | 0, hy =>
    simp only [List.getElem?_cons_zero, Option.some.injEq] at hy
    subst hy
    have h0 : (w.alloc (.cells #[.int .i64 x.k, .int .i64 x.n, .string (str x.s)] T)).heap[w.heap.size]? = some (.cells #[.int .i64 x.k, .int .i64 x.n, .string (str x.s)] T (0, 0)) := heap_alloc_new _ _
    exact ⟨cell_of_row _ _ 0 _ _ _ h0, cell_of_row _ _ 1 _ _ _ h0, cell_of_row _ _ 2 _ _ _ h0⟩
  | i + 1, hy => simp at hy
def ValuePost (x : Val) (w : World) (e : Ending) (w' : World) : Prop :=
  Below w.heap.size w w' ∧ if vld x = true then ∃ v' B, e = .returned (.tuple #[v', .bool true]) ∧ Own w' B v' (keyV x) else e = .returned (.tuple #[.slice none 0 0, .bool false])
theorem value_any (x : Val) (w : World) (ho : x.OK) (hl : x.s.length ≤ 1099511627776) : Calls Tryd.prog 13 #[vagg x] w fun e w' => ValuePost x w e w' := by
  have HO := Lib.hid ho
  clear ho
  unfold vagg
  go_enter Tryd.func13, Tryd.ntmps13
  go_wp2_with fail
  refine (key_any _ [x] _ (Rw.one (w := w.alloc _) x (H := w.heap.size + 1) (by simp)) (fun y hy => by rw [List.mem_singleton.1 hy]; exact ⟨HO.out, hl⟩) (by simp)).mono ?_
  rintro e w1 ⟨hb, hp⟩
  have HB := Lib.hid ((((Below.refl w.heap.size w).alloc (Nat.le_refl _) _).alloc (by simp) _).trans (hb.mono (by simp; omega)))
  clear hb
  cases hvx : vld x with
  | false =>
    rw [if_neg (by simp [hvx])] at hp
    obtain rfl := hp
    have HV := Lib.hid hvx
    clear hvx
    go_wp2_with fail
    go_ret2
    refine ⟨HB.out, ?_⟩
    rw [if_neg (by rw [HV.out]; simp)]
    rfl
  | true =>
    rw [if_pos (by simp [hvx])] at hp
    obtain ⟨v', rfl, hown⟩ := hp
    have HV := Lib.hid hvx
    have HOW := Lib.hid hown
    clear hvx hown
    go_wp2_with fail
    go_ret2
    refine ⟨HB.out, ?_⟩
    rw [if_pos HV.out]
    exact ⟨_, _, rfl, by simpa [keyR] using HOW.out⟩
end Go.Proofs.YtkajpcjmcpollaaDoor
