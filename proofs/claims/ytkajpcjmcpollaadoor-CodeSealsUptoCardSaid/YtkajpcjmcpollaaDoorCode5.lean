import Derived.Test.YtkajpcjmcpollaaDoorCode4
import Derived.WalkKit
import Derived.ProofKit
import Derived.BigQuiet
import Derived.Deep.QuietTactic
import Derived.WalkSpells
import Derived.WalkLawsBesides
import Derived.Lib.Hide
import Derived.Deep.MidRow
import Derived.Deep.RegionLaw
import Derived.BigRegion
import Derived.Lib.SlBytesConst
import Derived.Laws.AppendOwnNone
import Derived.Deep.DeepMust
import Derived.Deep.AppendLies
import Derived.RegionTactic
import Derived.Deep.WholeRow
import Derived.BigFrame
import Derived.Deep.RegionWith
import Derived.Deep.RegionHeld3
import Derived.Maps.RangeWalk
import Derived.Laws.CopyOwn
import Derived.StillTailTactics
namespace Go.Proofs.YtkajpcjmcpollaaDoor
open Go.RowKit
attribute [local go_sem ↓] convC_eq
theorem conv_bs {u : World} {v : Value} {l : List Int} (h : Bs u v l) : (convC v).run Tryd.prog u = .ok (.string (str l)) u := by
  have h1 := h.hasBytes
  have h2 := h.str
  obtain ⟨a, cap, rfl, _⟩ := h
  rw [run_convC u _ _ _ h1, h2]
set_option maxHeartbeats 400000 in
theorem number_any (v : Value) (l : List Int) (w : World) (hv : Bs w v l) (hr : Rng l) (h8 : 8 ≤ l.length) (hl : l.length ≤ 1099511627776) :
    Calls Tryd.prog 32 #[v] w fun e w' => w = w' ∧ e = .returned (.int .u64 (beI (l.take 8))) := by
  obtain ⟨a, cap, rfl, hcap, hcells⟩ := hv
  obtain ⟨b, off, rfl, hbw, hc⟩ := hcells (by omega)
  have HC := Lib.hid hc
  have HR := Lib.hid hr
  have hcap8 : 8 ≤ cap := by omega
  clear hc hr hcells
  generalize hn : l.length = n at *
  have HN := Lib.hid hn
  clear hn
  go_enter Tryd.func32, Tryd.ntmps32
  go_wp2_with fail
  go_loop [3, 9] (fun t i => ∃ k : Nat, k ≤ 8 ∧ i = .int .i64 k ∧ t = .int .u64 (beI (l.take k))) (fun _ i => 8 - (intOf i).toNat)
  case atStart => exact ⟨0, Nat.zero_le _, rfl, rfl⟩
  case round =>
    obtain ⟨k, hk, rfl, rfl⟩ := hrel
    by_cases hlt : k < 8
    · have hce := HC.out k (by omega)
      have HST := Lib.hid (be_step l HR.out k hlt (by rw [HN.out]; omega))
      go_wp2
      go_round
      case rel => exact ⟨k + 1, by omega, by go_num, by rw [HST.out]⟩
      case measure => simp [intOf]; omega
    · have hk8 : 8 ≤ k := by omega
      have hk8' : k = 8 := by omega
      have HK := Lib.hid hk8'
      clear hlt hk8'
      go_wp2
      go_ret
      rw [HK.out]
      exact ⟨rfl, rfl⟩
def intRes (l : List Int) : Ending := if l.length < 8 then .returned (.tuple #[.int .i64 0, .int .i64 0, .int .i64 6]) else .returned (.tuple #[.int .i64 ((beI (l.take 8) : Int) - 9223372036854775808), .int .i64 8, .int .i64 0])
theorem firstInt_any (v : Value) (l : List Int) (w : World) (hv : Bs w v l) (hr : Rng l) (hl : l.length ≤ 1099511627776) :
    Calls Tryd.prog 37 #[v] w fun e w' => w = w' ∧ e = intRes l := by
  have HV := Lib.hid hv
  obtain ⟨a, cap, rfl, hcap, hcells⟩ := hv
  clear hcells
  by_cases h8 : l.length < 8
  · go_enter Tryd.func37, Tryd.ntmps37
    go_wp2_with fail
    go_ret3
    exact ⟨rfl, by rw [intRes, if_pos h8]; rfl⟩
  · have hb := beI_lt (l.take 8) (hr.take 8)
    rw [show (l.take 8).length = 8 by rw [List.length_take]; omega] at hb
    go_enter Tryd.func37, Tryd.ntmps37
    go_wp2_with (go_at_call 32; refine (number_any _ l _ HV.out hr (by omega) hl).mono ?_; rintro e w' ⟨rfl, rfl⟩)
    go_ret3
    refine ⟨rfl, ?_⟩
    rw [intRes, if_neg h8]
    have e1 : wrap64 (IntKind.u64.wrap ((beI (l.take 8) : Int) - 9223372036854775808)) = (beI (l.take 8) : Int) - 9223372036854775808 := by
      rw [IntKind.wrap_u64]
      generalize beI (l.take 8) = N at *
      unfold wrap64
      omega
    show Ending.returned (.tuple #[.int .i64 (wrap64 (IntKind.u64.wrap ((beI (l.take 8) : Int) - 9223372036854775808))), .int .i64 8, .int .i64 0]) = _
    rw [e1]
def boolRes (l : List Int) : Ending := if l.length < 1 then .returned (.tuple #[.int .i64 0, .int .i64 0, .int .i64 6]) else if (1 : Int) < l[0]?.getD 0 then .returned (.tuple #[.int .i64 0, .int .i64 0, .int .i64 5]) else .returned (.tuple #[.int .i64 (l[0]?.getD 0), .int .i64 1, .int .i64 0])
theorem firstBool_any (v : Value) (l : List Int) (w : World) (hv : Bs w v l) (hr : Rng l) (hl : l.length ≤ 1099511627776) :
    Calls Tryd.prog 39 #[v] w fun e w' => w = w' ∧ e = boolRes l := by
  obtain ⟨a, cap, rfl, hcap, hcells⟩ := hv
  by_cases h1 : l.length < 1
  · have h0 : l.length = 0 := by omega
    go_enter Tryd.func39, Tryd.ntmps39
    go_wp2_with fail
    go_ret3
    exact ⟨rfl, by rw [boolRes, if_pos h1]; rfl⟩
  · obtain ⟨b, off, rfl, hbw, hc⟩ := hcells (by omega)
    have c0 := hc 0 (by omega)
    rw [Nat.add_zero] at c0
    have hx := hr.get 0
    have HB := Lib.hid (show boolRes l = _ from by unfold boolRes; rw [if_neg h1])
    generalize l[0]?.getD 0 = x at *
    clear hc hcells
    by_cases h2 : 1 < x
    · rw [if_pos h2] at HB
      go_enter Tryd.func39, Tryd.ntmps39
      go_wp2_with fail
      go_ret3
      exact ⟨rfl, by rw [HB.out]; rfl⟩
    · rw [if_neg h2] at HB
      go_enter Tryd.func39, Tryd.ntmps39
      go_wp2_with fail
      go_ret3
      exact ⟨rfl, by rw [HB.out]; rfl⟩
def TR.app (c : List Int) (k : Nat) : TR → TR
  | .ok s u => .ok (c ++ s) (k + u)
  | .err e => .err e
theorem TR.app_nil (r : TR) : TR.app [] 0 r = r := by cases r <;> simp [TR.app]
theorem TR.app_push (c : List Int) (k : Nat) (x : Int) (j : Nat) (r : TR) : TR.app c k (r.push x j) = TR.app (c ++ [x]) (k + j) r := by
  cases r <;> simp [TR.app, TR.push, Nat.add_assoc]
theorem drop_at {l : List Int} {k : Nat} (h : k < l.length) : l.drop k = l[k]?.getD 0 :: l.drop (k + 1) := by
  rw [List.drop_eq_getElem_cons h, List.getElem?_eq_getElem h]; rfl
/-- the text's loop: c behind it, at k -/
def TI (l : List Int) (c : List Int) (k : Nat) : Prop := txt 0 l = TR.app c k (txt c.length (l.drop k)) ∧ c.length ≤ 64
theorem TI.start (l : List Int) : TI l [] 0 := ⟨by rw [TR.app_nil]; rfl, by simp⟩
theorem TI.one {l c : List Int} {k : Nat} (h : TI l c k) (hk : k < l.length) (hx : l[k]?.getD 0 ≠ 0) (h64 : c.length ≠ 64) : TI l (c ++ [l[k]?.getD 0]) (k + 1) := by
  obtain ⟨h, hc⟩ := h
  rw [drop_at hk, txt_cons, if_neg hx, if_neg h64, TR.app_push] at h
  exact ⟨by rw [h]; simp, by simp; omega⟩
theorem TI.one64 {l c : List Int} {k : Nat} (h : TI l c k) (hk : k < l.length) (hx : l[k]?.getD 0 ≠ 0) (h64 : c.length = 64) : txt 0 l = .err 5 := by
  obtain ⟨h, hc⟩ := h
  rw [drop_at hk, txt_cons, if_neg hx, if_pos h64] at h
  exact h
theorem TI.last {l c : List Int} {k : Nat} (h : TI l c k) (hk : k < l.length) (hx : l[k]?.getD 0 = 0) (hk1 : k + 1 = l.length) : txt 0 l = .err 6 := by
  obtain ⟨h, hc⟩ := h
  rw [drop_at hk, txt_cons, if_pos hx, List.drop_of_length_le (by omega)] at h
  exact h
theorem TI.zero {l c : List Int} {k : Nat} (h : TI l c k) (hk : k < l.length) (hx : l[k]?.getD 0 = 0) (hk1 : k + 1 < l.length) :
    txt 0 l = TR.app c k (if l[k + 1]?.getD 0 = 1 then .ok [] 2 else if l[k + 1]?.getD 0 = 255 then (if c.length = 64 then .err 5 else (txt (c.length + 1) (l.drop (k + 2))).push 0 2) else .err 5) := by
  obtain ⟨h, hc⟩ := h
  rw [drop_at hk, txt_cons, if_pos hx, drop_at hk1] at h
  exact h
theorem TI.fin {l c : List Int} {k : Nat} (h : TI l c k) (hk : l.length ≤ k) : txt 0 l = .err 6 := by
  obtain ⟨h, hc⟩ := h
  rw [List.drop_of_length_le hk] at h
  exact h
theorem TI.two {l c : List Int} {k : Nat} (h : TI l c k) (hk : k < l.length) (hx : l[k]?.getD 0 = 0) (hk1 : k + 1 < l.length) (hy : l[k + 1]?.getD 0 = 255) (h64 : c.length ≠ 64) : TI l (c ++ [0]) (k + 2) := by
  have h1 := h.zero hk hx hk1
  have hc := h.2
  rw [if_neg (by rw [hy]; decide), if_pos hy, if_neg h64, TR.app_push] at h1
  exact ⟨by rw [h1]; simp, by simp; omega⟩
def txtRes : TR → Ending
  | .ok s u => .returned (.tuple #[.string (str s), .int .i64 u, .int .i64 0])
  | .err e => .returned (.tuple #[.string ⟨#[]⟩, .int .i64 0, .int .i64 e])
set_option maxHeartbeats 1600000 in
theorem firstText_any (v : Value) (l : List Int) (w : World) (hv : Bs w v l) (hr : Rng l) (hl : l.length ≤ 1099511627776) :
    Calls Tryd.prog 38 #[v] w fun e w' => e = txtRes (txt 0 l) ∧ Below w.heap.size w w' := by
  obtain ⟨a, cap, rfl, hcap, hcells⟩ := hv
  have HC := Lib.hid hcells
  clear hcells
  generalize hn : l.length = n at *
  have HN := Lib.hid hn
  clear hn
  go_enter Tryd.func38, Tryd.ntmps38
  go_wp2_with fail
  go_loopw [5, 6] (fun v5 i wr => ∃ (k : Nat) (c : List Int), k ≤ n ∧ i = .int .i64 k ∧ Own wr w.heap.size v5 c ∧ Below w.heap.size w wr ∧ Hid (TI l c k) ∧ c.length ≤ 64) (fun _ i _ => n - (intOf i).toNat)
  case atStart => exact ⟨0, [], Nat.zero_le _, rfl, Own.nil _ _, Below.refl _ _, Lib.hid (TI.start l), by simp⟩
  case round =>
    obtain ⟨k, c, hk, rfl, hown, hbw, hti, hc64⟩ := hrel
    have hsz := hbw.size
    have HOW := Lib.hid hown
    have HBW := Lib.hid hbw
    clear hbw
    obtain ⟨ca, cc, rfl, _, _⟩ := hown.bs
    clear hown
    by_cases hlt : k < n
    · obtain ⟨b, off, rfl, hb, hce⟩ := HC.out (by omega)
      have ck := (HBW.out.cell (p := ⟨b, off + k, none⟩) hb).trans (hce k hlt)
      have hx := hr.get k
      by_cases h0 : l[k]?.getD 0 = 0
      · have H0 := Lib.hid h0
        rw [h0] at ck
        clear h0 hx
        by_cases hk1 : k + 1 = n
        · have hres := hti.out.last (by rw [HN.out]; exact hlt) H0.out (by rw [HN.out]; exact hk1)
          have HRES := Lib.hid hres
          have hk2 : (k : Int) + 1 = (n : Int) := by omega
          clear hres hce
          go_wp2_with fail
          go_ret3
          exact ⟨by rw [HRES.out]; rfl, HBW.out⟩
        · have hk2 : k + 1 < n := by omega
          have hk3 : ((k : Int) + 1 == (n : Int)) = false := by simp; omega
          have ck1 := (HBW.out.cell (p := ⟨b, off + (k + 1), none⟩) hb).trans (hce (k + 1) hk2)
          have hy := hr.get (k + 1)
          have HZ := Lib.hid (hti.out.zero (by rw [HN.out]; exact hlt) H0.out (by rw [HN.out]; exact hk2))
          have HT := Lib.hid (fun hy h64 => hti.out.two (by rw [HN.out]; exact hlt) H0.out (by rw [HN.out]; exact hk2) hy h64)
          generalize hY : l[k + 1]?.getD 0 = y at *
          clear hce hti hY
          by_cases h1 : y = 1
          · subst h1
            have hcv := conv_bs HOW.out.bs
            go_wp2_with fail
            go_ret3
            simp only [if_true] at HZ
            refine ⟨by rw [HZ.out]; simp only [TR.app, List.append_nil, txtRes]; rfl, HBW.out⟩
          · have h1' : (y == 1) = false := by simpa using h1
            rw [if_neg h1] at HZ
            by_cases h2 : y = 255
            · subst h2
              rw [if_pos rfl] at HZ
              by_cases h64 : c.length = 64
              · rw [if_pos h64] at HZ
                have h64' : (c.length : Int) = 64 := by omega
                go_wp2_with fail
                go_ret3
                exact ⟨by rw [HZ.out]; rfl, HBW.out⟩
              · have h64' : ((c.length : Int) == 64) = false := by simp; omega
                have HT2 := Lib.hid (HT.out rfl h64)
                clear HT HZ
                go_wp2_with (at_builtin; refine wpList_append_Own rfl (Operand.tmp 43) (Operand.tmp 45) rfl w.heap.size _ c rfl (HOW.out.alloc _) _ [0] rfl (lit_bs2 wr _ [_] _ 1 1 rfl (Nat.le_refl 1) _ rfl) (by simp; omega) (by simp; omega) ?_; intro v1 w1 hown1 hb1; have HO1 := Lib.hid hown1; have HB1 := Lib.hid hb1; clear hown1 hb1)
                go_roundw
                case rel => exact ⟨k + 2, c ++ [0], by omega, by go_num, HO1.out, (HBW.out.alloc (by omega) _).trans HB1.out, HT2, by simp; omega⟩
                case measure => simp [intOf]; omega
            · have h2' : (y != 255) = true := by simpa using h2
              rw [if_neg h2] at HZ
              go_wp2_with fail
              go_ret3
              exact ⟨by rw [HZ.out]; rfl, HBW.out⟩
      · have h0' : (l[k]?.getD 0 == 0) = false := by simpa using h0
        have H1 := Lib.hid (fun h64 => hti.out.one (by rw [HN.out]; exact hlt) h0 h64)
        have H2 := Lib.hid (fun h64 => hti.out.one64 (by rw [HN.out]; exact hlt) h0 h64)
        generalize l[k]?.getD 0 = x at *
        clear hce hti h0
        by_cases h64 : c.length = 64
        · have h64' : (c.length : Int) = 64 := by omega
          have HZ := Lib.hid (H2.out h64)
          clear H1 H2
          go_wp2_with fail
          go_ret3
          exact ⟨by rw [HZ.out]; rfl, HBW.out⟩
        · have h64' : ((c.length : Int) == 64) = false := by simp; omega
          have HT2 := Lib.hid (H1.out h64)
          clear H1 H2
          go_wp2_with (at_builtin; refine wpList_append_Own rfl (Operand.tmp 43) (Operand.tmp 45) rfl w.heap.size _ c rfl (HOW.out.alloc _) _ [x] rfl (lit_bs2 wr _ [_] _ 1 1 rfl (Nat.le_refl 1) _ rfl) (by simp; omega) (by simp; omega) ?_; intro v1 w1 hown1 hb1; have HO1 := Lib.hid hown1; have HB1 := Lib.hid hb1; clear hown1 hb1)
          go_roundw
          case rel => exact ⟨k + 1, c ++ [x], by omega, by go_num, HO1.out, (HBW.out.alloc (by omega) _).trans HB1.out, HT2, by simp; omega⟩
          case measure => simp [intOf]; omega
    · have hkn : n ≤ k := by omega
      have HZ := Lib.hid (hti.out.fin (by rw [HN.out]; exact hkn))
      clear hti hlt
      go_wp2_with fail
      go_ret3
      exact ⟨by rw [HZ.out]; rfl, HBW.out⟩
end Go.Proofs.YtkajpcjmcpollaaDoor
