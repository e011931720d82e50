import Derived.Test.YtkajpcjmcpollaaDoorCode5
import Derived.WalkKit
import Derived.ProofKit
import Derived.BigQuiet
import Derived.Deep.QuietTactic
import Derived.WalkSpells
import Derived.WalkLawsBesides
import Derived.Lib.Hide
import Derived.Deep.MidRow
import Derived.Deep.RegionLaw
import Derived.BigRegion
import Derived.Lib.SlBytesConst
import Derived.Laws.AppendOwnNone
import Derived.Deep.DeepMust
import Derived.Deep.AppendLies
import Derived.RegionTactic
import Derived.Deep.WholeRow
import Derived.BigFrame
import Derived.Deep.RegionWith
import Derived.Deep.RegionHeld3
import Derived.Maps.RangeWalk
import Derived.Laws.CopyOwn
import Derived.StillTailTactics
namespace Go.Proofs.YtkajpcjmcpollaaDoor
open Go.RowKit
theorem zero32 (w : World) : (zeroValue 32).run Tryd.prog w = .ok (.agg #[.int .i64 0, .int .i64 0, .string ⟨#[]⟩]) w := by kernel_rfl
def oneRes : VR → Ending
  | .ok v u => .returned (.tuple #[vagg v, .int .i64 u, .int .i64 0])
  | .err e => .returned (.tuple #[.agg #[.int .i64 0, .int .i64 0, .string ⟨#[]⟩], .int .i64 0, .int .i64 e])
theorem one_1 {l : List Int} (h : l[0]?.getD 0 = 1) : one l = .ok ⟨0, 0, []⟩ 1 := by rw [one, if_pos h]
theorem one_2 {l : List Int} (h : l[0]?.getD 0 = 2) : one l = if l.length < 9 then .err 6 else .ok ⟨1, (beI ((l.drop 1).take 8) : Int) - 9223372036854775808, []⟩ 9 := by rw [one, if_neg (by omega), if_pos h]
theorem one_3 {l : List Int} (h : l[0]?.getD 0 = 3) : one l = (txt 0 (l.drop 1)).val := by rw [one, if_neg (by omega), if_neg (by omega), if_pos h]
theorem one_4 {l : List Int} (h : l[0]?.getD 0 = 4) : one l = if l.length < 2 then .err 6 else if (1 : Int) < l[1]?.getD 0 then .err 5 else .ok ⟨3, l[1]?.getD 0, []⟩ 2 := by rw [one, if_neg (by omega), if_neg (by omega), if_neg (by omega), if_pos h]
theorem one_5 {l : List Int} (h1 : l[0]?.getD 0 ≠ 1) (h2 : l[0]?.getD 0 ≠ 2) (h3 : l[0]?.getD 0 ≠ 3) (h4 : l[0]?.getD 0 ≠ 4) : one l = .err 5 := by rw [one, if_neg h1, if_neg h2, if_neg h3, if_neg h4]
theorem txt_err : ∀ {l : List Int} {m : Nat} {e : Int}, txt m l = .err e → e = 5 ∨ e = 6
  | [], m, e, h => by simp [txt] at h; exact .inr h.symm
  | [x], m, e, h => by
    rw [txt_cons] at h
    by_cases h0 : x = 0
    · simp [h0] at h; exact .inr h.symm
    · rw [if_neg h0] at h
      by_cases h64 : m = 64
      · simp [h64] at h; exact .inl h.symm
      · simp [h64, txt, TR.push] at h; exact .inr h.symm
  | x :: y :: r, m, e, h => by
    rw [txt_cons] at h
    by_cases h0 : x = 0
    · rw [if_pos h0] at h
      simp only at h
      by_cases h1 : y = 1
      · rw [if_pos h1] at h; cases h
      · rw [if_neg h1] at h
        by_cases h2 : y = 255
        · rw [if_pos h2] at h
          by_cases h64 : m = 64
          · simp [h64] at h; exact .inl h.symm
          · rw [if_neg h64] at h
            cases ht : txt (m + 1) r with
            | ok s u => rw [ht] at h; cases h
            | err e2 =>
              rw [ht] at h
              simp only [TR.push, TR.err.injEq] at h
              subst h
              exact txt_err ht
        · rw [if_neg h2] at h; simp at h; exact .inl h.symm
    · rw [if_neg h0] at h
      by_cases h64 : m = 64
      · simp [h64] at h; exact .inl h.symm
      · rw [if_neg h64] at h
        cases ht : txt (m + 1) (y :: r) with
        | ok s u => rw [ht] at h; cases h
        | err e2 =>
          rw [ht] at h
          simp only [TR.push, TR.err.injEq] at h
          subst h
          exact txt_err ht
theorem frozen_below {w w1 : World} {cs : Array Value} {T : TypeId} (hb : Below (w.alloc (.cells cs T)).heap.size (w.alloc (.cells cs T)) w1) (i : Nat) : w1.frozen? ⟨w.heap.size, i, none⟩ = false :=
  frozen_of_row w1 _ i cs T ((hb.block w.heap.size (by simp)).trans (heap_alloc_new _ _))
theorem tail_slice (b off cap : Nat) : ∃ A : Addr, (if cap = 1 then some (⟨b, off, none⟩ : Addr) else some ⟨b, off + 1, none⟩) = some A ∧ (1 < cap → A = ⟨b, off + 1, none⟩) := by
  by_cases h8 : cap = 1
  · exact ⟨⟨b, off, none⟩, by simp [h8], fun h' => by omega⟩
  · exact ⟨⟨b, off + 1, none⟩, by simp [h8], fun _ => rfl⟩
set_option maxHeartbeats 1600000 in
theorem firstValue_any (v : Value) (l : List Int) (w : World) (hv : Bs w v l) (hr : Rng l) (h1 : 1 ≤ l.length) (hl : l.length ≤ 1099511627776) :
    Calls Tryd.prog 27 #[v] w fun e w' => e = oneRes (one l) ∧ Below w.heap.size w w' := by
  have hz := zero32
  obtain ⟨a, cap, rfl, hcap, hcells⟩ := hv
  obtain ⟨b, off, rfl, hbw, hc⟩ := hcells (by omega)
  obtain ⟨A, hA, hA2⟩ := tail_slice b off cap
  have c0 := hc 0 (by omega)
  rw [Nat.add_zero] at c0
  have hx := hr.get 0
  have hBs : Bs w (.slice (some A) (l.length - 1) (cap - 1)) (l.drop 1) := by
    refine ⟨some A, cap - 1, by rw [List.length_drop], ⟨by rw [List.length_drop]; omega, fun e => by cases e⟩, fun h0 => ?_⟩
    rw [List.length_drop] at h0
    refine ⟨b, off + 1, by rw [hA2 (by omega)], hbw, fun i hi => ?_⟩
    rw [List.length_drop] at hi
    rw [List.getElem?_drop, Nat.add_assoc]
    exact hc (1 + i) (by omega)
  have HBS := Lib.hid hBs
  have hl1 : (l.drop 1).length = l.length - 1 := List.length_drop
  have HL1 := Lib.hid hl1
  have hrd := hr.drop 1
  generalize hX : l[0]?.getD 0 = x at *
  have HX := Lib.hid hX
  generalize hn : l.length = n at *
  have HN := Lib.hid hn
  have hcn : 1 ≤ cap := by omega
  clear hcells hc hBs hA2 hX hl1 hn
  by_cases x1 : x = 1
  · subst x1
    have HO := Lib.hid (one_1 HX.out)
    clear HX
    go_enter Tryd.func27, Tryd.ntmps27
    go_wp2_with (go_at_call 35; refine (tag_any _ _ (by omega) (by omega)).mono ?_; rintro e w' ⟨rfl, rfl⟩)
    refine bodyPost_ret (v := .tuple #[.agg #[.int .i64 0, .int .i64 0, .string ⟨#[]⟩], .int .i64 1, .int .i64 0]) (by simp [results, Tryd.results27, go_sem]) rfl ⟨?_, ?_⟩
    · rw [HO.out]; rfl
    · exact (Below.refl _ _).alloc (Nat.le_refl _) _
  by_cases x2 : x = 2
  · subst x2
    have HO := Lib.hid (one_2 HX.out)
    rw [HN.out] at HO
    clear HX x1
    by_cases h9 : n < 9
    · rw [if_pos h9] at HO
      have hres := firstInt_any (.slice (some A) (n - 1) (cap - 1)) (l.drop 1) (w.alloc (.cells #[.int .i64 1, .int .i64 0, .string ⟨#[]⟩] 32)) (HBS.out.below ((Below.refl _ _).alloc (Nat.le_refl _) _)) hrd (by rw [HL1.out]; omega)
      rw [intRes, if_pos (by rw [HL1.out]; omega)] at hres
      have HR := Lib.hid hres
      clear hres
      go_enter Tryd.func27, Tryd.ntmps27
      go_wp2_with (first
          | (go_at_call 35; refine (tag_any _ _ (by omega) (by omega)).mono ?_; rintro e w' ⟨rfl, rfl⟩)
          | (go_at_call 37; refine HR.out.mono ?_; rintro e w' ⟨rfl, rfl⟩))
      refine bodyPost_ret (v := .tuple #[.agg #[.int .i64 0, .int .i64 0, .string ⟨#[]⟩], .int .i64 0, .int .i64 6]) (by simp [results, Tryd.results27, go_sem]) rfl ⟨?_, ?_⟩
      · rw [HO.out]; rfl
      · exact (Below.refl _ _).alloc (Nat.le_refl _) _
    · rw [if_neg h9] at HO
      have hres := firstInt_any (.slice (some A) (n - 1) (cap - 1)) (l.drop 1) (w.alloc (.cells #[.int .i64 1, .int .i64 0, .string ⟨#[]⟩] 32)) (HBS.out.below ((Below.refl _ _).alloc (Nat.le_refl _) _)) hrd (by rw [HL1.out]; omega)
      rw [intRes, if_neg (by rw [HL1.out]; omega)] at hres
      have HR := Lib.hid hres
      clear hres
      generalize (beI ((l.drop 1).take 8) : Int) - 9223372036854775808 = N at *
      go_enter Tryd.func27, Tryd.ntmps27
      go_wp2_with (first
          | (go_at_call 35; refine (tag_any _ _ (by omega) (by omega)).mono ?_; rintro e w' ⟨rfl, rfl⟩)
          | (go_at_call 37; refine HR.out.mono ?_; rintro e w' ⟨rfl, rfl⟩))
      refine bodyPost_ret (v := .tuple #[.agg #[.int .i64 1, .int .i64 N, .string ⟨#[]⟩], .int .i64 9, .int .i64 0]) (by simp [results, Tryd.results27, go_sem]) rfl ⟨?_, ?_⟩
      · rw [HO.out]; rfl
      · exact (Below.refl _ _).alloc (Nat.le_refl _) _
  by_cases x3 : x = 3
  · subst x3
    have HO := Lib.hid (one_3 HX.out)
    clear HX x1 x2
    have hres := firstText_any (.slice (some A) (n - 1) (cap - 1)) (l.drop 1) (w.alloc (.cells #[.int .i64 2, .int .i64 0, .string ⟨#[]⟩] 32)) (HBS.out.below ((Below.refl _ _).alloc (Nat.le_refl _) _)) hrd (by rw [HL1.out]; omega)
    cases ht : txt 0 (l.drop 1) with
    | err e2 =>
      rw [ht] at hres HO
      simp only [txtRes] at hres
      have HR := Lib.hid hres
      have HE := Lib.hid (txt_err ht)
      have he0 : (e2 != 0) = true := by rcases HE.out with h | h <;> rw [h] <;> decide
      clear hres ht
      go_enter Tryd.func27, Tryd.ntmps27
      go_wp2_with (first
        | (go_at_call 35; refine (tag_any _ _ (by omega) (by omega)).mono ?_; rintro e w' ⟨rfl, rfl⟩)
        | (go_at_call 38; refine HR.out.mono ?_; rintro e w1 ⟨rfl, hb1⟩; obtain ⟨q0, q1, q2⟩ := box_below hb1; have hfz := frozen_below hb1; have HB1 := Lib.hid (((Below.refl w.heap.size w).alloc (Nat.le_refl _) _).trans (hb1.mono (by simp))); clear hb1))
      refine bodyPost_ret (v := .tuple #[.agg #[.int .i64 0, .int .i64 0, .string ⟨#[]⟩], .int .i64 0, .int .i64 e2]) (by simp [results, Tryd.results27, go_sem, q0, q1, q2]) rfl ⟨?_, ?_⟩
      · rw [HO.out]; rfl
      · exact (((HB1.out.setCell (Nat.le_refl _) _).setCell (Nat.le_refl _) _).setCell (Nat.le_refl _) _).setCell (Nat.le_refl _) _
    | ok t u =>
      rw [ht] at hres HO
      simp only [txtRes] at hres
      have HR := Lib.hid hres
      have hu := (txt_back _ 0 _ _ (by omega) ht).2.1
      have hu2 : u ≤ n := by have := hu; rw [HL1.out] at this; omega
      clear hres ht hu
      go_enter Tryd.func27, Tryd.ntmps27
      go_wp2_with (first
        | (go_at_call 35; refine (tag_any _ _ (by omega) (by omega)).mono ?_; rintro e w' ⟨rfl, rfl⟩)
        | (go_at_call 38; refine HR.out.mono ?_; rintro e w1 ⟨rfl, hb1⟩; obtain ⟨q0, q1, q2⟩ := box_below hb1; have hfz := frozen_below hb1; have HB1 := Lib.hid (((Below.refl w.heap.size w).alloc (Nat.le_refl _) _).trans (hb1.mono (by simp))); clear hb1))
      refine bodyPost_ret (v := .tuple #[.agg #[.int .i64 2, .int .i64 0, .string (str t)], .int .i64 (1 + u), .int .i64 0]) (by simp [results, Tryd.results27, go_sem, q0, q1, q2]) rfl ⟨?_, ?_⟩
      · rw [HO.out]; rfl
      · exact (((HB1.out.setCell (Nat.le_refl _) _).setCell (Nat.le_refl _) _).setCell (Nat.le_refl _) _).setCell (Nat.le_refl _) _
  by_cases x4 : x = 4
  · subst x4
    have HO := Lib.hid (one_4 HX.out)
    rw [HN.out] at HO
    clear HX x1 x2 x3
    have hd0 : (l.drop 1)[0]?.getD 0 = l[1]?.getD 0 := by rw [List.getElem?_drop]
    by_cases h9 : n < 2
    · rw [if_pos h9] at HO
      have hres := firstBool_any (.slice (some A) (n - 1) (cap - 1)) (l.drop 1) (w.alloc (.cells #[.int .i64 3, .int .i64 0, .string ⟨#[]⟩] 32)) (HBS.out.below ((Below.refl _ _).alloc (Nat.le_refl _) _)) hrd (by rw [HL1.out]; omega)
      rw [boolRes, if_pos (by rw [HL1.out]; omega)] at hres
      have HR := Lib.hid hres
      clear hres
      clear hd0
      go_enter Tryd.func27, Tryd.ntmps27
      go_wp2_with (first
          | (go_at_call 35; refine (tag_any _ _ (by omega) (by omega)).mono ?_; rintro e w' ⟨rfl, rfl⟩)
          | (go_at_call 39; refine HR.out.mono ?_; rintro e w' ⟨rfl, rfl⟩))
      refine bodyPost_ret (v := .tuple #[.agg #[.int .i64 0, .int .i64 0, .string ⟨#[]⟩], .int .i64 0, .int .i64 6]) (by simp [results, Tryd.results27, go_sem]) rfl ⟨?_, ?_⟩
      · rw [HO.out]; rfl
      · exact (Below.refl _ _).alloc (Nat.le_refl _) _
    · rw [if_neg h9] at HO
      have hres := firstBool_any (.slice (some A) (n - 1) (cap - 1)) (l.drop 1) (w.alloc (.cells #[.int .i64 3, .int .i64 0, .string ⟨#[]⟩] 32)) (HBS.out.below ((Below.refl _ _).alloc (Nat.le_refl _) _)) hrd (by rw [HL1.out]; omega)
      rw [boolRes, if_neg (by rw [HL1.out]; omega), hd0] at hres
      have HR := Lib.hid hres
      clear hres
      have hy := hr.get 1
      generalize l[1]?.getD 0 = y at *
      clear hd0
      by_cases h5 : 1 < y
      · rw [if_pos h5] at HO HR
        go_enter Tryd.func27, Tryd.ntmps27
        go_wp2_with (first
          | (go_at_call 35; refine (tag_any _ _ (by omega) (by omega)).mono ?_; rintro e w' ⟨rfl, rfl⟩)
          | (go_at_call 39; refine HR.out.mono ?_; rintro e w' ⟨rfl, rfl⟩))
        refine bodyPost_ret (v := .tuple #[.agg #[.int .i64 0, .int .i64 0, .string ⟨#[]⟩], .int .i64 0, .int .i64 5]) (by simp [results, Tryd.results27, go_sem]) rfl ⟨?_, ?_⟩
        · rw [HO.out]; rfl
        · exact (Below.refl _ _).alloc (Nat.le_refl _) _
      · rw [if_neg h5] at HO HR
        go_enter Tryd.func27, Tryd.ntmps27
        go_wp2_with (first
          | (go_at_call 35; refine (tag_any _ _ (by omega) (by omega)).mono ?_; rintro e w' ⟨rfl, rfl⟩)
          | (go_at_call 39; refine HR.out.mono ?_; rintro e w' ⟨rfl, rfl⟩))
        refine bodyPost_ret (v := .tuple #[.agg #[.int .i64 3, .int .i64 y, .string ⟨#[]⟩], .int .i64 2, .int .i64 0]) (by simp [results, Tryd.results27, go_sem]) rfl ⟨?_, ?_⟩
        · rw [HO.out]; rfl
        · exact (Below.refl _ _).alloc (Nat.le_refl _) _
  · have HO := Lib.hid (one_5 (by rw [HX.out]; exact x1) (by rw [HX.out]; exact x2) (by rw [HX.out]; exact x3) (by rw [HX.out]; exact x4))
    have y1 : (x == 1) = false := by simpa using x1
    have y2 : (x == 2) = false := by simpa using x2
    have y3 : (x == 3) = false := by simpa using x3
    have y4 : (x == 4) = false := by simpa using x4
    clear HX x1 x2 x3 x4
    go_enter Tryd.func27, Tryd.ntmps27
    go_wp2_with (go_at_call 35; refine (tag_any _ _ (by omega) (by omega)).mono ?_; rintro e w' ⟨rfl, rfl⟩)
    refine bodyPost_ret (v := .tuple #[.agg #[.int .i64 0, .int .i64 0, .string ⟨#[]⟩], .int .i64 0, .int .i64 5]) (by simp [results, Tryd.results27, go_sem]) rfl ⟨?_, ?_⟩
    · rw [HO.out]; rfl
    · exact (Below.refl _ _).alloc (Nat.le_refl _) _
end Go.Proofs.YtkajpcjmcpollaaDoor
