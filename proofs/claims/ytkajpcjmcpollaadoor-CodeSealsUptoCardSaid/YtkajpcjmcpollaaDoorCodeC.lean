import Derived.Test.YtkajpcjmcpollaaDoorCodeB
import Derived.WalkKit
import Derived.ProofKit
import Derived.BigQuiet
import Derived.Deep.QuietTactic
import Derived.WalkSpells
import Derived.WalkLawsBesides
import Derived.Lib.Hide
import Derived.Deep.MidRow
import Derived.Deep.RegionLaw
import Derived.BigRegion
import Derived.Lib.SlBytesConst
import Derived.Laws.AppendOwnNone
import Derived.Deep.DeepMust
import Derived.Deep.AppendLies
import Derived.RegionTactic
import Derived.Deep.WholeRow
import Derived.BigFrame
import Derived.Deep.RegionWith
import Derived.Deep.RegionHeld3
import Derived.Maps.RangeWalk
import Derived.Laws.CopyOwn
import Derived.StillTailTactics
namespace Go.Proofs.YtkajpcjmcpollaaDoor
open Go.RowKit
attribute [local go_sem ↓] eql32_eq neq32_eq
theorem less_str : ∀ (s t : List Int), Rng s → Rng t → Op.bytesLess (str s).toList (str t).toList = decide (cmpI s t = -1) := by
  have key : ∀ (s t : List Int), Rng s → Rng t → Op.bytesLess (s.map fun x => UInt8.ofNat x.toNat) (t.map fun x => UInt8.ofNat x.toNat) = decide (cmpI s t = -1) := by
    intro s
    induction s with
    | nil => intro t _ _; cases t <;> simp [Op.bytesLess, cmpI]
    | cons x s ih =>
      intro t hs ht
      cases t with
      | nil => simp [Op.bytesLess, cmpI]
      | cons y t =>
        have hx := hs x (by simp)
        have hy := ht y (by simp)
        have h1 : (UInt8.ofNat x.toNat < UInt8.ofNat y.toNat) ↔ x < y := by
          rw [UInt8.lt_iff_toNat_lt, UInt8.toNat_ofNat', UInt8.toNat_ofNat']; omega
        have h2 : (UInt8.ofNat x.toNat = UInt8.ofNat y.toNat) ↔ x = y := by
          rw [← UInt8.toNat_inj, UInt8.toNat_ofNat', UInt8.toNat_ofNat']; omega
        have ih2 := ih t (fun z hz => hs z (by simp [hz])) (fun z hz => ht z (by simp [hz]))
        simp only [List.map_cons, Op.bytesLess, cmpI, ih2]
        by_cases a : x < y
        · simp [h1, a]
        · by_cases b : x = y
          · subst b; simp
          · have c : y < x := by omega
            simp [h1, h2, a, b, c]
  intro s t hs ht
  rw [ByteArray.toList_eq, ByteArray.toList_eq]
  simpa [str] using key s t hs ht
theorem ordR_at {r s : List Val} {k : Nat} {x y : Val} (h1 : r[k]? = some x) (h2 : s[k]? = some y) : ordR (r.drop k) (s.drop k) = if x = y then ordR (r.drop (k + 1)) (s.drop (k + 1)) else if ltV x y then -1 else 1 := by
  obtain ⟨a1, b1⟩ := List.getElem?_eq_some_iff.1 h1
  obtain ⟨a2, b2⟩ := List.getElem?_eq_some_iff.1 h2
  rw [List.drop_eq_getElem_cons a1, List.drop_eq_getElem_cons a2, b1, b2, ordR]
  by_cases h : x = y
  · subst h; simp
  · rw [if_neg h, if_neg (fun e => h (by cases x; cases y; simp_all))]
theorem ordR_end1 {r s : List Val} {k : Nat} (h1 : k = r.length) (h2 : k < s.length) : ordR (r.drop k) (s.drop k) = -1 := by
  rw [List.drop_of_length_le (by omega), List.drop_eq_getElem_cons h2]; rfl
theorem ordR_end2 {r s : List Val} {k : Nat} (h1 : k < r.length) (h2 : k = s.length) : ordR (r.drop k) (s.drop k) = 1 := by
  rw [List.drop_of_length_le (l := s) (by omega), List.drop_eq_getElem_cons h1]; rfl
theorem ordR_end3 {r s : List Val} {k : Nat} (h1 : k = r.length) (h2 : k = s.length) : ordR (r.drop k) (s.drop k) = 0 := by
  rw [List.drop_of_length_le (l := s) (by omega), List.drop_of_length_le (by omega)]; rfl
set_option maxHeartbeats 3200000 in
theorem order_any (v1 v2 : Value) (r s : List Val) (w : World) (h1 : Rw w v1 r) (h2 : Rw w v2 s) (ho1 : ∀ x ∈ r, x.OK) (ho2 : ∀ x ∈ s, x.OK) (hl : r.length ≤ 1073741824) (hm : s.length ≤ 1073741824) :
    Calls Tryd.prog 18 #[v1, v2] w fun e w' => e = .returned (.int .i64 (ordR r s)) ∧ Below w.heap.size w w' := by
  obtain ⟨a1, c1, rfl, hc1, hcell1⟩ := h1
  obtain ⟨a2, c2, rfl, hc2, hcell2⟩ := h2
  have HC1 := Lib.hid hcell1
  have HC2 := Lib.hid hcell2
  have HO1 := Lib.hid ho1
  have HO2 := Lib.hid ho2
  have hg := guard32
  have hz := zero32
  generalize hn : r.length = n at *
  generalize ho : s.length = o at *
  have HN := Lib.hid hn
  have HO := Lib.hid ho
  clear hcell1 hcell2 hn ho ho1 ho2
  go_enter Tryd.func18, Tryd.ntmps18
  go_wp2_with fail
  go_loopw [5] (fun i wr => ∃ k : Nat, k ≤ n ∧ k ≤ o ∧ i = .int .i64 k ∧ Below w.heap.size w wr ∧ Hid (ordR r s = ordR (r.drop k) (s.drop k))) (fun i _ => n - (intOf i).toNat)
  case atStart => exact ⟨0, Nat.zero_le _, Nat.zero_le _, rfl, Below.refl _ _, Lib.hid rfl⟩
  case round =>
    obtain ⟨k, hk1, hk2, rfl, hbw, heq⟩ := hrel
    have hsz := hbw.size
    have HBW := Lib.hid hbw
    clear hbw
    by_cases hlt1 : k < n
    · by_cases hlt2 : k < o
      · obtain ⟨b1, o1, rfl, hb1, hd1⟩ := HC1.out (by omega)
        obtain ⟨b2, o2, rfl, hb2, hd2⟩ := HC2.out (by omega)
        obtain ⟨x, hx⟩ : ∃ x, r[k]? = some x := ⟨_, List.getElem?_eq_getElem (by rw [HN.out]; exact hlt1)⟩
        obtain ⟨y, hy⟩ : ∃ y, s[k]? = some y := ⟨_, List.getElem?_eq_getElem (by rw [HO.out]; exact hlt2)⟩
        obtain ⟨p0, p1, p2⟩ := hd1 k x hx
        obtain ⟨q0, q1, q2⟩ := hd2 k y hy
        replace p0 := (HBW.out.cell (p := ⟨b1, o1 + k * 3, none⟩) hb1).trans p0
        replace p1 := (HBW.out.cell (p := ⟨b1, o1 + k * 3 + 1, none⟩) hb1).trans p1
        replace p2 := (HBW.out.cell (p := ⟨b1, o1 + k * 3 + 2, none⟩) hb1).trans p2
        replace q0 := (HBW.out.cell (p := ⟨b2, o2 + k * 3, none⟩) hb2).trans q0
        replace q1 := (HBW.out.cell (p := ⟨b2, o2 + k * 3 + 1, none⟩) hb2).trans q1
        replace q2 := (HBW.out.cell (p := ⟨b2, o2 + k * 3 + 2, none⟩) hb2).trans q2
        have hrx := (HO1.out x (List.mem_of_getElem? hx)).1
        have hry := (HO2.out y (List.mem_of_getElem? hy)).1
        have heql : ∀ u, (eql32 (.agg #[.int .i64 x.k, .int .i64 x.n, .string (str x.s)]) (.agg #[.int .i64 y.k, .int .i64 y.n, .string (str y.s)])).run Tryd.prog u = .ok (.bool (decide (x = y))) u := fun u => run_eql32 u x y hrx hry
        have hless := less_str x.s y.s hrx hry
        have HAT := Lib.hid (heq.out.trans (ordR_at hx hy))
        have hb1r : b1 < wr.heap.size := by omega
        have hb2r : b2 < wr.heap.size := by omega
        clear hd1 hd2 hx hy heq hrx hry
        by_cases hxy : x = y
        · rw [decide_eq_true hxy] at heql
          rw [if_pos hxy] at HAT
          clear hxy hless
          go_wp2_with fail
          go_roundw
          case rel => exact ⟨k + 1, by omega, by omega, by go_num, (HBW.out.alloc (by omega) _).alloc (by simp; omega) _, HAT⟩
          case measure => simp [intOf]; omega
        · rw [decide_eq_false hxy] at heql
          rw [if_neg hxy] at HAT
          obtain ⟨xk, xn, xs⟩ := x
          obtain ⟨yk, yn, ys⟩ := y
          simp only at *
          have HLT := Lib.hid (fun (h : xk < yk ∨ xk = yk ∧ (xn < yn ∨ xn = yn ∧ cmpI xs ys = -1)) => HAT.out.trans (if_ltV (x := ⟨xk, xn, xs⟩) (y := ⟨yk, yn, ys⟩) (b := 1) h).symm)
          have HGT := Lib.hid (fun (h : ¬ (xk < yk ∨ xk = yk ∧ (xn < yn ∨ xn = yn ∧ cmpI xs ys = -1))) => HAT.out.trans (if_ltV' (x := ⟨xk, xn, xs⟩) (y := ⟨yk, yn, ys⟩) (a := -1) h).symm)
          clear HAT hxy
          by_cases k1 : xk < yk
          · have HR := Lib.hid (HLT.out (.inl k1))
            have k1' : decide (xk < yk) = true := decide_eq_true k1
            clear HLT HGT hless
            go_wp2_with fail
            go_ret
            exact ⟨ret_int HR.out.symm, (HBW.out.alloc (by omega) _).alloc (by simp; omega) _⟩
          · have k1' : decide (xk < yk) = false := decide_eq_false k1
            by_cases k2 : xk = yk
            · have k2' : (xk == yk) = true := by simpa using k2
              by_cases n1 : xn < yn
              · have HR := Lib.hid (HLT.out (.inr ⟨k2, .inl n1⟩))
                have n1' : decide (xn < yn) = true := decide_eq_true n1
                clear HLT HGT hless k2
                go_wp2_with fail
                go_ret
                exact ⟨ret_int HR.out.symm, (HBW.out.alloc (by omega) _).alloc (by simp; omega) _⟩
              · have n1' : decide (xn < yn) = false := decide_eq_false n1
                by_cases n2 : xn = yn
                · have n2' : (xn == yn) = true := by simpa using n2
                  by_cases c1 : cmpI xs ys = -1
                  · have HR := Lib.hid (HLT.out (.inr ⟨k2, .inr ⟨n2, c1⟩⟩))
                    rw [decide_eq_true c1] at hless
                    clear HLT HGT k2 n2 c1
                    go_wp2_with fail
                    go_ret
                    exact ⟨ret_int HR.out.symm, (HBW.out.alloc (by omega) _).alloc (by simp; omega) _⟩
                  · have HR := Lib.hid (HGT.out (by omega))
                    rw [decide_eq_false c1] at hless
                    clear HLT HGT k2 n2 c1
                    go_wp2_with fail
                    go_ret
                    exact ⟨ret_int HR.out.symm, (HBW.out.alloc (by omega) _).alloc (by simp; omega) _⟩
                · have HR := Lib.hid (HGT.out (by omega))
                  have n2' : (xn == yn) = false := by simpa using n2
                  clear HLT HGT hless k2 n2
                  go_wp2_with fail
                  go_ret
                  exact ⟨ret_int HR.out.symm, (HBW.out.alloc (by omega) _).alloc (by simp; omega) _⟩
            · have HR := Lib.hid (HGT.out (by omega))
              have k2' : (xk == yk) = false := by simpa using k2
              clear HLT HGT hless k2
              go_wp2_with fail
              go_ret
              exact ⟨ret_int HR.out.symm, (HBW.out.alloc (by omega) _).alloc (by simp; omega) _⟩
      · have hko : k = o := by omega
        have HF := Lib.hid (heq.out.trans (ordR_end2 (by rw [HN.out]; exact hlt1) (by rw [HO.out]; exact hko)))
        have hi2 : ¬ (k : Int) < (o : Int) := by omega
        have hon : ¬ (n : Int) < (o : Int) := by omega
        have hno : (o : Int) < (n : Int) := by omega
        clear heq hko
        go_wp2_with fail
        go_ret
        exact ⟨ret_int HF.out.symm, HBW.out⟩
    · have hkn : k = n := by omega
      by_cases hlt2 : k < o
      · have HF := Lib.hid (heq.out.trans (ordR_end1 (by rw [HN.out]; exact hkn) (by rw [HO.out]; exact hlt2)))
        have hon : (n : Int) < (o : Int) := by omega
        clear heq hkn
        go_wp2_with fail
        go_ret
        exact ⟨ret_int HF.out.symm, HBW.out⟩
      · have hko : k = o := by omega
        have HF := Lib.hid (heq.out.trans (ordR_end3 (by rw [HN.out]; exact hkn) (by rw [HO.out]; exact hko)))
        have hon : ¬ (n : Int) < (o : Int) := by omega
        have hno : ¬ (o : Int) < (n : Int) := by omega
        clear heq hkn hko
        go_wp2_with fail
        go_ret
        exact ⟨ret_int HF.out.symm, HBW.out⟩
end Go.Proofs.YtkajpcjmcpollaaDoor
