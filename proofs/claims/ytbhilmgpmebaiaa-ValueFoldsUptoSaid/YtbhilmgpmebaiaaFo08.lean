import Derived.Test.YtbhilmgpmebaiaaFo01
import Derived.Test.YtbhilmgpmebaiaaFo02
import Derived.Test.YtbhilmgpmebaiaaFo05
import Derived.Test.YtbhilmgpmebaiaaFo06
import Derived.Test.YtbhilmgpmebaiaaFo07
namespace Go.Proofs.Ytbhilmgpmebaiaa
open Go.RowKit
attribute [local go_sem ↓] eql32_eq neq32_eq
end Go.Proofs.Ytbhilmgpmebaiaa
namespace Go.Proofs.Ytbhilmgpmebaiaa
open Go.RowKit
def totR (s : List Val) : Val × Int := if s.all (fun v => decide (v.k = 1)) = true then cnS (fit (sumN s)) else (nulV, 22)
set_option maxRecDepth 100000 in
set_option maxHeartbeats 6400000 in
theorem rtotal_any (v : Value) (s : List Val) (w : World) (hv : Rw w v s) (hok : ∀ x ∈ s, x.OK) (hl : s.length ≤ 1073741824) :
    Calls Try.prog 48 #[v] w fun e w' => e = .returned (.tuple #[.agg #[.int .i64 ((totR s).1).k, .int .i64 ((totR s).1).n, .string (str ((totR s).1).s)], .int .i64 (totR s).2]) ∧ Below w.heap.size w w' := by
  obtain ⟨a, cap, rfl, hcap, hcells⟩ := hv
  have HC := Lib.hid hcells
  have HOK := Lib.hid hok
  clear hcells hok
  generalize hn : s.length = n at *
  have HN := Lib.hid hn
  clear hn
  go_enter Try.func48, Try.ntmps48
  go_wp2_with fail
  generalize hW0 : w.alloc (BX 0 0 ⟨#[]⟩) = W0 at *
  have hz0 : W0.heap[w.heap.size]? = some (BX 0 0 ⟨#[]⟩) := hW0 ▸ heap_alloc_new w (BX 0 0 ⟨#[]⟩)
  have hb0 : Below w.heap.size w W0 := hW0 ▸ bl_al (Below.refl w.heap.size w) (BX 0 0 ⟨#[]⟩)
  obtain ⟨z0, z1, z2⟩ := bx_cells hz0
  obtain ⟨f0, f1, f2⟩ := bx_free hz0
  have hlz := bx_lt hz0
  have HB0 := Lib.hid hb0
  have HZ0 := Lib.hid hz0
  clear hz0 hb0 hW0
  go_loopw [4, 5, 6, 7] (fun v4 v5 i _ wr => ∃ (k : Nat), k ≤ n ∧ i = .int .i64 (k : Int) ∧ wr = W0 ∧ v4 = .int .i64 (hiW (sumN (s.take k))) ∧ v5 = .int .u64 (loW (sumN (s.take k))) ∧ Hid ((s.take k).all (fun v => decide (v.k = 1)) = true)) (fun _ _ i _ _ => n - (intOf i).toNat)
  case atStart => exact ⟨0, Nat.zero_le _, rfl, rfl, rfl, rfl, Lib.hid rfl⟩
  case round =>
    obtain ⟨k, hk, rfl, rfl, rfl, rfl, hal⟩ := hrel
    have hWd : Wd (sumN (s.take k)) := by
      have h1 := sumN_bound (s.take k) (fun y hy => HOK.out y (List.mem_of_mem_take hy))
      have h2 : (s.take k).length ≤ 1073741824 := by rw [List.length_take]; omega
      unfold Wd hiW; omega
    by_cases hlt : k < n
    · obtain ⟨b, off, rfl, hb, hce⟩ := HC.out (by omega)
      obtain ⟨x, hx⟩ : ∃ x, s[k]? = some x := ⟨_, List.getElem?_eq_getElem (by rw [HN.out]; exact hlt)⟩
      have HX := Lib.hid hx
      obtain ⟨p0, p1, p2⟩ := hce k x hx
      replace p0 := (HB0.out.cell (p := ⟨b, off + k * 3, none⟩) hb).trans p0
      replace p1 := (HB0.out.cell (p := ⟨b, off + k * 3 + 1, none⟩) hb).trans p1
      have hbr : b < wr.heap.size := by omega
      have hcn : (n : Int) ≤ (cap : Int) := by omega
      have hkn : (k : Int) < (n : Int) := by omega
      clear hce hx p2
      by_cases hx1 : x.k = 1
      · have g2 : (x.k != 1) = false := by simp [hx1]
        have HNT := Lib.hid (sumN_take HX.out)
        have HAL := Lib.hid (all_take HX.out hx1 hal.out)
        have hxn := (HOK.out x (List.mem_of_getElem? HX.out)).2.2.2
        clear hx1
        generalize sumN (s.take k) = T at *
        generalize hx2 : x.n = m at *
        obtain ⟨h0, l0, hh0, hl0⟩ : ∃ h0 l0, hiW T = h0 ∧ loW T = l0 := ⟨_, _, rfl, rfl⟩
        obtain ⟨h1, l1, hh1, hl1⟩ : ∃ h1 l1, hiW (T + m) = h1 ∧ loW (T + m) = l1 := ⟨_, _, rfl, rfl⟩
        obtain ⟨nu, hnu⟩ : ∃ nu, IntKind.u64.wrap m = nu := ⟨_, rfl⟩
        have hnu' := hnu
        rw [wrapU] at hnu'
        have e2 : IntKind.u64.wrap (l0 + nu) = l1 := by rw [wrapU]; unfold loW at *; omega
        have hwb : -1099511627776 ≤ h0 ∧ h0 ≤ 1099511627776 := by unfold Wd at hWd; omega
        have e3 : IntKind.i64.wrap (h0 + 1) = h0 + 1 := IntWalk.i64_in _ ⟨by omega, by omega⟩
        have e4 : IntKind.i64.wrap (h0 - 1) = h0 - 1 := IntWalk.i64_in _ ⟨by omega, by omega⟩
        have e5 : IntKind.i64.wrap (h0 + 1 - 1) = h0 := IntWalk.i64_in _ ⟨by omega, by omega⟩ |>.trans (by omega)
        have hT0 : T = h0 * 18446744073709551616 + l0 ∧ 0 ≤ l0 ∧ l0 < 18446744073709551616 := by unfold hiW at hh0; unfold loW at hl0; omega
        have hT1 : T + m = h1 * 18446744073709551616 + l1 ∧ 0 ≤ l1 ∧ l1 < 18446744073709551616 := by unfold hiW at hh1; unfold loW at hl1; omega
        rw [hh0, hl0]
        have HREL := Lib.hid (show hiW (sumN (s.take (k + 1))) = h1 ∧ loW (sumN (s.take (k + 1))) = l1 from by rw [HNT.out]; exact ⟨hh1, hl1⟩)
        clear HNT hh0 hl0 hh1 hl1 hWd
        by_cases hm : m < 0
        · have hnu2 : nu = m + 18446744073709551616 := by omega
          by_cases hc : l1 < nu
          · have HF := Lib.hid (show h0 = h1 by omega)
            have e6 : IntKind.i64.wrap h0 = h0 := IntWalk.i64_in _ ⟨by omega, by omega⟩
            clear hnu2 hT0 hT1 hnu' hwb hxn
            go_wp2_with fail
            go_roundw
            case rel => exact ⟨k + 1, by omega, by go_num, trivial, by rw [HREL.out.1, ← HF.out], by rw [HREL.out.2], HAL⟩
            case measure => simp [intOf]; omega
          · have HF := Lib.hid (show h0 - 1 = h1 by omega)
            have hc2 : decide (l1 < nu) = false := decide_eq_false hc
            clear hnu2 hT0 hT1 hnu' hwb hxn hc
            go_wp2_with fail
            go_roundw
            case rel => exact ⟨k + 1, by omega, by go_num, trivial, by rw [HREL.out.1, ← HF.out], by rw [HREL.out.2], HAL⟩
            case measure => simp [intOf]; omega
        · have hnu2 : nu = m := by omega
          have hm2 : decide (m < 0) = false := decide_eq_false hm
          by_cases hc : l1 < nu
          · have HF := Lib.hid (show h0 + 1 = h1 by omega)
            clear hnu2 hT0 hT1 hnu' hwb hxn hm
            go_wp2_with fail
            go_roundw
            case rel => exact ⟨k + 1, by omega, by go_num, trivial, by rw [HREL.out.1, ← HF.out], by rw [HREL.out.2], HAL⟩
            case measure => simp [intOf]; omega
          · have HF := Lib.hid (show h0 = h1 by omega)
            have hc2 : decide (l1 < nu) = false := decide_eq_false hc
            clear hnu2 hT0 hT1 hnu' hwb hxn hc hm
            go_wp2_with fail
            go_roundw
            case rel => exact ⟨k + 1, by omega, by go_num, trivial, by rw [HREL.out.1, ← HF.out], by rw [HREL.out.2], HAL⟩
            case measure => simp [intOf]; omega
      · have g2 : (x.k != 1) = true := bne_iff_ne.2 hx1
        have HE := Lib.hid (show totR s = (nulV, 22) by rw [totR, all_not HX.out hx1, if_neg (by decide)])
        clear hx1
        go_wp2_with fail
        refine bodyPost_ret (v := .tuple #[.agg #[.int .i64 0, .int .i64 0, .string ⟨#[]⟩], .int .i64 22]) (by simp [results, Try.results48, go_sem, z0, z1, z2]) rfl ⟨by rw [HE.out]; rfl, set3_below nulV HB0.out (Nat.le_refl _)⟩
    · have hkn : k = n := by omega
      subst hkn
      have hall := hal.out
      rw [← HN.out, List.take_length] at hall hWd ⊢
      have HE := Lib.hid (show totR s = cnS (fit (sumN s)) by rw [totR, hall, if_pos rfl])
      generalize sumN s = T at *
      obtain ⟨h0, l0, hh0, hl0⟩ : ∃ h0 l0, hiW T = h0 ∧ loW T = l0 := ⟨_, _, rfl, rfl⟩
      have hT0 : T = h0 * 18446744073709551616 + l0 ∧ 0 ≤ l0 ∧ l0 < 18446744073709551616 := by unfold hiW at hh0; unfold loW at hl0; omega
      rw [hh0, hl0]
      have hcn : decide ((k : Int) < (k : Int)) = false := decide_eq_false (by omega)
      clear hall hal hWd hlt hh0 hl0
      by_cases hin : I64 T
      · have HE2 := Lib.hid (HE.out.trans (show cnS (fit T) = (numV T, 0) by rw [fit_in hin]; rfl))
        have HI := Lib.hid hin
        have ecv : IntKind.i64.wrap l0 = T := by rw [IntKind.wrap_i64]; unfold I64 at hin; omega
        by_cases h0z : h0 = 0
        · subst h0z
          have hl2 : l0 < 9223372036854775808 := by have := HI.out.2; omega
          clear hT0 hin
          go_wp2_with (go_at_call 40; refine (rnumber_any _ _).mono ?_; rintro e w2 ⟨rfl, hw⟩; have hz2 : w2.heap[w.heap.size]? = some (BX 0 0 ⟨#[]⟩) := hw ▸ hp_al HZ0.out _; have hb2 : Below w.heap.size w w2 := hw ▸ bl_al HB0.out _; have HB2 := Lib.hid hb2; clear hw hb2; obtain ⟨y0, y1, y2⟩ := bx_cells hz2; obtain ⟨x0, x1, x2⟩ := bx_free hz2; have hlz2 := bx_lt hz2; clear hz2)
          refine bodyPost_ret (v := .tuple #[.agg #[.int .i64 1, .int .i64 T, .string ⟨#[]⟩], .int .i64 0]) (by simp [results, Try.results48, go_sem, y0, y1, y2]) rfl ⟨by rw [HE2.out]; rfl, set3_below (numV T) HB2.out (Nat.le_refl _)⟩
        · have h0m : h0 = -1 := by unfold I64 at hin; omega
          subst h0m
          have hl2 : 9223372036854775808 ≤ l0 := by have := HI.out.1; omega
          clear hT0 hin h0z
          go_wp2_with (go_at_call 40; refine (rnumber_any _ _).mono ?_; rintro e w2 ⟨rfl, hw⟩; have hz2 : w2.heap[w.heap.size]? = some (BX 0 0 ⟨#[]⟩) := hw ▸ hp_al HZ0.out _; have hb2 : Below w.heap.size w w2 := hw ▸ bl_al HB0.out _; have HB2 := Lib.hid hb2; clear hw hb2; obtain ⟨y0, y1, y2⟩ := bx_cells hz2; obtain ⟨x0, x1, x2⟩ := bx_free hz2; have hlz2 := bx_lt hz2; clear hz2)
          refine bodyPost_ret (v := .tuple #[.agg #[.int .i64 1, .int .i64 T, .string ⟨#[]⟩], .int .i64 0]) (by simp [results, Try.results48, go_sem, y0, y1, y2]) rfl ⟨by rw [HE2.out]; rfl, set3_below (numV T) HB2.out (Nat.le_refl _)⟩
      · have HE2 := Lib.hid (HE.out.trans (show cnS (fit T) = (nulV, 30) by rw [fit, if_neg (show ¬ (-9223372036854775808 ≤ T ∧ T ≤ 9223372036854775807) from hin)]; rfl))
        by_cases h0z : h0 = 0
        · subst h0z
          have hl2 : decide (l0 < 9223372036854775808) = false := decide_eq_false (by unfold I64 at hin; omega)
          clear hT0 hin
          go_wp2_with fail
          refine bodyPost_ret (v := .tuple #[.agg #[.int .i64 0, .int .i64 0, .string ⟨#[]⟩], .int .i64 30]) (by simp [results, Try.results48, go_sem, z0, z1, z2]) rfl ⟨by rw [HE2.out]; rfl, set3_below nulV HB0.out (Nat.le_refl _)⟩
        · have g5 : (h0 == 0) = false := beq_false_of_ne h0z
          by_cases h0m : h0 = -1
          · subst h0m
            have hl2 : decide (9223372036854775808 ≤ l0) = false := decide_eq_false (by unfold I64 at hin; omega)
            clear hT0 hin h0z
            go_wp2_with fail
            refine bodyPost_ret (v := .tuple #[.agg #[.int .i64 0, .int .i64 0, .string ⟨#[]⟩], .int .i64 30]) (by simp [results, Try.results48, go_sem, z0, z1, z2]) rfl ⟨by rw [HE2.out]; rfl, set3_below nulV HB0.out (Nat.le_refl _)⟩
          · have g6 : (h0 == -1) = false := beq_false_of_ne h0m
            clear hT0 hin h0z h0m
            go_wp2_with fail
            refine bodyPost_ret (v := .tuple #[.agg #[.int .i64 0, .int .i64 0, .string ⟨#[]⟩], .int .i64 30]) (by simp [results, Try.results48, go_sem, z0, z1, z2]) rfl ⟨by rw [HE2.out]; rfl, set3_below nulV HB0.out (Nat.le_refl _)⟩
end Go.Proofs.Ytbhilmgpmebaiaa
namespace Go.Proofs.Ytbhilmgpmebaiaa
open Go.RowKit
def lexI (a b : Int) : Int := if a ≠ 0 then a else b
theorem orI_lex (a b c : Int) : orI a b c = lexI a (lexI b c) := by simp [orI, lexI]
/-- three comparisons of three things, as an order has them -/
def Tr3 (ab bc ac : Int) : Prop := (-1 ≤ ab ∧ ab ≤ 1) ∧ (-1 ≤ bc ∧ bc ≤ 1) ∧ (-1 ≤ ac ∧ ac ≤ 1) ∧ (0 < ab ∨ 0 < bc ∨ (ac < 0 ∧ (ab < 0 ∨ bc < 0)) ∨ (ac = 0 ∧ ab = 0 ∧ bc = 0)) ∧ (ab < 0 ∨ bc < 0 ∨ (0 < ac ∧ (0 < ab ∨ 0 < bc)) ∨ (ac = 0 ∧ ab = 0 ∧ bc = 0)) ∧ (ab ≠ 0 ∨ ac = bc) ∧ (bc ≠ 0 ∨ ac = ab)
theorem lex_two (a b : Int) : (a ≠ 0 ∧ lexI a b = a) ∨ (a = 0 ∧ lexI a b = b) := by
  by_cases h : a = 0
  · exact .inr ⟨h, by simp [lexI, h]⟩
  · exact .inl ⟨h, by simp [lexI, h]⟩
theorem tr_lex {a1 a2 a3 b1 b2 b3 : Int} (ha : Tr3 a1 a2 a3) (hb : Tr3 b1 b2 b3) : Tr3 (lexI a1 b1) (lexI a2 b2) (lexI a3 b3) := by
  have k1 := lex_two a1 b1
  have k2 := lex_two a2 b2
  have k3 := lex_two a3 b3
  generalize lexI a1 b1 = p1 at *
  generalize lexI a2 b2 = p2 at *
  generalize lexI a3 b3 = p3 at *
  unfold Tr3 at *
  rcases k1 with ⟨u1, rfl⟩ | ⟨u1, rfl⟩ <;> rcases k2 with ⟨u2, rfl⟩ | ⟨u2, rfl⟩ <;> rcases k3 with ⟨u3, rfl⟩ | ⟨u3, rfl⟩ <;> (refine ⟨⟨?_, ?_⟩, ⟨?_, ?_⟩, ⟨?_, ?_⟩, ?_, ?_, ?_, ?_⟩ <;> omega)
theorem tr_sg (x y z : Int) : Tr3 (sgI x y) (sgI y z) (sgI x z) := by
  unfold Tr3 sgI
  split <;> split <;> split <;> (try split) <;> (try split) <;> (try split) <;> (refine ⟨⟨?_, ?_⟩, ⟨?_, ?_⟩, ⟨?_, ?_⟩, ?_, ?_, ?_, ?_⟩ <;> omega)
theorem cmpI_rng : ∀ l m : List Int, -1 ≤ cmpI l m ∧ cmpI l m ≤ 1
  | [], [] => by simp [cmpI]
  | [], _ :: _ => by simp [cmpI]
  | _ :: _, [] => by simp [cmpI]
  | x :: l, y :: m => by
    have := cmpI_rng l m
    simp only [cmpI]; split; omega; split <;> omega
theorem tr_cmp : ∀ l m n : List Int, Tr3 (cmpI l m) (cmpI m n) (cmpI l n)
  | [], [], n => by have := cmpI_rng [] n; unfold Tr3; simp only [cmpI]; cases n <;> simp [cmpI]
  | [], y :: m, [] => by unfold Tr3; simp [cmpI]
  | [], y :: m, z :: n => by have := cmpI_rng (y :: m) (z :: n); unfold Tr3; rw [show cmpI [] (y :: m) = -1 from rfl, show cmpI [] (z :: n) = -1 from rfl]; refine ⟨⟨?_, ?_⟩, ⟨?_, ?_⟩, ⟨?_, ?_⟩, ?_, ?_, ?_, ?_⟩ <;> omega
  | x :: l, [], [] => by unfold Tr3; simp [cmpI]
  | x :: l, [], z :: n => by have := cmpI_rng (x :: l) (z :: n); unfold Tr3; rw [show cmpI (x :: l) [] = 1 from rfl, show cmpI [] (z :: n) = -1 from rfl]; refine ⟨⟨?_, ?_⟩, ⟨?_, ?_⟩, ⟨?_, ?_⟩, ?_, ?_, ?_, ?_⟩ <;> omega
  | x :: l, y :: m, [] => by have := cmpI_rng (x :: l) (y :: m); unfold Tr3; rw [show cmpI (x :: l) [] = 1 from rfl, show cmpI (y :: m) [] = 1 from rfl]; refine ⟨⟨?_, ?_⟩, ⟨?_, ?_⟩, ⟨?_, ?_⟩, ?_, ?_, ?_, ?_⟩ <;> omega
  | x :: l, y :: m, z :: n => by
    have h := tr_lex (tr_sg x y z) (tr_cmp l m n)
    have e : ∀ (a b : Int) (p q : List Int), lexI (sgI a b) (cmpI p q) = cmpI (a :: p) (b :: q) := by
      intro a b p q
      simp only [lexI, sgI, cmpI]
      by_cases h1 : a < b
      · simp [h1]
      · by_cases h2 : b < a <;> simp [h1, h2]
    rw [e, e, e] at h
    exact h
theorem tr_cmpV (a b c : Val) : Tr3 (cmpV a b) (cmpV b c) (cmpV a c) := by
  simp only [cmpV, ordV, orI_lex]
  exact tr_lex (tr_sg _ _ _) (tr_lex (tr_sg _ _ _) (tr_cmp _ _ _))
end Go.Proofs.Ytbhilmgpmebaiaa
namespace Go.Proofs.Ytbhilmgpmebaiaa
open Go.RowKit
end Go.Proofs.Ytbhilmgpmebaiaa
namespace Go.Proofs.Ytbhilmgpmebaiaa
open Go.RowKit
theorem cmpV_nrm {A B : Val} (ha : Nrm A) (hb : Nrm B) : cmpV A B = ordV A B := by rw [cmpV, norm_nrm ha, norm_nrm hb]
end Go.Proofs.Ytbhilmgpmebaiaa
namespace Go.Proofs.Ytbhilmgpmebaiaa
open Go.RowKit
set_option maxRecDepth 100000 in
set_option maxHeartbeats 6400000 in
theorem rend_24 (v : Value) (s : List Val) (w : World) (hv : Rw w v s) (hok : ∀ x ∈ s, Nrm x) (hl : s.length ≤ 1073741824) (hsl : ∀ x ∈ s, x.s.length ≤ 1099511627776) (hs0 : 0 < s.length) :
    Calls Try.prog 49 #[.int .i64 24, v] w fun e w' => e = .returned (.tuple #[.agg #[.int .i64 ((extR (-1) s).1).k, .int .i64 ((extR (-1) s).1).n, .string (str ((extR (-1) s).1).s)], .int .i64 (extR (-1) s).2]) ∧ Below w.heap.size w w' := by
  obtain ⟨a, cap, rfl, hcap, hcells⟩ := hv
  have HOK := Lib.hid hok
  have HSL := Lib.hid hsl
  obtain ⟨b, off, rfl, hb, hce⟩ := hcells hs0
  obtain ⟨y, hy⟩ : ∃ y, s[0]? = some y := ⟨_, List.getElem?_eq_getElem hs0⟩
  have HY := Lib.hid hy
  have hst : extL (-1) y (s.drop 0) = extR (-1) s := by
    cases s with
    | nil => simp at hs0
    | cons a r => simp at hy; subst hy; rfl
  have HST := Lib.hid hst
  have HYN := Lib.hid (hok y (List.mem_of_getElem? hy))
  have HCE := Lib.hid hce
  have HT0 := Lib.hid (two_new w nulV y)
  obtain ⟨p0, p1, p2⟩ := hce 0 y hy
  rw [Nat.zero_mul, Nat.add_zero] at p0 p1 p2
  have g2 : (0 : Int) < (s.length : Int) := by omega
  have hcn0 : (s.length : Int) ≤ (cap : Int) := by omega
  clear hok hsl hce hcells hst hy
  go_enter Try.func49, Try.ntmps49
  go_wp2_with fail
  go_loopw [7, 8] (fun i _ wr => ∃ (k : Nat) (bst : Val), k ≤ s.length ∧ i = .int .i64 (k : Int) ∧ Two w wr nulV bst ∧ Hid (Nrm bst) ∧ Hid (bst.s.length ≤ 1099511627776) ∧ Hid (extL (-1) bst (s.drop k) = extR (-1) s)) (fun i _ _ => s.length - (intOf i).toNat)
  case atStart => exact ⟨0, y, Nat.zero_le _, rfl, HT0.out, HYN, Lib.hid (HSL.out y (List.mem_of_getElem? HY.out)), HST⟩
  case round =>
    obtain ⟨k, bst, hk, rfl, htw, hbn, hbs, hex⟩ := hrel
    have hbelow := htw.2.2
    have hsz := hbelow.size
    obtain ⟨z0, z1, z2⟩ := bx_cells htw.1
    obtain ⟨f0, f1, f2⟩ := bx_free htw.1
    obtain ⟨b0, b1, b2⟩ := bx_cells htw.2.1
    obtain ⟨bf0, bf1, bf2⟩ := bx_free htw.2.1
    have hlt0 := bx_lt htw.1
    have hlt1 := bx_lt htw.2.1
    have HTW := Lib.hid htw
    clear htw p0 p1 p2
    by_cases hlt : k < s.length
    · obtain ⟨x, hx⟩ : ∃ x, s[k]? = some x := ⟨_, List.getElem?_eq_getElem hlt⟩
      have HP := Lib.hid (HCE.out k x hx)
      have p0 := (hbelow.cell (p := ⟨b, off + k * 3, none⟩) hb).trans HP.out.1
      have p1 := (hbelow.cell (p := ⟨b, off + k * 3 + 1, none⟩) hb).trans HP.out.2.1
      have p2 := (hbelow.cell (p := ⟨b, off + k * 3 + 2, none⟩) hb).trans HP.out.2.2
      have hbr : b < wr.heap.size := by omega
      have hk2 : (k : Int) < (s.length : Int) := by omega
      have HXN := Lib.hid (HOK.out x (List.mem_of_getElem? hx))
      have HXS := Lib.hid (HSL.out x (List.mem_of_getElem? hx))
      have HAT := Lib.hid (hex.out.symm.trans (extL_at (-1) hx))
      have HBL := Lib.hid hbelow
      clear hx hex hbelow
      by_cases hkk : x.k = bst.k
      · have g3 : (x.k != bst.k) = false := by simp [hkk]
        rw [if_neg (by simp [hkk])] at HAT
        have hor := fun u => rcompare_any x bst u HXN.out.1 hbn.out.1 HXS.out
        have htr := (tr_cmpV x bst bst).1
        rw [cmpV_nrm HXN.out hbn.out] at hor htr
        have HOR := Lib.hid hor
        generalize ordV x bst = cc at *
        clear hkk hor
        go_wp2_with fail
        refine wp_region_held_drew (S := fun u => Two w u nulV bst) (by kernel_rfl) (HTW.out.drew) (fun hHeld => ?_)
        refine wpAnyH_take (i := 0) (oi := ({ dst := some 18, op := Op.move (Operand.tmp 1), type := 29, pos := "ref.go:275", after := #[], guard := none } : Oper)) (v := ?_) rfl (by kernel_rfl) (by kernel_rfl) (by kernel_rfl) (fun _ _ _ h => h) (Or.inl ⟨by rfl, ?_⟩) (by assumption) ?_
        rotate_left 1
        · (intro u hSw; go_simp; try with_reducible rfl)
        try simp only [Act.put, List.setIfInBounds_toArray, List.set_cons_zero, List.set_cons_succ]
        refine wpAnyH_take (i := 1) (oi := ({ dst := some 19, op := Op.move (Operand.tmp 7), type := 3, pos := "ref.go:275", after := #[], guard := none } : Oper)) (v := ?_) rfl (by kernel_rfl) (by kernel_rfl) (by kernel_rfl) (fun _ _ _ h => h) (Or.inl ⟨by rfl, ?_⟩) (by assumption) ?_
        rotate_left 1
        · (intro u hSw; go_simp; try with_reducible rfl)
        try simp only [Act.put, List.setIfInBounds_toArray, List.set_cons_zero, List.set_cons_succ]
        refine wpAnyH_take (i := 2) (oi := ({ dst := some 20, op := Op.indexAddr 29 (Operand.tmp 18) (Operand.tmp 19), type := 0, pos := "ref.go:275", after := #[{ on := 0, ground := Ground.data }, { on := 1, ground := Ground.data }], guard := none } : Oper)) (v := ?_) rfl (by kernel_rfl) (by kernel_rfl) (by kernel_rfl) (fun _ _ _ h => h) (Or.inl ⟨by rfl, ?_⟩) (by assumption) ?_
        rotate_left 1
        · (intro u hSw; go_simp; try with_reducible rfl)
        try simp only [Act.put, List.setIfInBounds_toArray, List.set_cons_zero, List.set_cons_succ]
        refine wpAnyH_take (i := 3) (oi := ({ dst := some 21, op := Op.fieldAddr 23 (Operand.tmp 20) 0, type := 0, pos := "ref.go:275", after := #[{ on := 2, ground := Ground.data }], guard := none } : Oper)) (v := ?_) rfl (by kernel_rfl) (by kernel_rfl) (by kernel_rfl) (fun _ _ _ h => h) (Or.inl ⟨by rfl, ?_⟩) (by assumption) ?_
        rotate_left 1
        · (intro u hSw; go_simp; try with_reducible rfl)
        try simp only [Act.put, List.setIfInBounds_toArray, List.set_cons_zero, List.set_cons_succ]
        refine wpAnyH_take (i := 4) (oi := ({ dst := some 22, op := Op.load 3 (Operand.tmp 21), type := 3, pos := "ref.go:275", after := #[{ on := 3, ground := Ground.data }], guard := none } : Oper)) (v := ?_) rfl (by kernel_rfl) (by kernel_rfl) (by kernel_rfl) (fun _ _ _ h => h) (Or.inl ⟨by rfl, ?_⟩) (by assumption) ?_
        rotate_left 1
        · (intro u hSw; obtain ⟨d0, d1, d2⟩ := bx_cells hSw.2.1; have p0 := (hSw.2.2.cell (p := ⟨b, off + k * 3, none⟩) hb).trans HP.out.1; have p1 := (hSw.2.2.cell (p := ⟨b, off + k * 3 + 1, none⟩) hb).trans HP.out.2.1; have p2 := (hSw.2.2.cell (p := ⟨b, off + k * 3 + 2, none⟩) hb).trans HP.out.2.2; go_simp; try with_reducible rfl)
        try simp only [Act.put, List.setIfInBounds_toArray, List.set_cons_zero, List.set_cons_succ]
        refine wpAnyH_take (i := 5) (oi := ({ dst := some 23, op := Op.fieldAddr 23 (Operand.tmp 6) 0, type := 0, pos := "ref.go:275", after := #[], guard := none } : Oper)) (v := ?_) rfl (by kernel_rfl) (by kernel_rfl) (by kernel_rfl) (fun _ _ _ h => h) (Or.inl ⟨by rfl, ?_⟩) (by assumption) ?_
        rotate_left 1
        · (intro u hSw; go_simp; try with_reducible rfl)
        try simp only [Act.put, List.setIfInBounds_toArray, List.set_cons_zero, List.set_cons_succ]
        refine wpAnyH_take (i := 6) (oi := ({ dst := some 24, op := Op.load 3 (Operand.tmp 23), type := 3, pos := "ref.go:275", after := #[{ on := 5, ground := Ground.data }], guard := none } : Oper)) (v := ?_) rfl (by kernel_rfl) (by kernel_rfl) (by kernel_rfl) (fun _ _ _ h => h) (Or.inl ⟨by rfl, ?_⟩) (by assumption) ?_
        rotate_left 1
        · (intro u hSw; obtain ⟨d0, d1, d2⟩ := bx_cells hSw.2.1; have p0 := (hSw.2.2.cell (p := ⟨b, off + k * 3, none⟩) hb).trans HP.out.1; have p1 := (hSw.2.2.cell (p := ⟨b, off + k * 3 + 1, none⟩) hb).trans HP.out.2.1; have p2 := (hSw.2.2.cell (p := ⟨b, off + k * 3 + 2, none⟩) hb).trans HP.out.2.2; go_simp; try with_reducible rfl)
        try simp only [Act.put, List.setIfInBounds_toArray, List.set_cons_zero, List.set_cons_succ]
        refine wpAnyH_take (i := 7) (oi := ({ dst := some 25, op := Op.binOp BinOp.neq 3 (Operand.tmp 22) (Operand.tmp 24) 3, type := 4, pos := "ref.go:275", after := #[{ on := 4, ground := Ground.data }, { on := 6, ground := Ground.data }], guard := none } : Oper)) (v := ?_) rfl (by kernel_rfl) (by kernel_rfl) (by kernel_rfl) (fun _ _ _ h => h) (Or.inl ⟨by rfl, ?_⟩) (by assumption) ?_
        rotate_left 1
        · (intro u hSw; go_simp; try with_reducible rfl)
        try simp only [Act.put, List.setIfInBounds_toArray, List.set_cons_zero, List.set_cons_succ]
        refine wpAnyH_done (by kernel_rfl) ?_ _
        go_wp2_with fail
        have HTX := Lib.hid hHeld
        clear hHeld
        refine wp_region_held_drew (S := fun u => Two w u nulV bst) (by kernel_rfl) (HTX.out.drew) (fun hHeld => ?_)
        refine wpAnyH_take (i := 0) (oi := ({ dst := some 27, op := Op.move (Operand.tmp 1), type := 29, pos := "ref.go:278", after := #[], guard := none } : Oper)) (v := ?_) rfl (by kernel_rfl) (by kernel_rfl) (by kernel_rfl) (fun _ _ _ h => h) (Or.inl ⟨by rfl, ?_⟩) (by assumption) ?_
        rotate_left 1
        · (intro u hSw; go_simp; try with_reducible rfl)
        try simp only [Act.put, List.setIfInBounds_toArray, List.set_cons_zero, List.set_cons_succ]
        refine wpAnyH_take (i := 1) (oi := ({ dst := some 28, op := Op.move (Operand.tmp 7), type := 3, pos := "ref.go:278", after := #[], guard := none } : Oper)) (v := ?_) rfl (by kernel_rfl) (by kernel_rfl) (by kernel_rfl) (fun _ _ _ h => h) (Or.inl ⟨by rfl, ?_⟩) (by assumption) ?_
        rotate_left 1
        · (intro u hSw; go_simp; try with_reducible rfl)
        try simp only [Act.put, List.setIfInBounds_toArray, List.set_cons_zero, List.set_cons_succ]
        refine wpAnyH_take (i := 2) (oi := ({ dst := some 29, op := Op.indexAddr 29 (Operand.tmp 27) (Operand.tmp 28), type := 0, pos := "ref.go:278", after := #[{ on := 0, ground := Ground.data }, { on := 1, ground := Ground.data }], guard := none } : Oper)) (v := ?_) rfl (by kernel_rfl) (by kernel_rfl) (by kernel_rfl) (fun _ _ _ h => h) (Or.inl ⟨by rfl, ?_⟩) (by assumption) ?_
        rotate_left 1
        · (intro u hSw; go_simp; try with_reducible rfl)
        try simp only [Act.put, List.setIfInBounds_toArray, List.set_cons_zero, List.set_cons_succ]
        refine wpAnyH_take (i := 3) (oi := ({ dst := some 30, op := Op.load 23 (Operand.tmp 29), type := 23, pos := "ref.go:278", after := #[{ on := 2, ground := Ground.data }], guard := none } : Oper)) (v := ?_) rfl (by kernel_rfl) (by kernel_rfl) (by kernel_rfl) (fun _ _ _ h => h) (Or.inl ⟨by rfl, ?_⟩) (by assumption) ?_
        rotate_left 1
        · (intro u hSw; obtain ⟨d0, d1, d2⟩ := bx_cells hSw.2.1; have p0 := (hSw.2.2.cell (p := ⟨b, off + k * 3, none⟩) hb).trans HP.out.1; have p1 := (hSw.2.2.cell (p := ⟨b, off + k * 3 + 1, none⟩) hb).trans HP.out.2.1; have p2 := (hSw.2.2.cell (p := ⟨b, off + k * 3 + 2, none⟩) hb).trans HP.out.2.2; go_simp; try with_reducible rfl)
        try simp only [Act.put, List.setIfInBounds_toArray, List.set_cons_zero, List.set_cons_succ]
        refine wpAnyH_take (i := 4) (oi := ({ dst := some 31, op := Op.load 23 (Operand.tmp 6), type := 23, pos := "ref.go:278", after := #[], guard := none } : Oper)) (v := ?_) rfl (by kernel_rfl) (by kernel_rfl) (by kernel_rfl) (fun _ _ _ h => h) (Or.inl ⟨by rfl, ?_⟩) (by assumption) ?_
        rotate_left 1
        · (intro u hSw; obtain ⟨d0, d1, d2⟩ := bx_cells hSw.2.1; have p0 := (hSw.2.2.cell (p := ⟨b, off + k * 3, none⟩) hb).trans HP.out.1; have p1 := (hSw.2.2.cell (p := ⟨b, off + k * 3 + 1, none⟩) hb).trans HP.out.2.1; have p2 := (hSw.2.2.cell (p := ⟨b, off + k * 3 + 2, none⟩) hb).trans HP.out.2.2; go_simp; try with_reducible rfl)
        try simp only [Act.put, List.setIfInBounds_toArray, List.set_cons_zero, List.set_cons_succ]
        refine wpAnyH_ready (rs := [5]) (by kernel_rfl) (by simp) ?_
        refine AllReadyH.cons (o := ({ dst := some 32, op := Op.call { callee := Callee.value (Operand.func 19), args := #[Operand.tmp 30, Operand.tmp 31], argTypes := #[23, 23] }, type := 3, pos := "ref.go:278", after := #[{ on := 3, ground := Ground.data }, { on := 4, ground := Ground.data }], guard := none } : Oper)) rfl (fun K hK => ?_) AllReadyH.nil
        go_simp
        go_at_call 19
        refine (HOR.out _).mono ?_
        rintro e w2 ⟨rfl, hb2⟩
        go_wp2_with fail
        refine hK.out _ _ (hHeld.below hb2) (fun hHeld => ?_)
        clear hK K
        try simp only [Act.put, List.setIfInBounds_toArray, List.set_cons_zero, List.set_cons_succ]
        refine wpAnyH_take (i := 6) (oi := ({ dst := some 8, op := Op.assign (Operand.tmp 32), type := 3, pos := "ref.go:278", after := #[{ on := 5, ground := Ground.data }, { on := 5, ground := Ground.chain }, { on := 0, ground := Ground.phase }, { on := 1, ground := Ground.phase }, { on := 2, ground := Ground.phase }, { on := 3, ground := Ground.phase }, { on := 4, ground := Ground.phase }, { on := 5, ground := Ground.phase }], guard := none } : Oper)) (v := ?_) rfl (by kernel_rfl) (by kernel_rfl) (by kernel_rfl) (fun _ _ _ h => h) (Or.inl ⟨by rfl, ?_⟩) (by assumption) ?_
        rotate_left 1
        · (intro u hSw; go_simp; try with_reducible rfl)
        try simp only [Act.put, List.setIfInBounds_toArray, List.set_cons_zero, List.set_cons_succ]
        refine wpAnyH_done (by kernel_rfl) ?_ _
        obtain ⟨d0, d1, d2⟩ := bx_cells hHeld.2.1
        obtain ⟨df0, df1, df2⟩ := bx_free hHeld.2.1
        have hld := bx_lt hHeld.2.1
        have q0 := (hHeld.2.2.cell (p := ⟨b, off + k * 3, none⟩) hb).trans HP.out.1
        have q1 := (hHeld.2.2.cell (p := ⟨b, off + k * 3 + 1, none⟩) hb).trans HP.out.2.1
        have q2 := (hHeld.2.2.cell (p := ⟨b, off + k * 3 + 2, none⟩) hb).trans HP.out.2.2
        have HH := Lib.hid hHeld
        clear hHeld
        by_cases ho : cc = (-1)
        · rw [if_pos ho] at HAT
          have g4 : cc < 0 := by omega
          clear ho htr
          go_wp2_with fail
          go_roundw
          case rel => exact ⟨k + 1, x, by omega, by go_num, HH.out.set2 x, HXN, HXS, Lib.hid HAT.out.symm⟩
          case measure => simp [intOf]; omega
        · rw [if_neg ho] at HAT
          have g4 : decide (cc < 0) = false := decide_eq_false (by omega)
          clear ho htr
          go_wp2_with fail
          go_roundw
          case rel => exact ⟨k + 1, bst, by omega, by go_num, HH.out, hbn, hbs, Lib.hid HAT.out.symm⟩
          case measure => simp [intOf]; omega
      · have g3 : (x.k != bst.k) = true := bne_iff_ne.2 hkk
        rw [if_pos hkk] at HAT
        clear hkk
        go_wp2_with fail
        refine wp_region_held_drew (S := fun u => Two w u nulV bst) (by kernel_rfl) (HTW.out.drew) (fun hHeld => ?_)
        refine wpAnyH_take (i := 0) (oi := ({ dst := some 18, op := Op.move (Operand.tmp 1), type := 29, pos := "ref.go:275", after := #[], guard := none } : Oper)) (v := ?_) rfl (by kernel_rfl) (by kernel_rfl) (by kernel_rfl) (fun _ _ _ h => h) (Or.inl ⟨by rfl, ?_⟩) (by assumption) ?_
        rotate_left 1
        · (intro u hSw; go_simp; try with_reducible rfl)
        try simp only [Act.put, List.setIfInBounds_toArray, List.set_cons_zero, List.set_cons_succ]
        refine wpAnyH_take (i := 1) (oi := ({ dst := some 19, op := Op.move (Operand.tmp 7), type := 3, pos := "ref.go:275", after := #[], guard := none } : Oper)) (v := ?_) rfl (by kernel_rfl) (by kernel_rfl) (by kernel_rfl) (fun _ _ _ h => h) (Or.inl ⟨by rfl, ?_⟩) (by assumption) ?_
        rotate_left 1
        · (intro u hSw; go_simp; try with_reducible rfl)
        try simp only [Act.put, List.setIfInBounds_toArray, List.set_cons_zero, List.set_cons_succ]
        refine wpAnyH_take (i := 2) (oi := ({ dst := some 20, op := Op.indexAddr 29 (Operand.tmp 18) (Operand.tmp 19), type := 0, pos := "ref.go:275", after := #[{ on := 0, ground := Ground.data }, { on := 1, ground := Ground.data }], guard := none } : Oper)) (v := ?_) rfl (by kernel_rfl) (by kernel_rfl) (by kernel_rfl) (fun _ _ _ h => h) (Or.inl ⟨by rfl, ?_⟩) (by assumption) ?_
        rotate_left 1
        · (intro u hSw; go_simp; try with_reducible rfl)
        try simp only [Act.put, List.setIfInBounds_toArray, List.set_cons_zero, List.set_cons_succ]
        refine wpAnyH_take (i := 3) (oi := ({ dst := some 21, op := Op.fieldAddr 23 (Operand.tmp 20) 0, type := 0, pos := "ref.go:275", after := #[{ on := 2, ground := Ground.data }], guard := none } : Oper)) (v := ?_) rfl (by kernel_rfl) (by kernel_rfl) (by kernel_rfl) (fun _ _ _ h => h) (Or.inl ⟨by rfl, ?_⟩) (by assumption) ?_
        rotate_left 1
        · (intro u hSw; go_simp; try with_reducible rfl)
        try simp only [Act.put, List.setIfInBounds_toArray, List.set_cons_zero, List.set_cons_succ]
        refine wpAnyH_take (i := 4) (oi := ({ dst := some 22, op := Op.load 3 (Operand.tmp 21), type := 3, pos := "ref.go:275", after := #[{ on := 3, ground := Ground.data }], guard := none } : Oper)) (v := ?_) rfl (by kernel_rfl) (by kernel_rfl) (by kernel_rfl) (fun _ _ _ h => h) (Or.inl ⟨by rfl, ?_⟩) (by assumption) ?_
        rotate_left 1
        · (intro u hSw; obtain ⟨d0, d1, d2⟩ := bx_cells hSw.2.1; have p0 := (hSw.2.2.cell (p := ⟨b, off + k * 3, none⟩) hb).trans HP.out.1; have p1 := (hSw.2.2.cell (p := ⟨b, off + k * 3 + 1, none⟩) hb).trans HP.out.2.1; have p2 := (hSw.2.2.cell (p := ⟨b, off + k * 3 + 2, none⟩) hb).trans HP.out.2.2; go_simp; try with_reducible rfl)
        try simp only [Act.put, List.setIfInBounds_toArray, List.set_cons_zero, List.set_cons_succ]
        refine wpAnyH_take (i := 5) (oi := ({ dst := some 23, op := Op.fieldAddr 23 (Operand.tmp 6) 0, type := 0, pos := "ref.go:275", after := #[], guard := none } : Oper)) (v := ?_) rfl (by kernel_rfl) (by kernel_rfl) (by kernel_rfl) (fun _ _ _ h => h) (Or.inl ⟨by rfl, ?_⟩) (by assumption) ?_
        rotate_left 1
        · (intro u hSw; go_simp; try with_reducible rfl)
        try simp only [Act.put, List.setIfInBounds_toArray, List.set_cons_zero, List.set_cons_succ]
        refine wpAnyH_take (i := 6) (oi := ({ dst := some 24, op := Op.load 3 (Operand.tmp 23), type := 3, pos := "ref.go:275", after := #[{ on := 5, ground := Ground.data }], guard := none } : Oper)) (v := ?_) rfl (by kernel_rfl) (by kernel_rfl) (by kernel_rfl) (fun _ _ _ h => h) (Or.inl ⟨by rfl, ?_⟩) (by assumption) ?_
        rotate_left 1
        · (intro u hSw; obtain ⟨d0, d1, d2⟩ := bx_cells hSw.2.1; have p0 := (hSw.2.2.cell (p := ⟨b, off + k * 3, none⟩) hb).trans HP.out.1; have p1 := (hSw.2.2.cell (p := ⟨b, off + k * 3 + 1, none⟩) hb).trans HP.out.2.1; have p2 := (hSw.2.2.cell (p := ⟨b, off + k * 3 + 2, none⟩) hb).trans HP.out.2.2; go_simp; try with_reducible rfl)
        try simp only [Act.put, List.setIfInBounds_toArray, List.set_cons_zero, List.set_cons_succ]
        refine wpAnyH_take (i := 7) (oi := ({ dst := some 25, op := Op.binOp BinOp.neq 3 (Operand.tmp 22) (Operand.tmp 24) 3, type := 4, pos := "ref.go:275", after := #[{ on := 4, ground := Ground.data }, { on := 6, ground := Ground.data }], guard := none } : Oper)) (v := ?_) rfl (by kernel_rfl) (by kernel_rfl) (by kernel_rfl) (fun _ _ _ h => h) (Or.inl ⟨by rfl, ?_⟩) (by assumption) ?_
        rotate_left 1
        · (intro u hSw; go_simp; try with_reducible rfl)
        try simp only [Act.put, List.setIfInBounds_toArray, List.set_cons_zero, List.set_cons_succ]
        refine wpAnyH_done (by kernel_rfl) ?_ _
        have HH := Lib.hid hHeld
        clear hHeld
        go_wp2_with fail
        refine bodyPost_ret (v := .tuple #[.agg #[.int .i64 0, .int .i64 0, .string ⟨#[]⟩], .int .i64 22]) (by simp [results, Try.results49, go_sem, z0, z1, z2]) rfl ⟨by rw [HAT.out]; rfl, set3_below nulV HH.out.2.2 (Nat.le_refl _)⟩
    · have hkn : k = s.length := by omega
      subst hkn
      have HAT := Lib.hid (hex.out.symm.trans (by rw [List.drop_length]; rfl : extL (-1) bst (s.drop s.length) = (bst, 0)))
      have hkk : decide ((s.length : Int) < (s.length : Int)) = false := decide_eq_false (by omega)
      clear hex hlt
      go_wp2_with fail
      refine bodyPost_ret (v := .tuple #[.agg #[.int .i64 bst.k, .int .i64 bst.n, .string (str bst.s)], .int .i64 0]) (by simp [results, Try.results49, go_sem, z0, z1, z2]) rfl ⟨by rw [HAT.out], set3_below bst hbelow (Nat.le_refl _)⟩
set_option maxRecDepth 100000 in
set_option maxHeartbeats 6400000 in
theorem rend_25 (v : Value) (s : List Val) (w : World) (hv : Rw w v s) (hok : ∀ x ∈ s, Nrm x) (hl : s.length ≤ 1073741824) (hsl : ∀ x ∈ s, x.s.length ≤ 1099511627776) (hs0 : 0 < s.length) :
    Calls Try.prog 49 #[.int .i64 25, v] w fun e w' => e = .returned (.tuple #[.agg #[.int .i64 ((extR 1 s).1).k, .int .i64 ((extR 1 s).1).n, .string (str ((extR 1 s).1).s)], .int .i64 (extR 1 s).2]) ∧ Below w.heap.size w w' := by
  obtain ⟨a, cap, rfl, hcap, hcells⟩ := hv
  have HOK := Lib.hid hok
  have HSL := Lib.hid hsl
  obtain ⟨b, off, rfl, hb, hce⟩ := hcells hs0
  obtain ⟨y, hy⟩ : ∃ y, s[0]? = some y := ⟨_, List.getElem?_eq_getElem hs0⟩
  have HY := Lib.hid hy
  have hst : extL 1 y (s.drop 0) = extR 1 s := by
    cases s with
    | nil => simp at hs0
    | cons a r => simp at hy; subst hy; rfl
  have HST := Lib.hid hst
  have HYN := Lib.hid (hok y (List.mem_of_getElem? hy))
  have HCE := Lib.hid hce
  have HT0 := Lib.hid (two_new w nulV y)
  obtain ⟨p0, p1, p2⟩ := hce 0 y hy
  rw [Nat.zero_mul, Nat.add_zero] at p0 p1 p2
  have g2 : (0 : Int) < (s.length : Int) := by omega
  have hcn0 : (s.length : Int) ≤ (cap : Int) := by omega
  clear hok hsl hce hcells hst hy
  go_enter Try.func49, Try.ntmps49
  go_wp2_with fail
  go_loopw [7, 8] (fun i _ wr => ∃ (k : Nat) (bst : Val), k ≤ s.length ∧ i = .int .i64 (k : Int) ∧ Two w wr nulV bst ∧ Hid (Nrm bst) ∧ Hid (bst.s.length ≤ 1099511627776) ∧ Hid (extL 1 bst (s.drop k) = extR 1 s)) (fun i _ _ => s.length - (intOf i).toNat)
  case atStart => exact ⟨0, y, Nat.zero_le _, rfl, HT0.out, HYN, Lib.hid (HSL.out y (List.mem_of_getElem? HY.out)), HST⟩
  case round =>
    obtain ⟨k, bst, hk, rfl, htw, hbn, hbs, hex⟩ := hrel
    have hbelow := htw.2.2
    have hsz := hbelow.size
    obtain ⟨z0, z1, z2⟩ := bx_cells htw.1
    obtain ⟨f0, f1, f2⟩ := bx_free htw.1
    obtain ⟨b0, b1, b2⟩ := bx_cells htw.2.1
    obtain ⟨bf0, bf1, bf2⟩ := bx_free htw.2.1
    have hlt0 := bx_lt htw.1
    have hlt1 := bx_lt htw.2.1
    have HTW := Lib.hid htw
    clear htw p0 p1 p2
    by_cases hlt : k < s.length
    · obtain ⟨x, hx⟩ : ∃ x, s[k]? = some x := ⟨_, List.getElem?_eq_getElem hlt⟩
      have HP := Lib.hid (HCE.out k x hx)
      have p0 := (hbelow.cell (p := ⟨b, off + k * 3, none⟩) hb).trans HP.out.1
      have p1 := (hbelow.cell (p := ⟨b, off + k * 3 + 1, none⟩) hb).trans HP.out.2.1
      have p2 := (hbelow.cell (p := ⟨b, off + k * 3 + 2, none⟩) hb).trans HP.out.2.2
      have hbr : b < wr.heap.size := by omega
      have hk2 : (k : Int) < (s.length : Int) := by omega
      have HXN := Lib.hid (HOK.out x (List.mem_of_getElem? hx))
      have HXS := Lib.hid (HSL.out x (List.mem_of_getElem? hx))
      have HAT := Lib.hid (hex.out.symm.trans (extL_at 1 hx))
      have HBL := Lib.hid hbelow
      clear hx hex hbelow
      by_cases hkk : x.k = bst.k
      · have g3 : (x.k != bst.k) = false := by simp [hkk]
        rw [if_neg (by simp [hkk])] at HAT
        have hor := fun u => rcompare_any x bst u HXN.out.1 hbn.out.1 HXS.out
        have htr := (tr_cmpV x bst bst).1
        rw [cmpV_nrm HXN.out hbn.out] at hor htr
        have HOR := Lib.hid hor
        generalize ordV x bst = cc at *
        clear hkk hor
        go_wp2_with fail
        refine wp_region_held_drew (S := fun u => Two w u nulV bst) (by kernel_rfl) (HTW.out.drew) (fun hHeld => ?_)
        refine wpAnyH_take (i := 0) (oi := ({ dst := some 18, op := Op.move (Operand.tmp 1), type := 29, pos := "ref.go:275", after := #[], guard := none } : Oper)) (v := ?_) rfl (by kernel_rfl) (by kernel_rfl) (by kernel_rfl) (fun _ _ _ h => h) (Or.inl ⟨by rfl, ?_⟩) (by assumption) ?_
        rotate_left 1
        · (intro u hSw; go_simp; try with_reducible rfl)
        try simp only [Act.put, List.setIfInBounds_toArray, List.set_cons_zero, List.set_cons_succ]
        refine wpAnyH_take (i := 1) (oi := ({ dst := some 19, op := Op.move (Operand.tmp 7), type := 3, pos := "ref.go:275", after := #[], guard := none } : Oper)) (v := ?_) rfl (by kernel_rfl) (by kernel_rfl) (by kernel_rfl) (fun _ _ _ h => h) (Or.inl ⟨by rfl, ?_⟩) (by assumption) ?_
        rotate_left 1
        · (intro u hSw; go_simp; try with_reducible rfl)
        try simp only [Act.put, List.setIfInBounds_toArray, List.set_cons_zero, List.set_cons_succ]
        refine wpAnyH_take (i := 2) (oi := ({ dst := some 20, op := Op.indexAddr 29 (Operand.tmp 18) (Operand.tmp 19), type := 0, pos := "ref.go:275", after := #[{ on := 0, ground := Ground.data }, { on := 1, ground := Ground.data }], guard := none } : Oper)) (v := ?_) rfl (by kernel_rfl) (by kernel_rfl) (by kernel_rfl) (fun _ _ _ h => h) (Or.inl ⟨by rfl, ?_⟩) (by assumption) ?_
        rotate_left 1
        · (intro u hSw; go_simp; try with_reducible rfl)
        try simp only [Act.put, List.setIfInBounds_toArray, List.set_cons_zero, List.set_cons_succ]
        refine wpAnyH_take (i := 3) (oi := ({ dst := some 21, op := Op.fieldAddr 23 (Operand.tmp 20) 0, type := 0, pos := "ref.go:275", after := #[{ on := 2, ground := Ground.data }], guard := none } : Oper)) (v := ?_) rfl (by kernel_rfl) (by kernel_rfl) (by kernel_rfl) (fun _ _ _ h => h) (Or.inl ⟨by rfl, ?_⟩) (by assumption) ?_
        rotate_left 1
        · (intro u hSw; go_simp; try with_reducible rfl)
        try simp only [Act.put, List.setIfInBounds_toArray, List.set_cons_zero, List.set_cons_succ]
        refine wpAnyH_take (i := 4) (oi := ({ dst := some 22, op := Op.load 3 (Operand.tmp 21), type := 3, pos := "ref.go:275", after := #[{ on := 3, ground := Ground.data }], guard := none } : Oper)) (v := ?_) rfl (by kernel_rfl) (by kernel_rfl) (by kernel_rfl) (fun _ _ _ h => h) (Or.inl ⟨by rfl, ?_⟩) (by assumption) ?_
        rotate_left 1
        · (intro u hSw; obtain ⟨d0, d1, d2⟩ := bx_cells hSw.2.1; have p0 := (hSw.2.2.cell (p := ⟨b, off + k * 3, none⟩) hb).trans HP.out.1; have p1 := (hSw.2.2.cell (p := ⟨b, off + k * 3 + 1, none⟩) hb).trans HP.out.2.1; have p2 := (hSw.2.2.cell (p := ⟨b, off + k * 3 + 2, none⟩) hb).trans HP.out.2.2; go_simp; try with_reducible rfl)
        try simp only [Act.put, List.setIfInBounds_toArray, List.set_cons_zero, List.set_cons_succ]
        refine wpAnyH_take (i := 5) (oi := ({ dst := some 23, op := Op.fieldAddr 23 (Operand.tmp 6) 0, type := 0, pos := "ref.go:275", after := #[], guard := none } : Oper)) (v := ?_) rfl (by kernel_rfl) (by kernel_rfl) (by kernel_rfl) (fun _ _ _ h => h) (Or.inl ⟨by rfl, ?_⟩) (by assumption) ?_
        rotate_left 1
        · (intro u hSw; go_simp; try with_reducible rfl)
        try simp only [Act.put, List.setIfInBounds_toArray, List.set_cons_zero, List.set_cons_succ]
        refine wpAnyH_take (i := 6) (oi := ({ dst := some 24, op := Op.load 3 (Operand.tmp 23), type := 3, pos := "ref.go:275", after := #[{ on := 5, ground := Ground.data }], guard := none } : Oper)) (v := ?_) rfl (by kernel_rfl) (by kernel_rfl) (by kernel_rfl) (fun _ _ _ h => h) (Or.inl ⟨by rfl, ?_⟩) (by assumption) ?_
        rotate_left 1
        · (intro u hSw; obtain ⟨d0, d1, d2⟩ := bx_cells hSw.2.1; have p0 := (hSw.2.2.cell (p := ⟨b, off + k * 3, none⟩) hb).trans HP.out.1; have p1 := (hSw.2.2.cell (p := ⟨b, off + k * 3 + 1, none⟩) hb).trans HP.out.2.1; have p2 := (hSw.2.2.cell (p := ⟨b, off + k * 3 + 2, none⟩) hb).trans HP.out.2.2; go_simp; try with_reducible rfl)
        try simp only [Act.put, List.setIfInBounds_toArray, List.set_cons_zero, List.set_cons_succ]
        refine wpAnyH_take (i := 7) (oi := ({ dst := some 25, op := Op.binOp BinOp.neq 3 (Operand.tmp 22) (Operand.tmp 24) 3, type := 4, pos := "ref.go:275", after := #[{ on := 4, ground := Ground.data }, { on := 6, ground := Ground.data }], guard := none } : Oper)) (v := ?_) rfl (by kernel_rfl) (by kernel_rfl) (by kernel_rfl) (fun _ _ _ h => h) (Or.inl ⟨by rfl, ?_⟩) (by assumption) ?_
        rotate_left 1
        · (intro u hSw; go_simp; try with_reducible rfl)
        try simp only [Act.put, List.setIfInBounds_toArray, List.set_cons_zero, List.set_cons_succ]
        refine wpAnyH_done (by kernel_rfl) ?_ _
        go_wp2_with fail
        have HTX := Lib.hid hHeld
        clear hHeld
        refine wp_region_held_drew (S := fun u => Two w u nulV bst) (by kernel_rfl) (HTX.out.drew) (fun hHeld => ?_)
        refine wpAnyH_take (i := 0) (oi := ({ dst := some 27, op := Op.move (Operand.tmp 1), type := 29, pos := "ref.go:278", after := #[], guard := none } : Oper)) (v := ?_) rfl (by kernel_rfl) (by kernel_rfl) (by kernel_rfl) (fun _ _ _ h => h) (Or.inl ⟨by rfl, ?_⟩) (by assumption) ?_
        rotate_left 1
        · (intro u hSw; go_simp; try with_reducible rfl)
        try simp only [Act.put, List.setIfInBounds_toArray, List.set_cons_zero, List.set_cons_succ]
        refine wpAnyH_take (i := 1) (oi := ({ dst := some 28, op := Op.move (Operand.tmp 7), type := 3, pos := "ref.go:278", after := #[], guard := none } : Oper)) (v := ?_) rfl (by kernel_rfl) (by kernel_rfl) (by kernel_rfl) (fun _ _ _ h => h) (Or.inl ⟨by rfl, ?_⟩) (by assumption) ?_
        rotate_left 1
        · (intro u hSw; go_simp; try with_reducible rfl)
        try simp only [Act.put, List.setIfInBounds_toArray, List.set_cons_zero, List.set_cons_succ]
        refine wpAnyH_take (i := 2) (oi := ({ dst := some 29, op := Op.indexAddr 29 (Operand.tmp 27) (Operand.tmp 28), type := 0, pos := "ref.go:278", after := #[{ on := 0, ground := Ground.data }, { on := 1, ground := Ground.data }], guard := none } : Oper)) (v := ?_) rfl (by kernel_rfl) (by kernel_rfl) (by kernel_rfl) (fun _ _ _ h => h) (Or.inl ⟨by rfl, ?_⟩) (by assumption) ?_
        rotate_left 1
        · (intro u hSw; go_simp; try with_reducible rfl)
        try simp only [Act.put, List.setIfInBounds_toArray, List.set_cons_zero, List.set_cons_succ]
        refine wpAnyH_take (i := 3) (oi := ({ dst := some 30, op := Op.load 23 (Operand.tmp 29), type := 23, pos := "ref.go:278", after := #[{ on := 2, ground := Ground.data }], guard := none } : Oper)) (v := ?_) rfl (by kernel_rfl) (by kernel_rfl) (by kernel_rfl) (fun _ _ _ h => h) (Or.inl ⟨by rfl, ?_⟩) (by assumption) ?_
        rotate_left 1
        · (intro u hSw; obtain ⟨d0, d1, d2⟩ := bx_cells hSw.2.1; have p0 := (hSw.2.2.cell (p := ⟨b, off + k * 3, none⟩) hb).trans HP.out.1; have p1 := (hSw.2.2.cell (p := ⟨b, off + k * 3 + 1, none⟩) hb).trans HP.out.2.1; have p2 := (hSw.2.2.cell (p := ⟨b, off + k * 3 + 2, none⟩) hb).trans HP.out.2.2; go_simp; try with_reducible rfl)
        try simp only [Act.put, List.setIfInBounds_toArray, List.set_cons_zero, List.set_cons_succ]
        refine wpAnyH_take (i := 4) (oi := ({ dst := some 31, op := Op.load 23 (Operand.tmp 6), type := 23, pos := "ref.go:278", after := #[], guard := none } : Oper)) (v := ?_) rfl (by kernel_rfl) (by kernel_rfl) (by kernel_rfl) (fun _ _ _ h => h) (Or.inl ⟨by rfl, ?_⟩) (by assumption) ?_
        rotate_left 1
        · (intro u hSw; obtain ⟨d0, d1, d2⟩ := bx_cells hSw.2.1; have p0 := (hSw.2.2.cell (p := ⟨b, off + k * 3, none⟩) hb).trans HP.out.1; have p1 := (hSw.2.2.cell (p := ⟨b, off + k * 3 + 1, none⟩) hb).trans HP.out.2.1; have p2 := (hSw.2.2.cell (p := ⟨b, off + k * 3 + 2, none⟩) hb).trans HP.out.2.2; go_simp; try with_reducible rfl)
        try simp only [Act.put, List.setIfInBounds_toArray, List.set_cons_zero, List.set_cons_succ]
        refine wpAnyH_ready (rs := [5]) (by kernel_rfl) (by simp) ?_
        refine AllReadyH.cons (o := ({ dst := some 32, op := Op.call { callee := Callee.value (Operand.func 19), args := #[Operand.tmp 30, Operand.tmp 31], argTypes := #[23, 23] }, type := 3, pos := "ref.go:278", after := #[{ on := 3, ground := Ground.data }, { on := 4, ground := Ground.data }], guard := none } : Oper)) rfl (fun K hK => ?_) AllReadyH.nil
        go_simp
        go_at_call 19
        refine (HOR.out _).mono ?_
        rintro e w2 ⟨rfl, hb2⟩
        go_wp2_with fail
        refine hK.out _ _ (hHeld.below hb2) (fun hHeld => ?_)
        clear hK K
        try simp only [Act.put, List.setIfInBounds_toArray, List.set_cons_zero, List.set_cons_succ]
        refine wpAnyH_take (i := 6) (oi := ({ dst := some 8, op := Op.assign (Operand.tmp 32), type := 3, pos := "ref.go:278", after := #[{ on := 5, ground := Ground.data }, { on := 5, ground := Ground.chain }, { on := 0, ground := Ground.phase }, { on := 1, ground := Ground.phase }, { on := 2, ground := Ground.phase }, { on := 3, ground := Ground.phase }, { on := 4, ground := Ground.phase }, { on := 5, ground := Ground.phase }], guard := none } : Oper)) (v := ?_) rfl (by kernel_rfl) (by kernel_rfl) (by kernel_rfl) (fun _ _ _ h => h) (Or.inl ⟨by rfl, ?_⟩) (by assumption) ?_
        rotate_left 1
        · (intro u hSw; go_simp; try with_reducible rfl)
        try simp only [Act.put, List.setIfInBounds_toArray, List.set_cons_zero, List.set_cons_succ]
        refine wpAnyH_done (by kernel_rfl) ?_ _
        obtain ⟨d0, d1, d2⟩ := bx_cells hHeld.2.1
        obtain ⟨df0, df1, df2⟩ := bx_free hHeld.2.1
        have hld := bx_lt hHeld.2.1
        have q0 := (hHeld.2.2.cell (p := ⟨b, off + k * 3, none⟩) hb).trans HP.out.1
        have q1 := (hHeld.2.2.cell (p := ⟨b, off + k * 3 + 1, none⟩) hb).trans HP.out.2.1
        have q2 := (hHeld.2.2.cell (p := ⟨b, off + k * 3 + 2, none⟩) hb).trans HP.out.2.2
        have HH := Lib.hid hHeld
        clear hHeld
        by_cases ho : cc = 1
        · rw [if_pos ho] at HAT
          have g4 : 0 < cc := by omega
          clear ho htr
          go_wp2_with fail
          go_roundw
          case rel => exact ⟨k + 1, x, by omega, by go_num, HH.out.set2 x, HXN, HXS, Lib.hid HAT.out.symm⟩
          case measure => simp [intOf]; omega
        · rw [if_neg ho] at HAT
          have g4 : decide (0 < cc) = false := decide_eq_false (by omega)
          clear ho htr
          go_wp2_with fail
          go_roundw
          case rel => exact ⟨k + 1, bst, by omega, by go_num, HH.out, hbn, hbs, Lib.hid HAT.out.symm⟩
          case measure => simp [intOf]; omega
      · have g3 : (x.k != bst.k) = true := bne_iff_ne.2 hkk
        rw [if_pos hkk] at HAT
        clear hkk
        go_wp2_with fail
        refine wp_region_held_drew (S := fun u => Two w u nulV bst) (by kernel_rfl) (HTW.out.drew) (fun hHeld => ?_)
        refine wpAnyH_take (i := 0) (oi := ({ dst := some 18, op := Op.move (Operand.tmp 1), type := 29, pos := "ref.go:275", after := #[], guard := none } : Oper)) (v := ?_) rfl (by kernel_rfl) (by kernel_rfl) (by kernel_rfl) (fun _ _ _ h => h) (Or.inl ⟨by rfl, ?_⟩) (by assumption) ?_
        rotate_left 1
        · (intro u hSw; go_simp; try with_reducible rfl)
        try simp only [Act.put, List.setIfInBounds_toArray, List.set_cons_zero, List.set_cons_succ]
        refine wpAnyH_take (i := 1) (oi := ({ dst := some 19, op := Op.move (Operand.tmp 7), type := 3, pos := "ref.go:275", after := #[], guard := none } : Oper)) (v := ?_) rfl (by kernel_rfl) (by kernel_rfl) (by kernel_rfl) (fun _ _ _ h => h) (Or.inl ⟨by rfl, ?_⟩) (by assumption) ?_
        rotate_left 1
        · (intro u hSw; go_simp; try with_reducible rfl)
        try simp only [Act.put, List.setIfInBounds_toArray, List.set_cons_zero, List.set_cons_succ]
        refine wpAnyH_take (i := 2) (oi := ({ dst := some 20, op := Op.indexAddr 29 (Operand.tmp 18) (Operand.tmp 19), type := 0, pos := "ref.go:275", after := #[{ on := 0, ground := Ground.data }, { on := 1, ground := Ground.data }], guard := none } : Oper)) (v := ?_) rfl (by kernel_rfl) (by kernel_rfl) (by kernel_rfl) (fun _ _ _ h => h) (Or.inl ⟨by rfl, ?_⟩) (by assumption) ?_
        rotate_left 1
        · (intro u hSw; go_simp; try with_reducible rfl)
        try simp only [Act.put, List.setIfInBounds_toArray, List.set_cons_zero, List.set_cons_succ]
        refine wpAnyH_take (i := 3) (oi := ({ dst := some 21, op := Op.fieldAddr 23 (Operand.tmp 20) 0, type := 0, pos := "ref.go:275", after := #[{ on := 2, ground := Ground.data }], guard := none } : Oper)) (v := ?_) rfl (by kernel_rfl) (by kernel_rfl) (by kernel_rfl) (fun _ _ _ h => h) (Or.inl ⟨by rfl, ?_⟩) (by assumption) ?_
        rotate_left 1
        · (intro u hSw; go_simp; try with_reducible rfl)
        try simp only [Act.put, List.setIfInBounds_toArray, List.set_cons_zero, List.set_cons_succ]
        refine wpAnyH_take (i := 4) (oi := ({ dst := some 22, op := Op.load 3 (Operand.tmp 21), type := 3, pos := "ref.go:275", after := #[{ on := 3, ground := Ground.data }], guard := none } : Oper)) (v := ?_) rfl (by kernel_rfl) (by kernel_rfl) (by kernel_rfl) (fun _ _ _ h => h) (Or.inl ⟨by rfl, ?_⟩) (by assumption) ?_
        rotate_left 1
        · (intro u hSw; obtain ⟨d0, d1, d2⟩ := bx_cells hSw.2.1; have p0 := (hSw.2.2.cell (p := ⟨b, off + k * 3, none⟩) hb).trans HP.out.1; have p1 := (hSw.2.2.cell (p := ⟨b, off + k * 3 + 1, none⟩) hb).trans HP.out.2.1; have p2 := (hSw.2.2.cell (p := ⟨b, off + k * 3 + 2, none⟩) hb).trans HP.out.2.2; go_simp; try with_reducible rfl)
        try simp only [Act.put, List.setIfInBounds_toArray, List.set_cons_zero, List.set_cons_succ]
        refine wpAnyH_take (i := 5) (oi := ({ dst := some 23, op := Op.fieldAddr 23 (Operand.tmp 6) 0, type := 0, pos := "ref.go:275", after := #[], guard := none } : Oper)) (v := ?_) rfl (by kernel_rfl) (by kernel_rfl) (by kernel_rfl) (fun _ _ _ h => h) (Or.inl ⟨by rfl, ?_⟩) (by assumption) ?_
        rotate_left 1
        · (intro u hSw; go_simp; try with_reducible rfl)
        try simp only [Act.put, List.setIfInBounds_toArray, List.set_cons_zero, List.set_cons_succ]
        refine wpAnyH_take (i := 6) (oi := ({ dst := some 24, op := Op.load 3 (Operand.tmp 23), type := 3, pos := "ref.go:275", after := #[{ on := 5, ground := Ground.data }], guard := none } : Oper)) (v := ?_) rfl (by kernel_rfl) (by kernel_rfl) (by kernel_rfl) (fun _ _ _ h => h) (Or.inl ⟨by rfl, ?_⟩) (by assumption) ?_
        rotate_left 1
        · (intro u hSw; obtain ⟨d0, d1, d2⟩ := bx_cells hSw.2.1; have p0 := (hSw.2.2.cell (p := ⟨b, off + k * 3, none⟩) hb).trans HP.out.1; have p1 := (hSw.2.2.cell (p := ⟨b, off + k * 3 + 1, none⟩) hb).trans HP.out.2.1; have p2 := (hSw.2.2.cell (p := ⟨b, off + k * 3 + 2, none⟩) hb).trans HP.out.2.2; go_simp; try with_reducible rfl)
        try simp only [Act.put, List.setIfInBounds_toArray, List.set_cons_zero, List.set_cons_succ]
        refine wpAnyH_take (i := 7) (oi := ({ dst := some 25, op := Op.binOp BinOp.neq 3 (Operand.tmp 22) (Operand.tmp 24) 3, type := 4, pos := "ref.go:275", after := #[{ on := 4, ground := Ground.data }, { on := 6, ground := Ground.data }], guard := none } : Oper)) (v := ?_) rfl (by kernel_rfl) (by kernel_rfl) (by kernel_rfl) (fun _ _ _ h => h) (Or.inl ⟨by rfl, ?_⟩) (by assumption) ?_
        rotate_left 1
        · (intro u hSw; go_simp; try with_reducible rfl)
        try simp only [Act.put, List.setIfInBounds_toArray, List.set_cons_zero, List.set_cons_succ]
        refine wpAnyH_done (by kernel_rfl) ?_ _
        have HH := Lib.hid hHeld
        clear hHeld
        go_wp2_with fail
        refine bodyPost_ret (v := .tuple #[.agg #[.int .i64 0, .int .i64 0, .string ⟨#[]⟩], .int .i64 22]) (by simp [results, Try.results49, go_sem, z0, z1, z2]) rfl ⟨by rw [HAT.out]; rfl, set3_below nulV HH.out.2.2 (Nat.le_refl _)⟩
    · have hkn : k = s.length := by omega
      subst hkn
      have HAT := Lib.hid (hex.out.symm.trans (by rw [List.drop_length]; rfl : extL 1 bst (s.drop s.length) = (bst, 0)))
      have hkk : decide ((s.length : Int) < (s.length : Int)) = false := decide_eq_false (by omega)
      clear hex hlt
      go_wp2_with fail
      refine bodyPost_ret (v := .tuple #[.agg #[.int .i64 bst.k, .int .i64 bst.n, .string (str bst.s)], .int .i64 0]) (by simp [results, Try.results49, go_sem, z0, z1, z2]) rfl ⟨by rw [HAT.out], set3_below bst hbelow (Nat.le_refl _)⟩
end Go.Proofs.Ytbhilmgpmebaiaa
