import Derived.Test.YtbhilmgpmebaiaaFo01
import Derived.Maps.Keyed
import Derived.MapKept
namespace Go.Proofs.Ytbhilmgpmebaiaa
open Go.RowKit
attribute [local go_sem ↓] eql32_eq neq32_eq
theorem rtruth_any (b : Bool) (w : World) : Calls Try.prog 27 #[.bool b] w fun e w' => e = .returned (.agg #[.int .i64 3, .int .i64 (if b = true then 1 else 0), .string ⟨#[]⟩]) ∧ w' = w.alloc (BX 3 (if b = true then 1 else 0) ⟨#[]⟩) := by
  cases b
  · go_enter Try.func27, Try.ntmps27
    go_wp2_with fail
    refine bodyPost_ret (v := .agg #[.int .i64 3, .int .i64 0, .string ⟨#[]⟩]) (by simp [results, Try.results27, go_sem]) rfl ⟨?_, ?_⟩
    · rfl
    · rfl
  · go_enter Try.func27, Try.ntmps27
    go_wp2_with fail
    refine bodyPost_ret (v := .agg #[.int .i64 3, .int .i64 1, .string ⟨#[]⟩]) (by simp [results, Try.results27, go_sem]) rfl ⟨?_, ?_⟩
    · rfl
    · rfl
theorem rnorm_any (x : Val) (w : World) : Calls Try.prog 26 #[.agg #[.int .i64 x.k, .int .i64 x.n, .string (str x.s)]] w fun e w' => e = .returned (.agg #[.int .i64 (normV x).k, .int .i64 (normV x).n, .string (str (normV x).s)]) ∧ Below w.heap.size w w' := by
  obtain ⟨k, n, s⟩ := x
  simp only
  by_cases k1 : k = 1
  · subst k1
    rw [norm_1 rfl]
    go_enter Try.func26, Try.ntmps26
    go_wp2_with fail
    refine bodyPost_ret (v := .agg #[.int .i64 1, .int .i64 n, .string ⟨#[]⟩]) (by simp [results, Try.results26, go_sem]) rfl ⟨?_, ?_⟩
    · rfl
    · exact bl_al (bl_al (Below.refl _ _) _) _
  by_cases k2 : k = 2
  · subst k2
    rw [norm_2 rfl]
    go_enter Try.func26, Try.ntmps26
    go_wp2_with fail
    refine bodyPost_ret (v := .agg #[.int .i64 2, .int .i64 0, .string (str s)]) (by simp [results, Try.results26, go_sem]) rfl ⟨?_, ?_⟩
    · rfl
    · exact bl_al (bl_al (Below.refl _ _) _) _
  by_cases k3 : k = 3
  · subst k3
    rw [norm_3 rfl]
    by_cases n0 : n = 0
    · subst n0
      go_enter Try.func26, Try.ntmps26
      go_wp2_with (go_at_call 27; refine (rtruth_any _ _).mono ?_; rintro e w' ⟨rfl, rfl⟩)
      refine bodyPost_ret (v := .agg #[.int .i64 3, .int .i64 0, .string ⟨#[]⟩]) (by simp [results, Try.results26, go_sem]) rfl ⟨?_, ?_⟩
      · rfl
      · exact bl_al (bl_al (bl_al (Below.refl _ _) _) _) _
    · simp only [if_neg n0]
      have hb : (!decide (n = 0)) = true := by simp [n0]
      go_enter Try.func26, Try.ntmps26
      go_wp2_with (go_at_call 27; refine (rtruth_any _ _).mono ?_; rintro e w' ⟨rfl, rfl⟩)
      refine bodyPost_ret (v := .agg #[.int .i64 3, .int .i64 1, .string ⟨#[]⟩]) (by simp [results, Try.results26, go_sem]) rfl ⟨?_, ?_⟩
      · rfl
      · exact bl_al (bl_al (bl_al (Below.refl _ _) _) _) _
  · rw [norm_0 k1 k2 k3]
    go_enter Try.func26, Try.ntmps26
    go_wp2_with fail
    refine bodyPost_ret (v := .agg #[.int .i64 0, .int .i64 0, .string ⟨#[]⟩]) (by simp [results, Try.results26, go_sem]) rfl ⟨?_, ?_⟩
    · rfl
    · exact bl_al (bl_al (Below.refl _ _) _) _
theorem rnumber_any (n : Int) (w : World) : Calls Try.prog 40 #[.int .i64 n] w fun e w' => e = .returned (.agg #[.int .i64 1, .int .i64 n, .string ⟨#[]⟩]) ∧ w' = w.alloc (BX 1 n ⟨#[]⟩) := by
  go_enter Try.func40, Try.ntmps40
  go_wp2_with fail
  refine bodyPost_ret (v := .agg #[.int .i64 1, .int .i64 n, .string ⟨#[]⟩]) (by simp [results, Try.results40, go_sem]) rfl ⟨?_, ?_⟩
  · rfl
  · rfl
set_option maxHeartbeats 3200000 in
theorem rorder_any (s t : List Int) (w : World) (hs : Rng s) (ht : Rng t) (hl : s.length ≤ 1099511627776) : Calls Try.prog 51 #[.string (str s), .string (str t)] w fun e w' => e = .returned (.int .i64 (cmpI s t)) ∧ Below w.heap.size w w' := by
  have HS := Lib.hid hs
  have HT := Lib.hid ht
  have l1 := str_len s
  have l2 := str_len t
  generalize hn : s.length = n at *
  generalize ho : t.length = o at *
  have HN := Lib.hid hn
  have HO := Lib.hid ho
  clear hn ho hs ht
  go_enter Try.func51, Try.ntmps51
  go_wp2_with fail
  go_loopw [5] (fun i wr => ∃ k : Nat, k ≤ n ∧ k ≤ o ∧ i = .int .i64 k ∧ Below w.heap.size w wr ∧ Hid (cmpI s t = cmpI (s.drop k) (t.drop k))) (fun i _ => n - (intOf i).toNat)
  case atStart => exact ⟨0, Nat.zero_le _, Nat.zero_le _, rfl, Below.refl _ _, Lib.hid rfl⟩
  case round =>
    obtain ⟨k, hk1, hk2, rfl, hbw, heq⟩ := hrel
    have HBW := Lib.hid hbw
    clear hbw
    by_cases hlt1 : k < n
    · by_cases hlt2 : k < o
      · have x1 := fun u => index_str u s k HS.out (by rw [HN.out]; exact hlt1)
        have x2 := fun u => index_str u t k HT.out (by rw [HO.out]; exact hlt2)
        have HAT := Lib.hid (heq.out.trans (cmpI_at (by rw [HN.out]; exact hlt1) (by rw [HO.out]; exact hlt2)))
        generalize s[k]?.getD 0 = x at *
        generalize t[k]?.getD 0 = y at *
        have k1 : ((k : Int) < (n : Int)) := by omega
        have k2 : ((k : Int) < (o : Int)) := by omega
        clear heq
        by_cases hxy : x < y
        · rw [if_pos hxy] at HAT
          have hxy2 : decide (x < y) = true := decide_eq_true hxy
          go_wp2_with fail
          go_quiet (fail)
          go_wp2_with fail
          go_ret
          exact ⟨ret_int HAT.out.symm, below_drewN HBW.out _⟩
        · rw [if_neg hxy] at HAT
          have hxy2 : decide (x < y) = false := decide_eq_false hxy
          by_cases hyx : y < x
          · rw [if_pos hyx] at HAT
            have hyx2 : decide (y < x) = true := decide_eq_true hyx
            go_wp2_with fail
            go_quiet (fail)
            go_wp2_with fail
            go_quiet (fail)
            go_wp2_with fail
            go_ret
            exact ⟨ret_int HAT.out.symm, below_drewN (below_drewN HBW.out _) _⟩
          · rw [if_neg hyx] at HAT
            have hyx2 : decide (y < x) = false := decide_eq_false hyx
            go_wp2_with fail
            go_quiet (fail)
            go_wp2_with fail
            go_quiet (fail)
            go_wp2_with fail
            go_roundw
            case rel => exact ⟨k + 1, by omega, by omega, by go_num, below_drewN HBW.out _, HAT⟩
            case measure => simp [intOf]; omega
      · have hko : k = o := by omega
        have HF := Lib.hid (heq.out.trans (cmpI_end2 (by rw [HN.out]; exact hlt1) (by rw [HO.out]; exact hko)))
        have k1 : ((k : Int) < (n : Int)) := by omega
        clear heq
        subst hko
        go_wp2_with fail
        go_ret
        exact ⟨ret_int HF.out.symm, HBW.out⟩
    · have hkn : k = n := by omega
      subst hkn
      by_cases hlt2 : k < o
      · have HF := Lib.hid (heq.out.trans (cmpI_end1 (by rw [HN.out]) (by rw [HO.out]; exact hlt2)))
        have k1 : ((k : Int) < (o : Int)) := by omega
        clear heq
        go_wp2_with fail
        go_ret
        exact ⟨ret_int HF.out.symm, HBW.out⟩
      · have hko : k = o := by omega
        have HF := Lib.hid (heq.out.trans (cmpI_end3 (by rw [HN.out]) (by rw [HO.out]; exact hko)))
        clear heq
        subst hko
        go_wp2_with fail
        go_ret
        exact ⟨ret_int HF.out.symm, HBW.out⟩
end Go.Proofs.Ytbhilmgpmebaiaa
namespace Go.Proofs.Ytbhilmgpmebaiaa
open Go.RowKit
attribute [local go_sem ↓] eql32_eq neq32_eq
theorem ord_lt {a b : Val} (h : a.k < b.k) : ordV a b = -1 := by simp [ordV, sgI, h, orI]
theorem ord_gt {a b : Val} (h : b.k < a.k) : ordV a b = 1 := by simp [ordV, sgI, h, orI, show ¬ a.k < b.k by omega]
theorem ord_txt {a b : Val} (ha : Nrm a) (hb : Nrm b) (h : a.k = b.k) (h2 : a.k = 2) : ordV a b = cmpI a.s b.s := by
  have h3 : a.n = 0 := by rcases ha.2 with h | h | h | h <;> omega
  have h4 : b.n = 0 := by rcases hb.2 with h | h | h | h <;> omega
  simp [ordV, sgI, h, h3, h4, orI]
theorem ord_num {a b : Val} (ha : Nrm a) (hb : Nrm b) (h : a.k = b.k) (h2 : a.k ≠ 2) : ordV a b = sgI a.n b.n := by
  have h3 : a.s = [] := by rcases ha.2 with h | h | h | h; exact h.2.2; exact h.2; exact absurd h.1 h2; exact h.2.2
  have h4 : b.s = [] := by rcases hb.2 with h | h | h | h; exact h.2.2; exact h.2; exact absurd h.1 (by omega); exact h.2.2
  rw [ordV, h3, h4, h, show sgI b.k b.k = 0 by simp [sgI], show cmpI [] [] = 0 from rfl]
  simp only [orI, ne_eq, not_true_eq_false, if_false]
  by_cases h5 : sgI a.n b.n = 0 <;> simp [h5]
theorem set3 {u : World} {H : Nat} {k n : Int} {s : ByteArray} (h : u.heap[H]? = some (BX k n s)) (a : Val) :
    (((u.setCell ⟨H, 0, none⟩ (.int .i64 a.k)).setCell ⟨H, 1, none⟩ (.int .i64 a.n)).setCell ⟨H, 2, none⟩ (.string (str a.s))).heap[H]? = some (BX a.k a.n (str a.s)) := by
  have h1 := heap_setCell_same u H 0 _ _ (.int .i64 a.k) h
  have h2 := heap_setCell_same _ H 1 _ _ (.int .i64 a.n) h1
  have h3 := heap_setCell_same _ H 2 _ _ (.string (str a.s)) h2
  exact h3
theorem set3_other {u : World} {H g : Nat} (a : Val) (hg : g ≠ H) :
    (((u.setCell ⟨H, 0, none⟩ (.int .i64 a.k)).setCell ⟨H, 1, none⟩ (.int .i64 a.n)).setCell ⟨H, 2, none⟩ (.string (str a.s))).heap[g]? = u.heap[g]? := by
  rw [heap_setCell_other _ _ _ _ hg, heap_setCell_other _ _ _ _ hg, heap_setCell_other _ _ _ _ hg]
theorem set3_below {w u : World} {H B : Nat} (a : Val) (h : Below B w u) (hB : B ≤ H) :
    Below B w (((u.setCell ⟨H, 0, none⟩ (.int .i64 a.k)).setCell ⟨H, 1, none⟩ (.int .i64 a.n)).setCell ⟨H, 2, none⟩ (.string (str a.s))) :=
  ((h.setCell hB _).setCell hB _).setCell hB _
theorem Two.set1 {w u : World} {x y : Val} (h : Two w u x y) (a : Val) : Two w (((u.setCell ⟨w.heap.size, 0, none⟩ (.int .i64 a.k)).setCell ⟨w.heap.size, 1, none⟩ (.int .i64 a.n)).setCell ⟨w.heap.size, 2, none⟩ (.string (str a.s))) a y :=
  ⟨set3 h.1 a, (set3_other a (by omega)).trans h.2.1, set3_below a h.2.2 (Nat.le_refl _)⟩
theorem Two.set2 {w u : World} {x y : Val} (h : Two w u x y) (a : Val) : Two w (((u.setCell ⟨w.heap.size + 1, 0, none⟩ (.int .i64 a.k)).setCell ⟨w.heap.size + 1, 1, none⟩ (.int .i64 a.n)).setCell ⟨w.heap.size + 1, 2, none⟩ (.string (str a.s))) x a :=
  ⟨(set3_other a (by omega)).trans h.1, set3 h.2.1 a, set3_below a h.2.2 (by omega)⟩
theorem bx_cells {u : World} {H : Nat} {k n : Int} {s : ByteArray} (h : u.heap[H]? = some (BX k n s)) :
    u.cell? ⟨H, 0, none⟩ = some (.int .i64 k) ∧ u.cell? ⟨H, 1, none⟩ = some (.int .i64 n) ∧ u.cell? ⟨H, 2, none⟩ = some (.string s) :=
  ⟨cell_of_row _ _ 0 _ _ _ h, cell_of_row _ _ 1 _ _ _ h, cell_of_row _ _ 2 _ _ _ h⟩
theorem bx_free {u : World} {H : Nat} {k n : Int} {s : ByteArray} (h : u.heap[H]? = some (BX k n s)) :
    u.frozen? ⟨H, 0, none⟩ = false ∧ u.frozen? ⟨H, 1, none⟩ = false ∧ u.frozen? ⟨H, 2, none⟩ = false :=
  ⟨frozen_of_row _ _ 0 _ _ h, frozen_of_row _ _ 1 _ _ h, frozen_of_row _ _ 2 _ _ h⟩
set_option maxRecDepth 100000 in
set_option maxHeartbeats 1600000 in
theorem rcompare_any (x y : Val) (w : World) (hx : x.OK) (hy : y.OK) (hl : x.s.length ≤ 1099511627776) : Calls Try.prog 19 #[.agg #[.int .i64 x.k, .int .i64 x.n, .string (str x.s)], .agg #[.int .i64 y.k, .int .i64 y.n, .string (str y.s)]] w fun e w' => e = .returned (.int .i64 (cmpV x y)) ∧ Below w.heap.size w w' := by
  have HT := Lib.hid (two_new w x y)
  have HX := Lib.hid (nrm_norm hx)
  have HY := Lib.hid (nrm_norm hy)
  have HL := Lib.hid (Nat.le_trans (norm_len x) hl)
  clear hl
  unfold cmpV
  generalize hA : normV x = A at *
  generalize hB : normV y = B at *
  have HNX := Lib.hid (fun w => hA ▸ rnorm_any x w)
  have HNY := Lib.hid (fun w => hB ▸ rnorm_any y w)
  clear hA hB hx hy
  have key : ∀ (r : Int), ordV A B = r → (A.k < B.k ∧ r = -1 ∨ B.k < A.k ∧ r = 1 ∨ A.k = B.k ∧ A.k = 2 ∧ r = cmpI A.s B.s ∨ A.k = B.k ∧ A.k ≠ 2 ∧ (A.n < B.n ∧ r = -1 ∨ B.n < A.n ∧ r = 1 ∨ A.n = B.n ∧ r = 0)) := by
    rintro r rfl
    rcases Int.lt_trichotomy A.k B.k with h | h | h
    · exact .inl ⟨h, ord_lt h⟩
    · by_cases h2 : A.k = 2
      · exact .inr (.inr (.inl ⟨h, h2, ord_txt HX.out HY.out h h2⟩))
      · refine .inr (.inr (.inr ⟨h, h2, ?_⟩))
        rw [ord_num HX.out HY.out h h2]
        rcases Int.lt_trichotomy A.n B.n with h | h | h
        · exact .inl ⟨h, by simp [sgI, h]⟩
        · exact .inr (.inr ⟨h, by simp [sgI, h]⟩)
        · exact .inr (.inl ⟨h, by simp [sgI, h, show ¬ A.n < B.n by omega]⟩)
    · exact .inr (.inl ⟨h, ord_gt h⟩)
  obtain ⟨r, hr⟩ : ∃ r, ordV A B = r := ⟨_, rfl⟩
  have hk := key r hr
  rw [hr]
  clear key hr
  rcases hk with ⟨h1, rfl⟩ | ⟨h1, rfl⟩ | ⟨h1, h2, rfl⟩ | ⟨h1, h2, h3⟩
  · go_enter Try.func19, Try.ntmps19
    go_wp2_with (first | (go_at_call 26; refine (HNX.out _).mono ?_; rintro e w1 ⟨rfl, hb1⟩; have hp1 := HT.out.below hb1; obtain ⟨f0, f1, f2⟩ := bx_free hp1.1; obtain ⟨c0, c1, c2⟩ := bx_cells hp1.2.1; obtain ⟨a0, a1, a2⟩ := bx_cells hp1.1; have HT2 := Lib.hid (hp1.set1 A); clear hb1 hp1 HNX) | (go_at_call 26; refine (HNY.out _).mono ?_; rintro e w2 ⟨rfl, hb2⟩; have hp2 := HT2.out.below hb2; obtain ⟨g0, g1, g2⟩ := bx_free hp2.2.1; obtain ⟨d0, d1, d2⟩ := bx_cells hp2.1; obtain ⟨b0, b1, b2⟩ := bx_cells hp2.2.1; have HT3 := Lib.hid (hp2.set2 B); clear hb2 hp2 HT2))
    go_ret
    exact ⟨rfl, HT3.out.2.2⟩
  · have k1 : decide (A.k < B.k) = false := decide_eq_false (by omega)
    go_enter Try.func19, Try.ntmps19
    go_wp2_with (first | (go_at_call 26; refine (HNX.out _).mono ?_; rintro e w1 ⟨rfl, hb1⟩; have hp1 := HT.out.below hb1; obtain ⟨f0, f1, f2⟩ := bx_free hp1.1; obtain ⟨c0, c1, c2⟩ := bx_cells hp1.2.1; obtain ⟨a0, a1, a2⟩ := bx_cells hp1.1; have HT2 := Lib.hid (hp1.set1 A); clear hb1 hp1 HNX) | (go_at_call 26; refine (HNY.out _).mono ?_; rintro e w2 ⟨rfl, hb2⟩; have hp2 := HT2.out.below hb2; obtain ⟨g0, g1, g2⟩ := bx_free hp2.2.1; obtain ⟨d0, d1, d2⟩ := bx_cells hp2.1; obtain ⟨b0, b1, b2⟩ := bx_cells hp2.2.1; have HT3 := Lib.hid (hp2.set2 B); clear hb2 hp2 HT2))
    go_ret
    exact ⟨rfl, HT3.out.2.2⟩
  · have k1 : decide (A.k < B.k) = false := decide_eq_false (by omega)
    have k2 : decide (B.k < A.k) = false := decide_eq_false (by omega)
    have k3 : (A.k == 2) = true := beq_iff_eq.2 h2
    have HO := Lib.hid (fun u => rorder_any A.s B.s u HX.out.1.1 HY.out.1.1 HL.out)
    clear h1 h2
    go_enter Try.func19, Try.ntmps19
    go_wp2_with (first | (go_at_call 26; refine (HNX.out _).mono ?_; rintro e w1 ⟨rfl, hb1⟩; have hp1 := HT.out.below hb1; obtain ⟨f0, f1, f2⟩ := bx_free hp1.1; obtain ⟨c0, c1, c2⟩ := bx_cells hp1.2.1; obtain ⟨a0, a1, a2⟩ := bx_cells hp1.1; have HT2 := Lib.hid (hp1.set1 A); clear hb1 hp1 HNX) | (go_at_call 26; refine (HNY.out _).mono ?_; rintro e w2 ⟨rfl, hb2⟩; have hp2 := HT2.out.below hb2; obtain ⟨g0, g1, g2⟩ := bx_free hp2.2.1; obtain ⟨d0, d1, d2⟩ := bx_cells hp2.1; obtain ⟨b0, b1, b2⟩ := bx_cells hp2.2.1; have HT3 := Lib.hid (hp2.set2 B); clear hb2 hp2 HT2) | (go_at_call 51; refine (HO.out _).mono ?_; rintro e w3 ⟨rfl, hb3⟩; have HB3 := Lib.hid hb3; clear hb3))
    go_ret
    exact ⟨rfl, bl_tr HT3.out.2.2 HB3.out⟩
  · have k1 : decide (A.k < B.k) = false := decide_eq_false (by omega)
    have k2 : decide (B.k < A.k) = false := decide_eq_false (by omega)
    have k3 : (A.k == 2) = false := beq_false_of_ne h2
    clear h1 h2
    rcases h3 with ⟨h4, rfl⟩ | ⟨h4, rfl⟩ | ⟨h4, rfl⟩
    · go_enter Try.func19, Try.ntmps19
      go_wp2_with (first | (go_at_call 26; refine (HNX.out _).mono ?_; rintro e w1 ⟨rfl, hb1⟩; have hp1 := HT.out.below hb1; obtain ⟨f0, f1, f2⟩ := bx_free hp1.1; obtain ⟨c0, c1, c2⟩ := bx_cells hp1.2.1; obtain ⟨a0, a1, a2⟩ := bx_cells hp1.1; have HT2 := Lib.hid (hp1.set1 A); clear hb1 hp1 HNX) | (go_at_call 26; refine (HNY.out _).mono ?_; rintro e w2 ⟨rfl, hb2⟩; have hp2 := HT2.out.below hb2; obtain ⟨g0, g1, g2⟩ := bx_free hp2.2.1; obtain ⟨d0, d1, d2⟩ := bx_cells hp2.1; obtain ⟨b0, b1, b2⟩ := bx_cells hp2.2.1; have HT3 := Lib.hid (hp2.set2 B); clear hb2 hp2 HT2))
      go_ret
      exact ⟨rfl, HT3.out.2.2⟩
    · have k4 : decide (A.n < B.n) = false := decide_eq_false (by omega)
      go_enter Try.func19, Try.ntmps19
      go_wp2_with (first | (go_at_call 26; refine (HNX.out _).mono ?_; rintro e w1 ⟨rfl, hb1⟩; have hp1 := HT.out.below hb1; obtain ⟨f0, f1, f2⟩ := bx_free hp1.1; obtain ⟨c0, c1, c2⟩ := bx_cells hp1.2.1; obtain ⟨a0, a1, a2⟩ := bx_cells hp1.1; have HT2 := Lib.hid (hp1.set1 A); clear hb1 hp1 HNX) | (go_at_call 26; refine (HNY.out _).mono ?_; rintro e w2 ⟨rfl, hb2⟩; have hp2 := HT2.out.below hb2; obtain ⟨g0, g1, g2⟩ := bx_free hp2.2.1; obtain ⟨d0, d1, d2⟩ := bx_cells hp2.1; obtain ⟨b0, b1, b2⟩ := bx_cells hp2.2.1; have HT3 := Lib.hid (hp2.set2 B); clear hb2 hp2 HT2))
      go_ret
      exact ⟨rfl, HT3.out.2.2⟩
    · have k4 : decide (A.n < B.n) = false := decide_eq_false (by omega)
      have k5 : decide (B.n < A.n) = false := decide_eq_false (by omega)
      clear h4
      go_enter Try.func19, Try.ntmps19
      go_wp2_with (first | (go_at_call 26; refine (HNX.out _).mono ?_; rintro e w1 ⟨rfl, hb1⟩; have hp1 := HT.out.below hb1; obtain ⟨f0, f1, f2⟩ := bx_free hp1.1; obtain ⟨c0, c1, c2⟩ := bx_cells hp1.2.1; obtain ⟨a0, a1, a2⟩ := bx_cells hp1.1; have HT2 := Lib.hid (hp1.set1 A); clear hb1 hp1 HNX) | (go_at_call 26; refine (HNY.out _).mono ?_; rintro e w2 ⟨rfl, hb2⟩; have hp2 := HT2.out.below hb2; obtain ⟨g0, g1, g2⟩ := bx_free hp2.2.1; obtain ⟨d0, d1, d2⟩ := bx_cells hp2.1; obtain ⟨b0, b1, b2⟩ := bx_cells hp2.2.1; have HT3 := Lib.hid (hp2.set2 B); clear hb2 hp2 HT2))
      go_ret
      exact ⟨rfl, HT3.out.2.2⟩
end Go.Proofs.Ytbhilmgpmebaiaa
namespace Go.Proofs.Ytbhilmgpmebaiaa
open Go.RowKit
attribute [local go_sem ↓] eql32_eq neq32_eq
end Go.Proofs.Ytbhilmgpmebaiaa
namespace Go.Proofs.Ytbhilmgpmebaiaa
open Go.RowKit
/-- the entries of a map of functions -/
def KF (es : List MapEntry) (kvs : List (Int × Value)) : Prop := es.map (fun e => (e.key, e.val)) = kvs.map fun p => (Value.int .i64 p.1, p.2)
def fidx : List (Int × Value) → Int → Option (Nat × Value)
  | [], _ => none
  | p :: r, n => if n = p.1 then some (0, p.2) else (fidx r n).map fun q => (q.1 + 1, q.2)
theorem findNow_F (n : Int) : ∀ (es : List MapEntry) (kvs : List (Int × Value)) (i : Nat), KF es kvs → Instr.findNow (.int .i64) (.int .i64 n) es i = some ((fidx kvs n).map fun q => (i + q.1, q.2))
  | [], [], i, _ => rfl
  | [], _ :: _, _, h => by simp [KF] at h
  | _ :: _, [], _, h => by simp [KF] at h
  | e :: es, p :: r, i, h => by
    simp only [KF, List.map_cons, List.cons.injEq, Prod.mk.injEq] at h
    obtain ⟨⟨h1, h2⟩, h3⟩ := h
    have ih := findNow_F n es r (i + 1) h3
    unfold Instr.findNow
    rw [h1]
    by_cases hn : n = p.1
    · subst hn
      simp [Instr.sameNow, fidx, h2]
    · have hb : (n == p.1) = false := by simpa using hn
      simp only [Instr.sameNow, if_true, hb, ih, fidx, if_neg hn]
      congr 1
      cases fidx r n with
      | none => rfl
      | some q => simp; omega
def MapF (w : World) (M : Nat) (kvs : List (Int × Value)) : Prop := ∃ es clock, w.heap[M]? = some (.map es clock) ∧ KF es.toList kvs
theorem run_findKey_F (w : World) (n : Int) (es : List MapEntry) (kvs : List (Int × Value)) (h : KF es kvs) :
    (Instr.findKey 3 (.int .i64 n) es).run Try.prog w = .ok (fidx kvs n) w := by
  unfold Instr.findKey
  simp only [Sem.run_bind, run_underlying Try.underlying3, Result.andThen_ok, findNow_F n es kvs 0 h, Nat.zero_add, Sem.run_pure]
  cases fidx kvs n <;> rfl
theorem run_checkKeyF (w : World) (em : Bool) (n : Int) : (Instr.checkKey em 10000 3 (.int .i64 n)).run Try.prog w = .ok () w := by
  show (Instr.checkKey em (9999 + 1) 3 (.int .i64 n)).run Try.prog w = _
  unfold Instr.checkKey
  simp only [Sem.run_bind, run_underlying Try.underlying3, Result.andThen_ok]
  rfl
theorem run_lookF {mt e : TypeId} (ht : Try.prog.underlying mt = some (.map 3 e)) (w : World) (M : Nat) (n : Int) (kvs : List (Int × Value)) (h : MapF w M kvs) (q : Nat × Value) (hq : fidx kvs n = some q) (ok : Bool) :
    (Instr.lookup mt (.map (some M)) (.int .i64 n) ok).run Try.prog w = .ok (if ok = true then .tuple #[q.2, .bool true] else q.2) w := by
  obtain ⟨es, clock, hM, hkv⟩ := h
  have hg : (getObj M).run Try.prog w = .ok (.map es clock) w := by simp [getObj, Sem.run, hM]
  unfold Instr.lookup
  simp only [Sem.run_bind, run_underlying ht, Result.andThen_ok, hg, Sem.run_pure, run_checkKeyF, run_findKey_F w n es.toList kvs hkv, hq]
theorem run_missF {mt e : TypeId} (ht : Try.prog.underlying mt = some (.map 3 e)) (z : Value) (hz : ∀ w, (zeroValue e).run Try.prog w = .ok z w) (w : World) (M : Nat) (n : Int) (kvs : List (Int × Value)) (h : MapF w M kvs) (hq : fidx kvs n = none) :
    (Instr.lookup mt (.map (some M)) (.int .i64 n) true).run Try.prog w = .ok (.tuple #[z, .bool false]) w := by
  obtain ⟨es, clock, hM, hkv⟩ := h
  have hg : (getObj M).run Try.prog w = .ok (.map es clock) w := by simp [getObj, Sem.run, hM]
  unfold Instr.lookup
  simp only [Sem.run_bind, run_underlying ht, Result.andThen_ok, hg, Sem.run_pure, run_checkKeyF, run_findKey_F w n es.toList kvs hkv, hq, hz]
  rfl
def putF (w : World) (M : Nat) (o : Obj) : World := { w with heap := w.heap.setIfInBounds M o }
theorem run_updF {mt e : TypeId} (ht : Try.prog.underlying mt = some (.map 3 e)) (w : World) (M : Nat) (n : Int) (v : Value) (kvs : List (Int × Value)) (h : MapF w M kvs) (hq : fidx kvs n = none) :
    ∃ w', (Instr.mapUpdate mt (.map (some M)) (.int .i64 n) v).run Try.prog w = .ok () w' ∧ MapF w' M (kvs ++ [(n, v)]) ∧ w.grownBy w' (some M) ∧ w'.heap.size = w.heap.size := by
  obtain ⟨es, clock, hM, hkv⟩ := h
  have hlt : M < w.heap.size := by rcases Nat.lt_or_ge M w.heap.size with h | h; exact h; rw [Array.getElem?_eq_none h] at hM; cases hM
  have hg : (getObj M).run Try.prog w = .ok (.map es clock) w := by simp [getObj, Sem.run, hM]
  have hset : ∀ o : Obj, (setObj M o).run Try.prog w = .ok () (putF w M o) := fun o => by simp [setObj, Sem.run, hM, putF]
  have hgr : ∀ o : Obj, w.grownBy (putF w M o) (some M) := fun o => ⟨rfl, rfl, rfl, by simp [putF], fun k _ hk => by
    have : M ≠ k := fun e => hk (by rw [e])
    simp [putF, this]⟩
  have hat : ∀ o : Obj, (putF w M o).heap[M]? = some o := fun o => by simp [putF, hlt]
  have hsz : ∀ o : Obj, (putF w M o).heap.size = w.heap.size := fun o => by simp [putF]
  unfold Instr.mapUpdate
  simp only [Sem.run_bind, run_underlying ht, Result.andThen_ok, hg, run_checkKeyF, run_findKey_F w n es.toList kvs hkv, hq]
  refine ⟨_, hset _, ⟨_, _, hat _, ?_⟩, hgr _, hsz _⟩
  simp only [KF, Array.toList_push, List.map_append, List.map_cons, List.map_nil] at hkv ⊢
  rw [hkv]
theorem wpList_insF {mt e : TypeId} (ht : Try.prog.underlying mt = some (.map 3 e)) {ops : Array Oper} {rest : List Oper} {o : Oper} {a : Act} {w : World} {Q : Exit → Act → World → Prop} (hg : o.guard = none)
    (m k x : Operand) (hop : o.op = Op.insert mt m k x) (M : Nat) (hm : a.eval m = .map (some M)) (n : Int) (hk : a.eval k = .int .i64 n) (kvs : List (Int × Value)) (h : MapF w M kvs) (hq : fidx kvs n = none)
    (B : Nat) (w0 : World) (hB : Below B w0 w) (hBM : B ≤ M) (H : ∀ w', MapF w' M (kvs ++ [(n, a.eval x)]) → Below B w0 w' → wpList Try.prog ops Q rest (a.put o.dst undef) w') : wpList Try.prog ops Q (o :: rest) a w := by
  have hlt : M < w.heap.size := by obtain ⟨es, c, hM, _⟩ := h; rcases Nat.lt_or_ge M w.heap.size with h | h; exact h; rw [Array.getElem?_eq_none h] at hM; cases hM
  obtain ⟨w', hr, hf, hgr, hs⟩ := run_updF ht w M n (a.eval x) kvs h hq
  have hb : Below B w0 w' := ⟨hgr.os.trans hB.os, hgr.tape.trans hB.tape, hgr.output.trans hB.output, by rw [hs]; exact hB.size, fun k hk => (hgr.block k (by omega) (fun e => by cases e; omega)).trans (hB.block k hk)⟩
  refine wpList_plain hg fun K hK => ?_
  unfold Oper.wp
  have hx : (execOp a.eval o).run Try.prog w = .ok .skip w' := by
    unfold execOp
    simp [hop, hm, hk, hr, Result.andThen]
  rw [hx]
  exact hK _ _ (H w' hf hb)
theorem mapF_new (w : World) : MapF (w.alloc (.map #[] 0)) w.heap.size [] := ⟨_, _, heap_alloc_new _ _, rfl⟩
theorem calculations_any (w : World) : Calls Try.prog 33 #[] w fun e w' => ∃ M, e = .returned (.map (some M)) ∧ MapF w' M [(4, .func (.func 59) #[] #[]), (5, .func (.func 61) #[] #[]), (6, .func (.func 60) #[] #[]), (7, .func (.func 62) #[] #[]), (8, .func (.func 63) #[] #[]), (9, .func (.func 64) #[] #[])] ∧ Below w.heap.size w w' := by
  have hmm := @run_makeMap Try.prog
  have hF := mapF_new w
  have hB : Below w.heap.size w (w.alloc (.map #[] 0)) := bl_al (Below.refl _ _) _
  go_enter Try.func33, Try.ntmps33
  go_wp2_with (refine wpList_insF Try.underlying54 rfl _ _ _ rfl w.heap.size rfl _ rfl _ (by assumption) rfl w.heap.size w (by assumption) (Nat.le_refl _) ?_; intro w' hF hB)
  go_ret
  refine ⟨_, rfl, ?_, ?_⟩
  · assumption
  · assumption
/-- a map that is being filled, and what its functions have captured -/
def DecS (w : World) (M : Nat) (u : World) (kvs : List (Int × Value)) (caps : List (Nat × Obj)) : Prop := MapF u M kvs ∧ Below w.heap.size w u ∧ w.heap.size ≤ M ∧ ∀ p ∈ caps, p.1 ≠ M ∧ u.heap[p.1]? = some p.2
theorem MapF.lt {w : World} {M : Nat} {kvs : List (Int × Value)} (h : MapF w M kvs) : M < w.heap.size := by
  obtain ⟨es, c, hM, _⟩ := h; rcases Nat.lt_or_ge M w.heap.size with h | h; exact h; rw [Array.getElem?_eq_none h] at hM; cases hM
theorem decS_new (w : World) : DecS w w.heap.size (w.alloc (.map #[] 0)) [] [] := ⟨mapF_new w, bl_al (Below.refl _ _) _, Nat.le_refl _, fun p hp => by simp at hp⟩
theorem DecS.cap {w u : World} {M : Nat} {kvs : List (Int × Value)} {caps : List (Nat × Obj)} (h : DecS w M u kvs caps) (o : Obj) : DecS w M (u.alloc o) kvs ((u.heap.size, o) :: caps) := by
  obtain ⟨h1, h2, h3, h4⟩ := h
  have hl := h1.lt
  obtain ⟨es, c, hM, hk⟩ := h1
  refine ⟨⟨es, c, hp_al hM o, hk⟩, bl_al h2 o, h3, fun p hp => ?_⟩
  rcases List.mem_cons.1 hp with rfl | hp
  · exact ⟨by simp only; omega, heap_alloc_new _ _⟩
  · exact ⟨(h4 p hp).1, hp_al (h4 p hp).2 o⟩
theorem DecS.cap' {w u u' : World} {M : Nat} {kvs : List (Int × Value)} {caps : List (Nat × Obj)} {o : Obj} (h : DecS w M u kvs caps) (hw : u' = u.alloc o) : DecS w M u' kvs ((u.heap.size, o) :: caps) := hw ▸ h.cap o
theorem wpList_insD {mt e : TypeId} (ht : Try.prog.underlying mt = some (.map 3 e)) {ops : Array Oper} {rest : List Oper} {o : Oper} {a : Act} {w : World} {Q : Exit → Act → World → Prop} (hg : o.guard = none)
    (m k x : Operand) (hop : o.op = Op.insert mt m k x) (M : Nat) (hm : a.eval m = .map (some M)) (n : Int) (hk : a.eval k = .int .i64 n) (w0 : World) (kvs : List (Int × Value)) (caps : List (Nat × Obj)) (h : DecS w0 M w kvs caps) (hq : fidx kvs n = none)
    (H : ∀ w', DecS w0 M w' (kvs ++ [(n, a.eval x)]) caps → wpList Try.prog ops Q rest (a.put o.dst undef) w') : wpList Try.prog ops Q (o :: rest) a w := by
  obtain ⟨h1, h2, h3, h4⟩ := h
  obtain ⟨w', hr, hf, hgr, hs⟩ := run_updF ht w M n (a.eval x) kvs h1 hq
  have hl := h1.lt
  have hb : Below w0.heap.size w0 w' := ⟨hgr.os.trans h2.os, hgr.tape.trans h2.tape, hgr.output.trans h2.output, by rw [hs]; exact h2.size, fun k hk => (hgr.block k (by omega) (fun e => by cases e; omega)).trans (h2.block k hk)⟩
  have hc : ∀ p ∈ caps, p.1 ≠ M ∧ w'.heap[p.1]? = some p.2 := fun p hp => by
    obtain ⟨q1, q2⟩ := h4 p hp
    have hlt : p.1 < w.heap.size := by rcases Nat.lt_or_ge p.1 w.heap.size with h | h; exact h; rw [Array.getElem?_eq_none h] at q2; cases q2
    exact ⟨q1, (hgr.block _ hlt (fun e => q1 (Option.some.inj e))).trans q2⟩
  refine wpList_plain hg fun K hK => ?_
  unfold Oper.wp
  have hx : (execOp a.eval o).run Try.prog w = .ok .skip w' := by
    unfold execOp
    simp [hop, hm, hk, hr, Result.andThen]
  rw [hx]
  exact hK _ _ (H w' ⟨hf, hb, h3, hc⟩)
theorem testNull_any (b : Bool) (w : World) : Calls Try.prog 72 #[.bool b] w fun e w' => e = .returned (.func (.func 85) #[] #[.pointer (some ⟨w.heap.size, 0, none⟩)]) ∧ w' = w.alloc (.cells #[.bool b] 4) := by
  go_enter Try.func72, Try.ntmps72
  go_wp2_with fail
  go_ret
  exact ⟨rfl, rfl⟩
theorem decideBy_any (b : Bool) (w : World) : Calls Try.prog 74 #[.bool b] w fun e w' => e = .returned (.func (.func 86) #[] #[.pointer (some ⟨w.heap.size, 0, none⟩)]) ∧ w' = w.alloc (.cells #[.bool b] 4) := by
  go_enter Try.func74, Try.ntmps74
  go_wp2_with fail
  go_ret
  exact ⟨rfl, rfl⟩
theorem extreme_any (n : Int) (w : World) : Calls Try.prog 80 #[.int .i64 n] w fun e w' => e = .returned (.func (.func 89) #[] #[.pointer (some ⟨w.heap.size, 0, none⟩)]) ∧ w' = w.alloc (.cells #[.int .i64 n] 3) := by
  go_enter Try.func80, Try.ntmps80
  go_wp2_with fail
  go_ret
  exact ⟨rfl, rfl⟩
abbrev CF (f : FuncId) (g : Nat) : Value := .func (.func f) #[] #[.pointer (some ⟨g, 0, none⟩)]
abbrev FF (f : FuncId) : Value := .func (.func f) #[] #[]
theorem decisions_any (w : World) : Calls Try.prog 38 #[] w fun e w' => ∃ M g1 g2 g3 g4, e = .returned (.map (some M)) ∧ DecS w M w' [(19, CF 85 g1), (20, CF 85 g2), (16, FF 73), (17, CF 86 g3), (18, CF 86 g4)] [(g4, .cells #[.bool true] 4), (g3, .cells #[.bool false] 4), (g2, .cells #[.bool false] 4), (g1, .cells #[.bool true] 4)] := by
  have hmm := @run_makeMap Try.prog
  have hS := decS_new w
  go_enter Try.func38, Try.ntmps38
  go_wp2_with (first
    | (refine wpList_insD Try.underlying62 rfl _ _ _ rfl w.heap.size rfl _ rfl w _ _ (by assumption) rfl ?_; intro w' hS)
    | (go_at_call 72; refine (testNull_any _ _).mono ?_; rintro e w' ⟨rfl, hw⟩; have hS := hS.cap' hw; clear hw)
    | (go_at_call 74; refine (decideBy_any _ _).mono ?_; rintro e w' ⟨rfl, hw⟩; have hS := hS.cap' hw; clear hw))
  go_ret
  have hsz : (w.alloc (Obj.map #[] 0)).heap.size = w.heap.size + 1 := by simp
  simp only [hsz] at *
  exact ⟨_, _, _, _, _, rfl, by assumption⟩
theorem aggregates_any (w : World) : Calls Try.prog 46 #[] w fun e w' => ∃ M g1 g2, e = .returned (.map (some M)) ∧ DecS w M w' [(21, FF 76), (22, FF 77), (23, FF 79), (24, CF 89 g1), (25, CF 89 g2)] [(g2, .cells #[.int .i64 1] 3), (g1, .cells #[.int .i64 (-1)] 3)] := by
  have hmm := @run_makeMap Try.prog
  have hS := decS_new w
  go_enter Try.func46, Try.ntmps46
  go_wp2_with (first
    | (refine wpList_insD Try.underlying68 rfl _ _ _ rfl w.heap.size rfl _ rfl w _ _ (by assumption) rfl ?_; intro w' hS)
    | (go_at_call 80; refine (extreme_any _ _).mono ?_; rintro e w' ⟨rfl, hw⟩; have hS := hS.cap' hw; clear hw))
  go_ret
  exact ⟨_, _, _, rfl, by assumption⟩
end Go.Proofs.Ytbhilmgpmebaiaa
namespace Go.Proofs.Ytbhilmgpmebaiaa
open Go.RowKit
attribute [local go_sem ↓] eql32_eq neq32_eq
theorem hp_3 (w : World) (a b c : Obj) : (((w.alloc a).alloc b).alloc c).heap[w.heap.size + 1 + 1]? = some c := by
  have := heap_alloc_new ((w.alloc a).alloc b) c
  simpa using this
theorem bx_lt {u : World} {H : Nat} {o : Obj} (h : u.heap[H]? = some o) : H < u.heap.size := by
  rcases Nat.lt_or_ge H u.heap.size with h' | h'; exact h'; rw [Array.getElem?_eq_none h'] at h; cases h
def ofK (a b : Val) (t : Bool) : Val × Int := if smK a.k b.k = false then (nulV, 22) else if a = nulV ∨ b = nulV then (nulV, 0) else (truV t, 0)
end Go.Proofs.Ytbhilmgpmebaiaa
namespace Go.Proofs.Ytbhilmgpmebaiaa
open Go.RowKit
def Tri (w u : World) (x y : Val) : Prop := Two w u x y ∧ ∃ k n s, u.heap[w.heap.size + 1 + 1]? = some (BX k n s)
theorem Tri.al {w u : World} {x y : Val} (h : Tri w u x y) (o : Obj) : Tri w (u.alloc o) x y := by
  obtain ⟨h1, k, n, s, h2⟩ := h; exact ⟨h1.al o, k, n, s, hp_al h2 o⟩
theorem Tri.drew {w u : World} {x y : Val} (h : Tri w u x y) : Tri w u.drew x y := ⟨h.1.drew, h.2⟩
theorem Tri.below {w u v : World} {x y : Val} (h : Tri w u x y) (hb : Below u.heap.size u v) : Tri w v x y := by
  obtain ⟨h1, k, n, s, h2⟩ := h; exact ⟨h1.below hb, k, n, s, (hb.block _ (bx_lt h2)).trans h2⟩
theorem Tri.set1 {w u : World} {x y : Val} (h : Tri w u x y) (a : Val) : Tri w (((u.setCell ⟨w.heap.size, 0, none⟩ (.int .i64 a.k)).setCell ⟨w.heap.size, 1, none⟩ (.int .i64 a.n)).setCell ⟨w.heap.size, 2, none⟩ (.string (str a.s))) a y := by
  obtain ⟨h1, k, n, s, h2⟩ := h; exact ⟨h1.set1 a, k, n, s, (set3_other a (by omega)).trans h2⟩
theorem Tri.set2 {w u : World} {x y : Val} (h : Tri w u x y) (a : Val) : Tri w (((u.setCell ⟨w.heap.size + 1, 0, none⟩ (.int .i64 a.k)).setCell ⟨w.heap.size + 1, 1, none⟩ (.int .i64 a.n)).setCell ⟨w.heap.size + 1, 2, none⟩ (.string (str a.s))) x a := by
  obtain ⟨h1, k, n, s, h2⟩ := h; exact ⟨h1.set2 a, k, n, s, (set3_other a (by omega)).trans h2⟩
theorem Tri.setR {w u : World} {x y : Val} (h : Tri w u x y) (a : Val) : Tri w (((u.setCell ⟨w.heap.size + 1 + 1, 0, none⟩ (.int .i64 a.k)).setCell ⟨w.heap.size + 1 + 1, 1, none⟩ (.int .i64 a.n)).setCell ⟨w.heap.size + 1 + 1, 2, none⟩ (.string (str a.s))) x y := by
  obtain ⟨h1, k, n, s, h2⟩ := h
  exact ⟨⟨(set3_other a (by omega)).trans h1.1, (set3_other a (by omega)).trans h1.2.1, set3_below a h1.2.2 (by omega)⟩, a.k, a.n, str a.s, set3 h2 a⟩
theorem tri_new (w : World) (x y : Val) : Tri w (((w.alloc (BX x.k x.n (str x.s))).alloc (BX y.k y.n (str y.s))).alloc (BX 0 0 ⟨#[]⟩)) x y := ⟨(two_new w x y).al _, 0, 0, ⟨#[]⟩, hp_3 w _ _ _⟩
set_option maxRecDepth 100000 in
set_option maxHeartbeats 3200000 in
theorem do_reg1 (op : Int) (a b : Val) (w u0 : World) (hT : Tri w u0 a b) {Q : Exit → Act → World → Prop}
    (h : ∀ u, Tri w u (normV a) (normV b) → Q .normal ⟨#[.int .i64 op, .agg #[.int .i64 a.k, .int .i64 a.n, .string (str a.s)], .agg #[.int .i64 b.k, .int .i64 b.n, .string (str b.s)], undef, .pointer (some ⟨w.heap.size, 0, none⟩), .pointer (some ⟨w.heap.size + 1, 0, none⟩), .pointer (some ⟨w.heap.size + 1 + 1, 0, none⟩), .int .i64 0, undef, undef, .agg #[.int .i64 a.k, .int .i64 a.n, .string (str a.s)], .agg #[.int .i64 (normV a).k, .int .i64 (normV a).n, .string (str (normV a).s)], .agg #[.int .i64 b.k, .int .i64 b.n, .string (str b.s)], .agg #[.int .i64 (normV b).k, .int .i64 (normV b).n, .string (str (normV b).s)], undef, undef, undef, undef, undef, undef, undef, undef, undef, undef, undef, undef, undef, undef, undef, undef, undef, undef, undef, undef, undef, undef, undef, undef, undef, undef, undef, undef, undef, undef, undef, undef, undef, undef, undef, undef, undef], []⟩ u) :
    Code.wp Try.prog (.region 1 #[({ dst := some 10, op := Op.load 23 (Operand.tmp 4), type := 23, pos := "operators.go:14", after := #[], guard := none } : Oper), ({ dst := some 11, op := Op.call { callee := Callee.value (Operand.func 30), args := #[Operand.tmp 10], argTypes := #[23] }, type := 23, pos := "operators.go:14", after := #[{ on := 0, ground := Ground.data }], guard := none } : Oper), ({ dst := some 12, op := Op.load 23 (Operand.tmp 5), type := 23, pos := "operators.go:14", after := #[], guard := none } : Oper), ({ dst := some 13, op := Op.call { callee := Callee.value (Operand.func 30), args := #[Operand.tmp 12], argTypes := #[23] }, type := 23, pos := "operators.go:14", after := #[{ on := 2, ground := Ground.data }, { on := 1, ground := Ground.chain }], guard := none } : Oper), ({ dst := none, op := Op.store 23 (Operand.tmp 4) (Operand.tmp 11), type := 0, pos := "operators.go:14", after := #[{ on := 1, ground := Ground.data }, { on := 3, ground := Ground.chain }, { on := 0, ground := Ground.phase }, { on := 1, ground := Ground.phase }, { on := 2, ground := Ground.textOnly Departure.lateStores }, { on := 3, ground := Ground.textOnly Departure.lateStoresUnsure }], guard := none } : Oper), ({ dst := none, op := Op.store 23 (Operand.tmp 5) (Operand.tmp 13), type := 0, pos := "operators.go:14", after := #[{ on := 3, ground := Ground.data }, { on := 4, ground := Ground.chain }, { on := 0, ground := Ground.phase }, { on := 1, ground := Ground.phase }, { on := 2, ground := Ground.phase }, { on := 3, ground := Ground.phase }, { on := 4, ground := Ground.phase }], guard := none } : Oper)] true) Q ⟨#[.int .i64 op, .agg #[.int .i64 a.k, .int .i64 a.n, .string (str a.s)], .agg #[.int .i64 b.k, .int .i64 b.n, .string (str b.s)], undef, .pointer (some ⟨w.heap.size, 0, none⟩), .pointer (some ⟨w.heap.size + 1, 0, none⟩), .pointer (some ⟨w.heap.size + 1 + 1, 0, none⟩), .int .i64 0, undef, undef, undef, undef, undef, undef, undef, undef, undef, undef, undef, undef, undef, undef, undef, undef, undef, undef, undef, undef, undef, undef, undef, undef, undef, undef, undef, undef, undef, undef, undef, undef, undef, undef, undef, undef, undef, undef, undef, undef, undef, undef, undef], []⟩ u0 := by
  dsimp only at h ⊢
  have HN := Lib.hid h
  clear h
  obtain ⟨r0, r1, r2⟩ := bx_cells hT.1.1
  obtain ⟨s0, s1, s2⟩ := bx_cells hT.1.2.1
  replace hT := hT.drew
  refine wp_region_held_drew (S := fun u => Tri w u a b ∨ Tri w u (normV a) b ∨ Tri w u (normV a) (normV b)) (by kernel_rfl) ((Or.inl hT)) (fun hHeld => ?_)
  refine wpAnyH_ready (rs := [0, 2]) (by kernel_rfl) (by simp) ?_
  refine (AllReadyH.cons (o := ({ dst := some 10, op := Op.load 23 (Operand.tmp 4), type := 23, pos := "operators.go:14", after := #[], guard := none } : Oper)) rfl (fun K hK => ?_) (AllReadyH.cons (o := ({ dst := some 12, op := Op.load 23 (Operand.tmp 5), type := 23, pos := "operators.go:14", after := #[], guard := none } : Oper)) rfl (fun K hK => ?_) AllReadyH.nil))
  · obtain ⟨p0, p1, p2⟩ := bx_cells hT.1.1
    go_simp
    refine hK.out _ _ (Or.inl hT) (fun hHeld => ?_)
    clear hK K
    try simp only [Act.put, List.setIfInBounds_toArray, List.set_cons_zero, List.set_cons_succ]
    refine wpAnyH_ready (rs := [1, 2]) (by kernel_rfl) (by simp) ?_
    refine (AllReadyH.cons (o := ({ dst := some 11, op := Op.call { callee := Callee.value (Operand.func 30), args := #[Operand.tmp 10], argTypes := #[23] }, type := 23, pos := "operators.go:14", after := #[{ on := 0, ground := Ground.data }], guard := none } : Oper)) rfl (fun K hK => ?_) (AllReadyH.cons (o := ({ dst := some 12, op := Op.load 23 (Operand.tmp 5), type := 23, pos := "operators.go:14", after := #[], guard := none } : Oper)) rfl (fun K hK => ?_) AllReadyH.nil))
    · go_simp
      go_at_call 30
      refine (plain_any a _).mono ?_
      rintro e w' ⟨rfl, hb⟩
      replace hT := hT.below hb
      go_wp2_with fail
      refine hK.out _ _ (Or.inl hT) (fun hHeld => ?_)
      clear hK K
      try simp only [Act.put, List.setIfInBounds_toArray, List.set_cons_zero, List.set_cons_succ]
      refine wpAnyH_ready (rs := [2]) (by kernel_rfl) (by simp) ?_
      refine (AllReadyH.cons (o := ({ dst := some 12, op := Op.load 23 (Operand.tmp 5), type := 23, pos := "operators.go:14", after := #[], guard := none } : Oper)) rfl (fun K hK => ?_) AllReadyH.nil)
      obtain ⟨q0, q1, q2⟩ := bx_cells hT.1.2.1
      go_simp
      refine hK.out _ _ (Or.inl hT) (fun hHeld => ?_)
      clear hK K
      try simp only [Act.put, List.setIfInBounds_toArray, List.set_cons_zero, List.set_cons_succ]
      refine wpAnyH_ready (rs := [3]) (by kernel_rfl) (by simp) ?_
      refine (AllReadyH.cons (o := ({ dst := some 13, op := Op.call { callee := Callee.value (Operand.func 30), args := #[Operand.tmp 12], argTypes := #[23] }, type := 23, pos := "operators.go:14", after := #[{ on := 2, ground := Ground.data }, { on := 1, ground := Ground.chain }], guard := none } : Oper)) rfl (fun K hK => ?_) AllReadyH.nil)
      go_simp
      go_at_call 30
      refine (plain_any b _).mono ?_
      rintro e w' ⟨rfl, hb⟩
      replace hT := hT.below hb
      go_wp2_with fail
      refine hK.out _ _ (Or.inl hT) (fun hHeld => ?_)
      clear hK K
      try simp only [Act.put, List.setIfInBounds_toArray, List.set_cons_zero, List.set_cons_succ]
      refine wpAnyH_ready (rs := [4]) (by kernel_rfl) (by simp) ?_
      refine (AllReadyH.cons (o := ({ dst := none, op := Op.store 23 (Operand.tmp 4) (Operand.tmp 11), type := 0, pos := "operators.go:14", after := #[{ on := 1, ground := Ground.data }, { on := 3, ground := Ground.chain }, { on := 0, ground := Ground.phase }, { on := 1, ground := Ground.phase }, { on := 2, ground := Ground.textOnly Departure.lateStores }, { on := 3, ground := Ground.textOnly Departure.lateStoresUnsure }], guard := none } : Oper)) rfl (fun K hK => ?_) AllReadyH.nil)
      obtain ⟨p0, p1, p2⟩ := bx_cells hT.1.1
      obtain ⟨f0, f1, f2⟩ := bx_free hT.1.1
      replace hT := hT.set1 (normV a)
      go_simp
      refine hK.out _ _ (Or.inr (Or.inl hT)) (fun hHeld => ?_)
      clear hK K
      try simp only [Act.put]
      refine wpAnyH_ready (rs := [5]) (by kernel_rfl) (by simp) ?_
      refine (AllReadyH.cons (o := ({ dst := none, op := Op.store 23 (Operand.tmp 5) (Operand.tmp 13), type := 0, pos := "operators.go:14", after := #[{ on := 3, ground := Ground.data }, { on := 4, ground := Ground.chain }, { on := 0, ground := Ground.phase }, { on := 1, ground := Ground.phase }, { on := 2, ground := Ground.phase }, { on := 3, ground := Ground.phase }, { on := 4, ground := Ground.phase }], guard := none } : Oper)) rfl (fun K hK => ?_) AllReadyH.nil)
      obtain ⟨q0, q1, q2⟩ := bx_cells hT.1.2.1
      obtain ⟨f0, f1, f2⟩ := bx_free hT.1.2.1
      replace hT := hT.set2 (normV b)
      go_simp
      refine hK.out _ _ (Or.inr (Or.inr hT)) (fun hHeld => ?_)
      clear hK K
      try simp only [Act.put]
      refine wpAnyH_done (by kernel_rfl) ?_ _
      exact HN.out _ hT
    · obtain ⟨q0, q1, q2⟩ := bx_cells hT.1.2.1
      go_simp
      refine hK.out _ _ (Or.inl hT) (fun hHeld => ?_)
      clear hK K
      try simp only [Act.put, List.setIfInBounds_toArray, List.set_cons_zero, List.set_cons_succ]
      refine wpAnyH_ready (rs := [1]) (by kernel_rfl) (by simp) ?_
      refine (AllReadyH.cons (o := ({ dst := some 11, op := Op.call { callee := Callee.value (Operand.func 30), args := #[Operand.tmp 10], argTypes := #[23] }, type := 23, pos := "operators.go:14", after := #[{ on := 0, ground := Ground.data }], guard := none } : Oper)) rfl (fun K hK => ?_) AllReadyH.nil)
      go_simp
      go_at_call 30
      refine (plain_any a _).mono ?_
      rintro e w' ⟨rfl, hb⟩
      replace hT := hT.below hb
      go_wp2_with fail
      refine hK.out _ _ (Or.inl hT) (fun hHeld => ?_)
      clear hK K
      try simp only [Act.put, List.setIfInBounds_toArray, List.set_cons_zero, List.set_cons_succ]
      refine wpAnyH_ready (rs := [3]) (by kernel_rfl) (by simp) ?_
      refine (AllReadyH.cons (o := ({ dst := some 13, op := Op.call { callee := Callee.value (Operand.func 30), args := #[Operand.tmp 12], argTypes := #[23] }, type := 23, pos := "operators.go:14", after := #[{ on := 2, ground := Ground.data }, { on := 1, ground := Ground.chain }], guard := none } : Oper)) rfl (fun K hK => ?_) AllReadyH.nil)
      go_simp
      go_at_call 30
      refine (plain_any b _).mono ?_
      rintro e w' ⟨rfl, hb⟩
      replace hT := hT.below hb
      go_wp2_with fail
      refine hK.out _ _ (Or.inl hT) (fun hHeld => ?_)
      clear hK K
      try simp only [Act.put, List.setIfInBounds_toArray, List.set_cons_zero, List.set_cons_succ]
      refine wpAnyH_ready (rs := [4]) (by kernel_rfl) (by simp) ?_
      refine (AllReadyH.cons (o := ({ dst := none, op := Op.store 23 (Operand.tmp 4) (Operand.tmp 11), type := 0, pos := "operators.go:14", after := #[{ on := 1, ground := Ground.data }, { on := 3, ground := Ground.chain }, { on := 0, ground := Ground.phase }, { on := 1, ground := Ground.phase }, { on := 2, ground := Ground.textOnly Departure.lateStores }, { on := 3, ground := Ground.textOnly Departure.lateStoresUnsure }], guard := none } : Oper)) rfl (fun K hK => ?_) AllReadyH.nil)
      obtain ⟨p0, p1, p2⟩ := bx_cells hT.1.1
      obtain ⟨f0, f1, f2⟩ := bx_free hT.1.1
      replace hT := hT.set1 (normV a)
      go_simp
      refine hK.out _ _ (Or.inr (Or.inl hT)) (fun hHeld => ?_)
      clear hK K
      try simp only [Act.put]
      refine wpAnyH_ready (rs := [5]) (by kernel_rfl) (by simp) ?_
      refine (AllReadyH.cons (o := ({ dst := none, op := Op.store 23 (Operand.tmp 5) (Operand.tmp 13), type := 0, pos := "operators.go:14", after := #[{ on := 3, ground := Ground.data }, { on := 4, ground := Ground.chain }, { on := 0, ground := Ground.phase }, { on := 1, ground := Ground.phase }, { on := 2, ground := Ground.phase }, { on := 3, ground := Ground.phase }, { on := 4, ground := Ground.phase }], guard := none } : Oper)) rfl (fun K hK => ?_) AllReadyH.nil)
      obtain ⟨q0, q1, q2⟩ := bx_cells hT.1.2.1
      obtain ⟨f0, f1, f2⟩ := bx_free hT.1.2.1
      replace hT := hT.set2 (normV b)
      go_simp
      refine hK.out _ _ (Or.inr (Or.inr hT)) (fun hHeld => ?_)
      clear hK K
      try simp only [Act.put]
      refine wpAnyH_done (by kernel_rfl) ?_ _
      exact HN.out _ hT
  · obtain ⟨q0, q1, q2⟩ := bx_cells hT.1.2.1
    go_simp
    refine hK.out _ _ (Or.inl hT) (fun hHeld => ?_)
    clear hK K
    try simp only [Act.put, List.setIfInBounds_toArray, List.set_cons_zero, List.set_cons_succ]
    refine wpAnyH_ready (rs := [0]) (by kernel_rfl) (by simp) ?_
    refine (AllReadyH.cons (o := ({ dst := some 10, op := Op.load 23 (Operand.tmp 4), type := 23, pos := "operators.go:14", after := #[], guard := none } : Oper)) rfl (fun K hK => ?_) AllReadyH.nil)
    obtain ⟨p0, p1, p2⟩ := bx_cells hT.1.1
    go_simp
    refine hK.out _ _ (Or.inl hT) (fun hHeld => ?_)
    clear hK K
    try simp only [Act.put, List.setIfInBounds_toArray, List.set_cons_zero, List.set_cons_succ]
    refine wpAnyH_ready (rs := [1]) (by kernel_rfl) (by simp) ?_
    refine (AllReadyH.cons (o := ({ dst := some 11, op := Op.call { callee := Callee.value (Operand.func 30), args := #[Operand.tmp 10], argTypes := #[23] }, type := 23, pos := "operators.go:14", after := #[{ on := 0, ground := Ground.data }], guard := none } : Oper)) rfl (fun K hK => ?_) AllReadyH.nil)
    go_simp
    go_at_call 30
    refine (plain_any a _).mono ?_
    rintro e w' ⟨rfl, hb⟩
    replace hT := hT.below hb
    go_wp2_with fail
    refine hK.out _ _ (Or.inl hT) (fun hHeld => ?_)
    clear hK K
    try simp only [Act.put, List.setIfInBounds_toArray, List.set_cons_zero, List.set_cons_succ]
    refine wpAnyH_ready (rs := [3]) (by kernel_rfl) (by simp) ?_
    refine (AllReadyH.cons (o := ({ dst := some 13, op := Op.call { callee := Callee.value (Operand.func 30), args := #[Operand.tmp 12], argTypes := #[23] }, type := 23, pos := "operators.go:14", after := #[{ on := 2, ground := Ground.data }, { on := 1, ground := Ground.chain }], guard := none } : Oper)) rfl (fun K hK => ?_) AllReadyH.nil)
    go_simp
    go_at_call 30
    refine (plain_any b _).mono ?_
    rintro e w' ⟨rfl, hb⟩
    replace hT := hT.below hb
    go_wp2_with fail
    refine hK.out _ _ (Or.inl hT) (fun hHeld => ?_)
    clear hK K
    try simp only [Act.put, List.setIfInBounds_toArray, List.set_cons_zero, List.set_cons_succ]
    refine wpAnyH_ready (rs := [4]) (by kernel_rfl) (by simp) ?_
    refine (AllReadyH.cons (o := ({ dst := none, op := Op.store 23 (Operand.tmp 4) (Operand.tmp 11), type := 0, pos := "operators.go:14", after := #[{ on := 1, ground := Ground.data }, { on := 3, ground := Ground.chain }, { on := 0, ground := Ground.phase }, { on := 1, ground := Ground.phase }, { on := 2, ground := Ground.textOnly Departure.lateStores }, { on := 3, ground := Ground.textOnly Departure.lateStoresUnsure }], guard := none } : Oper)) rfl (fun K hK => ?_) AllReadyH.nil)
    obtain ⟨p0, p1, p2⟩ := bx_cells hT.1.1
    obtain ⟨f0, f1, f2⟩ := bx_free hT.1.1
    replace hT := hT.set1 (normV a)
    go_simp
    refine hK.out _ _ (Or.inr (Or.inl hT)) (fun hHeld => ?_)
    clear hK K
    try simp only [Act.put]
    refine wpAnyH_ready (rs := [5]) (by kernel_rfl) (by simp) ?_
    refine (AllReadyH.cons (o := ({ dst := none, op := Op.store 23 (Operand.tmp 5) (Operand.tmp 13), type := 0, pos := "operators.go:14", after := #[{ on := 3, ground := Ground.data }, { on := 4, ground := Ground.chain }, { on := 0, ground := Ground.phase }, { on := 1, ground := Ground.phase }, { on := 2, ground := Ground.phase }, { on := 3, ground := Ground.phase }, { on := 4, ground := Ground.phase }], guard := none } : Oper)) rfl (fun K hK => ?_) AllReadyH.nil)
    obtain ⟨q0, q1, q2⟩ := bx_cells hT.1.2.1
    obtain ⟨f0, f1, f2⟩ := bx_free hT.1.2.1
    replace hT := hT.set2 (normV b)
    go_simp
    refine hK.out _ _ (Or.inr (Or.inr hT)) (fun hHeld => ?_)
    clear hK K
    try simp only [Act.put]
    refine wpAnyH_done (by kernel_rfl) ?_ _
    exact HN.out _ hT
end Go.Proofs.Ytbhilmgpmebaiaa
namespace Go.Proofs.Ytbhilmgpmebaiaa
open Go.RowKit
theorem hp_4 (w : World) (a b c d : Obj) : ((((w.alloc a).alloc b).alloc c).alloc d).heap[w.heap.size + 1 + 1 + 1]? = some d := by
  have := heap_alloc_new (((w.alloc a).alloc b).alloc c) d
  simpa using this
def ofR (a b : Val) (q : Int × Int) : Val × Int := if (okK 1 a.k && okK 1 b.k) = false then (nulV, 22) else if a = nulV ∨ b = nulV then (nulV, 0) else if q.2 ≠ 0 then (nulV, q.2) else (numV q.1, 0)
set_option maxHeartbeats 1600000 in
theorem calcOf_add (a b : Val) (w : World) (q : Int × Int) (ha : Rng a.s) (hb : Rng b.s) (hq : ∀ w, Calls Try.prog 61 #[.int .i64 a.n, .int .i64 b.n] w fun e w' => e = .returned (.tuple #[.int .i64 q.1, .int .i64 q.2]) ∧ w' = w) :
    Calls Try.prog 34 #[.func (.func 61) #[] #[], .agg #[.int .i64 a.k, .int .i64 a.n, .string (str a.s)], .agg #[.int .i64 b.k, .int .i64 b.n, .string (str b.s)]] w fun e w' => e = .returned (.tuple #[.agg #[.int .i64 ((ofR a b q).1).k, .int .i64 ((ofR a b q).1).n, .string (str ((ofR a b q).1).s)], .int .i64 (ofR a b q).2]) ∧ Below w.heap.size w w' := by
  obtain ⟨q1, q2⟩ := q
  have HQ := Lib.hid hq
  have HA := fun H T w h => allOf2_any 1 a.k b.k H T w h
  have HNA := fun w => isNull_any a w ha
  have HNB := fun w => isNull_any b w hb
  clear hq
  cases hok : (okK 1 a.k && okK 1 b.k) with
  | false =>
    simp only [hok] at HA
    replace HA := Lib.hid HA
    rw [show ofR a b (q1, q2) = (nulV, 22) by rw [ofR, if_pos hok]]
    clear hok HNA HNB
    go_enter Try.func34, Try.ntmps34
    go_wp2_with (first
      | (go_at_call 55; refine (HA.out _ _ _ (hp_4 _ _ _ _ _)).mono ?_; rintro e w' ⟨rfl, rfl⟩))
    refine bodyPost_ret (v := .tuple #[.agg #[.int .i64 0, .int .i64 0, .string ⟨#[]⟩], .int .i64 22]) (by simp [results, Try.results34, go_sem]) rfl ⟨?_, ?_⟩
    · rfl
    · (repeat (first | exact Below.refl _ _ | refine bl_al ?_ _ | refine Below.setCell ?_ (by first | omega | (simp; done) | (simp; omega)) _))
  | true =>
    simp only [hok] at HA
    replace HA := Lib.hid HA
    by_cases na : a = nulV
    · rw [show ofR a b (q1, q2) = (nulV, 0) by rw [ofR, hok, if_neg (by decide), if_pos (.inl na)]]
      simp only [decide_eq_true na] at HNA
      replace HNA := Lib.hid HNA
      clear hok HNB na
      go_enter Try.func34, Try.ntmps34
      go_wp2_with (first
        | (go_at_call 55; refine (HA.out _ _ _ (hp_4 _ _ _ _ _)).mono ?_; rintro e w' ⟨rfl, rfl⟩)
        | (go_at_call 65; refine (HNA.out _).mono ?_; rintro e w' ⟨rfl, rfl⟩))
      refine bodyPost_ret (v := .tuple #[.agg #[.int .i64 0, .int .i64 0, .string ⟨#[]⟩], .int .i64 0]) (by simp [results, Try.results34, go_sem]) rfl ⟨?_, ?_⟩
      · rfl
      · (repeat (first | exact Below.refl _ _ | refine bl_al ?_ _ | refine Below.setCell ?_ (by first | omega | (simp; done) | (simp; omega)) _))
    simp only [decide_eq_false na] at HNA
    replace HNA := Lib.hid HNA
    by_cases nb : b = nulV
    · rw [show ofR a b (q1, q2) = (nulV, 0) by rw [ofR, hok, if_neg (by decide), if_pos (.inr nb)]]
      simp only [decide_eq_true nb] at HNB
      replace HNB := Lib.hid HNB
      clear hok na nb
      go_enter Try.func34, Try.ntmps34
      go_wp2_with (first
        | (go_at_call 55; refine (HA.out _ _ _ (hp_4 _ _ _ _ _)).mono ?_; rintro e w' ⟨rfl, rfl⟩)
        | (go_at_call 65; refine (HNA.out _).mono ?_; rintro e w' ⟨rfl, rfl⟩; clear HNA)
        | (go_at_call 65; refine (HNB.out _).mono ?_; rintro e w' ⟨rfl, rfl⟩))
      refine bodyPost_ret (v := .tuple #[.agg #[.int .i64 0, .int .i64 0, .string ⟨#[]⟩], .int .i64 0]) (by simp [results, Try.results34, go_sem]) rfl ⟨?_, ?_⟩
      · rfl
      · (repeat (first | exact Below.refl _ _ | refine bl_al ?_ _ | refine Below.setCell ?_ (by first | omega | (simp; done) | (simp; omega)) _))
    simp only [decide_eq_false nb] at HNB
    replace HNB := Lib.hid HNB
    by_cases n2 : q2 = 0
    · subst n2
      rw [show ofR a b (q1, 0) = (numV q1, 0) by rw [ofR, hok, if_neg (by decide), if_neg (by simp [na, nb]), if_neg (by simp)]]
      clear hok na nb
      go_enter Try.func34, Try.ntmps34
      go_wp2_with (first
        | (go_at_call 55; refine (HA.out _ _ _ (hp_4 _ _ _ _ _)).mono ?_; rintro e w' ⟨rfl, rfl⟩)
        | (go_at_call 65; refine (HNA.out _).mono ?_; rintro e w' ⟨rfl, rfl⟩; clear HNA)
        | (go_at_call 65; refine (HNB.out _).mono ?_; rintro e w' ⟨rfl, rfl⟩)
        | (go_at_call 61; refine (HQ.out _).mono ?_; rintro e w' ⟨rfl, rfl⟩)
        | (go_at_call 57; refine (integer_any _ _).mono ?_; rintro e w' ⟨rfl, rfl⟩))
      refine bodyPost_ret (v := .tuple #[.agg #[.int .i64 1, .int .i64 q1, .string ⟨#[]⟩], .int .i64 0]) (by simp [results, Try.results34, go_sem]) rfl ⟨?_, ?_⟩
      · rfl
      · (repeat (first | exact Below.refl _ _ | refine bl_al ?_ _ | refine Below.setCell ?_ (by first | omega | (simp; done) | (simp; omega)) _))
    · rw [show ofR a b (q1, q2) = (nulV, q2) by rw [ofR, hok, if_neg (by decide), if_neg (by simp [na, nb]), if_pos n2]]
      have g : (q2 != 0) = true := bne_iff_ne.2 n2
      clear hok na nb
      go_enter Try.func34, Try.ntmps34
      go_wp2_with (first
        | (go_at_call 55; refine (HA.out _ _ _ (hp_4 _ _ _ _ _)).mono ?_; rintro e w' ⟨rfl, rfl⟩)
        | (go_at_call 65; refine (HNA.out _).mono ?_; rintro e w' ⟨rfl, rfl⟩; clear HNA)
        | (go_at_call 65; refine (HNB.out _).mono ?_; rintro e w' ⟨rfl, rfl⟩)
        | (go_at_call 61; refine (HQ.out _).mono ?_; rintro e w' ⟨rfl, rfl⟩))
      refine bodyPost_ret (v := .tuple #[.agg #[.int .i64 0, .int .i64 0, .string ⟨#[]⟩], .int .i64 q2]) (by simp [results, Try.results34, go_sem]) rfl ⟨?_, ?_⟩
      · rfl
      · (repeat (first | exact Below.refl _ _ | refine bl_al ?_ _ | refine Below.setCell ?_ (by first | omega | (simp; done) | (simp; omega)) _))
end Go.Proofs.Ytbhilmgpmebaiaa
