import Derived.Test.YtkcjegdmcboohaaVp01
namespace Go.Proofs.Ytkcjegdmcboohaa
open Go.RowKit
attribute [local go_sem ↓] eql32_eq neq32_eq
theorem rtruth_any (b : Bool) (w : World) : Calls Try.prog 27 #[.bool b] w fun e w' => e = .returned (.agg #[.int .i64 3, .int .i64 (if b = true then 1 else 0), .string ⟨#[]⟩]) ∧ w' = w.alloc (BX 3 (if b = true then 1 else 0) ⟨#[]⟩) := by
  cases b
  · go_enter Try.func27, Try.ntmps27
    go_wp2_with fail
    refine bodyPost_ret (v := .agg #[.int .i64 3, .int .i64 0, .string ⟨#[]⟩]) (by simp [results, Try.results27, go_sem]) rfl ⟨?_, ?_⟩
    · rfl
    · rfl
  · go_enter Try.func27, Try.ntmps27
    go_wp2_with fail
    refine bodyPost_ret (v := .agg #[.int .i64 3, .int .i64 1, .string ⟨#[]⟩]) (by simp [results, Try.results27, go_sem]) rfl ⟨?_, ?_⟩
    · rfl
    · rfl
theorem rnorm_any (x : Val) (w : World) : Calls Try.prog 26 #[.agg #[.int .i64 x.k, .int .i64 x.n, .string (str x.s)]] w fun e w' => e = .returned (.agg #[.int .i64 (normV x).k, .int .i64 (normV x).n, .string (str (normV x).s)]) ∧ Below w.heap.size w w' := by
  obtain ⟨k, n, s⟩ := x
  simp only
  by_cases k1 : k = 1
  · subst k1
    rw [norm_1 rfl]
    go_enter Try.func26, Try.ntmps26
    go_wp2_with fail
    refine bodyPost_ret (v := .agg #[.int .i64 1, .int .i64 n, .string ⟨#[]⟩]) (by simp [results, Try.results26, go_sem]) rfl ⟨?_, ?_⟩
    · rfl
    · exact bl_al (bl_al (Below.refl _ _) _) _
  by_cases k2 : k = 2
  · subst k2
    rw [norm_2 rfl]
    go_enter Try.func26, Try.ntmps26
    go_wp2_with fail
    refine bodyPost_ret (v := .agg #[.int .i64 2, .int .i64 0, .string (str s)]) (by simp [results, Try.results26, go_sem]) rfl ⟨?_, ?_⟩
    · rfl
    · exact bl_al (bl_al (Below.refl _ _) _) _
  by_cases k3 : k = 3
  · subst k3
    rw [norm_3 rfl]
    by_cases n0 : n = 0
    · subst n0
      go_enter Try.func26, Try.ntmps26
      go_wp2_with (go_at_call 27; refine (rtruth_any _ _).mono ?_; rintro e w' ⟨rfl, rfl⟩)
      refine bodyPost_ret (v := .agg #[.int .i64 3, .int .i64 0, .string ⟨#[]⟩]) (by simp [results, Try.results26, go_sem]) rfl ⟨?_, ?_⟩
      · rfl
      · exact bl_al (bl_al (bl_al (Below.refl _ _) _) _) _
    · simp only [if_neg n0]
      have hb : (!decide (n = 0)) = true := by simp [n0]
      go_enter Try.func26, Try.ntmps26
      go_wp2_with (go_at_call 27; refine (rtruth_any _ _).mono ?_; rintro e w' ⟨rfl, rfl⟩)
      refine bodyPost_ret (v := .agg #[.int .i64 3, .int .i64 1, .string ⟨#[]⟩]) (by simp [results, Try.results26, go_sem]) rfl ⟨?_, ?_⟩
      · rfl
      · exact bl_al (bl_al (bl_al (Below.refl _ _) _) _) _
  · rw [norm_0 k1 k2 k3]
    go_enter Try.func26, Try.ntmps26
    go_wp2_with fail
    refine bodyPost_ret (v := .agg #[.int .i64 0, .int .i64 0, .string ⟨#[]⟩]) (by simp [results, Try.results26, go_sem]) rfl ⟨?_, ?_⟩
    · rfl
    · exact bl_al (bl_al (Below.refl _ _) _) _
set_option maxHeartbeats 3200000 in
theorem rorder_any (s t : List Int) (w : World) (hs : Rng s) (ht : Rng t) (hl : s.length ≤ 1099511627776) : Calls Try.prog 51 #[.string (str s), .string (str t)] w fun e w' => e = .returned (.int .i64 (cmpI s t)) ∧ Below w.heap.size w w' := by
  have HS := Lib.hid hs
  have HT := Lib.hid ht
  have l1 := str_len s
  have l2 := str_len t
  generalize hn : s.length = n at *
  generalize ho : t.length = o at *
  have HN := Lib.hid hn
  have HO := Lib.hid ho
  clear hn ho hs ht
  go_enter Try.func51, Try.ntmps51
  go_wp2_with fail
  go_loopw [5] (fun i wr => ∃ k : Nat, k ≤ n ∧ k ≤ o ∧ i = .int .i64 k ∧ Below w.heap.size w wr ∧ Hid (cmpI s t = cmpI (s.drop k) (t.drop k))) (fun i _ => n - (intOf i).toNat)
  case atStart => exact ⟨0, Nat.zero_le _, Nat.zero_le _, rfl, Below.refl _ _, Lib.hid rfl⟩
  case round =>
    obtain ⟨k, hk1, hk2, rfl, hbw, heq⟩ := hrel
    have HBW := Lib.hid hbw
    clear hbw
    by_cases hlt1 : k < n
    · by_cases hlt2 : k < o
      · have x1 := fun u => index_str u s k HS.out (by rw [HN.out]; exact hlt1)
        have x2 := fun u => index_str u t k HT.out (by rw [HO.out]; exact hlt2)
        have HAT := Lib.hid (heq.out.trans (cmpI_at (by rw [HN.out]; exact hlt1) (by rw [HO.out]; exact hlt2)))
        generalize s[k]?.getD 0 = x at *
        generalize t[k]?.getD 0 = y at *
        have k1 : ((k : Int) < (n : Int)) := by omega
        have k2 : ((k : Int) < (o : Int)) := by omega
        clear heq
        by_cases hxy : x < y
        · rw [if_pos hxy] at HAT
          have hxy2 : decide (x < y) = true := decide_eq_true hxy
          go_wp2_with fail
          go_quiet (fail)
          go_wp2_with fail
          go_ret
          exact ⟨ret_int HAT.out.symm, below_drewN HBW.out _⟩
        · rw [if_neg hxy] at HAT
          have hxy2 : decide (x < y) = false := decide_eq_false hxy
          by_cases hyx : y < x
          · rw [if_pos hyx] at HAT
            have hyx2 : decide (y < x) = true := decide_eq_true hyx
            go_wp2_with fail
            go_quiet (fail)
            go_wp2_with fail
            go_quiet (fail)
            go_wp2_with fail
            go_ret
            exact ⟨ret_int HAT.out.symm, below_drewN (below_drewN HBW.out _) _⟩
          · rw [if_neg hyx] at HAT
            have hyx2 : decide (y < x) = false := decide_eq_false hyx
            go_wp2_with fail
            go_quiet (fail)
            go_wp2_with fail
            go_quiet (fail)
            go_wp2_with fail
            go_roundw
            case rel => exact ⟨k + 1, by omega, by omega, by go_num, below_drewN HBW.out _, HAT⟩
            case measure => simp [intOf]; omega
      · have hko : k = o := by omega
        have HF := Lib.hid (heq.out.trans (cmpI_end2 (by rw [HN.out]; exact hlt1) (by rw [HO.out]; exact hko)))
        have k1 : ((k : Int) < (n : Int)) := by omega
        clear heq
        subst hko
        go_wp2_with fail
        go_ret
        exact ⟨ret_int HF.out.symm, HBW.out⟩
    · have hkn : k = n := by omega
      subst hkn
      by_cases hlt2 : k < o
      · have HF := Lib.hid (heq.out.trans (cmpI_end1 (by rw [HN.out]) (by rw [HO.out]; exact hlt2)))
        have k1 : ((k : Int) < (o : Int)) := by omega
        clear heq
        go_wp2_with fail
        go_ret
        exact ⟨ret_int HF.out.symm, HBW.out⟩
      · have hko : k = o := by omega
        have HF := Lib.hid (heq.out.trans (cmpI_end3 (by rw [HN.out]) (by rw [HO.out]; exact hko)))
        clear heq
        subst hko
        go_wp2_with fail
        go_ret
        exact ⟨ret_int HF.out.symm, HBW.out⟩
end Go.Proofs.Ytkcjegdmcboohaa
namespace Go.Proofs.Ytkcjegdmcboohaa
open Go.RowKit
attribute [local go_sem ↓] eql32_eq neq32_eq
theorem ord_lt {a b : Val} (h : a.k < b.k) : ordV a b = -1 := by simp [ordV, sgI, h, orI]
theorem ord_gt {a b : Val} (h : b.k < a.k) : ordV a b = 1 := by simp [ordV, sgI, h, orI, show ¬ a.k < b.k by omega]
theorem ord_txt {a b : Val} (ha : Nrm a) (hb : Nrm b) (h : a.k = b.k) (h2 : a.k = 2) : ordV a b = cmpI a.s b.s := by
  have h3 : a.n = 0 := by rcases ha.2 with h | h | h | h <;> omega
  have h4 : b.n = 0 := by rcases hb.2 with h | h | h | h <;> omega
  simp [ordV, sgI, h, h3, h4, orI]
theorem ord_num {a b : Val} (ha : Nrm a) (hb : Nrm b) (h : a.k = b.k) (h2 : a.k ≠ 2) : ordV a b = sgI a.n b.n := by
  have h3 : a.s = [] := by rcases ha.2 with h | h | h | h; exact h.2.2; exact h.2; exact absurd h.1 h2; exact h.2.2
  have h4 : b.s = [] := by rcases hb.2 with h | h | h | h; exact h.2.2; exact h.2; exact absurd h.1 (by omega); exact h.2.2
  rw [ordV, h3, h4, h, show sgI b.k b.k = 0 by simp [sgI], show cmpI [] [] = 0 from rfl]
  simp only [orI, ne_eq, not_true_eq_false, if_false]
  by_cases h5 : sgI a.n b.n = 0 <;> simp [h5]
theorem set3 {u : World} {H : Nat} {k n : Int} {s : ByteArray} (h : u.heap[H]? = some (BX k n s)) (a : Val) :
    (((u.setCell ⟨H, 0, none⟩ (.int .i64 a.k)).setCell ⟨H, 1, none⟩ (.int .i64 a.n)).setCell ⟨H, 2, none⟩ (.string (str a.s))).heap[H]? = some (BX a.k a.n (str a.s)) := by
  have h1 := heap_setCell_same u H 0 _ _ (.int .i64 a.k) h
  have h2 := heap_setCell_same _ H 1 _ _ (.int .i64 a.n) h1
  have h3 := heap_setCell_same _ H 2 _ _ (.string (str a.s)) h2
  exact h3
theorem set3_other {u : World} {H g : Nat} (a : Val) (hg : g ≠ H) :
    (((u.setCell ⟨H, 0, none⟩ (.int .i64 a.k)).setCell ⟨H, 1, none⟩ (.int .i64 a.n)).setCell ⟨H, 2, none⟩ (.string (str a.s))).heap[g]? = u.heap[g]? := by
  rw [heap_setCell_other _ _ _ _ hg, heap_setCell_other _ _ _ _ hg, heap_setCell_other _ _ _ _ hg]
theorem set3_below {w u : World} {H B : Nat} (a : Val) (h : Below B w u) (hB : B ≤ H) :
    Below B w (((u.setCell ⟨H, 0, none⟩ (.int .i64 a.k)).setCell ⟨H, 1, none⟩ (.int .i64 a.n)).setCell ⟨H, 2, none⟩ (.string (str a.s))) :=
  ((h.setCell hB _).setCell hB _).setCell hB _
theorem Two.set1 {w u : World} {x y : Val} (h : Two w u x y) (a : Val) : Two w (((u.setCell ⟨w.heap.size, 0, none⟩ (.int .i64 a.k)).setCell ⟨w.heap.size, 1, none⟩ (.int .i64 a.n)).setCell ⟨w.heap.size, 2, none⟩ (.string (str a.s))) a y :=
  ⟨set3 h.1 a, (set3_other a (by omega)).trans h.2.1, set3_below a h.2.2 (Nat.le_refl _)⟩
theorem Two.set2 {w u : World} {x y : Val} (h : Two w u x y) (a : Val) : Two w (((u.setCell ⟨w.heap.size + 1, 0, none⟩ (.int .i64 a.k)).setCell ⟨w.heap.size + 1, 1, none⟩ (.int .i64 a.n)).setCell ⟨w.heap.size + 1, 2, none⟩ (.string (str a.s))) x a :=
  ⟨(set3_other a (by omega)).trans h.1, set3 h.2.1 a, set3_below a h.2.2 (by omega)⟩
theorem bx_cells {u : World} {H : Nat} {k n : Int} {s : ByteArray} (h : u.heap[H]? = some (BX k n s)) :
    u.cell? ⟨H, 0, none⟩ = some (.int .i64 k) ∧ u.cell? ⟨H, 1, none⟩ = some (.int .i64 n) ∧ u.cell? ⟨H, 2, none⟩ = some (.string s) :=
  ⟨cell_of_row _ _ 0 _ _ _ h, cell_of_row _ _ 1 _ _ _ h, cell_of_row _ _ 2 _ _ _ h⟩
theorem bx_free {u : World} {H : Nat} {k n : Int} {s : ByteArray} (h : u.heap[H]? = some (BX k n s)) :
    u.frozen? ⟨H, 0, none⟩ = false ∧ u.frozen? ⟨H, 1, none⟩ = false ∧ u.frozen? ⟨H, 2, none⟩ = false :=
  ⟨frozen_of_row _ _ 0 _ _ h, frozen_of_row _ _ 1 _ _ h, frozen_of_row _ _ 2 _ _ h⟩
set_option maxRecDepth 100000 in
set_option maxHeartbeats 1600000 in
theorem rcompare_any (x y : Val) (w : World) (hx : x.OK) (hy : y.OK) (hl : x.s.length ≤ 1099511627776) : Calls Try.prog 19 #[.agg #[.int .i64 x.k, .int .i64 x.n, .string (str x.s)], .agg #[.int .i64 y.k, .int .i64 y.n, .string (str y.s)]] w fun e w' => e = .returned (.int .i64 (cmpV x y)) ∧ Below w.heap.size w w' := by
  have HT := Lib.hid (two_new w x y)
  have HX := Lib.hid (nrm_norm hx)
  have HY := Lib.hid (nrm_norm hy)
  have HL := Lib.hid (Nat.le_trans (norm_len x) hl)
  clear hl
  unfold cmpV
  generalize hA : normV x = A at *
  generalize hB : normV y = B at *
  have HNX := Lib.hid (fun w => hA ▸ rnorm_any x w)
  have HNY := Lib.hid (fun w => hB ▸ rnorm_any y w)
  clear hA hB hx hy
  have key : ∀ (r : Int), ordV A B = r → (A.k < B.k ∧ r = -1 ∨ B.k < A.k ∧ r = 1 ∨ A.k = B.k ∧ A.k = 2 ∧ r = cmpI A.s B.s ∨ A.k = B.k ∧ A.k ≠ 2 ∧ (A.n < B.n ∧ r = -1 ∨ B.n < A.n ∧ r = 1 ∨ A.n = B.n ∧ r = 0)) := by
    rintro r rfl
    rcases Int.lt_trichotomy A.k B.k with h | h | h
    · exact .inl ⟨h, ord_lt h⟩
    · by_cases h2 : A.k = 2
      · exact .inr (.inr (.inl ⟨h, h2, ord_txt HX.out HY.out h h2⟩))
      · refine .inr (.inr (.inr ⟨h, h2, ?_⟩))
        rw [ord_num HX.out HY.out h h2]
        rcases Int.lt_trichotomy A.n B.n with h | h | h
        · exact .inl ⟨h, by simp [sgI, h]⟩
        · exact .inr (.inr ⟨h, by simp [sgI, h]⟩)
        · exact .inr (.inl ⟨h, by simp [sgI, h, show ¬ A.n < B.n by omega]⟩)
    · exact .inr (.inl ⟨h, ord_gt h⟩)
  obtain ⟨r, hr⟩ : ∃ r, ordV A B = r := ⟨_, rfl⟩
  have hk := key r hr
  rw [hr]
  clear key hr
  rcases hk with ⟨h1, rfl⟩ | ⟨h1, rfl⟩ | ⟨h1, h2, rfl⟩ | ⟨h1, h2, h3⟩
  · go_enter Try.func19, Try.ntmps19
    go_wp2_with (first | (go_at_call 26; refine (HNX.out _).mono ?_; rintro e w1 ⟨rfl, hb1⟩; have hp1 := HT.out.below hb1; obtain ⟨f0, f1, f2⟩ := bx_free hp1.1; obtain ⟨c0, c1, c2⟩ := bx_cells hp1.2.1; obtain ⟨a0, a1, a2⟩ := bx_cells hp1.1; have HT2 := Lib.hid (hp1.set1 A); clear hb1 hp1 HNX) | (go_at_call 26; refine (HNY.out _).mono ?_; rintro e w2 ⟨rfl, hb2⟩; have hp2 := HT2.out.below hb2; obtain ⟨g0, g1, g2⟩ := bx_free hp2.2.1; obtain ⟨d0, d1, d2⟩ := bx_cells hp2.1; obtain ⟨b0, b1, b2⟩ := bx_cells hp2.2.1; have HT3 := Lib.hid (hp2.set2 B); clear hb2 hp2 HT2))
    go_ret
    exact ⟨rfl, HT3.out.2.2⟩
  · have k1 : decide (A.k < B.k) = false := decide_eq_false (by omega)
    go_enter Try.func19, Try.ntmps19
    go_wp2_with (first | (go_at_call 26; refine (HNX.out _).mono ?_; rintro e w1 ⟨rfl, hb1⟩; have hp1 := HT.out.below hb1; obtain ⟨f0, f1, f2⟩ := bx_free hp1.1; obtain ⟨c0, c1, c2⟩ := bx_cells hp1.2.1; obtain ⟨a0, a1, a2⟩ := bx_cells hp1.1; have HT2 := Lib.hid (hp1.set1 A); clear hb1 hp1 HNX) | (go_at_call 26; refine (HNY.out _).mono ?_; rintro e w2 ⟨rfl, hb2⟩; have hp2 := HT2.out.below hb2; obtain ⟨g0, g1, g2⟩ := bx_free hp2.2.1; obtain ⟨d0, d1, d2⟩ := bx_cells hp2.1; obtain ⟨b0, b1, b2⟩ := bx_cells hp2.2.1; have HT3 := Lib.hid (hp2.set2 B); clear hb2 hp2 HT2))
    go_ret
    exact ⟨rfl, HT3.out.2.2⟩
  · have k1 : decide (A.k < B.k) = false := decide_eq_false (by omega)
    have k2 : decide (B.k < A.k) = false := decide_eq_false (by omega)
    have k3 : (A.k == 2) = true := beq_iff_eq.2 h2
    have HO := Lib.hid (fun u => rorder_any A.s B.s u HX.out.1.1 HY.out.1.1 HL.out)
    clear h1 h2
    go_enter Try.func19, Try.ntmps19
    go_wp2_with (first | (go_at_call 26; refine (HNX.out _).mono ?_; rintro e w1 ⟨rfl, hb1⟩; have hp1 := HT.out.below hb1; obtain ⟨f0, f1, f2⟩ := bx_free hp1.1; obtain ⟨c0, c1, c2⟩ := bx_cells hp1.2.1; obtain ⟨a0, a1, a2⟩ := bx_cells hp1.1; have HT2 := Lib.hid (hp1.set1 A); clear hb1 hp1 HNX) | (go_at_call 26; refine (HNY.out _).mono ?_; rintro e w2 ⟨rfl, hb2⟩; have hp2 := HT2.out.below hb2; obtain ⟨g0, g1, g2⟩ := bx_free hp2.2.1; obtain ⟨d0, d1, d2⟩ := bx_cells hp2.1; obtain ⟨b0, b1, b2⟩ := bx_cells hp2.2.1; have HT3 := Lib.hid (hp2.set2 B); clear hb2 hp2 HT2) | (go_at_call 51; refine (HO.out _).mono ?_; rintro e w3 ⟨rfl, hb3⟩; have HB3 := Lib.hid hb3; clear hb3))
    go_ret
    exact ⟨rfl, bl_tr HT3.out.2.2 HB3.out⟩
  · have k1 : decide (A.k < B.k) = false := decide_eq_false (by omega)
    have k2 : decide (B.k < A.k) = false := decide_eq_false (by omega)
    have k3 : (A.k == 2) = false := beq_false_of_ne h2
    clear h1 h2
    rcases h3 with ⟨h4, rfl⟩ | ⟨h4, rfl⟩ | ⟨h4, rfl⟩
    · go_enter Try.func19, Try.ntmps19
      go_wp2_with (first | (go_at_call 26; refine (HNX.out _).mono ?_; rintro e w1 ⟨rfl, hb1⟩; have hp1 := HT.out.below hb1; obtain ⟨f0, f1, f2⟩ := bx_free hp1.1; obtain ⟨c0, c1, c2⟩ := bx_cells hp1.2.1; obtain ⟨a0, a1, a2⟩ := bx_cells hp1.1; have HT2 := Lib.hid (hp1.set1 A); clear hb1 hp1 HNX) | (go_at_call 26; refine (HNY.out _).mono ?_; rintro e w2 ⟨rfl, hb2⟩; have hp2 := HT2.out.below hb2; obtain ⟨g0, g1, g2⟩ := bx_free hp2.2.1; obtain ⟨d0, d1, d2⟩ := bx_cells hp2.1; obtain ⟨b0, b1, b2⟩ := bx_cells hp2.2.1; have HT3 := Lib.hid (hp2.set2 B); clear hb2 hp2 HT2))
      go_ret
      exact ⟨rfl, HT3.out.2.2⟩
    · have k4 : decide (A.n < B.n) = false := decide_eq_false (by omega)
      go_enter Try.func19, Try.ntmps19
      go_wp2_with (first | (go_at_call 26; refine (HNX.out _).mono ?_; rintro e w1 ⟨rfl, hb1⟩; have hp1 := HT.out.below hb1; obtain ⟨f0, f1, f2⟩ := bx_free hp1.1; obtain ⟨c0, c1, c2⟩ := bx_cells hp1.2.1; obtain ⟨a0, a1, a2⟩ := bx_cells hp1.1; have HT2 := Lib.hid (hp1.set1 A); clear hb1 hp1 HNX) | (go_at_call 26; refine (HNY.out _).mono ?_; rintro e w2 ⟨rfl, hb2⟩; have hp2 := HT2.out.below hb2; obtain ⟨g0, g1, g2⟩ := bx_free hp2.2.1; obtain ⟨d0, d1, d2⟩ := bx_cells hp2.1; obtain ⟨b0, b1, b2⟩ := bx_cells hp2.2.1; have HT3 := Lib.hid (hp2.set2 B); clear hb2 hp2 HT2))
      go_ret
      exact ⟨rfl, HT3.out.2.2⟩
    · have k4 : decide (A.n < B.n) = false := decide_eq_false (by omega)
      have k5 : decide (B.n < A.n) = false := decide_eq_false (by omega)
      clear h4
      go_enter Try.func19, Try.ntmps19
      go_wp2_with (first | (go_at_call 26; refine (HNX.out _).mono ?_; rintro e w1 ⟨rfl, hb1⟩; have hp1 := HT.out.below hb1; obtain ⟨f0, f1, f2⟩ := bx_free hp1.1; obtain ⟨c0, c1, c2⟩ := bx_cells hp1.2.1; obtain ⟨a0, a1, a2⟩ := bx_cells hp1.1; have HT2 := Lib.hid (hp1.set1 A); clear hb1 hp1 HNX) | (go_at_call 26; refine (HNY.out _).mono ?_; rintro e w2 ⟨rfl, hb2⟩; have hp2 := HT2.out.below hb2; obtain ⟨g0, g1, g2⟩ := bx_free hp2.2.1; obtain ⟨d0, d1, d2⟩ := bx_cells hp2.1; obtain ⟨b0, b1, b2⟩ := bx_cells hp2.2.1; have HT3 := Lib.hid (hp2.set2 B); clear hb2 hp2 HT2))
      go_ret
      exact ⟨rfl, HT3.out.2.2⟩
end Go.Proofs.Ytkcjegdmcboohaa
