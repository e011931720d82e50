import Derived.Test.YtbhilmgpmebaiaaDv12
namespace Go.Proofs.Ytbhilmgpmebaiaa
open Go.RowKit
theorem rcount_any (op a b : Int) (w : World) (ho : 4 ≤ op ∧ op ≤ 9) (ha : I64 a) (hb : I64 b) : Calls Try.prog 44 #[.int .i64 op, .int .i64 a, .int .i64 b] w fun e w' => e = .returned (.tuple #[.agg #[.int .i64 ((cntR (calK op a b)).1).k, .int .i64 ((cntR (calK op a b)).1).n, .string (str ((cntR (calK op a b)).1).s)], .int .i64 (cntR (calK op a b)).2]) ∧ Below w.heap.size w w' := by
  have h6 : op = 4 ∨ op = 5 ∨ op = 6 ∨ op = 7 ∨ op = 8 ∨ op = 9 := by omega
  rcases h6 with rfl | rfl | rfl | rfl | rfl | rfl
  · exact rcount_4 a b w ha hb
  · exact rcount_5 a b w ha hb
  · exact rcount_6 a b w ha hb
  · exact rcount_7 a b w ha hb
  · exact rcount_8 a b w ha hb
  · exact rcount_9 a b w ha hb
theorem ofR_cnt {A B : Val} (q : Int × Int) (h1 : A.k = 1) (h2 : B.k = 1) : ofR A B q = cntR q := by
  rw [ofR, show okK 1 A.k = true from decide_eq_true (.inl h1), show okK 1 B.k = true from decide_eq_true (.inl h2), if_neg (by decide), if_neg (by
    intro h
    rcases h with h | h
    · rw [h] at h1; exact absurd h1 (by decide)
    · rw [h] at h2; exact absurd h2 (by decide))]
  rfl
set_option maxRecDepth 100000 in
set_option maxHeartbeats 12800000 in
theorem rdo_calc (op : Int) (ho : 5 ≤ op ∧ op ≤ 9) (a b : Val) (w : World) (ha : a.OK) (hb : b.OK) (hsl : a.s.length ≤ 1099511627776) : Calls Try.prog 14 #[.int .i64 op, .agg #[.int .i64 a.k, .int .i64 a.n, .string (str a.s)], .agg #[.int .i64 b.k, .int .i64 b.n, .string (str b.s)]] w fun e w' => e = .returned (.tuple #[.agg #[.int .i64 ((doR op (normV a) (normV b)).1).k, .int .i64 ((doR op (normV a) (normV b)).1).n, .string (str ((doR op (normV a) (normV b)).1).s)], .int .i64 (doR op (normV a) (normV b)).2]) ∧ Below w.heap.size w w' := by
  have HT := Lib.hid (tri_new w a b)
  have HNX := Lib.hid (fun w => rnorm_any a w)
  have HNY := Lib.hid (fun w => rnorm_any b w)
  have HA := Lib.hid (nrm_norm ha)
  have HB := Lib.hid (nrm_norm hb)
  have HL := Lib.hid (Nat.le_trans (norm_len a) hsl)
  have na := nrm_null HA.out
  have nb := nrm_null HB.out
  have h1 := fun w => rone_any op w
  have h2 := fun w => rtwo_any op w
  have h3 := fun w => rsums_any op w
  simp only [show decide (op = 4 ∨ op = 16 ∨ op = 19 ∨ op = 20) = false from decide_eq_false (by omega)] at h1
  simp only [show decide (5 ≤ op ∧ op ≤ 15 ∨ op = 17 ∨ op = 18) = true from decide_eq_true (by omega)] at h2
  simp only [show decide (4 ≤ op ∧ op ≤ 9) = true from decide_eq_true (by omega)] at h3
  have e16 : (op == 16) = false := beq_false_of_ne (by omega)
  have e17 : (op == 17) = false := beq_false_of_ne (by omega)
  have e18 : (op == 18) = false := beq_false_of_ne (by omega)
  have e19 : (op == 19) = false := beq_false_of_ne (by omega)
  have e20 : (op == 20) = false := beq_false_of_ne (by omega)
  have H1 := Lib.hid h1
  have H2 := Lib.hid h2
  have H3 := Lib.hid h3
  clear h1 h2 h3 hsl
  have hd : doR op (normV a) (normV b) = ofR (normV a) (normV b) (calK op (normV a).n (normV b).n) := by rw [doR, if_pos (by omega)]
  have HC := Lib.hid (fun u => rcount_any op (normV a).n (normV b).n u (by omega) (norm_i64 ha) (norm_i64 hb))
  rw [hd]
  clear hd ha hb
  by_cases A1 : (normV a).k = 1
  · have xA : okK 1 (normV a).k = true := decide_eq_true (.inl A1)
    have p1 : ((normV a).k != 1) = false := by simp [A1]
    have p2 : ((normV a).k == 0) = false := beq_false_of_ne (by omega)
    by_cases B1 : (normV b).k = 1
    · have q1 : ((normV b).k != 1) = false := by simp [B1]
      have q2 : ((normV b).k == 0) = false := beq_false_of_ne (by omega)
      rw [ofR_cnt _ A1 B1]
      generalize cntR (calK op (normV a).n (normV b).n) = R at *
      clear na nb A1 B1 xA
      go_enter Try.func14, Try.ntmps14
      go_wp2_with (first
        | (go_at_call 26; refine (HNX.out _).mono ?_; rintro e w1 ⟨rfl, hb1⟩; have hp1 := HT.out.below hb1; obtain ⟨f0, f1, f2⟩ := bx_free hp1.1.1; obtain ⟨c0, c1, c2⟩ := bx_cells hp1.1.2.1; obtain ⟨a0, a1, a2⟩ := bx_cells hp1.1.1; have HT2 := Lib.hid (hp1.set1 (normV a)); clear hb1 hp1 HNX)
        | (go_at_call 26; refine (HNY.out _).mono ?_; rintro e w2 ⟨rfl, hb2⟩; have hp2 := HT2.out.below hb2; obtain ⟨g0, g1, g2⟩ := bx_free hp2.1.2.1; obtain ⟨d0, d1, d2⟩ := bx_cells hp2.1.1; obtain ⟨b0, b1, b2⟩ := bx_cells hp2.1.2.1; have HT3 := Lib.hid (hp2.set2 (normV b)); obtain ⟨hw2, zk, zn, zs, hz⟩ := hp2; obtain ⟨z0, z1, z2⟩ := bx_cells hz; obtain ⟨y0, y1, y2⟩ := bx_free hz; have hl2 := bx_lt hz; have hl1 : w.heap.size + 1 < w2.heap.size := (by omega); have hl0 : w.heap.size < w2.heap.size := (by omega); have HZ := Lib.hid hz; have HB2 := Lib.hid hw2.2.2; clear hb2 hz hw2 HT2)
        | (go_at_call 39; refine (H1.out _).mono ?_; rintro e w' ⟨rfl, rfl⟩)
        | (go_at_call 41; refine (H2.out _).mono ?_; rintro e w' ⟨rfl, rfl⟩)
        | (go_at_call 43; refine (H3.out _).mono ?_; rintro e w' ⟨rfl, rfl⟩)
        | (go_at_call 44; refine (HC.out _).mono ?_; rintro e w4 ⟨rfl, hb4⟩; have hp4 := HT3.out.below hb4; obtain ⟨_, xk, xn, xs, hx⟩ := hp4; obtain ⟨x0, x1, x2⟩ := bx_cells hx; obtain ⟨v0, v1, v2⟩ := bx_free hx; have hl4 := bx_lt hx; have HB4 := Lib.hid (HT3.out.below hb4).1.2.2; clear hb4 hx))
      refine bodyPost_ret (v := .tuple #[.agg #[.int .i64 R.1.k, .int .i64 R.1.n, .string (str R.1.s)], .int .i64 (R.2)]) (by simp [results, Try.results14, go_sem, x0, x1, x2]) rfl ⟨?_, ?_⟩
      · rfl
      · exact set3_below R.1 HB4.out (by omega)
    · have q1 : ((normV b).k != 1) = true := bne_iff_ne.2 B1
      by_cases B0 : (normV b).k = 0
      · have q2 : ((normV b).k != 0) = false := by simp [B0]
        have q3 : ((normV b).k == 0) = true := beq_iff_eq.2 B0
        rw [ofR, xA, show okK 1 (normV b).k = true from decide_eq_true (.inr B0), if_neg (by decide), if_pos (.inr (nb.1 B0))]
        clear na nb A1 B1 B0 xA
        go_enter Try.func14, Try.ntmps14
        go_wp2_with (first
          | (go_at_call 26; refine (HNX.out _).mono ?_; rintro e w1 ⟨rfl, hb1⟩; have hp1 := HT.out.below hb1; obtain ⟨f0, f1, f2⟩ := bx_free hp1.1.1; obtain ⟨c0, c1, c2⟩ := bx_cells hp1.1.2.1; obtain ⟨a0, a1, a2⟩ := bx_cells hp1.1.1; have HT2 := Lib.hid (hp1.set1 (normV a)); clear hb1 hp1 HNX)
          | (go_at_call 26; refine (HNY.out _).mono ?_; rintro e w2 ⟨rfl, hb2⟩; have hp2 := HT2.out.below hb2; obtain ⟨g0, g1, g2⟩ := bx_free hp2.1.2.1; obtain ⟨d0, d1, d2⟩ := bx_cells hp2.1.1; obtain ⟨b0, b1, b2⟩ := bx_cells hp2.1.2.1; have HT3 := Lib.hid (hp2.set2 (normV b)); obtain ⟨hw2, zk, zn, zs, hz⟩ := hp2; obtain ⟨z0, z1, z2⟩ := bx_cells hz; obtain ⟨y0, y1, y2⟩ := bx_free hz; have hl2 := bx_lt hz; have hl1 : w.heap.size + 1 < w2.heap.size := (by omega); have hl0 : w.heap.size < w2.heap.size := (by omega); have HZ := Lib.hid hz; have HB2 := Lib.hid hw2.2.2; clear hb2 hz hw2 HT2)
          | (go_at_call 39; refine (H1.out _).mono ?_; rintro e w' ⟨rfl, rfl⟩)
          | (go_at_call 41; refine (H2.out _).mono ?_; rintro e w' ⟨rfl, rfl⟩)
          | (go_at_call 43; refine (H3.out _).mono ?_; rintro e w' ⟨rfl, rfl⟩))
        refine bodyPost_ret (v := .tuple #[.agg #[.int .i64 0, .int .i64 0, .string ⟨#[]⟩], .int .i64 (0)]) (by simp [results, Try.results14, go_sem, hl0, hl1, hl2, z0, z1, z2]) rfl ⟨?_, ?_⟩
        · rfl
        · (repeat (first | with_reducible exact Below.refl _ _ | with_reducible exact HB2.out | with_reducible refine bl_al ?_ _ | with_reducible refine Below.setCell ?_ (by first | omega | (simp; done) | (simp; omega)) _ | with_reducible refine Below.drew ?_))
      · have q2 : ((normV b).k != 0) = true := bne_iff_ne.2 B0
        rw [ofR, xA, okK_f B1 B0, if_pos (by rfl)]
        clear na nb A1 B1 B0 xA
        go_enter Try.func14, Try.ntmps14
        go_wp2_with (first
          | (go_at_call 26; refine (HNX.out _).mono ?_; rintro e w1 ⟨rfl, hb1⟩; have hp1 := HT.out.below hb1; obtain ⟨f0, f1, f2⟩ := bx_free hp1.1.1; obtain ⟨c0, c1, c2⟩ := bx_cells hp1.1.2.1; obtain ⟨a0, a1, a2⟩ := bx_cells hp1.1.1; have HT2 := Lib.hid (hp1.set1 (normV a)); clear hb1 hp1 HNX)
          | (go_at_call 26; refine (HNY.out _).mono ?_; rintro e w2 ⟨rfl, hb2⟩; have hp2 := HT2.out.below hb2; obtain ⟨g0, g1, g2⟩ := bx_free hp2.1.2.1; obtain ⟨d0, d1, d2⟩ := bx_cells hp2.1.1; obtain ⟨b0, b1, b2⟩ := bx_cells hp2.1.2.1; have HT3 := Lib.hid (hp2.set2 (normV b)); obtain ⟨hw2, zk, zn, zs, hz⟩ := hp2; obtain ⟨z0, z1, z2⟩ := bx_cells hz; obtain ⟨y0, y1, y2⟩ := bx_free hz; have hl2 := bx_lt hz; have hl1 : w.heap.size + 1 < w2.heap.size := (by omega); have hl0 : w.heap.size < w2.heap.size := (by omega); have HZ := Lib.hid hz; have HB2 := Lib.hid hw2.2.2; clear hb2 hz hw2 HT2)
          | (go_at_call 39; refine (H1.out _).mono ?_; rintro e w' ⟨rfl, rfl⟩)
          | (go_at_call 41; refine (H2.out _).mono ?_; rintro e w' ⟨rfl, rfl⟩)
          | (go_at_call 43; refine (H3.out _).mono ?_; rintro e w' ⟨rfl, rfl⟩))
        refine bodyPost_ret (v := .tuple #[.agg #[.int .i64 0, .int .i64 0, .string ⟨#[]⟩], .int .i64 (22)]) (by simp [results, Try.results14, go_sem, hl0, hl1, hl2, z0, z1, z2]) rfl ⟨?_, ?_⟩
        · rfl
        · (repeat (first | with_reducible exact Below.refl _ _ | with_reducible exact HB2.out | with_reducible refine bl_al ?_ _ | with_reducible refine Below.setCell ?_ (by first | omega | (simp; done) | (simp; omega)) _ | with_reducible refine Below.drew ?_))
  · have p1 : ((normV a).k != 1) = true := bne_iff_ne.2 A1
    by_cases A0 : (normV a).k = 0
    · have xA : okK 1 (normV a).k = true := decide_eq_true (.inr A0)
      have p2 : ((normV a).k != 0) = false := by simp [A0]
      have p3 : ((normV a).k == 0) = true := beq_iff_eq.2 A0
      by_cases B1 : (normV b).k = 1
      · have q1 : ((normV b).k != 1) = false := by simp [B1]
        rw [ofR, xA, show okK 1 (normV b).k = true from decide_eq_true (.inl B1), if_neg (by decide), if_pos (.inl (na.1 A0))]
        clear na nb A1 A0 B1 xA
        go_enter Try.func14, Try.ntmps14
        go_wp2_with (first
          | (go_at_call 26; refine (HNX.out _).mono ?_; rintro e w1 ⟨rfl, hb1⟩; have hp1 := HT.out.below hb1; obtain ⟨f0, f1, f2⟩ := bx_free hp1.1.1; obtain ⟨c0, c1, c2⟩ := bx_cells hp1.1.2.1; obtain ⟨a0, a1, a2⟩ := bx_cells hp1.1.1; have HT2 := Lib.hid (hp1.set1 (normV a)); clear hb1 hp1 HNX)
          | (go_at_call 26; refine (HNY.out _).mono ?_; rintro e w2 ⟨rfl, hb2⟩; have hp2 := HT2.out.below hb2; obtain ⟨g0, g1, g2⟩ := bx_free hp2.1.2.1; obtain ⟨d0, d1, d2⟩ := bx_cells hp2.1.1; obtain ⟨b0, b1, b2⟩ := bx_cells hp2.1.2.1; have HT3 := Lib.hid (hp2.set2 (normV b)); obtain ⟨hw2, zk, zn, zs, hz⟩ := hp2; obtain ⟨z0, z1, z2⟩ := bx_cells hz; obtain ⟨y0, y1, y2⟩ := bx_free hz; have hl2 := bx_lt hz; have hl1 : w.heap.size + 1 < w2.heap.size := (by omega); have hl0 : w.heap.size < w2.heap.size := (by omega); have HZ := Lib.hid hz; have HB2 := Lib.hid hw2.2.2; clear hb2 hz hw2 HT2)
          | (go_at_call 39; refine (H1.out _).mono ?_; rintro e w' ⟨rfl, rfl⟩)
          | (go_at_call 41; refine (H2.out _).mono ?_; rintro e w' ⟨rfl, rfl⟩)
          | (go_at_call 43; refine (H3.out _).mono ?_; rintro e w' ⟨rfl, rfl⟩))
        refine bodyPost_ret (v := .tuple #[.agg #[.int .i64 0, .int .i64 0, .string ⟨#[]⟩], .int .i64 (0)]) (by simp [results, Try.results14, go_sem, hl0, hl1, hl2, z0, z1, z2]) rfl ⟨?_, ?_⟩
        · rfl
        · (repeat (first | with_reducible exact Below.refl _ _ | with_reducible exact HB2.out | with_reducible refine bl_al ?_ _ | with_reducible refine Below.setCell ?_ (by first | omega | (simp; done) | (simp; omega)) _ | with_reducible refine Below.drew ?_))
      · have q1 : ((normV b).k != 1) = true := bne_iff_ne.2 B1
        by_cases B0 : (normV b).k = 0
        · have q2 : ((normV b).k != 0) = false := by simp [B0]
          rw [ofR, xA, show okK 1 (normV b).k = true from decide_eq_true (.inr B0), if_neg (by decide), if_pos (.inl (na.1 A0))]
          clear na nb A1 A0 B1 B0 xA
          go_enter Try.func14, Try.ntmps14
          go_wp2_with (first
            | (go_at_call 26; refine (HNX.out _).mono ?_; rintro e w1 ⟨rfl, hb1⟩; have hp1 := HT.out.below hb1; obtain ⟨f0, f1, f2⟩ := bx_free hp1.1.1; obtain ⟨c0, c1, c2⟩ := bx_cells hp1.1.2.1; obtain ⟨a0, a1, a2⟩ := bx_cells hp1.1.1; have HT2 := Lib.hid (hp1.set1 (normV a)); clear hb1 hp1 HNX)
            | (go_at_call 26; refine (HNY.out _).mono ?_; rintro e w2 ⟨rfl, hb2⟩; have hp2 := HT2.out.below hb2; obtain ⟨g0, g1, g2⟩ := bx_free hp2.1.2.1; obtain ⟨d0, d1, d2⟩ := bx_cells hp2.1.1; obtain ⟨b0, b1, b2⟩ := bx_cells hp2.1.2.1; have HT3 := Lib.hid (hp2.set2 (normV b)); obtain ⟨hw2, zk, zn, zs, hz⟩ := hp2; obtain ⟨z0, z1, z2⟩ := bx_cells hz; obtain ⟨y0, y1, y2⟩ := bx_free hz; have hl2 := bx_lt hz; have hl1 : w.heap.size + 1 < w2.heap.size := (by omega); have hl0 : w.heap.size < w2.heap.size := (by omega); have HZ := Lib.hid hz; have HB2 := Lib.hid hw2.2.2; clear hb2 hz hw2 HT2)
            | (go_at_call 39; refine (H1.out _).mono ?_; rintro e w' ⟨rfl, rfl⟩)
            | (go_at_call 41; refine (H2.out _).mono ?_; rintro e w' ⟨rfl, rfl⟩)
            | (go_at_call 43; refine (H3.out _).mono ?_; rintro e w' ⟨rfl, rfl⟩))
          refine bodyPost_ret (v := .tuple #[.agg #[.int .i64 0, .int .i64 0, .string ⟨#[]⟩], .int .i64 (0)]) (by simp [results, Try.results14, go_sem, hl0, hl1, hl2, z0, z1, z2]) rfl ⟨?_, ?_⟩
          · rfl
          · (repeat (first | with_reducible exact Below.refl _ _ | with_reducible exact HB2.out | with_reducible refine bl_al ?_ _ | with_reducible refine Below.setCell ?_ (by first | omega | (simp; done) | (simp; omega)) _ | with_reducible refine Below.drew ?_))
        · have q2 : ((normV b).k != 0) = true := bne_iff_ne.2 B0
          rw [ofR, xA, okK_f B1 B0, if_pos (by rfl)]
          clear na nb A1 A0 B1 B0 xA
          go_enter Try.func14, Try.ntmps14
          go_wp2_with (first
            | (go_at_call 26; refine (HNX.out _).mono ?_; rintro e w1 ⟨rfl, hb1⟩; have hp1 := HT.out.below hb1; obtain ⟨f0, f1, f2⟩ := bx_free hp1.1.1; obtain ⟨c0, c1, c2⟩ := bx_cells hp1.1.2.1; obtain ⟨a0, a1, a2⟩ := bx_cells hp1.1.1; have HT2 := Lib.hid (hp1.set1 (normV a)); clear hb1 hp1 HNX)
            | (go_at_call 26; refine (HNY.out _).mono ?_; rintro e w2 ⟨rfl, hb2⟩; have hp2 := HT2.out.below hb2; obtain ⟨g0, g1, g2⟩ := bx_free hp2.1.2.1; obtain ⟨d0, d1, d2⟩ := bx_cells hp2.1.1; obtain ⟨b0, b1, b2⟩ := bx_cells hp2.1.2.1; have HT3 := Lib.hid (hp2.set2 (normV b)); obtain ⟨hw2, zk, zn, zs, hz⟩ := hp2; obtain ⟨z0, z1, z2⟩ := bx_cells hz; obtain ⟨y0, y1, y2⟩ := bx_free hz; have hl2 := bx_lt hz; have hl1 : w.heap.size + 1 < w2.heap.size := (by omega); have hl0 : w.heap.size < w2.heap.size := (by omega); have HZ := Lib.hid hz; have HB2 := Lib.hid hw2.2.2; clear hb2 hz hw2 HT2)
            | (go_at_call 39; refine (H1.out _).mono ?_; rintro e w' ⟨rfl, rfl⟩)
            | (go_at_call 41; refine (H2.out _).mono ?_; rintro e w' ⟨rfl, rfl⟩)
            | (go_at_call 43; refine (H3.out _).mono ?_; rintro e w' ⟨rfl, rfl⟩))
          refine bodyPost_ret (v := .tuple #[.agg #[.int .i64 0, .int .i64 0, .string ⟨#[]⟩], .int .i64 (22)]) (by simp [results, Try.results14, go_sem, hl0, hl1, hl2, z0, z1, z2]) rfl ⟨?_, ?_⟩
          · rfl
          · (repeat (first | with_reducible exact Below.refl _ _ | with_reducible exact HB2.out | with_reducible refine bl_al ?_ _ | with_reducible refine Below.setCell ?_ (by first | omega | (simp; done) | (simp; omega)) _ | with_reducible refine Below.drew ?_))
    · have p2 : ((normV a).k != 0) = true := bne_iff_ne.2 A0
      rw [ofR, okK_f A1 A0, if_pos (by rfl)]
      clear na nb A1 A0
      go_enter Try.func14, Try.ntmps14
      go_wp2_with (first
        | (go_at_call 26; refine (HNX.out _).mono ?_; rintro e w1 ⟨rfl, hb1⟩; have hp1 := HT.out.below hb1; obtain ⟨f0, f1, f2⟩ := bx_free hp1.1.1; obtain ⟨c0, c1, c2⟩ := bx_cells hp1.1.2.1; obtain ⟨a0, a1, a2⟩ := bx_cells hp1.1.1; have HT2 := Lib.hid (hp1.set1 (normV a)); clear hb1 hp1 HNX)
        | (go_at_call 26; refine (HNY.out _).mono ?_; rintro e w2 ⟨rfl, hb2⟩; have hp2 := HT2.out.below hb2; obtain ⟨g0, g1, g2⟩ := bx_free hp2.1.2.1; obtain ⟨d0, d1, d2⟩ := bx_cells hp2.1.1; obtain ⟨b0, b1, b2⟩ := bx_cells hp2.1.2.1; have HT3 := Lib.hid (hp2.set2 (normV b)); obtain ⟨hw2, zk, zn, zs, hz⟩ := hp2; obtain ⟨z0, z1, z2⟩ := bx_cells hz; obtain ⟨y0, y1, y2⟩ := bx_free hz; have hl2 := bx_lt hz; have hl1 : w.heap.size + 1 < w2.heap.size := (by omega); have hl0 : w.heap.size < w2.heap.size := (by omega); have HZ := Lib.hid hz; have HB2 := Lib.hid hw2.2.2; clear hb2 hz hw2 HT2)
        | (go_at_call 39; refine (H1.out _).mono ?_; rintro e w' ⟨rfl, rfl⟩)
        | (go_at_call 41; refine (H2.out _).mono ?_; rintro e w' ⟨rfl, rfl⟩)
        | (go_at_call 43; refine (H3.out _).mono ?_; rintro e w' ⟨rfl, rfl⟩))
      refine bodyPost_ret (v := .tuple #[.agg #[.int .i64 0, .int .i64 0, .string ⟨#[]⟩], .int .i64 (22)]) (by simp [results, Try.results14, go_sem, hl0, hl1, hl2, z0, z1, z2]) rfl ⟨?_, ?_⟩
      · rfl
      · (repeat (first | with_reducible exact Below.refl _ _ | with_reducible exact HB2.out | with_reducible refine bl_al ?_ _ | with_reducible refine Below.setCell ?_ (by first | omega | (simp; done) | (simp; omega)) _ | with_reducible refine Below.drew ?_))
end Go.Proofs.Ytbhilmgpmebaiaa
namespace Go.Proofs.Ytbhilmgpmebaiaa
open Go.RowKit
theorem tri_z {w u : World} {x y : Val} (h : Tri w u x y) : ∃ k n s, u.heap[w.heap.size + 1 + 1]? = some (BX k n s) := h.2
theorem ofK_null1 {A B : Val} (t : Bool) (hA : A = nulV) : ofK A B t = (nulV, 0) := by
  rw [ofK, show smK A.k B.k = true from decide_eq_true (.inr (.inl (by rw [hA]; rfl))), if_neg (by decide), if_pos (.inl hA)]
theorem ofK_null2 {A B : Val} (t : Bool) (hB : B = nulV) : ofK A B t = (nulV, 0) := by
  rw [ofK, show smK A.k B.k = true from decide_eq_true (.inr (.inr (by rw [hB]; rfl))), if_neg (by decide), if_pos (.inr hB)]
theorem ofK_not {A B : Val} (t : Bool) (h0 : A.k ≠ 0) (h1 : B.k ≠ 0) (h : A.k ≠ B.k) : ofK A B t = (nulV, 22) := by
  rw [ofK, show smK A.k B.k = false from decide_eq_false (by omega), if_pos rfl]
theorem ofK_yes {A B : Val} (t : Bool) (h0 : A.k ≠ 0) (h1 : B.k ≠ 0) (h : A.k = B.k) : ofK A B t = (truV t, 0) := by
  rw [ofK, show smK A.k B.k = true from decide_eq_true (.inl h), if_neg (by decide), if_neg (by
    intro e
    rcases e with e | e
    · exact h0 (by rw [e]; rfl)
    · exact h1 (by rw [e]; rfl))]
theorem cmpV_nrm {A B : Val} (ha : Nrm A) (hb : Nrm B) : cmpV A B = ordV A B := by rw [cmpV, norm_nrm ha, norm_nrm hb]
set_option maxRecDepth 100000 in
set_option maxHeartbeats 12800000 in
theorem rdo_comp (op : Int) (ho : 10 ≤ op ∧ op ≤ 15) (a b : Val) (w : World) (ha : a.OK) (hb : b.OK) (hsl : a.s.length ≤ 1099511627776) : Calls Try.prog 14 #[.int .i64 op, .agg #[.int .i64 a.k, .int .i64 a.n, .string (str a.s)], .agg #[.int .i64 b.k, .int .i64 b.n, .string (str b.s)]] w fun e w' => e = .returned (.tuple #[.agg #[.int .i64 ((doR op (normV a) (normV b)).1).k, .int .i64 ((doR op (normV a) (normV b)).1).n, .string (str ((doR op (normV a) (normV b)).1).s)], .int .i64 (doR op (normV a) (normV b)).2]) ∧ Below w.heap.size w w' := by
  have HT := Lib.hid (tri_new w a b)
  have HNX := Lib.hid (fun w => rnorm_any a w)
  have HNY := Lib.hid (fun w => rnorm_any b w)
  have HA := Lib.hid (nrm_norm ha)
  have HB := Lib.hid (nrm_norm hb)
  have HL := Lib.hid (Nat.le_trans (norm_len a) hsl)
  have na := nrm_null HA.out
  have nb := nrm_null HB.out
  have h1 := fun w => rone_any op w
  have h2 := fun w => rtwo_any op w
  have h3 := fun w => rsums_any op w
  simp only [show decide (op = 4 ∨ op = 16 ∨ op = 19 ∨ op = 20) = false from decide_eq_false (by omega)] at h1
  simp only [show decide (5 ≤ op ∧ op ≤ 15 ∨ op = 17 ∨ op = 18) = true from decide_eq_true (by omega)] at h2
  simp only [show decide (4 ≤ op ∧ op ≤ 9) = false from decide_eq_false (by omega)] at h3
  have e16 : (op == 16) = false := beq_false_of_ne (by omega)
  have e17 : (op == 17) = false := beq_false_of_ne (by omega)
  have e18 : (op == 18) = false := beq_false_of_ne (by omega)
  have e19 : (op == 19) = false := beq_false_of_ne (by omega)
  have e20 : (op == 20) = false := beq_false_of_ne (by omega)
  have H1 := Lib.hid h1
  have H2 := Lib.hid h2
  have H3 := Lib.hid h3
  clear h1 h2 h3 hsl
  have hd : doR op (normV a) (normV b) = ofK (normV a) (normV b) (holdK op (ordV (normV a) (normV b))) := by rw [doR, if_neg (by omega), if_pos (by omega)]
  have HC := Lib.hid (fun u => rcompare_any (normV a) (normV b) u HA.out.1 HB.out.1 HL.out)
  rw [cmpV_nrm HA.out HB.out] at HC
  have HH := Lib.hid (fun u => holds_any op (ordV (normV a) (normV b)) u ho)
  rw [hd]
  generalize ordV (normV a) (normV b) = c at *
  generalize holdK op c = t at *
  clear hd ha hb
  by_cases A0 : (normV a).k = 0
  · have p1 : ((normV a).k == 0) = true := beq_iff_eq.2 A0
    rw [ofK_null1 t (na.1 A0)]
    clear na nb A0
    go_enter Try.func14, Try.ntmps14
    go_wp2_with (first
      | (go_at_call 26; refine (HNX.out _).mono ?_; rintro e w1 ⟨rfl, hb1⟩; have hp1 := HT.out.below hb1; obtain ⟨f0, f1, f2⟩ := bx_free hp1.1.1; obtain ⟨c0, c1, c2⟩ := bx_cells hp1.1.2.1; obtain ⟨a0, a1, a2⟩ := bx_cells hp1.1.1; have HT2 := Lib.hid (hp1.set1 (normV a)); clear hb1 hp1 HNX)
      | (go_at_call 26; refine (HNY.out _).mono ?_; rintro e w2 ⟨rfl, hb2⟩; have hp2 := HT2.out.below hb2; obtain ⟨g0, g1, g2⟩ := bx_free hp2.1.2.1; obtain ⟨d0, d1, d2⟩ := bx_cells hp2.1.1; obtain ⟨b0, b1, b2⟩ := bx_cells hp2.1.2.1; have HT3 := Lib.hid (hp2.set2 (normV b)); obtain ⟨hw2, zk, zn, zs, hz⟩ := hp2; obtain ⟨z0, z1, z2⟩ := bx_cells hz; obtain ⟨y0, y1, y2⟩ := bx_free hz; have hl2 := bx_lt hz; have hl1 : w.heap.size + 1 < w2.heap.size := (by omega); have hl0 : w.heap.size < w2.heap.size := (by omega); have HZ := Lib.hid hz; have HB2 := Lib.hid hw2.2.2; clear hb2 hz hw2 HT2)
      | (go_at_call 39; refine (H1.out _).mono ?_; rintro e w' ⟨rfl, rfl⟩)
      | (go_at_call 41; refine (H2.out _).mono ?_; rintro e w' ⟨rfl, rfl⟩)
      | (go_at_call 43; refine (H3.out _).mono ?_; rintro e w' ⟨rfl, rfl⟩))
    refine bodyPost_ret (v := .tuple #[.agg #[.int .i64 0, .int .i64 0, .string ⟨#[]⟩], .int .i64 (0)]) (by simp [results, Try.results14, go_sem, hl0, hl1, hl2, z0, z1, z2]) rfl ⟨?_, ?_⟩
    · rfl
    · (repeat (first | with_reducible exact Below.refl _ _ | with_reducible exact HB2.out | with_reducible refine bl_al ?_ _ | with_reducible refine Below.setCell ?_ (by first | omega | (simp; done) | (simp; omega)) _ | with_reducible refine Below.drew ?_))
  have p1 : ((normV a).k == 0) = false := beq_false_of_ne A0
  by_cases B0 : (normV b).k = 0
  · have q1 : ((normV b).k == 0) = true := beq_iff_eq.2 B0
    rw [ofK_null2 t (nb.1 B0)]
    clear na nb A0 B0
    go_enter Try.func14, Try.ntmps14
    go_wp2_with (first
      | (go_at_call 26; refine (HNX.out _).mono ?_; rintro e w1 ⟨rfl, hb1⟩; have hp1 := HT.out.below hb1; obtain ⟨f0, f1, f2⟩ := bx_free hp1.1.1; obtain ⟨c0, c1, c2⟩ := bx_cells hp1.1.2.1; obtain ⟨a0, a1, a2⟩ := bx_cells hp1.1.1; have HT2 := Lib.hid (hp1.set1 (normV a)); clear hb1 hp1 HNX)
      | (go_at_call 26; refine (HNY.out _).mono ?_; rintro e w2 ⟨rfl, hb2⟩; have hp2 := HT2.out.below hb2; obtain ⟨g0, g1, g2⟩ := bx_free hp2.1.2.1; obtain ⟨d0, d1, d2⟩ := bx_cells hp2.1.1; obtain ⟨b0, b1, b2⟩ := bx_cells hp2.1.2.1; have HT3 := Lib.hid (hp2.set2 (normV b)); obtain ⟨hw2, zk, zn, zs, hz⟩ := hp2; obtain ⟨z0, z1, z2⟩ := bx_cells hz; obtain ⟨y0, y1, y2⟩ := bx_free hz; have hl2 := bx_lt hz; have hl1 : w.heap.size + 1 < w2.heap.size := (by omega); have hl0 : w.heap.size < w2.heap.size := (by omega); have HZ := Lib.hid hz; have HB2 := Lib.hid hw2.2.2; clear hb2 hz hw2 HT2)
      | (go_at_call 39; refine (H1.out _).mono ?_; rintro e w' ⟨rfl, rfl⟩)
      | (go_at_call 41; refine (H2.out _).mono ?_; rintro e w' ⟨rfl, rfl⟩)
      | (go_at_call 43; refine (H3.out _).mono ?_; rintro e w' ⟨rfl, rfl⟩))
    refine bodyPost_ret (v := .tuple #[.agg #[.int .i64 0, .int .i64 0, .string ⟨#[]⟩], .int .i64 (0)]) (by simp [results, Try.results14, go_sem, hl0, hl1, hl2, z0, z1, z2]) rfl ⟨?_, ?_⟩
    · rfl
    · (repeat (first | with_reducible exact Below.refl _ _ | with_reducible exact HB2.out | with_reducible refine bl_al ?_ _ | with_reducible refine Below.setCell ?_ (by first | omega | (simp; done) | (simp; omega)) _ | with_reducible refine Below.drew ?_))
  have q1 : ((normV b).k == 0) = false := beq_false_of_ne B0
  by_cases AB : (normV a).k = (normV b).k
  · have r1 : ((normV a).k != (normV b).k) = false := by simp [AB]
    rw [ofK_yes t A0 B0 AB]
    clear na nb A0 B0 AB
    cases t
    · skip
      go_enter Try.func14, Try.ntmps14
      go_wp2_with (first
        | (go_at_call 26; refine (HNX.out _).mono ?_; rintro e w1 ⟨rfl, hb1⟩; have hp1 := HT.out.below hb1; obtain ⟨f0, f1, f2⟩ := bx_free hp1.1.1; obtain ⟨c0, c1, c2⟩ := bx_cells hp1.1.2.1; obtain ⟨a0, a1, a2⟩ := bx_cells hp1.1.1; have HT2 := Lib.hid (hp1.set1 (normV a)); clear hb1 hp1 HNX)
        | (go_at_call 26; refine (HNY.out _).mono ?_; rintro e w2 ⟨rfl, hb2⟩; have hp2 := HT2.out.below hb2; obtain ⟨g0, g1, g2⟩ := bx_free hp2.1.2.1; obtain ⟨d0, d1, d2⟩ := bx_cells hp2.1.1; obtain ⟨b0, b1, b2⟩ := bx_cells hp2.1.2.1; have HT3 := Lib.hid (hp2.set2 (normV b)); obtain ⟨hw2, zk, zn, zs, hz⟩ := hp2; obtain ⟨z0, z1, z2⟩ := bx_cells hz; obtain ⟨y0, y1, y2⟩ := bx_free hz; have hl2 := bx_lt hz; have hl1 : w.heap.size + 1 < w2.heap.size := (by omega); have hl0 : w.heap.size < w2.heap.size := (by omega); have HZ := Lib.hid hz; have HB2 := Lib.hid hw2.2.2; clear hb2 hz hw2 HT2)
        | (go_at_call 39; refine (H1.out _).mono ?_; rintro e w' ⟨rfl, rfl⟩)
        | (go_at_call 41; refine (H2.out _).mono ?_; rintro e w' ⟨rfl, rfl⟩)
        | (go_at_call 43; refine (H3.out _).mono ?_; rintro e w' ⟨rfl, rfl⟩)
        | (go_at_call 19; refine (HC.out _).mono ?_; rintro e w4 ⟨rfl, hb4⟩; have hp4 := HT3.out.below hb4; obtain ⟨xk, xn, xs, hx⟩ := tri_z hp4; obtain ⟨x0, x1, x2⟩ := bx_cells hx; obtain ⟨v0, v1, v2⟩ := bx_free hx; have hl4 := bx_lt hx; have HB4 := Lib.hid (HT3.out.below hb4).1.2.2; clear hb4 hx)
        | (go_at_call 45; with_reducible refine (HH.out _).mono ?_; rintro e w5 ⟨rfl, rfl⟩)
        | (go_at_call 27; refine (rtruth_any _ _).mono ?_; rintro e w' ⟨rfl, rfl⟩))
      refine bodyPost_ret (v := .tuple #[.agg #[.int .i64 3, .int .i64 0, .string ⟨#[]⟩], .int .i64 (0)]) (by simp [results, Try.results14, go_sem, hl4, x0, x1, x2]) rfl ⟨?_, ?_⟩
      · rfl
      · (repeat (first | with_reducible exact Below.refl _ _ | with_reducible exact HB4.out | with_reducible refine bl_al ?_ _ | with_reducible refine Below.setCell ?_ (by first | omega | (simp; done) | (simp; omega)) _ | with_reducible refine Below.drew ?_))
    · skip
      go_enter Try.func14, Try.ntmps14
      go_wp2_with (first
        | (go_at_call 26; refine (HNX.out _).mono ?_; rintro e w1 ⟨rfl, hb1⟩; have hp1 := HT.out.below hb1; obtain ⟨f0, f1, f2⟩ := bx_free hp1.1.1; obtain ⟨c0, c1, c2⟩ := bx_cells hp1.1.2.1; obtain ⟨a0, a1, a2⟩ := bx_cells hp1.1.1; have HT2 := Lib.hid (hp1.set1 (normV a)); clear hb1 hp1 HNX)
        | (go_at_call 26; refine (HNY.out _).mono ?_; rintro e w2 ⟨rfl, hb2⟩; have hp2 := HT2.out.below hb2; obtain ⟨g0, g1, g2⟩ := bx_free hp2.1.2.1; obtain ⟨d0, d1, d2⟩ := bx_cells hp2.1.1; obtain ⟨b0, b1, b2⟩ := bx_cells hp2.1.2.1; have HT3 := Lib.hid (hp2.set2 (normV b)); obtain ⟨hw2, zk, zn, zs, hz⟩ := hp2; obtain ⟨z0, z1, z2⟩ := bx_cells hz; obtain ⟨y0, y1, y2⟩ := bx_free hz; have hl2 := bx_lt hz; have hl1 : w.heap.size + 1 < w2.heap.size := (by omega); have hl0 : w.heap.size < w2.heap.size := (by omega); have HZ := Lib.hid hz; have HB2 := Lib.hid hw2.2.2; clear hb2 hz hw2 HT2)
        | (go_at_call 39; refine (H1.out _).mono ?_; rintro e w' ⟨rfl, rfl⟩)
        | (go_at_call 41; refine (H2.out _).mono ?_; rintro e w' ⟨rfl, rfl⟩)
        | (go_at_call 43; refine (H3.out _).mono ?_; rintro e w' ⟨rfl, rfl⟩)
        | (go_at_call 19; refine (HC.out _).mono ?_; rintro e w4 ⟨rfl, hb4⟩; have hp4 := HT3.out.below hb4; obtain ⟨xk, xn, xs, hx⟩ := tri_z hp4; obtain ⟨x0, x1, x2⟩ := bx_cells hx; obtain ⟨v0, v1, v2⟩ := bx_free hx; have hl4 := bx_lt hx; have HB4 := Lib.hid (HT3.out.below hb4).1.2.2; clear hb4 hx)
        | (go_at_call 45; with_reducible refine (HH.out _).mono ?_; rintro e w5 ⟨rfl, rfl⟩)
        | (go_at_call 27; refine (rtruth_any _ _).mono ?_; rintro e w' ⟨rfl, rfl⟩))
      refine bodyPost_ret (v := .tuple #[.agg #[.int .i64 3, .int .i64 1, .string ⟨#[]⟩], .int .i64 (0)]) (by simp [results, Try.results14, go_sem, hl4, x0, x1, x2]) rfl ⟨?_, ?_⟩
      · rfl
      · (repeat (first | with_reducible exact Below.refl _ _ | with_reducible exact HB4.out | with_reducible refine bl_al ?_ _ | with_reducible refine Below.setCell ?_ (by first | omega | (simp; done) | (simp; omega)) _ | with_reducible refine Below.drew ?_))
  · have r1 : ((normV a).k != (normV b).k) = true := bne_iff_ne.2 AB
    rw [ofK_not t A0 B0 AB]
    clear na nb A0 B0 AB
    go_enter Try.func14, Try.ntmps14
    go_wp2_with (first
      | (go_at_call 26; refine (HNX.out _).mono ?_; rintro e w1 ⟨rfl, hb1⟩; have hp1 := HT.out.below hb1; obtain ⟨f0, f1, f2⟩ := bx_free hp1.1.1; obtain ⟨c0, c1, c2⟩ := bx_cells hp1.1.2.1; obtain ⟨a0, a1, a2⟩ := bx_cells hp1.1.1; have HT2 := Lib.hid (hp1.set1 (normV a)); clear hb1 hp1 HNX)
      | (go_at_call 26; refine (HNY.out _).mono ?_; rintro e w2 ⟨rfl, hb2⟩; have hp2 := HT2.out.below hb2; obtain ⟨g0, g1, g2⟩ := bx_free hp2.1.2.1; obtain ⟨d0, d1, d2⟩ := bx_cells hp2.1.1; obtain ⟨b0, b1, b2⟩ := bx_cells hp2.1.2.1; have HT3 := Lib.hid (hp2.set2 (normV b)); obtain ⟨hw2, zk, zn, zs, hz⟩ := hp2; obtain ⟨z0, z1, z2⟩ := bx_cells hz; obtain ⟨y0, y1, y2⟩ := bx_free hz; have hl2 := bx_lt hz; have hl1 : w.heap.size + 1 < w2.heap.size := (by omega); have hl0 : w.heap.size < w2.heap.size := (by omega); have HZ := Lib.hid hz; have HB2 := Lib.hid hw2.2.2; clear hb2 hz hw2 HT2)
      | (go_at_call 39; refine (H1.out _).mono ?_; rintro e w' ⟨rfl, rfl⟩)
      | (go_at_call 41; refine (H2.out _).mono ?_; rintro e w' ⟨rfl, rfl⟩)
      | (go_at_call 43; refine (H3.out _).mono ?_; rintro e w' ⟨rfl, rfl⟩))
    refine bodyPost_ret (v := .tuple #[.agg #[.int .i64 0, .int .i64 0, .string ⟨#[]⟩], .int .i64 (22)]) (by simp [results, Try.results14, go_sem, hl0, hl1, hl2, z0, z1, z2]) rfl ⟨?_, ?_⟩
    · rfl
    · (repeat (first | with_reducible exact Below.refl _ _ | with_reducible exact HB2.out | with_reducible refine bl_al ?_ _ | with_reducible refine Below.setCell ?_ (by first | omega | (simp; done) | (simp; omega)) _ | with_reducible refine Below.drew ?_))
end Go.Proofs.Ytbhilmgpmebaiaa
namespace Go.Proofs.Ytbhilmgpmebaiaa
open Go.RowKit
attribute [local go_sem ↓] eql32_eq neq32_eq
set_option maxRecDepth 100000 in
set_option maxHeartbeats 6400000 in
theorem rboth_18 (a b : Val) (w : World) (ha : Nrm a) (hb : Nrm b) : Calls Try.prog 42 #[.int .i64 18, .agg #[.int .i64 a.k, .int .i64 a.n, .string (str a.s)], .agg #[.int .i64 b.k, .int .i64 b.n, .string (str b.s)]] w fun e w' => e = .returned (.tuple #[.agg #[.int .i64 ((decV true a b).1).k, .int .i64 ((decV true a b).1).n, .string (str ((decV true a b).1).s)], .int .i64 (decV true a b).2]) ∧ Below w.heap.size w w' := by
  have na := nrm_null ha
  have nb := nrm_null hb
  have he := fun u => run_eqT u a true ha.1.1
  have hf := fun u => run_eqT u b true hb.1.1
  simp only [if_true] at he hf
  clear ha hb
  by_cases A3 : a.k = 3
  · have oa : okK 3 a.k = true := decide_eq_true (.inl A3)
    have xa : ¬ a = nulV := fun h => by have := na.2 h; omega
    have a1 : (a.k == 0) = false := beq_false_of_ne (by omega)
    by_cases B3 : b.k = 3
    · have ob : okK 3 b.k = true := decide_eq_true (.inl B3)
      have xb : ¬ b = nulV := fun h => by have := nb.2 h; omega
      have b1 : (b.k == 0) = false := beq_false_of_ne (by omega)
      have a0 : (a.k != 3) = false := by simp [A3]
      have b0 : (b.k != 3) = false := by simp [B3]
      by_cases e1 : a = truV true
      · rw [show decV true a b = (truV true, 0) by rw [decV, oa, ob, if_neg (by decide), if_pos (.inl e1)]]
        simp only [decide_eq_true e1] at he
        clear hf na nb A3 B3 oa ob xa xb e1
        go_enter Try.func42, Try.ntmps42
        go_wp2_with (go_at_call 27; refine (rtruth_any _ _).mono ?_; rintro e w' ⟨rfl, rfl⟩)
        refine bodyPost_ret (v := .tuple #[.agg #[.int .i64 3, .int .i64 1, .string ⟨#[]⟩], .int .i64 0]) (by simp [results, Try.results42, go_sem]) rfl ⟨?_, ?_⟩
        · rfl
        · (repeat (first | exact Below.refl _ _ | exact HBW.out | refine bl_al ?_ _ | refine Below.setCell ?_ (by first | omega | (simp; done) | (simp; omega)) _ | refine Below.drew ?_))
      simp only [decide_eq_false e1] at he
      by_cases e2 : b = truV true
      · rw [show decV true a b = (truV true, 0) by rw [decV, oa, ob, if_neg (by decide), if_pos (.inr e2)]]
        simp only [decide_eq_true e2] at hf
        clear na nb A3 B3 oa ob xa xb e1 e2
        go_enter Try.func42, Try.ntmps42
        go_wp2_with (go_at_call 27; refine (rtruth_any _ _).mono ?_; rintro e w' ⟨rfl, rfl⟩)
        refine bodyPost_ret (v := .tuple #[.agg #[.int .i64 3, .int .i64 1, .string ⟨#[]⟩], .int .i64 0]) (by simp [results, Try.results42, go_sem]) rfl ⟨?_, ?_⟩
        · rfl
        · (repeat (first | exact Below.refl _ _ | exact HBW.out | refine bl_al ?_ _ | refine Below.setCell ?_ (by first | omega | (simp; done) | (simp; omega)) _ | refine Below.drew ?_))
      · rw [show decV true a b = (truV (!true), 0) by rw [decV, oa, ob, if_neg (by decide), if_neg (by simp [e1, e2]), if_neg (by simp [xa, xb])]]
        simp only [decide_eq_false e2] at hf
        clear na nb A3 B3 oa ob xa xb e1 e2
        go_enter Try.func42, Try.ntmps42
        go_wp2_with (go_at_call 27; refine (rtruth_any _ _).mono ?_; rintro e w' ⟨rfl, rfl⟩)
        refine bodyPost_ret (v := .tuple #[.agg #[.int .i64 3, .int .i64 0, .string ⟨#[]⟩], .int .i64 0]) (by simp [results, Try.results42, go_sem]) rfl ⟨?_, ?_⟩
        · rfl
        · (repeat (first | exact Below.refl _ _ | exact HBW.out | refine bl_al ?_ _ | refine Below.setCell ?_ (by first | omega | (simp; done) | (simp; omega)) _ | refine Below.drew ?_))
    · have b0 : (b.k != 3) = true := bne_iff_ne.2 B3
      have a0 : (a.k != 3) = false := by simp [A3]
      by_cases B0 : b.k = 0
      · have ob : okK 3 b.k = true := decide_eq_true (.inr B0)
        have xb : b = nulV := nb.1 B0
        have b1 : (b.k != 0) = false := by simp [B0]
        have b2 : (b.k == 0) = true := beq_iff_eq.2 B0
        have e2 : ¬ b = truV true := by rw [xb]; decide
        simp only [decide_eq_false e2] at hf
        by_cases e1 : a = truV true
        · rw [show decV true a b = (truV true, 0) by rw [decV, oa, ob, if_neg (by decide), if_pos (.inl e1)]]
          simp only [decide_eq_true e1] at he
          clear hf na nb A3 B3 B0 oa ob xa xb e1 e2
          go_enter Try.func42, Try.ntmps42
          go_wp2_with (go_at_call 27; refine (rtruth_any _ _).mono ?_; rintro e w' ⟨rfl, rfl⟩)
          refine bodyPost_ret (v := .tuple #[.agg #[.int .i64 3, .int .i64 1, .string ⟨#[]⟩], .int .i64 0]) (by simp [results, Try.results42, go_sem]) rfl ⟨?_, ?_⟩
          · rfl
          · (repeat (first | exact Below.refl _ _ | exact HBW.out | refine bl_al ?_ _ | refine Below.setCell ?_ (by first | omega | (simp; done) | (simp; omega)) _ | refine Below.drew ?_))
        · rw [show decV true a b = (nulV, 0) by rw [decV, oa, ob, if_neg (by decide), if_neg (by simp [e1, e2]), if_pos (.inr xb)]]
          simp only [decide_eq_false e1] at he
          clear na nb A3 B3 B0 oa ob xa xb e1 e2
          go_enter Try.func42, Try.ntmps42
          go_wp2_with (go_at_call 27; refine (rtruth_any _ _).mono ?_; rintro e w' ⟨rfl, rfl⟩)
          refine bodyPost_ret (v := .tuple #[.agg #[.int .i64 0, .int .i64 0, .string ⟨#[]⟩], .int .i64 0]) (by simp [results, Try.results42, go_sem]) rfl ⟨?_, ?_⟩
          · rfl
          · (repeat (first | exact Below.refl _ _ | exact HBW.out | refine bl_al ?_ _ | refine Below.setCell ?_ (by first | omega | (simp; done) | (simp; omega)) _ | refine Below.drew ?_))
      · have ob : okK 3 b.k = false := okK_f B3 B0
        have b1 : (b.k != 0) = true := bne_iff_ne.2 B0
        rw [show decV true a b = (nulV, 22) by rw [decV, oa, ob, if_pos (by rfl)]]
        clear he hf na nb A3 B3 B0 oa ob xa
        go_enter Try.func42, Try.ntmps42
        go_wp2_with (go_at_call 27; refine (rtruth_any _ _).mono ?_; rintro e w' ⟨rfl, rfl⟩)
        refine bodyPost_ret (v := .tuple #[.agg #[.int .i64 0, .int .i64 0, .string ⟨#[]⟩], .int .i64 22]) (by simp [results, Try.results42, go_sem]) rfl ⟨?_, ?_⟩
        · rfl
        · (repeat (first | exact Below.refl _ _ | exact HBW.out | refine bl_al ?_ _ | refine Below.setCell ?_ (by first | omega | (simp; done) | (simp; omega)) _ | refine Below.drew ?_))
  · have a0 : (a.k != 3) = true := bne_iff_ne.2 A3
    by_cases A0 : a.k = 0
    · have oa : okK 3 a.k = true := decide_eq_true (.inr A0)
      have xa : a = nulV := na.1 A0
      have a1 : (a.k != 0) = false := by simp [A0]
      have a2 : (a.k == 0) = true := beq_iff_eq.2 A0
      have e1 : ¬ a = truV true := by rw [xa]; decide
      simp only [decide_eq_false e1] at he
      by_cases B3 : b.k = 3
      · have ob : okK 3 b.k = true := decide_eq_true (.inl B3)
        have b0 : (b.k != 3) = false := by simp [B3]
        by_cases e2 : b = truV true
        · rw [show decV true a b = (truV true, 0) by rw [decV, oa, ob, if_neg (by decide), if_pos (.inr e2)]]
          simp only [decide_eq_true e2] at hf
          clear na nb A3 A0 B3 oa ob xa e1 e2
          go_enter Try.func42, Try.ntmps42
          go_wp2_with (go_at_call 27; refine (rtruth_any _ _).mono ?_; rintro e w' ⟨rfl, rfl⟩)
          refine bodyPost_ret (v := .tuple #[.agg #[.int .i64 3, .int .i64 1, .string ⟨#[]⟩], .int .i64 0]) (by simp [results, Try.results42, go_sem]) rfl ⟨?_, ?_⟩
          · rfl
          · (repeat (first | exact Below.refl _ _ | exact HBW.out | refine bl_al ?_ _ | refine Below.setCell ?_ (by first | omega | (simp; done) | (simp; omega)) _ | refine Below.drew ?_))
        · rw [show decV true a b = (nulV, 0) by rw [decV, oa, ob, if_neg (by decide), if_neg (by simp [e1, e2]), if_pos (.inl xa)]]
          simp only [decide_eq_false e2] at hf
          clear na nb A3 A0 B3 oa ob xa e1 e2
          go_enter Try.func42, Try.ntmps42
          go_wp2_with (go_at_call 27; refine (rtruth_any _ _).mono ?_; rintro e w' ⟨rfl, rfl⟩)
          refine bodyPost_ret (v := .tuple #[.agg #[.int .i64 0, .int .i64 0, .string ⟨#[]⟩], .int .i64 0]) (by simp [results, Try.results42, go_sem]) rfl ⟨?_, ?_⟩
          · rfl
          · (repeat (first | exact Below.refl _ _ | exact HBW.out | refine bl_al ?_ _ | refine Below.setCell ?_ (by first | omega | (simp; done) | (simp; omega)) _ | refine Below.drew ?_))
      · have b0 : (b.k != 3) = true := bne_iff_ne.2 B3
        by_cases B0 : b.k = 0
        · have ob : okK 3 b.k = true := decide_eq_true (.inr B0)
          have b1 : (b.k != 0) = false := by simp [B0]
          have e2 : ¬ b = truV true := by rw [nb.1 B0]; decide
          simp only [decide_eq_false e2] at hf
          rw [show decV true a b = (nulV, 0) by rw [decV, oa, ob, if_neg (by decide), if_neg (by simp [e1, e2]), if_pos (.inl xa)]]
          clear na nb A3 A0 B3 B0 oa ob xa e1 e2
          go_enter Try.func42, Try.ntmps42
          go_wp2_with (go_at_call 27; refine (rtruth_any _ _).mono ?_; rintro e w' ⟨rfl, rfl⟩)
          refine bodyPost_ret (v := .tuple #[.agg #[.int .i64 0, .int .i64 0, .string ⟨#[]⟩], .int .i64 0]) (by simp [results, Try.results42, go_sem]) rfl ⟨?_, ?_⟩
          · rfl
          · (repeat (first | exact Below.refl _ _ | exact HBW.out | refine bl_al ?_ _ | refine Below.setCell ?_ (by first | omega | (simp; done) | (simp; omega)) _ | refine Below.drew ?_))
        · have ob : okK 3 b.k = false := okK_f B3 B0
          have b1 : (b.k != 0) = true := bne_iff_ne.2 B0
          rw [show decV true a b = (nulV, 22) by rw [decV, oa, ob, if_pos (by rfl)]]
          clear he hf na nb A3 A0 B3 B0 oa ob xa e1
          go_enter Try.func42, Try.ntmps42
          go_wp2_with (go_at_call 27; refine (rtruth_any _ _).mono ?_; rintro e w' ⟨rfl, rfl⟩)
          refine bodyPost_ret (v := .tuple #[.agg #[.int .i64 0, .int .i64 0, .string ⟨#[]⟩], .int .i64 22]) (by simp [results, Try.results42, go_sem]) rfl ⟨?_, ?_⟩
          · rfl
          · (repeat (first | exact Below.refl _ _ | exact HBW.out | refine bl_al ?_ _ | refine Below.setCell ?_ (by first | omega | (simp; done) | (simp; omega)) _ | refine Below.drew ?_))
    · have oa : okK 3 a.k = false := okK_f A3 A0
      have a1 : (a.k != 0) = true := bne_iff_ne.2 A0
      rw [show decV true a b = (nulV, 22) by rw [decV, oa, if_pos (by rfl)]]
      clear he hf na nb A3 A0 oa
      go_enter Try.func42, Try.ntmps42
      go_wp2_with (go_at_call 27; refine (rtruth_any _ _).mono ?_; rintro e w' ⟨rfl, rfl⟩)
      refine bodyPost_ret (v := .tuple #[.agg #[.int .i64 0, .int .i64 0, .string ⟨#[]⟩], .int .i64 22]) (by simp [results, Try.results42, go_sem]) rfl ⟨?_, ?_⟩
      · rfl
      · (repeat (first | exact Below.refl _ _ | exact HBW.out | refine bl_al ?_ _ | refine Below.setCell ?_ (by first | omega | (simp; done) | (simp; omega)) _ | refine Below.drew ?_))
end Go.Proofs.Ytbhilmgpmebaiaa
namespace Go.Proofs.Ytbhilmgpmebaiaa
open Go.RowKit
set_option maxRecDepth 100000 in
set_option maxHeartbeats 12800000 in
theorem rdo_4 (a b : Val) (w : World) (ha : a.OK) (hb : b.OK) (hsl : a.s.length ≤ 1099511627776) : Calls Try.prog 14 #[.int .i64 4, .agg #[.int .i64 a.k, .int .i64 a.n, .string (str a.s)], .agg #[.int .i64 b.k, .int .i64 b.n, .string (str b.s)]] w fun e w' => e = .returned (.tuple #[.agg #[.int .i64 ((doR 4 (normV a) (normV a)).1).k, .int .i64 ((doR 4 (normV a) (normV a)).1).n, .string (str ((doR 4 (normV a) (normV a)).1).s)], .int .i64 (doR 4 (normV a) (normV a)).2]) ∧ Below w.heap.size w w' := by
  have HT := Lib.hid (tri_new w a b)
  have HNX := Lib.hid (fun w => rnorm_any a w)
  have HNY := Lib.hid (fun w => rnorm_any b w)
  have HA := Lib.hid (nrm_norm ha)
  have HB := Lib.hid (nrm_norm hb)
  have HL := Lib.hid (Nat.le_trans (norm_len a) hsl)
  have na := nrm_null HA.out
  have nb := nrm_null HB.out
  have h1 := fun w => rone_any 4 w
  have h2 := fun w => rtwo_any 4 w
  have h3 := fun w => rsums_any 4 w
  simp only [show decide (5 ≤ (4 : Int) ∧ (4 : Int) ≤ 15 ∨ (4 : Int) = 17 ∨ (4 : Int) = 18) = false from by decide] at h2
  simp only [show decide (4 ≤ (4 : Int) ∧ (4 : Int) ≤ 9) = true from by decide] at h3
  have H1 := Lib.hid h1
  have H2 := Lib.hid h2
  have H3 := Lib.hid h3
  clear h1 h2 h3 hsl
  rw [show doR 4 (normV a) (normV a) = ofR (normV a) (normV a) (fit (0 - (normV a).n)) from rfl]
  have HC := Lib.hid (fun u => rcount_4 (normV a).n 0 u (norm_i64 ha) ⟨by decide, by decide⟩)
  by_cases A1 : (normV a).k = 1
  · have p1 : ((normV a).k != 1) = false := by simp [A1]
    have p2 : ((normV a).k == 0) = false := beq_false_of_ne (by omega)
    rw [ofR_cnt _ A1 A1]
    generalize cntR (fit (0 - (normV a).n)) = R at *
    clear na nb A1 ha hb
    go_enter Try.func14, Try.ntmps14
    go_wp2_with (first
      | (go_at_call 26; refine (HNX.out _).mono ?_; rintro e w1 ⟨rfl, hb1⟩; have hp1 : Tri w w1 a b := HT.out.below hb1; obtain ⟨f0, f1, f2⟩ := bx_free hp1.1.1; obtain ⟨c0, c1, c2⟩ := bx_cells hp1.1.2.1; obtain ⟨a0, a1, a2⟩ := bx_cells hp1.1.1; have HT2 := Lib.hid (hp1.set1 (normV a)); clear hb1 hp1 HNX)
      | (go_at_call 26; refine (HNY.out _).mono ?_; rintro e w2 ⟨rfl, hb2⟩; have hp2 : Tri w w2 (normV a) b := HT2.out.below hb2; obtain ⟨g0, g1, g2⟩ := bx_free hp2.1.2.1; obtain ⟨b0, b1, b2⟩ := bx_cells hp2.1.2.1; have HT3 := Lib.hid (hp2.set2 (normV b)); clear hb2 hp2 HT2 HNY)
      | (go_at_call 39; refine (H1.out _).mono ?_; rintro e w3 ⟨rfl, hw⟩; have hp3 : Tri w w3 (normV a) (normV b) := hw ▸ HT3.out; clear hw HT3 H1; have HT4 := Lib.hid hp3; clear hp3)
      | (go_at_call 40; refine (rnumber_any _ _).mono ?_; rintro e w4 ⟨rfl, hw⟩; have hp4 : Tri w w4 (normV a) (normV b) := hw ▸ HT4.out.al _; clear hw HT4; obtain ⟨h0, h1, h2⟩ := bx_free hp4.1.2.1; obtain ⟨d0, d1, d2⟩ := bx_cells hp4.1.2.1; have HT5 := Lib.hid (hp4.set2 ⟨1, 0, []⟩); clear hp4)
      | (go_at_call 43; refine (H3.out _).mono ?_; rintro e w5 ⟨rfl, hw⟩; have hp5 : Tri w w5 (normV a) ⟨1, 0, []⟩ := hw ▸ HT5.out; have H33 := H3; clear hw HT5 H3; obtain ⟨aa0, aa1, aa2⟩ := bx_cells hp5.1.1; obtain ⟨bb0, bb1, bb2⟩ := bx_cells hp5.1.2.1; obtain ⟨zk, zn, zs, hz⟩ := tri_z hp5; obtain ⟨z0, z1, z2⟩ := bx_cells hz; obtain ⟨y0, y1, y2⟩ := bx_free hz; have hl2 := bx_lt hz; have HB5 := Lib.hid hp5.1.2.2; have HT6 := Lib.hid hp5; clear hp5 hz)
      | (go_at_call 43; refine (H33.out _).mono ?_; rintro e w6 ⟨rfl, rfl⟩)
      | (go_at_call 44; refine (HC.out _).mono ?_; rintro e w7 ⟨rfl, hb7⟩; have hp7 : Tri w w7 (normV a) ⟨1, 0, []⟩ := HT6.out.below hb7; obtain ⟨xk, xn, xs, hx⟩ := tri_z hp7; obtain ⟨x0, x1, x2⟩ := bx_cells hx; obtain ⟨vv0, vv1, vv2⟩ := bx_free hx; have hl4 := bx_lt hx; have HB4 := Lib.hid hp7.1.2.2; clear hb7 hx hp7))
    refine bodyPost_ret (v := .tuple #[.agg #[.int .i64 R.1.k, .int .i64 R.1.n, .string (str R.1.s)], .int .i64 (R.2)]) (by simp [results, Try.results14, go_sem, x0, x1, x2]) rfl ⟨?_, ?_⟩
    · rfl
    · exact set3_below R.1 HB4.out (by omega)
  · have p1 : ((normV a).k != 1) = true := bne_iff_ne.2 A1
    by_cases A0 : (normV a).k = 0
    · have p2 : ((normV a).k != 0) = false := by simp [A0]
      have p3 : ((normV a).k == 0) = true := beq_iff_eq.2 A0
      have hk : okK 1 (normV a).k = true := decide_eq_true (.inr A0)
      rw [ofR, hk, if_neg (by decide), if_pos (.inl (na.1 A0))]
      clear na nb A1 A0 hk ha hb HC
      go_enter Try.func14, Try.ntmps14
      go_wp2_with (first
        | (go_at_call 26; refine (HNX.out _).mono ?_; rintro e w1 ⟨rfl, hb1⟩; have hp1 := HT.out.below hb1; obtain ⟨f0, f1, f2⟩ := bx_free hp1.1.1; obtain ⟨c0, c1, c2⟩ := bx_cells hp1.1.2.1; obtain ⟨a0, a1, a2⟩ := bx_cells hp1.1.1; have HT2 := Lib.hid (hp1.set1 (normV a)); clear hb1 hp1 HNX)
        | (go_at_call 26; refine (HNY.out _).mono ?_; rintro e w2 ⟨rfl, hb2⟩; have hp2 := HT2.out.below hb2; obtain ⟨g0, g1, g2⟩ := bx_free hp2.1.2.1; obtain ⟨d0, d1, d2⟩ := bx_cells hp2.1.1; obtain ⟨b0, b1, b2⟩ := bx_cells hp2.1.2.1; have HT3 := Lib.hid (hp2.set2 (normV b)); obtain ⟨hw2, zk, zn, zs, hz⟩ := hp2; obtain ⟨z0, z1, z2⟩ := bx_cells hz; obtain ⟨y0, y1, y2⟩ := bx_free hz; have hl2 := bx_lt hz; have hl1 : w.heap.size + 1 < w2.heap.size := (by omega); have hl0 : w.heap.size < w2.heap.size := (by omega); have HZ := Lib.hid hz; have HB2 := Lib.hid hw2.2.2; clear hb2 hz hw2 HT2)
        | (go_at_call 39; refine (H1.out _).mono ?_; rintro e w' ⟨rfl, rfl⟩)
        | (go_at_call 41; refine (H2.out _).mono ?_; rintro e w' ⟨rfl, rfl⟩)
        | (go_at_call 43; refine (H3.out _).mono ?_; rintro e w' ⟨rfl, rfl⟩)
        | (go_at_call 40; refine (rnumber_any _ _).mono ?_; rintro e w' ⟨rfl, rfl⟩))
      refine bodyPost_ret (v := .tuple #[.agg #[.int .i64 0, .int .i64 0, .string ⟨#[]⟩], .int .i64 (0)]) (by simp [results, Try.results14, go_sem, hl2, z0, z1, z2]) rfl ⟨?_, ?_⟩
      · rfl
      · (repeat (first | with_reducible exact Below.refl _ _ | with_reducible exact HB2.out | with_reducible refine bl_al ?_ _ | with_reducible refine Below.setCell ?_ (by first | omega | (simp; done) | (simp; omega)) _ | with_reducible refine Below.drew ?_))
    · have p2 : ((normV a).k != 0) = true := bne_iff_ne.2 A0
      rw [ofR, okK_f A1 A0, if_pos (by rfl)]
      clear na nb A1 A0 ha hb HC
      go_enter Try.func14, Try.ntmps14
      go_wp2_with (first
        | (go_at_call 26; refine (HNX.out _).mono ?_; rintro e w1 ⟨rfl, hb1⟩; have hp1 := HT.out.below hb1; obtain ⟨f0, f1, f2⟩ := bx_free hp1.1.1; obtain ⟨c0, c1, c2⟩ := bx_cells hp1.1.2.1; obtain ⟨a0, a1, a2⟩ := bx_cells hp1.1.1; have HT2 := Lib.hid (hp1.set1 (normV a)); clear hb1 hp1 HNX)
        | (go_at_call 26; refine (HNY.out _).mono ?_; rintro e w2 ⟨rfl, hb2⟩; have hp2 := HT2.out.below hb2; obtain ⟨g0, g1, g2⟩ := bx_free hp2.1.2.1; obtain ⟨d0, d1, d2⟩ := bx_cells hp2.1.1; obtain ⟨b0, b1, b2⟩ := bx_cells hp2.1.2.1; have HT3 := Lib.hid (hp2.set2 (normV b)); obtain ⟨hw2, zk, zn, zs, hz⟩ := hp2; obtain ⟨z0, z1, z2⟩ := bx_cells hz; obtain ⟨y0, y1, y2⟩ := bx_free hz; have hl2 := bx_lt hz; have hl1 : w.heap.size + 1 < w2.heap.size := (by omega); have hl0 : w.heap.size < w2.heap.size := (by omega); have HZ := Lib.hid hz; have HB2 := Lib.hid hw2.2.2; clear hb2 hz hw2 HT2)
        | (go_at_call 39; refine (H1.out _).mono ?_; rintro e w' ⟨rfl, rfl⟩)
        | (go_at_call 41; refine (H2.out _).mono ?_; rintro e w' ⟨rfl, rfl⟩)
        | (go_at_call 43; refine (H3.out _).mono ?_; rintro e w' ⟨rfl, rfl⟩)
        | (go_at_call 40; refine (rnumber_any _ _).mono ?_; rintro e w' ⟨rfl, rfl⟩))
      refine bodyPost_ret (v := .tuple #[.agg #[.int .i64 0, .int .i64 0, .string ⟨#[]⟩], .int .i64 (22)]) (by simp [results, Try.results14, go_sem, hl2, z0, z1, z2]) rfl ⟨?_, ?_⟩
      · rfl
      · (repeat (first | with_reducible exact Below.refl _ _ | with_reducible exact HB2.out | with_reducible refine bl_al ?_ _ | with_reducible refine Below.setCell ?_ (by first | omega | (simp; done) | (simp; omega)) _ | with_reducible refine Below.drew ?_))
end Go.Proofs.Ytbhilmgpmebaiaa
