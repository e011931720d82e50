/-
  ValueDoes: of any operation and any two values (of bulk at most 1048576 together, such as may not be, too) the result, or the error, is as the document's own answer has it; the arguments stay. Condition: the second form's bound.
-/
import Derived.Test.YtbhilmgpmebaiaaDv00
import Derived.Test.YtbhilmgpmebaiaaDv11
import Derived.Test.YtbhilmgpmebaiaaDv13
import Derived.WalkKit
import Derived.ProofKit
import Derived.OpenShut
namespace Go.Proofs.Ytbhilmgpmebaiaa
open Go.RowKit
set_option maxRecDepth 100000 in
set_option maxHeartbeats 12800000 in
theorem rdo_16 (a b : Val) (w : World) (ha : a.OK) (hb : b.OK) (hsl : a.s.length ≤ 1099511627776) : Calls Try.prog 14 #[.int .i64 16, .agg #[.int .i64 a.k, .int .i64 a.n, .string (str a.s)], .agg #[.int .i64 b.k, .int .i64 b.n, .string (str b.s)]] w fun e w' => e = .returned (.tuple #[.agg #[.int .i64 ((doR 16 (normV a) (normV a)).1).k, .int .i64 ((doR 16 (normV a) (normV a)).1).n, .string (str ((doR 16 (normV a) (normV a)).1).s)], .int .i64 (doR 16 (normV a) (normV a)).2]) ∧ Below w.heap.size w w' := by
  have HT := Lib.hid (tri_new w a b)
  have HNX := Lib.hid (fun w => rnorm_any a w)
  have HNY := Lib.hid (fun w => rnorm_any b w)
  have HA := Lib.hid (nrm_norm ha)
  have HB := Lib.hid (nrm_norm hb)
  have HL := Lib.hid (Nat.le_trans (norm_len a) hsl)
  have na := nrm_null HA.out
  have nb := nrm_null HB.out
  have h1 := fun w => rone_any 16 w
  have h2 := fun w => rtwo_any 16 w
  have h3 := fun w => rsums_any 16 w
  simp only [show decide ((16 : Int) = 4 ∨ (16 : Int) = 16 ∨ (16 : Int) = 19 ∨ (16 : Int) = 20) = true from by decide] at h1
  simp only [show decide (5 ≤ (16 : Int) ∧ (16 : Int) ≤ 15 ∨ (16 : Int) = 17 ∨ (16 : Int) = 18) = false from by decide] at h2
  simp only [show decide (4 ≤ (16 : Int) ∧ (16 : Int) ≤ 9) = false from by decide] at h3
  have H1 := Lib.hid h1
  have H2 := Lib.hid h2
  have H3 := Lib.hid h3
  clear h1 h2 h3 hsl
  rw [show doR 16 (normV a) (normV a) = notV (normV a) from rfl]
  have h3 : (normV a).k = 3 → decide (normV a = truV false) = decide ((normV a).n = 0) := fun h => by
    obtain ⟨_, h⟩ | ⟨h1, _⟩ | ⟨h1, _⟩ | ⟨_, h1, h2⟩ := HA.out.2
    · omega
    · omega
    · omega
    · apply decide_eq_decide.2
      constructor
      · intro e; rw [e]; rfl
      · intro e
        generalize normV a = A at *
        obtain ⟨k, n, s⟩ := A
        simp only at h h2 e
        subst h h2 e
        rfl
  by_cases A0 : (normV a).k = 0
  · have p1 : ((normV a).k == 0) = true := beq_iff_eq.2 A0
    have hA := na.1 A0
    rw [notV, show okK 3 (normV a).k = true from decide_eq_true (.inr A0), if_neg (by decide), if_pos hA]
    have HE := Lib.hid hA
    clear na nb A0 hA h3 ha hb
    go_enter Try.func14, Try.ntmps14
    go_wp2_with (first
      | (go_at_call 26; refine (HNX.out _).mono ?_; rintro e w1 ⟨rfl, hb1⟩; have hp1 := HT.out.below hb1; obtain ⟨f0, f1, f2⟩ := bx_free hp1.1.1; obtain ⟨c0, c1, c2⟩ := bx_cells hp1.1.2.1; obtain ⟨a0, a1, a2⟩ := bx_cells hp1.1.1; have HT2 := Lib.hid (hp1.set1 (normV a)); clear hb1 hp1 HNX)
      | (go_at_call 26; refine (HNY.out _).mono ?_; rintro e w2 ⟨rfl, hb2⟩; have hp2 := HT2.out.below hb2; obtain ⟨g0, g1, g2⟩ := bx_free hp2.1.2.1; obtain ⟨d0, d1, d2⟩ := bx_cells hp2.1.1; obtain ⟨b0, b1, b2⟩ := bx_cells hp2.1.2.1; have HT3 := Lib.hid (hp2.set2 (normV b)); obtain ⟨hw2, zk, zn, zs, hz⟩ := hp2; obtain ⟨z0, z1, z2⟩ := bx_cells hz; obtain ⟨y0, y1, y2⟩ := bx_free hz; have hl2 := bx_lt hz; have hl1 : w.heap.size + 1 < w2.heap.size := (by omega); have hl0 : w.heap.size < w2.heap.size := (by omega); have HZ := Lib.hid hz; have HB2 := Lib.hid hw2.2.2; clear hb2 hz hw2 HT2)
      | (go_at_call 39; refine (H1.out _).mono ?_; rintro e w' ⟨rfl, rfl⟩)
      | (go_at_call 41; refine (H2.out _).mono ?_; rintro e w' ⟨rfl, rfl⟩)
      | (go_at_call 43; refine (H3.out _).mono ?_; rintro e w' ⟨rfl, rfl⟩)
      | (go_at_call 40; refine (rnumber_any _ _).mono ?_; rintro e w' ⟨rfl, rfl⟩))
    refine bodyPost_ret (v := .tuple #[.agg #[.int .i64 (normV a).k, .int .i64 (normV a).n, .string (str (normV a).s)], .int .i64 (0)]) (by simp [results, Try.results14, go_sem, hl0, hl1, hl2, z0, z1, z2]) rfl ⟨?_, ?_⟩
    · rw [HE.out]
    · (repeat (first | with_reducible exact Below.refl _ _ | with_reducible exact HB2.out | with_reducible refine bl_al ?_ _ | with_reducible refine Below.setCell ?_ (by first | omega | (simp; done) | (simp; omega)) _ | with_reducible refine Below.drew ?_))
  have p1 : ((normV a).k == 0) = false := beq_false_of_ne A0
  have nA : ¬ normV a = nulV := fun h => A0 (na.2 h)
  by_cases A3 : (normV a).k = 3
  · have p2 : ((normV a).k != 3) = false := by simp [A3]
    rw [notV, show okK 3 (normV a).k = true from decide_eq_true (.inl A3), if_neg (by decide), if_neg nA, h3 A3]
    by_cases hn : (normV a).n = 0
    · rw [decide_eq_true hn]
      have p3 : ((normV a).n == 0) = true := beq_iff_eq.2 hn
      clear na nb A0 A3 nA h3 hn ha hb
      go_enter Try.func14, Try.ntmps14
      go_wp2_with (first
        | (go_at_call 26; refine (HNX.out _).mono ?_; rintro e w1 ⟨rfl, hb1⟩; have hp1 := HT.out.below hb1; obtain ⟨f0, f1, f2⟩ := bx_free hp1.1.1; obtain ⟨c0, c1, c2⟩ := bx_cells hp1.1.2.1; obtain ⟨a0, a1, a2⟩ := bx_cells hp1.1.1; have HT2 := Lib.hid (hp1.set1 (normV a)); clear hb1 hp1 HNX)
        | (go_at_call 26; refine (HNY.out _).mono ?_; rintro e w2 ⟨rfl, hb2⟩; have hp2 := HT2.out.below hb2; obtain ⟨g0, g1, g2⟩ := bx_free hp2.1.2.1; obtain ⟨d0, d1, d2⟩ := bx_cells hp2.1.1; obtain ⟨b0, b1, b2⟩ := bx_cells hp2.1.2.1; have HT3 := Lib.hid (hp2.set2 (normV b)); obtain ⟨hw2, zk, zn, zs, hz⟩ := hp2; obtain ⟨z0, z1, z2⟩ := bx_cells hz; obtain ⟨y0, y1, y2⟩ := bx_free hz; have hl2 := bx_lt hz; have hl1 : w.heap.size + 1 < w2.heap.size := (by omega); have hl0 : w.heap.size < w2.heap.size := (by omega); have HZ := Lib.hid hz; have HB2 := Lib.hid hw2.2.2; clear hb2 hz hw2 HT2)
        | (go_at_call 39; refine (H1.out _).mono ?_; rintro e w' ⟨rfl, rfl⟩)
        | (go_at_call 41; refine (H2.out _).mono ?_; rintro e w' ⟨rfl, rfl⟩)
        | (go_at_call 43; refine (H3.out _).mono ?_; rintro e w' ⟨rfl, rfl⟩)
        | (go_at_call 40; refine (rnumber_any _ _).mono ?_; rintro e w' ⟨rfl, rfl⟩)
        | (go_at_call 27; refine (rtruth_any _ _).mono ?_; rintro e w' ⟨rfl, rfl⟩))
      refine bodyPost_ret (v := .tuple #[.agg #[.int .i64 3, .int .i64 1, .string ⟨#[]⟩], .int .i64 (0)]) (by simp [results, Try.results14, go_sem, hl0, hl1, hl2, z0, z1, z2]) rfl ⟨?_, ?_⟩
      · rfl
      · (repeat (first | with_reducible exact Below.refl _ _ | with_reducible exact HB2.out | with_reducible refine bl_al ?_ _ | with_reducible refine Below.setCell ?_ (by first | omega | (simp; done) | (simp; omega)) _ | with_reducible refine Below.drew ?_))
    · rw [decide_eq_false hn]
      have p3 : ((normV a).n == 0) = false := beq_false_of_ne hn
      clear na nb A0 A3 nA h3 hn ha hb
      go_enter Try.func14, Try.ntmps14
      go_wp2_with (first
        | (go_at_call 26; refine (HNX.out _).mono ?_; rintro e w1 ⟨rfl, hb1⟩; have hp1 := HT.out.below hb1; obtain ⟨f0, f1, f2⟩ := bx_free hp1.1.1; obtain ⟨c0, c1, c2⟩ := bx_cells hp1.1.2.1; obtain ⟨a0, a1, a2⟩ := bx_cells hp1.1.1; have HT2 := Lib.hid (hp1.set1 (normV a)); clear hb1 hp1 HNX)
        | (go_at_call 26; refine (HNY.out _).mono ?_; rintro e w2 ⟨rfl, hb2⟩; have hp2 := HT2.out.below hb2; obtain ⟨g0, g1, g2⟩ := bx_free hp2.1.2.1; obtain ⟨d0, d1, d2⟩ := bx_cells hp2.1.1; obtain ⟨b0, b1, b2⟩ := bx_cells hp2.1.2.1; have HT3 := Lib.hid (hp2.set2 (normV b)); obtain ⟨hw2, zk, zn, zs, hz⟩ := hp2; obtain ⟨z0, z1, z2⟩ := bx_cells hz; obtain ⟨y0, y1, y2⟩ := bx_free hz; have hl2 := bx_lt hz; have hl1 : w.heap.size + 1 < w2.heap.size := (by omega); have hl0 : w.heap.size < w2.heap.size := (by omega); have HZ := Lib.hid hz; have HB2 := Lib.hid hw2.2.2; clear hb2 hz hw2 HT2)
        | (go_at_call 39; refine (H1.out _).mono ?_; rintro e w' ⟨rfl, rfl⟩)
        | (go_at_call 41; refine (H2.out _).mono ?_; rintro e w' ⟨rfl, rfl⟩)
        | (go_at_call 43; refine (H3.out _).mono ?_; rintro e w' ⟨rfl, rfl⟩)
        | (go_at_call 40; refine (rnumber_any _ _).mono ?_; rintro e w' ⟨rfl, rfl⟩)
        | (go_at_call 27; refine (rtruth_any _ _).mono ?_; rintro e w' ⟨rfl, rfl⟩))
      refine bodyPost_ret (v := .tuple #[.agg #[.int .i64 3, .int .i64 0, .string ⟨#[]⟩], .int .i64 (0)]) (by simp [results, Try.results14, go_sem, hl0, hl1, hl2, z0, z1, z2]) rfl ⟨?_, ?_⟩
      · rfl
      · (repeat (first | with_reducible exact Below.refl _ _ | with_reducible exact HB2.out | with_reducible refine bl_al ?_ _ | with_reducible refine Below.setCell ?_ (by first | omega | (simp; done) | (simp; omega)) _ | with_reducible refine Below.drew ?_))
  · have p2 : ((normV a).k != 3) = true := bne_iff_ne.2 A3
    rw [notV, okK_f A3 A0, if_pos rfl]
    clear na nb A0 A3 nA h3 ha hb
    go_enter Try.func14, Try.ntmps14
    go_wp2_with (first
      | (go_at_call 26; refine (HNX.out _).mono ?_; rintro e w1 ⟨rfl, hb1⟩; have hp1 := HT.out.below hb1; obtain ⟨f0, f1, f2⟩ := bx_free hp1.1.1; obtain ⟨c0, c1, c2⟩ := bx_cells hp1.1.2.1; obtain ⟨a0, a1, a2⟩ := bx_cells hp1.1.1; have HT2 := Lib.hid (hp1.set1 (normV a)); clear hb1 hp1 HNX)
      | (go_at_call 26; refine (HNY.out _).mono ?_; rintro e w2 ⟨rfl, hb2⟩; have hp2 := HT2.out.below hb2; obtain ⟨g0, g1, g2⟩ := bx_free hp2.1.2.1; obtain ⟨d0, d1, d2⟩ := bx_cells hp2.1.1; obtain ⟨b0, b1, b2⟩ := bx_cells hp2.1.2.1; have HT3 := Lib.hid (hp2.set2 (normV b)); obtain ⟨hw2, zk, zn, zs, hz⟩ := hp2; obtain ⟨z0, z1, z2⟩ := bx_cells hz; obtain ⟨y0, y1, y2⟩ := bx_free hz; have hl2 := bx_lt hz; have hl1 : w.heap.size + 1 < w2.heap.size := (by omega); have hl0 : w.heap.size < w2.heap.size := (by omega); have HZ := Lib.hid hz; have HB2 := Lib.hid hw2.2.2; clear hb2 hz hw2 HT2)
      | (go_at_call 39; refine (H1.out _).mono ?_; rintro e w' ⟨rfl, rfl⟩)
      | (go_at_call 41; refine (H2.out _).mono ?_; rintro e w' ⟨rfl, rfl⟩)
      | (go_at_call 43; refine (H3.out _).mono ?_; rintro e w' ⟨rfl, rfl⟩)
      | (go_at_call 40; refine (rnumber_any _ _).mono ?_; rintro e w' ⟨rfl, rfl⟩))
    refine bodyPost_ret (v := .tuple #[.agg #[.int .i64 0, .int .i64 0, .string ⟨#[]⟩], .int .i64 (22)]) (by simp [results, Try.results14, go_sem, hl0, hl1, hl2, z0, z1, z2]) rfl ⟨?_, ?_⟩
    · rfl
    · (repeat (first | with_reducible exact Below.refl _ _ | with_reducible exact HB2.out | with_reducible refine bl_al ?_ _ | with_reducible refine Below.setCell ?_ (by first | omega | (simp; done) | (simp; omega)) _ | with_reducible refine Below.drew ?_))
set_option maxRecDepth 100000 in
set_option maxHeartbeats 12800000 in
theorem rdo_19 (a b : Val) (w : World) (ha : a.OK) (hb : b.OK) (hsl : a.s.length ≤ 1099511627776) : Calls Try.prog 14 #[.int .i64 19, .agg #[.int .i64 a.k, .int .i64 a.n, .string (str a.s)], .agg #[.int .i64 b.k, .int .i64 b.n, .string (str b.s)]] w fun e w' => e = .returned (.tuple #[.agg #[.int .i64 ((doR 19 (normV a) (normV a)).1).k, .int .i64 ((doR 19 (normV a) (normV a)).1).n, .string (str ((doR 19 (normV a) (normV a)).1).s)], .int .i64 (doR 19 (normV a) (normV a)).2]) ∧ Below w.heap.size w w' := by
  have HT := Lib.hid (tri_new w a b)
  have HNX := Lib.hid (fun w => rnorm_any a w)
  have HNY := Lib.hid (fun w => rnorm_any b w)
  have HA := Lib.hid (nrm_norm ha)
  have HB := Lib.hid (nrm_norm hb)
  have HL := Lib.hid (Nat.le_trans (norm_len a) hsl)
  have na := nrm_null HA.out
  have nb := nrm_null HB.out
  have h1 := fun w => rone_any 19 w
  have h2 := fun w => rtwo_any 19 w
  have h3 := fun w => rsums_any 19 w
  simp only [show decide ((19 : Int) = 4 ∨ (19 : Int) = 16 ∨ (19 : Int) = 19 ∨ (19 : Int) = 20) = true from by decide] at h1
  simp only [show decide (5 ≤ (19 : Int) ∧ (19 : Int) ≤ 15 ∨ (19 : Int) = 17 ∨ (19 : Int) = 18) = false from by decide] at h2
  simp only [show decide (4 ≤ (19 : Int) ∧ (19 : Int) ≤ 9) = false from by decide] at h3
  have H1 := Lib.hid h1
  have H2 := Lib.hid h2
  have H3 := Lib.hid h3
  clear h1 h2 h3 hsl
  rw [show doR 19 (normV a) (normV a) = testV (normV a) true from rfl, testV]
  by_cases A0 : (normV a).k = 0
  · have p1 : ((normV a).k == 0) = true := beq_iff_eq.2 A0
    rw [decide_eq_true (na.1 A0)]
    clear na nb A0 ha hb
    go_enter Try.func14, Try.ntmps14
    go_wp2_with (first
      | (go_at_call 26; refine (HNX.out _).mono ?_; rintro e w1 ⟨rfl, hb1⟩; have hp1 := HT.out.below hb1; obtain ⟨f0, f1, f2⟩ := bx_free hp1.1.1; obtain ⟨c0, c1, c2⟩ := bx_cells hp1.1.2.1; obtain ⟨a0, a1, a2⟩ := bx_cells hp1.1.1; have HT2 := Lib.hid (hp1.set1 (normV a)); clear hb1 hp1 HNX)
      | (go_at_call 26; refine (HNY.out _).mono ?_; rintro e w2 ⟨rfl, hb2⟩; have hp2 := HT2.out.below hb2; obtain ⟨g0, g1, g2⟩ := bx_free hp2.1.2.1; obtain ⟨d0, d1, d2⟩ := bx_cells hp2.1.1; obtain ⟨b0, b1, b2⟩ := bx_cells hp2.1.2.1; have HT3 := Lib.hid (hp2.set2 (normV b)); obtain ⟨hw2, zk, zn, zs, hz⟩ := hp2; obtain ⟨z0, z1, z2⟩ := bx_cells hz; obtain ⟨y0, y1, y2⟩ := bx_free hz; have hl2 := bx_lt hz; have hl1 : w.heap.size + 1 < w2.heap.size := (by omega); have hl0 : w.heap.size < w2.heap.size := (by omega); have HZ := Lib.hid hz; have HB2 := Lib.hid hw2.2.2; clear hb2 hz hw2 HT2)
      | (go_at_call 39; refine (H1.out _).mono ?_; rintro e w' ⟨rfl, rfl⟩)
      | (go_at_call 41; refine (H2.out _).mono ?_; rintro e w' ⟨rfl, rfl⟩)
      | (go_at_call 43; refine (H3.out _).mono ?_; rintro e w' ⟨rfl, rfl⟩)
      | (go_at_call 40; refine (rnumber_any _ _).mono ?_; rintro e w' ⟨rfl, rfl⟩)
      | (go_at_call 27; refine (rtruth_any _ _).mono ?_; rintro e w' ⟨rfl, rfl⟩))
    refine bodyPost_ret (v := .tuple #[.agg #[.int .i64 3, .int .i64 1, .string ⟨#[]⟩], .int .i64 (0)]) (by simp [results, Try.results14, go_sem, hl0, hl1, hl2, z0, z1, z2]) rfl ⟨?_, ?_⟩
    · rfl
    · (repeat (first | with_reducible exact Below.refl _ _ | with_reducible exact HB2.out | with_reducible refine bl_al ?_ _ | with_reducible refine Below.setCell ?_ (by first | omega | (simp; done) | (simp; omega)) _ | with_reducible refine Below.drew ?_))
  · have p1 : ((normV a).k == 0) = false := beq_false_of_ne A0
    rw [decide_eq_false (fun h => A0 (na.2 h))]
    clear na nb A0 ha hb
    go_enter Try.func14, Try.ntmps14
    go_wp2_with (first
      | (go_at_call 26; refine (HNX.out _).mono ?_; rintro e w1 ⟨rfl, hb1⟩; have hp1 := HT.out.below hb1; obtain ⟨f0, f1, f2⟩ := bx_free hp1.1.1; obtain ⟨c0, c1, c2⟩ := bx_cells hp1.1.2.1; obtain ⟨a0, a1, a2⟩ := bx_cells hp1.1.1; have HT2 := Lib.hid (hp1.set1 (normV a)); clear hb1 hp1 HNX)
      | (go_at_call 26; refine (HNY.out _).mono ?_; rintro e w2 ⟨rfl, hb2⟩; have hp2 := HT2.out.below hb2; obtain ⟨g0, g1, g2⟩ := bx_free hp2.1.2.1; obtain ⟨d0, d1, d2⟩ := bx_cells hp2.1.1; obtain ⟨b0, b1, b2⟩ := bx_cells hp2.1.2.1; have HT3 := Lib.hid (hp2.set2 (normV b)); obtain ⟨hw2, zk, zn, zs, hz⟩ := hp2; obtain ⟨z0, z1, z2⟩ := bx_cells hz; obtain ⟨y0, y1, y2⟩ := bx_free hz; have hl2 := bx_lt hz; have hl1 : w.heap.size + 1 < w2.heap.size := (by omega); have hl0 : w.heap.size < w2.heap.size := (by omega); have HZ := Lib.hid hz; have HB2 := Lib.hid hw2.2.2; clear hb2 hz hw2 HT2)
      | (go_at_call 39; refine (H1.out _).mono ?_; rintro e w' ⟨rfl, rfl⟩)
      | (go_at_call 41; refine (H2.out _).mono ?_; rintro e w' ⟨rfl, rfl⟩)
      | (go_at_call 43; refine (H3.out _).mono ?_; rintro e w' ⟨rfl, rfl⟩)
      | (go_at_call 40; refine (rnumber_any _ _).mono ?_; rintro e w' ⟨rfl, rfl⟩)
      | (go_at_call 27; refine (rtruth_any _ _).mono ?_; rintro e w' ⟨rfl, rfl⟩))
    refine bodyPost_ret (v := .tuple #[.agg #[.int .i64 3, .int .i64 0, .string ⟨#[]⟩], .int .i64 (0)]) (by simp [results, Try.results14, go_sem, hl0, hl1, hl2, z0, z1, z2]) rfl ⟨?_, ?_⟩
    · rfl
    · (repeat (first | with_reducible exact Below.refl _ _ | with_reducible exact HB2.out | with_reducible refine bl_al ?_ _ | with_reducible refine Below.setCell ?_ (by first | omega | (simp; done) | (simp; omega)) _ | with_reducible refine Below.drew ?_))
set_option maxRecDepth 100000 in
set_option maxHeartbeats 12800000 in
theorem rdo_20 (a b : Val) (w : World) (ha : a.OK) (hb : b.OK) (hsl : a.s.length ≤ 1099511627776) : Calls Try.prog 14 #[.int .i64 20, .agg #[.int .i64 a.k, .int .i64 a.n, .string (str a.s)], .agg #[.int .i64 b.k, .int .i64 b.n, .string (str b.s)]] w fun e w' => e = .returned (.tuple #[.agg #[.int .i64 ((doR 20 (normV a) (normV a)).1).k, .int .i64 ((doR 20 (normV a) (normV a)).1).n, .string (str ((doR 20 (normV a) (normV a)).1).s)], .int .i64 (doR 20 (normV a) (normV a)).2]) ∧ Below w.heap.size w w' := by
  have HT := Lib.hid (tri_new w a b)
  have HNX := Lib.hid (fun w => rnorm_any a w)
  have HNY := Lib.hid (fun w => rnorm_any b w)
  have HA := Lib.hid (nrm_norm ha)
  have HB := Lib.hid (nrm_norm hb)
  have HL := Lib.hid (Nat.le_trans (norm_len a) hsl)
  have na := nrm_null HA.out
  have nb := nrm_null HB.out
  have h1 := fun w => rone_any 20 w
  have h2 := fun w => rtwo_any 20 w
  have h3 := fun w => rsums_any 20 w
  simp only [show decide ((20 : Int) = 4 ∨ (20 : Int) = 16 ∨ (20 : Int) = 19 ∨ (20 : Int) = 20) = true from by decide] at h1
  simp only [show decide (5 ≤ (20 : Int) ∧ (20 : Int) ≤ 15 ∨ (20 : Int) = 17 ∨ (20 : Int) = 18) = false from by decide] at h2
  simp only [show decide (4 ≤ (20 : Int) ∧ (20 : Int) ≤ 9) = false from by decide] at h3
  have H1 := Lib.hid h1
  have H2 := Lib.hid h2
  have H3 := Lib.hid h3
  clear h1 h2 h3 hsl
  rw [show doR 20 (normV a) (normV a) = testV (normV a) false from rfl, testV]
  by_cases A0 : (normV a).k = 0
  · have p1 : ((normV a).k == 0) = true := beq_iff_eq.2 A0
    rw [decide_eq_true (na.1 A0)]
    clear na nb A0 ha hb
    go_enter Try.func14, Try.ntmps14
    go_wp2_with (first
      | (go_at_call 26; refine (HNX.out _).mono ?_; rintro e w1 ⟨rfl, hb1⟩; have hp1 := HT.out.below hb1; obtain ⟨f0, f1, f2⟩ := bx_free hp1.1.1; obtain ⟨c0, c1, c2⟩ := bx_cells hp1.1.2.1; obtain ⟨a0, a1, a2⟩ := bx_cells hp1.1.1; have HT2 := Lib.hid (hp1.set1 (normV a)); clear hb1 hp1 HNX)
      | (go_at_call 26; refine (HNY.out _).mono ?_; rintro e w2 ⟨rfl, hb2⟩; have hp2 := HT2.out.below hb2; obtain ⟨g0, g1, g2⟩ := bx_free hp2.1.2.1; obtain ⟨d0, d1, d2⟩ := bx_cells hp2.1.1; obtain ⟨b0, b1, b2⟩ := bx_cells hp2.1.2.1; have HT3 := Lib.hid (hp2.set2 (normV b)); obtain ⟨hw2, zk, zn, zs, hz⟩ := hp2; obtain ⟨z0, z1, z2⟩ := bx_cells hz; obtain ⟨y0, y1, y2⟩ := bx_free hz; have hl2 := bx_lt hz; have hl1 : w.heap.size + 1 < w2.heap.size := (by omega); have hl0 : w.heap.size < w2.heap.size := (by omega); have HZ := Lib.hid hz; have HB2 := Lib.hid hw2.2.2; clear hb2 hz hw2 HT2)
      | (go_at_call 39; refine (H1.out _).mono ?_; rintro e w' ⟨rfl, rfl⟩)
      | (go_at_call 41; refine (H2.out _).mono ?_; rintro e w' ⟨rfl, rfl⟩)
      | (go_at_call 43; refine (H3.out _).mono ?_; rintro e w' ⟨rfl, rfl⟩)
      | (go_at_call 40; refine (rnumber_any _ _).mono ?_; rintro e w' ⟨rfl, rfl⟩)
      | (go_at_call 27; refine (rtruth_any _ _).mono ?_; rintro e w' ⟨rfl, rfl⟩))
    refine bodyPost_ret (v := .tuple #[.agg #[.int .i64 3, .int .i64 0, .string ⟨#[]⟩], .int .i64 (0)]) (by simp [results, Try.results14, go_sem, hl0, hl1, hl2, z0, z1, z2]) rfl ⟨?_, ?_⟩
    · rfl
    · (repeat (first | with_reducible exact Below.refl _ _ | with_reducible exact HB2.out | with_reducible refine bl_al ?_ _ | with_reducible refine Below.setCell ?_ (by first | omega | (simp; done) | (simp; omega)) _ | with_reducible refine Below.drew ?_))
  · have p1 : ((normV a).k == 0) = false := beq_false_of_ne A0
    rw [decide_eq_false (fun h => A0 (na.2 h))]
    clear na nb A0 ha hb
    go_enter Try.func14, Try.ntmps14
    go_wp2_with (first
      | (go_at_call 26; refine (HNX.out _).mono ?_; rintro e w1 ⟨rfl, hb1⟩; have hp1 := HT.out.below hb1; obtain ⟨f0, f1, f2⟩ := bx_free hp1.1.1; obtain ⟨c0, c1, c2⟩ := bx_cells hp1.1.2.1; obtain ⟨a0, a1, a2⟩ := bx_cells hp1.1.1; have HT2 := Lib.hid (hp1.set1 (normV a)); clear hb1 hp1 HNX)
      | (go_at_call 26; refine (HNY.out _).mono ?_; rintro e w2 ⟨rfl, hb2⟩; have hp2 := HT2.out.below hb2; obtain ⟨g0, g1, g2⟩ := bx_free hp2.1.2.1; obtain ⟨d0, d1, d2⟩ := bx_cells hp2.1.1; obtain ⟨b0, b1, b2⟩ := bx_cells hp2.1.2.1; have HT3 := Lib.hid (hp2.set2 (normV b)); obtain ⟨hw2, zk, zn, zs, hz⟩ := hp2; obtain ⟨z0, z1, z2⟩ := bx_cells hz; obtain ⟨y0, y1, y2⟩ := bx_free hz; have hl2 := bx_lt hz; have hl1 : w.heap.size + 1 < w2.heap.size := (by omega); have hl0 : w.heap.size < w2.heap.size := (by omega); have HZ := Lib.hid hz; have HB2 := Lib.hid hw2.2.2; clear hb2 hz hw2 HT2)
      | (go_at_call 39; refine (H1.out _).mono ?_; rintro e w' ⟨rfl, rfl⟩)
      | (go_at_call 41; refine (H2.out _).mono ?_; rintro e w' ⟨rfl, rfl⟩)
      | (go_at_call 43; refine (H3.out _).mono ?_; rintro e w' ⟨rfl, rfl⟩)
      | (go_at_call 40; refine (rnumber_any _ _).mono ?_; rintro e w' ⟨rfl, rfl⟩)
      | (go_at_call 27; refine (rtruth_any _ _).mono ?_; rintro e w' ⟨rfl, rfl⟩))
    refine bodyPost_ret (v := .tuple #[.agg #[.int .i64 3, .int .i64 1, .string ⟨#[]⟩], .int .i64 (0)]) (by simp [results, Try.results14, go_sem, hl0, hl1, hl2, z0, z1, z2]) rfl ⟨?_, ?_⟩
    · rfl
    · (repeat (first | with_reducible exact Below.refl _ _ | with_reducible exact HB2.out | with_reducible refine bl_al ?_ _ | with_reducible refine Below.setCell ?_ (by first | omega | (simp; done) | (simp; omega)) _ | with_reducible refine Below.drew ?_))
end Go.Proofs.Ytbhilmgpmebaiaa
namespace Go.Proofs.Ytbhilmgpmebaiaa
open Go.RowKit
set_option maxRecDepth 100000 in
set_option maxHeartbeats 12800000 in
theorem rdo_17 (a b : Val) (w : World) (ha : a.OK) (hb : b.OK) (hsl : a.s.length ≤ 1099511627776) : Calls Try.prog 14 #[.int .i64 17, .agg #[.int .i64 a.k, .int .i64 a.n, .string (str a.s)], .agg #[.int .i64 b.k, .int .i64 b.n, .string (str b.s)]] w fun e w' => e = .returned (.tuple #[.agg #[.int .i64 ((doR 17 (normV a) (normV b)).1).k, .int .i64 ((doR 17 (normV a) (normV b)).1).n, .string (str ((doR 17 (normV a) (normV b)).1).s)], .int .i64 (doR 17 (normV a) (normV b)).2]) ∧ Below w.heap.size w w' := by
  have HT := Lib.hid (tri_new w a b)
  have HNX := Lib.hid (fun w => rnorm_any a w)
  have HNY := Lib.hid (fun w => rnorm_any b w)
  have HA := Lib.hid (nrm_norm ha)
  have HB := Lib.hid (nrm_norm hb)
  have HL := Lib.hid (Nat.le_trans (norm_len a) hsl)
  have na := nrm_null HA.out
  have nb := nrm_null HB.out
  have h1 := fun w => rone_any 17 w
  have h2 := fun w => rtwo_any 17 w
  have h3 := fun w => rsums_any 17 w
  simp only [show decide ((17 : Int) = 4 ∨ (17 : Int) = 16 ∨ (17 : Int) = 19 ∨ (17 : Int) = 20) = false from by decide] at h1
  simp only [show decide (5 ≤ (17 : Int) ∧ (17 : Int) ≤ 15 ∨ (17 : Int) = 17 ∨ (17 : Int) = 18) = true from by decide] at h2
  simp only [show decide (4 ≤ (17 : Int) ∧ (17 : Int) ≤ 9) = false from by decide] at h3
  have H1 := Lib.hid h1
  have H2 := Lib.hid h2
  have H3 := Lib.hid h3
  clear h1 h2 h3 hsl
  rw [show doR 17 (normV a) (normV b) = decV false (normV a) (normV b) from rfl]
  have HC := Lib.hid (fun u => rboth_17 (normV a) (normV b) u HA.out HB.out)
  generalize decV false (normV a) (normV b) = R at *
  clear na nb ha hb
  go_enter Try.func14, Try.ntmps14
  go_wp2_with (first
    | (go_at_call 26; refine (HNX.out _).mono ?_; rintro e w1 ⟨rfl, hb1⟩; have hp1 := HT.out.below hb1; obtain ⟨f0, f1, f2⟩ := bx_free hp1.1.1; obtain ⟨c0, c1, c2⟩ := bx_cells hp1.1.2.1; obtain ⟨a0, a1, a2⟩ := bx_cells hp1.1.1; have HT2 := Lib.hid (hp1.set1 (normV a)); clear hb1 hp1 HNX)
    | (go_at_call 26; refine (HNY.out _).mono ?_; rintro e w2 ⟨rfl, hb2⟩; have hp2 := HT2.out.below hb2; obtain ⟨g0, g1, g2⟩ := bx_free hp2.1.2.1; obtain ⟨d0, d1, d2⟩ := bx_cells hp2.1.1; obtain ⟨b0, b1, b2⟩ := bx_cells hp2.1.2.1; have HT3 := Lib.hid (hp2.set2 (normV b)); obtain ⟨hw2, zk, zn, zs, hz⟩ := hp2; obtain ⟨z0, z1, z2⟩ := bx_cells hz; obtain ⟨y0, y1, y2⟩ := bx_free hz; have hl2 := bx_lt hz; have hl1 : w.heap.size + 1 < w2.heap.size := (by omega); have hl0 : w.heap.size < w2.heap.size := (by omega); have HZ := Lib.hid hz; have HB2 := Lib.hid hw2.2.2; clear hb2 hz hw2 HT2)
    | (go_at_call 39; refine (H1.out _).mono ?_; rintro e w' ⟨rfl, rfl⟩)
    | (go_at_call 41; refine (H2.out _).mono ?_; rintro e w' ⟨rfl, rfl⟩)
    | (go_at_call 43; refine (H3.out _).mono ?_; rintro e w' ⟨rfl, rfl⟩)
    | (go_at_call 42; refine (HC.out _).mono ?_; rintro e w4 ⟨rfl, hb4⟩; have hp4 := HT3.out.below hb4; obtain ⟨xk, xn, xs, hx⟩ := tri_z hp4; obtain ⟨x0, x1, x2⟩ := bx_cells hx; obtain ⟨v0, v1, v2⟩ := bx_free hx; have hl4 := bx_lt hx; have HB4 := Lib.hid (HT3.out.below hb4).1.2.2; clear hb4 hx))
  refine bodyPost_ret (v := .tuple #[.agg #[.int .i64 R.1.k, .int .i64 R.1.n, .string (str R.1.s)], .int .i64 (R.2)]) (by simp [results, Try.results14, go_sem, x0, x1, x2]) rfl ⟨?_, ?_⟩
  · rfl
  · exact set3_below R.1 HB4.out (by omega)
set_option maxRecDepth 100000 in
set_option maxHeartbeats 12800000 in
theorem rdo_18 (a b : Val) (w : World) (ha : a.OK) (hb : b.OK) (hsl : a.s.length ≤ 1099511627776) : Calls Try.prog 14 #[.int .i64 18, .agg #[.int .i64 a.k, .int .i64 a.n, .string (str a.s)], .agg #[.int .i64 b.k, .int .i64 b.n, .string (str b.s)]] w fun e w' => e = .returned (.tuple #[.agg #[.int .i64 ((doR 18 (normV a) (normV b)).1).k, .int .i64 ((doR 18 (normV a) (normV b)).1).n, .string (str ((doR 18 (normV a) (normV b)).1).s)], .int .i64 (doR 18 (normV a) (normV b)).2]) ∧ Below w.heap.size w w' := by
  have HT := Lib.hid (tri_new w a b)
  have HNX := Lib.hid (fun w => rnorm_any a w)
  have HNY := Lib.hid (fun w => rnorm_any b w)
  have HA := Lib.hid (nrm_norm ha)
  have HB := Lib.hid (nrm_norm hb)
  have HL := Lib.hid (Nat.le_trans (norm_len a) hsl)
  have na := nrm_null HA.out
  have nb := nrm_null HB.out
  have h1 := fun w => rone_any 18 w
  have h2 := fun w => rtwo_any 18 w
  have h3 := fun w => rsums_any 18 w
  simp only [show decide ((18 : Int) = 4 ∨ (18 : Int) = 16 ∨ (18 : Int) = 19 ∨ (18 : Int) = 20) = false from by decide] at h1
  simp only [show decide (5 ≤ (18 : Int) ∧ (18 : Int) ≤ 15 ∨ (18 : Int) = 17 ∨ (18 : Int) = 18) = true from by decide] at h2
  simp only [show decide (4 ≤ (18 : Int) ∧ (18 : Int) ≤ 9) = false from by decide] at h3
  have H1 := Lib.hid h1
  have H2 := Lib.hid h2
  have H3 := Lib.hid h3
  clear h1 h2 h3 hsl
  rw [show doR 18 (normV a) (normV b) = decV true (normV a) (normV b) from rfl]
  have HC := Lib.hid (fun u => rboth_18 (normV a) (normV b) u HA.out HB.out)
  generalize decV true (normV a) (normV b) = R at *
  clear na nb ha hb
  go_enter Try.func14, Try.ntmps14
  go_wp2_with (first
    | (go_at_call 26; refine (HNX.out _).mono ?_; rintro e w1 ⟨rfl, hb1⟩; have hp1 := HT.out.below hb1; obtain ⟨f0, f1, f2⟩ := bx_free hp1.1.1; obtain ⟨c0, c1, c2⟩ := bx_cells hp1.1.2.1; obtain ⟨a0, a1, a2⟩ := bx_cells hp1.1.1; have HT2 := Lib.hid (hp1.set1 (normV a)); clear hb1 hp1 HNX)
    | (go_at_call 26; refine (HNY.out _).mono ?_; rintro e w2 ⟨rfl, hb2⟩; have hp2 := HT2.out.below hb2; obtain ⟨g0, g1, g2⟩ := bx_free hp2.1.2.1; obtain ⟨d0, d1, d2⟩ := bx_cells hp2.1.1; obtain ⟨b0, b1, b2⟩ := bx_cells hp2.1.2.1; have HT3 := Lib.hid (hp2.set2 (normV b)); obtain ⟨hw2, zk, zn, zs, hz⟩ := hp2; obtain ⟨z0, z1, z2⟩ := bx_cells hz; obtain ⟨y0, y1, y2⟩ := bx_free hz; have hl2 := bx_lt hz; have hl1 : w.heap.size + 1 < w2.heap.size := (by omega); have hl0 : w.heap.size < w2.heap.size := (by omega); have HZ := Lib.hid hz; have HB2 := Lib.hid hw2.2.2; clear hb2 hz hw2 HT2)
    | (go_at_call 39; refine (H1.out _).mono ?_; rintro e w' ⟨rfl, rfl⟩)
    | (go_at_call 41; refine (H2.out _).mono ?_; rintro e w' ⟨rfl, rfl⟩)
    | (go_at_call 43; refine (H3.out _).mono ?_; rintro e w' ⟨rfl, rfl⟩)
    | (go_at_call 42; refine (HC.out _).mono ?_; rintro e w4 ⟨rfl, hb4⟩; have hp4 := HT3.out.below hb4; obtain ⟨xk, xn, xs, hx⟩ := tri_z hp4; obtain ⟨x0, x1, x2⟩ := bx_cells hx; obtain ⟨v0, v1, v2⟩ := bx_free hx; have hl4 := bx_lt hx; have HB4 := Lib.hid (HT3.out.below hb4).1.2.2; clear hb4 hx))
  refine bodyPost_ret (v := .tuple #[.agg #[.int .i64 R.1.k, .int .i64 R.1.n, .string (str R.1.s)], .int .i64 (R.2)]) (by simp [results, Try.results14, go_sem, x0, x1, x2]) rfl ⟨?_, ?_⟩
  · rfl
  · exact set3_below R.1 HB4.out (by omega)
set_option maxRecDepth 100000 in
set_option maxHeartbeats 12800000 in
theorem rdo_else (op : Int) (ho : ¬ (4 ≤ op ∧ op ≤ 20)) (a b : Val) (w : World) (ha : a.OK) (hb : b.OK) (hsl : a.s.length ≤ 1099511627776) : Calls Try.prog 14 #[.int .i64 op, .agg #[.int .i64 a.k, .int .i64 a.n, .string (str a.s)], .agg #[.int .i64 b.k, .int .i64 b.n, .string (str b.s)]] w fun e w' => e = .returned (.tuple #[.agg #[.int .i64 ((doR op (normV a) (normV b)).1).k, .int .i64 ((doR op (normV a) (normV b)).1).n, .string (str ((doR op (normV a) (normV b)).1).s)], .int .i64 (doR op (normV a) (normV b)).2]) ∧ Below w.heap.size w w' := by
  have HT := Lib.hid (tri_new w a b)
  have HNX := Lib.hid (fun w => rnorm_any a w)
  have HNY := Lib.hid (fun w => rnorm_any b w)
  have HA := Lib.hid (nrm_norm ha)
  have HB := Lib.hid (nrm_norm hb)
  have HL := Lib.hid (Nat.le_trans (norm_len a) hsl)
  have na := nrm_null HA.out
  have nb := nrm_null HB.out
  have h1 := fun w => rone_any op w
  have h2 := fun w => rtwo_any op w
  have h3 := fun w => rsums_any op w
  simp only [show decide (op = 4 ∨ op = 16 ∨ op = 19 ∨ op = 20) = false from decide_eq_false (by omega)] at h1
  simp only [show decide (5 ≤ op ∧ op ≤ 15 ∨ op = 17 ∨ op = 18) = false from decide_eq_false (by omega)] at h2
  have H1 := Lib.hid h1
  have H2 := Lib.hid h2
  have H3 := Lib.hid h3
  clear h1 h2 h3 hsl
  rw [doR_other _ _ ho]
  clear na nb ha hb ho
  go_enter Try.func14, Try.ntmps14
  go_wp2_with (first
    | (go_at_call 26; refine (HNX.out _).mono ?_; rintro e w1 ⟨rfl, hb1⟩; have hp1 := HT.out.below hb1; obtain ⟨f0, f1, f2⟩ := bx_free hp1.1.1; obtain ⟨c0, c1, c2⟩ := bx_cells hp1.1.2.1; obtain ⟨a0, a1, a2⟩ := bx_cells hp1.1.1; have HT2 := Lib.hid (hp1.set1 (normV a)); clear hb1 hp1 HNX)
    | (go_at_call 26; refine (HNY.out _).mono ?_; rintro e w2 ⟨rfl, hb2⟩; have hp2 := HT2.out.below hb2; obtain ⟨g0, g1, g2⟩ := bx_free hp2.1.2.1; obtain ⟨d0, d1, d2⟩ := bx_cells hp2.1.1; obtain ⟨b0, b1, b2⟩ := bx_cells hp2.1.2.1; have HT3 := Lib.hid (hp2.set2 (normV b)); obtain ⟨hw2, zk, zn, zs, hz⟩ := hp2; obtain ⟨z0, z1, z2⟩ := bx_cells hz; obtain ⟨y0, y1, y2⟩ := bx_free hz; have hl2 := bx_lt hz; have hl1 : w.heap.size + 1 < w2.heap.size := (by omega); have hl0 : w.heap.size < w2.heap.size := (by omega); have HZ := Lib.hid hz; have HB2 := Lib.hid hw2.2.2; clear hb2 hz hw2 HT2)
    | (go_at_call 39; refine (H1.out _).mono ?_; rintro e w' ⟨rfl, rfl⟩)
    | (go_at_call 41; refine (H2.out _).mono ?_; rintro e w' ⟨rfl, rfl⟩)
    | (go_at_call 43; refine (H3.out _).mono ?_; rintro e w' ⟨rfl, rfl⟩))
  refine bodyPost_ret (v := .tuple #[.agg #[.int .i64 0, .int .i64 0, .string ⟨#[]⟩], .int .i64 (1)]) (by simp [results, Try.results14, go_sem, hl0, hl1, hl2, z0, z1, z2]) rfl ⟨?_, ?_⟩
  · rfl
  · (repeat (first | with_reducible exact Below.refl _ _ | with_reducible exact HB2.out | with_reducible refine bl_al ?_ _ | with_reducible refine Below.setCell ?_ (by first | omega | (simp; done) | (simp; omega)) _ | with_reducible refine Below.drew ?_))
end Go.Proofs.Ytbhilmgpmebaiaa
namespace Go.Proofs.Ytbhilmgpmebaiaa
open Go.RowKit
attribute [local go_sem ↓] eql32_eq neq32_eq
theorem doR_s (op : Int) (A B : Val) : (doR op A B).1.s = [] := by
  simp only [doR, ofR, ofK, notV, decV, testV]
  repeat' split
  all_goals rfl
/-- the document's Do, whatever the operation -/
theorem rdo_any (op : Int) (a b : Val) (w : World) (ha : a.OK) (hb : b.OK) (hsl : a.s.length ≤ 1099511627776) : Calls Try.prog 14 #[.int .i64 op, .agg #[.int .i64 a.k, .int .i64 a.n, .string (str a.s)], .agg #[.int .i64 b.k, .int .i64 b.n, .string (str b.s)]] w fun e w' => e = .returned (.tuple #[.agg #[.int .i64 ((doR op (normV a) (if oneOf op = true then normV a else normV b)).1).k, .int .i64 ((doR op (normV a) (if oneOf op = true then normV a else normV b)).1).n, .string (str ((doR op (normV a) (if oneOf op = true then normV a else normV b)).1).s)], .int .i64 (doR op (normV a) (if oneOf op = true then normV a else normV b)).2]) ∧ Below w.heap.size w w' := by
  by_cases h4 : op = 4
  · subst h4; exact rdo_4 a b w ha hb hsl
  by_cases h16 : op = 16
  · subst h16; exact rdo_16 a b w ha hb hsl
  by_cases h19 : op = 19
  · subst h19; exact rdo_19 a b w ha hb hsl
  by_cases h20 : op = 20
  · subst h20; exact rdo_20 a b w ha hb hsl
  by_cases ho : 4 ≤ op ∧ op ≤ 20
  · have h1 : oneOf op = false := decide_eq_false (by omega)
    rw [h1]
    by_cases hc : 5 ≤ op ∧ op ≤ 9
    · exact rdo_calc op hc a b w ha hb hsl
    by_cases hd : 10 ≤ op ∧ op ≤ 15
    · exact rdo_comp op hd a b w ha hb hsl
    have h2 : op = 17 ∨ op = 18 := by omega
    rcases h2 with rfl | rfl
    · exact rdo_17 a b w ha hb hsl
    · exact rdo_18 a b w ha hb hsl
  · have h := rdo_else op ho a b w ha hb hsl
    rw [doR_other _ _ ho] at h ⊢
    exact h
set_option maxRecDepth 100000 in
set_option maxHeartbeats 6400000 in
theorem does_walk (op : Int) (a b : Val) (w : World) (ha : a.OK) (hb : b.OK) (hsl : a.s.length ≤ 1099511627776) : Calls Try.prog 3 #[.int .i64 op, .agg #[.int .i64 a.k, .int .i64 a.n, .string (str a.s)], .agg #[.int .i64 b.k, .int .i64 b.n, .string (str b.s)]] w fun e w' => e = .returned (.bool true) ∧ Below w.heap.size w w' := by
  have HT := Lib.hid (two_new w a b)
  have hd := fun u => do_any op a b u ha hb
  have hr := fun u => rdo_any op a b u ha hb hsl
  have hs := doR_s op (normV a) (if oneOf op = true then normV a else normV b)
  generalize doR op (normV a) (if oneOf op = true then normV a else normV b) = d at *
  obtain ⟨⟨k, n, s⟩, f⟩ := d
  dsimp only at hd hr hs
  subst hs
  have he := fun (u : World) => run_eql32 u ⟨k, n, []⟩ ⟨k, n, []⟩ (fun x hx => by simp at hx) (fun x hx => by simp at hx)
  simp only [show str [] = ⟨#[]⟩ from rfl, decide_true] at he hd hr
  have HD := Lib.hid hd
  have HR := Lib.hid hr
  clear hd hr ha hb hsl
  go_enter Try.func3, Try.ntmps3
  go_wp2_with (first
    | (go_at_call 12; refine (awake_any _).mono ?_; rintro e w2 ⟨rfl, hb2⟩; have hT2 : Two w w2 a b := HT.out.below hb2; obtain ⟨a0, a1, a2⟩ := bx_cells hT2.1; obtain ⟨b0, b1, b2⟩ := bx_cells hT2.2.1; have HT2 := Lib.hid hT2; clear hb2 hT2)
    | (go_at_call 13; (with_reducible refine (HD.out _).mono ?_); rintro e w3 ⟨rfl, hb3⟩; have hT3 : Two w w3 a b := HT2.out.below hb3; have hT4 : Two w (w3.alloc (BX k n ⟨#[]⟩)) a b := hT3.al _; obtain ⟨c0, c1, c2⟩ := bx_cells hT4.1; obtain ⟨d0, d1, d2⟩ := bx_cells hT4.2.1; have HT4 := Lib.hid hT4; clear hb3 HD hT3 hT4)
    | (go_at_call 14; (with_reducible refine (HR.out _).mono ?_); rintro e w5 ⟨rfl, hb5⟩; have hT5 : Two w w5 a b := HT4.out.below hb5; have hx := kp (heap_alloc_new w3 (BX k n ⟨#[]⟩)) hb5; obtain ⟨x0, x1, x2⟩ := bx_cells (hp_al hx (BX k n ⟨#[]⟩)); have HT6 := Lib.hid (hT5.al (BX k n ⟨#[]⟩)); clear hb5 HR hT5 hx))
  go_ret
  exact ⟨rfl, HT6.out.2.2⟩
end Go.Proofs.Ytbhilmgpmebaiaa
namespace Go.Proofs.Ytbhilmgpmebaiaa
open Go.ChangeShapes Go.WideShapes Go.ChangeAt Go.RowKit Go.Deep
namespace plainValueDoes
set_option maxRecDepth 100000 in
theorem contract (H : Type) (enc : TypeId × Value → H) (W : World) (base : Nat) (args : Array Value) (ds gs : List (DataW H)) (before : List MemPlace)
    (hval : ∀ (j : Nat) t v, Try.f3.params[j]? = some t → args[j]? = some v → Value.okWide Try.prog W .any base t v)
    (hW : DataW.Whole enc Try.prog Try.f3.params.toList Rows.valueDoesSpec.vars false W args.toList ds gs before) (hk : Rows.uptoSmall H (ds ++ gs) = true) :
    Calls Try.prog 3 args W fun e W' => ∃ v, e = .returned v ∧ Rows.valueDoesSpec.post enc Try.prog Try.f3 false true false false W args v W' := by
  have hW' := hW
  obtain ⟨p, q, hA0, hV, rfl, hfz, hnd⟩ := hW
  have hA : DataW.TrodAll enc Try.prog W 0 (fun _ => true) true Try.f3.params.toList args.toList ds p := hA0
  rw [Try.params3] at hA hval
  obtain ⟨v0, vs0, d0, ds0, p0, q0, hargs, rfl, rfl, h0, r0⟩ := trodAll_cons hA
  obtain ⟨v1, vs1, d1, ds1, p1, q1, rfl, rfl, rfl, h1, r1⟩ := trodAll_cons r0
  obtain ⟨v2, vs2, d2, ds2, p2, q2, rfl, rfl, rfl, h2, r2⟩ := trodAll_cons r1
  obtain ⟨rfl, rfl, rfl⟩ := trodAll_nil r2
  obtain rfl : args = #[v0, v1, v2] := by cases args; simp_all
  obtain ⟨rfl, rfl⟩ := trodVars_none hV
  have hbulk : Rows.uptoBulkAll ([d0, d1, d2] ++ []) ≤ 1048576 := of_decide_eq_true hk
  simp only [List.append_nil, Rows.uptoBulkAll] at hbulk
  obtain ⟨a0, rfl, rfl, rfl, g0⟩ := open_int Try.underlying3 (hval 0 3 v0 rfl rfl) h0
  replace g0 := i64_of_wf g0
  obtain ⟨a1, rfl, b1, g1⟩ := val_of_trod (hval 1 23 v1 rfl rfl) h1
  obtain ⟨a2, rfl, b2, g2⟩ := val_of_trod (hval 2 23 v2 rfl rfl) h2
  refine (does_walk a0 a1 a2 W b1 b2 (by omega)).mono fun e W' ⟨he, hb⟩ => ⟨_, he, ?_⟩
  exact law_post (T := 4) laidOut (by rw [Try.params3]; decide +kernel) rfl rfl Try.underlying4 (fun gs h => by subst h; rfl) hW' hb
set_option maxRecDepth 100000 in
theorem lifted (os : Os) (started : os.Started) (H : Type) (enc : TypeId × Value → H) (F : Stop.Interp) :
    ReturnsInHanded {} Try.checked os 3 .any ((Rows.OpenSpec.upto Rows.valueDoesSpec).pre6 enc Try.prog Try.f3 Rows.valueDoesUptoRow.domain false) (((Rows.OpenSpec.upto Rows.valueDoesSpec).at F).post enc Try.prog Try.f3 false true false false) := by
  refine returnsInHanded_of_cond (C := Try.checked) (s := Rows.OpenSpec.upto Rows.valueDoesSpec) (k := Rows.uptoSmall) rfl own started (by kernel_rfl) Try.func3
    (OpenSpec.witness (enc := enc) (C := Try.checked) (s := Rows.OpenSpec.upto Rows.valueDoesSpec) (k := Rows.uptoSmall) rfl false ⟨#[], #[.int .i64 0, .agg #[.int .i64 0, .int .i64 0, .string ⟨#[]⟩], .agg #[.int .i64 0, .int .i64 0, .string ⟨#[]⟩]], []⟩ 8 (by kernel_rfl) (by kernel_rfl) (by kernel_rfl)
      (x := ([.lit (.int .i64 0), .agg [.lit (.int .i64 0), .lit (.int .i64 0), .lit (.string [])], .agg [.lit (.int .i64 0), .lit (.int .i64 0), .lit (.string [])]], [], [])) (by kernel_rfl) rfl (by kernel_rfl)) ?_
  intro W base args ds gs before hval hW _ hk _
  exact contract H enc W base args ds gs before hval hW hk
theorem over : Rows.valueDoesUptoRow.holds Try.pinned (Rows.OpenSpec.upto Rows.valueDoesSpec) :=
  OpenClaim.holds_of_cond 3 Try.f3 rfl rfl rfl rfl rfl rfl rfl ⟨rfl, rfl, rfl, rfl, rfl⟩ rfl rfl rfl rfl rfl (by kernel_rfl) Try.func3 (by kernel_rfl)
    (of_decide_eq_true (by kernel_rfl)) (by unfold Func.isWrapper; first | (rw [if_pos (by decide +kernel)]; kernel_rfl) | (rw [if_neg (by decide +kernel)]; exact ⟨rfl, rfl⟩))
    (fun os started H enc _ F => lifted os started H enc F)
/-- the statement, its second form -/
theorem proved : Rows.ValueDoesUptoSaid := over
end plainValueDoes
theorem valueDoesUpto : Rows.ValueDoesUptoSaid := plainValueDoes.proved
end Go.Proofs.Ytbhilmgpmebaiaa
