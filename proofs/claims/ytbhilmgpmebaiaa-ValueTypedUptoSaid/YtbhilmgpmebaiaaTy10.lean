import Derived.Test.YtbhilmgpmebaiaaTy07
import Derived.Test.YtbhilmgpmebaiaaTy09
namespace Go.Proofs.Ytbhilmgpmebaiaa
open Go.RowKit
attribute [local go_sem ↓] eql32_eq neq32_eq
set_option maxRecDepth 100000 in
set_option maxHeartbeats 6400000 in
theorem do_16 (a b : Val) (w : World) (ha : a.OK) (hb : b.OK) : Calls Try.prog 13 #[.int .i64 16, .agg #[.int .i64 a.k, .int .i64 a.n, .string (str a.s)], .agg #[.int .i64 b.k, .int .i64 b.n, .string (str b.s)]] w fun e w' => e = .returned (.tuple #[.agg #[.int .i64 ((doR 16 (normV a) (normV a)).1).k, .int .i64 ((doR 16 (normV a) (normV a)).1).n, .string (str ((doR 16 (normV a) (normV a)).1).s)], .int .i64 (doR 16 (normV a) (normV a)).2]) ∧ Below w.heap.size w w' := by
  have hA := norm_i64 ha
  have hB := norm_i64 hb
  have hra := norm_rng ha.1
  have hrb := norm_rng hb.1
  have HT := Lib.hid (tri_new w a b)
  have ht1 := fun w => takesOne_any 16 w
  have ht2 := fun w => calculates_any 16 w
  simp only [show oneOf 16 = true from rfl, show decide (4 ≤ (16 : Int) ∧ (16 : Int) ≤ 9) = false from rfl] at ht1 ht2
  have HT1 := Lib.hid ht1
  have HT2 := Lib.hid ht2
  have ht3 := fun w => compares_any 16 w
  simp only [show decide (10 ≤ (16 : Int) ∧ (16 : Int) ≤ 15) = false from rfl] at ht3
  have HT3 := Lib.hid ht3
  clear ht3
  clear ht1 ht2 ha hb hA hB
  rw [show doR 16 (normV a) (normV a) = notV (normV a) from rfl]
  generalize hR : notV (normV a) = R at *
  have HR := Lib.hid hR
  clear hR
  go_enter Try.func13, Try.ntmps13
  go_wp2_with fail
  refine do_reg1 _ _ _ w _ HT.out ?_
  intro u hT
  clear HT
  obtain ⟨p0, p1, p2⟩ := bx_cells hT.1.1; obtain ⟨q0, q1, q2⟩ := bx_cells hT.1.2.1; obtain ⟨g0, g1, g2⟩ := bx_free hT.1.2.1; have hT0 := hT; obtain ⟨_, zk, zn, zs, hz⟩ := hT; obtain ⟨z0, z1, z2⟩ := bx_cells hz; obtain ⟨f0, f1, f2⟩ := bx_free hz
  have hS0 := hT0.set2 (normV a)
  clear hz hT0
  have HS0 := Lib.hid hS0
  clear hS0
  go_wp2_with (first
    | (go_at_call 31; refine (HT1.out _).mono ?_; rintro e w' ⟨rfl, rfl⟩)
    | (go_at_call 32; refine (HT2.out _).mono ?_; rintro e w' ⟨rfl, rfl⟩)
    | (go_at_call 35; refine (HT3.out _).mono ?_; rintro e w' ⟨rfl, rfl⟩)
    | (go_at_call 38; refine (decisions_any _).mono ?_; rintro e w1 ⟨M, c1, c2, c3, c4, rfl, hD⟩; have hT1 := HS0.out.below hD.2.1; have hl := run_lookF Try.underlying62 w1 M 16 _ hD.1 (2, FF 73) rfl true; obtain ⟨p0, p1, p2⟩ := bx_cells hT1.1.1; obtain ⟨q0, q1, q2⟩ := bx_cells hT1.1.2.1; have HT4 := Lib.hid hT1; have HDD := Lib.hid hD; clear hT1 hD)
    | (go_at_call 73; refine (HR.out ▸ not_any (normV a) (normV a) _ hra).mono ?_; rintro e w2 ⟨rfl, hb⟩; have hT2 := HT4.out.below hb; obtain ⟨_, zk, zn, zs, hz⟩ := hT2; obtain ⟨z0, z1, z2⟩ := bx_cells hz; obtain ⟨f0, f1, f2⟩ := bx_free hz; have HB2 := Lib.hid (HT4.out.below hb).1.2.2; clear hb hz))
  refine bodyPost_ret (v := .tuple #[.agg #[.int .i64 R.1.k, .int .i64 R.1.n, .string (str R.1.s)], .int .i64 R.2]) (by simp [results, Try.results13, go_sem, z0, z1, z2]) rfl ⟨rfl, set3_below R.1 HB2.out (by omega)⟩
set_option maxRecDepth 100000 in
set_option maxHeartbeats 6400000 in
theorem do_17 (a b : Val) (w : World) (ha : a.OK) (hb : b.OK) : Calls Try.prog 13 #[.int .i64 17, .agg #[.int .i64 a.k, .int .i64 a.n, .string (str a.s)], .agg #[.int .i64 b.k, .int .i64 b.n, .string (str b.s)]] w fun e w' => e = .returned (.tuple #[.agg #[.int .i64 ((doR 17 (normV a) (normV b)).1).k, .int .i64 ((doR 17 (normV a) (normV b)).1).n, .string (str ((doR 17 (normV a) (normV b)).1).s)], .int .i64 (doR 17 (normV a) (normV b)).2]) ∧ Below w.heap.size w w' := by
  have hA := norm_i64 ha
  have hB := norm_i64 hb
  have hra := norm_rng ha.1
  have hrb := norm_rng hb.1
  have HT := Lib.hid (tri_new w a b)
  have ht1 := fun w => takesOne_any 17 w
  have ht2 := fun w => calculates_any 17 w
  simp only [show oneOf 17 = false from rfl, show decide (4 ≤ (17 : Int) ∧ (17 : Int) ≤ 9) = false from rfl] at ht1 ht2
  have HT1 := Lib.hid ht1
  have HT2 := Lib.hid ht2
  have ht3 := fun w => compares_any 17 w
  simp only [show decide (10 ≤ (17 : Int) ∧ (17 : Int) ≤ 15) = false from rfl] at ht3
  have HT3 := Lib.hid ht3
  clear ht3
  clear ht1 ht2 ha hb hA hB
  rw [show doR 17 (normV a) (normV b) = decV false (normV a) (normV b) from rfl]
  generalize hR : decV false (normV a) (normV b) = R at *
  have HR := Lib.hid hR
  clear hR
  go_enter Try.func13, Try.ntmps13
  go_wp2_with fail
  refine do_reg1 _ _ _ w _ HT.out ?_
  intro u hT
  clear HT
  obtain ⟨p0, p1, p2⟩ := bx_cells hT.1.1; obtain ⟨q0, q1, q2⟩ := bx_cells hT.1.2.1; obtain ⟨g0, g1, g2⟩ := bx_free hT.1.2.1; have hT0 := hT; obtain ⟨_, zk, zn, zs, hz⟩ := hT; obtain ⟨z0, z1, z2⟩ := bx_cells hz; obtain ⟨f0, f1, f2⟩ := bx_free hz
  have hS0 := hT0
  clear hz hT0
  have HS0 := Lib.hid hS0
  clear hS0
  go_wp2_with (first
    | (go_at_call 31; refine (HT1.out _).mono ?_; rintro e w' ⟨rfl, rfl⟩)
    | (go_at_call 32; refine (HT2.out _).mono ?_; rintro e w' ⟨rfl, rfl⟩)
    | (go_at_call 35; refine (HT3.out _).mono ?_; rintro e w' ⟨rfl, rfl⟩)
    | (go_at_call 38; refine (decisions_any _).mono ?_; rintro e w1 ⟨M, c1, c2, c3, c4, rfl, hD⟩; have hT1 := HS0.out.below hD.2.1; have hl := run_lookF Try.underlying62 w1 M 17 _ hD.1 (3, CF 86 c3) rfl true; obtain ⟨p0, p1, p2⟩ := bx_cells hT1.1.1; obtain ⟨q0, q1, q2⟩ := bx_cells hT1.1.2.1; have HT4 := Lib.hid hT1; have HDD := Lib.hid hD; clear hT1 hD)
    | (go_at_call 86; refine (HR.out ▸ decided_false (normV a) (normV b) c3 _ hra hrb (HDD.out.2.2.2 (c3, .cells #[.bool false] 4) (by simp)).2).mono ?_; rintro e w2 ⟨rfl, hb⟩; have hT2 := HT4.out.below hb; obtain ⟨_, zk, zn, zs, hz⟩ := hT2; obtain ⟨z0, z1, z2⟩ := bx_cells hz; obtain ⟨f0, f1, f2⟩ := bx_free hz; have HB2 := Lib.hid (HT4.out.below hb).1.2.2; clear hb hz))
  refine bodyPost_ret (v := .tuple #[.agg #[.int .i64 R.1.k, .int .i64 R.1.n, .string (str R.1.s)], .int .i64 R.2]) (by simp [results, Try.results13, go_sem, z0, z1, z2]) rfl ⟨rfl, set3_below R.1 HB2.out (by omega)⟩
set_option maxRecDepth 100000 in
set_option maxHeartbeats 6400000 in
theorem do_18 (a b : Val) (w : World) (ha : a.OK) (hb : b.OK) : Calls Try.prog 13 #[.int .i64 18, .agg #[.int .i64 a.k, .int .i64 a.n, .string (str a.s)], .agg #[.int .i64 b.k, .int .i64 b.n, .string (str b.s)]] w fun e w' => e = .returned (.tuple #[.agg #[.int .i64 ((doR 18 (normV a) (normV b)).1).k, .int .i64 ((doR 18 (normV a) (normV b)).1).n, .string (str ((doR 18 (normV a) (normV b)).1).s)], .int .i64 (doR 18 (normV a) (normV b)).2]) ∧ Below w.heap.size w w' := by
  have hA := norm_i64 ha
  have hB := norm_i64 hb
  have hra := norm_rng ha.1
  have hrb := norm_rng hb.1
  have HT := Lib.hid (tri_new w a b)
  have ht1 := fun w => takesOne_any 18 w
  have ht2 := fun w => calculates_any 18 w
  simp only [show oneOf 18 = false from rfl, show decide (4 ≤ (18 : Int) ∧ (18 : Int) ≤ 9) = false from rfl] at ht1 ht2
  have HT1 := Lib.hid ht1
  have HT2 := Lib.hid ht2
  have ht3 := fun w => compares_any 18 w
  simp only [show decide (10 ≤ (18 : Int) ∧ (18 : Int) ≤ 15) = false from rfl] at ht3
  have HT3 := Lib.hid ht3
  clear ht3
  clear ht1 ht2 ha hb hA hB
  rw [show doR 18 (normV a) (normV b) = decV true (normV a) (normV b) from rfl]
  generalize hR : decV true (normV a) (normV b) = R at *
  have HR := Lib.hid hR
  clear hR
  go_enter Try.func13, Try.ntmps13
  go_wp2_with fail
  refine do_reg1 _ _ _ w _ HT.out ?_
  intro u hT
  clear HT
  obtain ⟨p0, p1, p2⟩ := bx_cells hT.1.1; obtain ⟨q0, q1, q2⟩ := bx_cells hT.1.2.1; obtain ⟨g0, g1, g2⟩ := bx_free hT.1.2.1; have hT0 := hT; obtain ⟨_, zk, zn, zs, hz⟩ := hT; obtain ⟨z0, z1, z2⟩ := bx_cells hz; obtain ⟨f0, f1, f2⟩ := bx_free hz
  have hS0 := hT0
  clear hz hT0
  have HS0 := Lib.hid hS0
  clear hS0
  go_wp2_with (first
    | (go_at_call 31; refine (HT1.out _).mono ?_; rintro e w' ⟨rfl, rfl⟩)
    | (go_at_call 32; refine (HT2.out _).mono ?_; rintro e w' ⟨rfl, rfl⟩)
    | (go_at_call 35; refine (HT3.out _).mono ?_; rintro e w' ⟨rfl, rfl⟩)
    | (go_at_call 38; refine (decisions_any _).mono ?_; rintro e w1 ⟨M, c1, c2, c3, c4, rfl, hD⟩; have hT1 := HS0.out.below hD.2.1; have hl := run_lookF Try.underlying62 w1 M 18 _ hD.1 (4, CF 86 c4) rfl true; obtain ⟨p0, p1, p2⟩ := bx_cells hT1.1.1; obtain ⟨q0, q1, q2⟩ := bx_cells hT1.1.2.1; have HT4 := Lib.hid hT1; have HDD := Lib.hid hD; clear hT1 hD)
    | (go_at_call 86; refine (HR.out ▸ decided_true (normV a) (normV b) c4 _ hra hrb (HDD.out.2.2.2 (c4, .cells #[.bool true] 4) (by simp)).2).mono ?_; rintro e w2 ⟨rfl, hb⟩; have hT2 := HT4.out.below hb; obtain ⟨_, zk, zn, zs, hz⟩ := hT2; obtain ⟨z0, z1, z2⟩ := bx_cells hz; obtain ⟨f0, f1, f2⟩ := bx_free hz; have HB2 := Lib.hid (HT4.out.below hb).1.2.2; clear hb hz))
  refine bodyPost_ret (v := .tuple #[.agg #[.int .i64 R.1.k, .int .i64 R.1.n, .string (str R.1.s)], .int .i64 R.2]) (by simp [results, Try.results13, go_sem, z0, z1, z2]) rfl ⟨rfl, set3_below R.1 HB2.out (by omega)⟩
set_option maxRecDepth 100000 in
set_option maxHeartbeats 6400000 in
theorem do_19 (a b : Val) (w : World) (ha : a.OK) (hb : b.OK) : Calls Try.prog 13 #[.int .i64 19, .agg #[.int .i64 a.k, .int .i64 a.n, .string (str a.s)], .agg #[.int .i64 b.k, .int .i64 b.n, .string (str b.s)]] w fun e w' => e = .returned (.tuple #[.agg #[.int .i64 ((doR 19 (normV a) (normV a)).1).k, .int .i64 ((doR 19 (normV a) (normV a)).1).n, .string (str ((doR 19 (normV a) (normV a)).1).s)], .int .i64 (doR 19 (normV a) (normV a)).2]) ∧ Below w.heap.size w w' := by
  have hA := norm_i64 ha
  have hB := norm_i64 hb
  have hra := norm_rng ha.1
  have hrb := norm_rng hb.1
  have HT := Lib.hid (tri_new w a b)
  have ht1 := fun w => takesOne_any 19 w
  have ht2 := fun w => calculates_any 19 w
  simp only [show oneOf 19 = true from rfl, show decide (4 ≤ (19 : Int) ∧ (19 : Int) ≤ 9) = false from rfl] at ht1 ht2
  have HT1 := Lib.hid ht1
  have HT2 := Lib.hid ht2
  have ht3 := fun w => compares_any 19 w
  simp only [show decide (10 ≤ (19 : Int) ∧ (19 : Int) ≤ 15) = false from rfl] at ht3
  have HT3 := Lib.hid ht3
  clear ht3
  clear ht1 ht2 ha hb hA hB
  rw [show doR 19 (normV a) (normV a) = testV (normV a) true from rfl]
  generalize hR : testV (normV a) true = R at *
  have HR := Lib.hid hR
  clear hR
  go_enter Try.func13, Try.ntmps13
  go_wp2_with fail
  refine do_reg1 _ _ _ w _ HT.out ?_
  intro u hT
  clear HT
  obtain ⟨p0, p1, p2⟩ := bx_cells hT.1.1; obtain ⟨q0, q1, q2⟩ := bx_cells hT.1.2.1; obtain ⟨g0, g1, g2⟩ := bx_free hT.1.2.1; have hT0 := hT; obtain ⟨_, zk, zn, zs, hz⟩ := hT; obtain ⟨z0, z1, z2⟩ := bx_cells hz; obtain ⟨f0, f1, f2⟩ := bx_free hz
  have hS0 := hT0.set2 (normV a)
  clear hz hT0
  have HS0 := Lib.hid hS0
  clear hS0
  go_wp2_with (first
    | (go_at_call 31; refine (HT1.out _).mono ?_; rintro e w' ⟨rfl, rfl⟩)
    | (go_at_call 32; refine (HT2.out _).mono ?_; rintro e w' ⟨rfl, rfl⟩)
    | (go_at_call 35; refine (HT3.out _).mono ?_; rintro e w' ⟨rfl, rfl⟩)
    | (go_at_call 38; refine (decisions_any _).mono ?_; rintro e w1 ⟨M, c1, c2, c3, c4, rfl, hD⟩; have hT1 := HS0.out.below hD.2.1; have hl := run_lookF Try.underlying62 w1 M 19 _ hD.1 (0, CF 85 c1) rfl true; obtain ⟨p0, p1, p2⟩ := bx_cells hT1.1.1; obtain ⟨q0, q1, q2⟩ := bx_cells hT1.1.2.1; have HT4 := Lib.hid hT1; have HDD := Lib.hid hD; clear hT1 hD)
    | (go_at_call 85; refine (HR.out ▸ tested_any (normV a) (normV a) c1 true _ hra (HDD.out.2.2.2 (c1, .cells #[.bool true] 4) (by simp)).2).mono ?_; rintro e w2 ⟨rfl, hb⟩; have hT2 := HT4.out.below hb; obtain ⟨_, zk, zn, zs, hz⟩ := hT2; obtain ⟨z0, z1, z2⟩ := bx_cells hz; obtain ⟨f0, f1, f2⟩ := bx_free hz; have HB2 := Lib.hid (HT4.out.below hb).1.2.2; clear hb hz))
  refine bodyPost_ret (v := .tuple #[.agg #[.int .i64 R.1.k, .int .i64 R.1.n, .string (str R.1.s)], .int .i64 R.2]) (by simp [results, Try.results13, go_sem, z0, z1, z2]) rfl ⟨rfl, set3_below R.1 HB2.out (by omega)⟩
set_option maxRecDepth 100000 in
set_option maxHeartbeats 6400000 in
theorem do_20 (a b : Val) (w : World) (ha : a.OK) (hb : b.OK) : Calls Try.prog 13 #[.int .i64 20, .agg #[.int .i64 a.k, .int .i64 a.n, .string (str a.s)], .agg #[.int .i64 b.k, .int .i64 b.n, .string (str b.s)]] w fun e w' => e = .returned (.tuple #[.agg #[.int .i64 ((doR 20 (normV a) (normV a)).1).k, .int .i64 ((doR 20 (normV a) (normV a)).1).n, .string (str ((doR 20 (normV a) (normV a)).1).s)], .int .i64 (doR 20 (normV a) (normV a)).2]) ∧ Below w.heap.size w w' := by
  have hA := norm_i64 ha
  have hB := norm_i64 hb
  have hra := norm_rng ha.1
  have hrb := norm_rng hb.1
  have HT := Lib.hid (tri_new w a b)
  have ht1 := fun w => takesOne_any 20 w
  have ht2 := fun w => calculates_any 20 w
  simp only [show oneOf 20 = true from rfl, show decide (4 ≤ (20 : Int) ∧ (20 : Int) ≤ 9) = false from rfl] at ht1 ht2
  have HT1 := Lib.hid ht1
  have HT2 := Lib.hid ht2
  have ht3 := fun w => compares_any 20 w
  simp only [show decide (10 ≤ (20 : Int) ∧ (20 : Int) ≤ 15) = false from rfl] at ht3
  have HT3 := Lib.hid ht3
  clear ht3
  clear ht1 ht2 ha hb hA hB
  rw [show doR 20 (normV a) (normV a) = testV (normV a) false from rfl]
  generalize hR : testV (normV a) false = R at *
  have HR := Lib.hid hR
  clear hR
  go_enter Try.func13, Try.ntmps13
  go_wp2_with fail
  refine do_reg1 _ _ _ w _ HT.out ?_
  intro u hT
  clear HT
  obtain ⟨p0, p1, p2⟩ := bx_cells hT.1.1; obtain ⟨q0, q1, q2⟩ := bx_cells hT.1.2.1; obtain ⟨g0, g1, g2⟩ := bx_free hT.1.2.1; have hT0 := hT; obtain ⟨_, zk, zn, zs, hz⟩ := hT; obtain ⟨z0, z1, z2⟩ := bx_cells hz; obtain ⟨f0, f1, f2⟩ := bx_free hz
  have hS0 := hT0.set2 (normV a)
  clear hz hT0
  have HS0 := Lib.hid hS0
  clear hS0
  go_wp2_with (first
    | (go_at_call 31; refine (HT1.out _).mono ?_; rintro e w' ⟨rfl, rfl⟩)
    | (go_at_call 32; refine (HT2.out _).mono ?_; rintro e w' ⟨rfl, rfl⟩)
    | (go_at_call 35; refine (HT3.out _).mono ?_; rintro e w' ⟨rfl, rfl⟩)
    | (go_at_call 38; refine (decisions_any _).mono ?_; rintro e w1 ⟨M, c1, c2, c3, c4, rfl, hD⟩; have hT1 := HS0.out.below hD.2.1; have hl := run_lookF Try.underlying62 w1 M 20 _ hD.1 (1, CF 85 c2) rfl true; obtain ⟨p0, p1, p2⟩ := bx_cells hT1.1.1; obtain ⟨q0, q1, q2⟩ := bx_cells hT1.1.2.1; have HT4 := Lib.hid hT1; have HDD := Lib.hid hD; clear hT1 hD)
    | (go_at_call 85; refine (HR.out ▸ tested_any (normV a) (normV a) c2 false _ hra (HDD.out.2.2.2 (c2, .cells #[.bool false] 4) (by simp)).2).mono ?_; rintro e w2 ⟨rfl, hb⟩; have hT2 := HT4.out.below hb; obtain ⟨_, zk, zn, zs, hz⟩ := hT2; obtain ⟨z0, z1, z2⟩ := bx_cells hz; obtain ⟨f0, f1, f2⟩ := bx_free hz; have HB2 := Lib.hid (HT4.out.below hb).1.2.2; clear hb hz))
  refine bodyPost_ret (v := .tuple #[.agg #[.int .i64 R.1.k, .int .i64 R.1.n, .string (str R.1.s)], .int .i64 R.2]) (by simp [results, Try.results13, go_sem, z0, z1, z2]) rfl ⟨rfl, set3_below R.1 HB2.out (by omega)⟩
end Go.Proofs.Ytbhilmgpmebaiaa
namespace Go.Proofs.Ytbhilmgpmebaiaa
open Go.RowKit
attribute [local go_sem ↓] eql32_eq neq32_eq
set_option maxRecDepth 100000 in
set_option maxHeartbeats 6400000 in
theorem do_else1 (op : Int) (a b : Val) (w : World) (ho : ¬ (4 ≤ op ∧ op ≤ 20)) (h1 : oneOf op = true) : Calls Try.prog 13 #[.int .i64 op, .agg #[.int .i64 a.k, .int .i64 a.n, .string (str a.s)], .agg #[.int .i64 b.k, .int .i64 b.n, .string (str b.s)]] w fun e w' => e = .returned (.tuple #[.agg #[.int .i64 nulV.k, .int .i64 nulV.n, .string (str nulV.s)], .int .i64 1]) ∧ Below w.heap.size w w' := by
  have HT := Lib.hid (tri_new w a b)
  have ht1 := fun w => takesOne_any op w
  have ht2 := fun w => calculates_any op w
  have ht3 := fun w => compares_any op w
  simp only [h1, show decide (4 ≤ op ∧ op ≤ 9) = false from decide_eq_false (by omega), show decide (10 ≤ op ∧ op ≤ 15) = false from decide_eq_false (by omega)] at ht1 ht2 ht3
  have HT1 := Lib.hid ht1
  have HT2 := Lib.hid ht2
  have HT3 := Lib.hid ht3
  have hmiss : ∀ g1 g2 g3 g4, fidx [(19, CF 85 g1), (20, CF 85 g2), (16, FF 73), (17, CF 86 g3), (18, CF 86 g4)] op = none := fun g1 g2 g3 g4 => by
    simp only [fidx]
    rw [if_neg (by omega), if_neg (by omega), if_neg (by omega), if_neg (by omega), if_neg (by omega)]; rfl
  have HM := Lib.hid hmiss
  clear ht1 ht2 ht3 hmiss ho h1
  go_enter Try.func13, Try.ntmps13
  go_wp2_with fail
  refine do_reg1 _ _ _ w _ HT.out ?_
  intro u hT
  clear HT
  obtain ⟨p0, p1, p2⟩ := bx_cells hT.1.1; obtain ⟨q0, q1, q2⟩ := bx_cells hT.1.2.1; obtain ⟨g0, g1, g2⟩ := bx_free hT.1.2.1; have hT0 := hT; obtain ⟨_, zk, zn, zs, hz⟩ := hT; obtain ⟨z0, z1, z2⟩ := bx_cells hz; obtain ⟨f0, f1, f2⟩ := bx_free hz
  have hS0 := hT0.set2 (normV a)
  clear hz hT0
  have HS0 := Lib.hid hS0
  clear hS0
  go_wp2_with (first
    | (go_at_call 31; refine (HT1.out _).mono ?_; rintro e w' ⟨rfl, rfl⟩)
    | (go_at_call 32; refine (HT2.out _).mono ?_; rintro e w' ⟨rfl, rfl⟩)
    | (go_at_call 35; refine (HT3.out _).mono ?_; rintro e w' ⟨rfl, rfl⟩)
    | (go_at_call 38; refine (decisions_any _).mono ?_; rintro e w1 ⟨M, c1, c2, c3, c4, rfl, hD⟩; have hT1 := HS0.out.below hD.2.1; have hl := run_missF Try.underlying62 .nilFunc (fun w => by kernel_rfl) w1 M op _ hD.1 (HM.out _ _ _ _); obtain ⟨p0, p1, p2⟩ := bx_cells hT1.1.1; obtain ⟨q0, q1, q2⟩ := bx_cells hT1.1.2.1; obtain ⟨_, zk, zn, zs, hz⟩ := id hT1; obtain ⟨z0, z1, z2⟩ := bx_cells hz; obtain ⟨f0, f1, f2⟩ := bx_free hz; have HB2 := Lib.hid hT1.1.2.2; clear hz; have HDD := Lib.hid hD; clear hT1 hD))
  refine bodyPost_ret (v := .tuple #[.agg #[.int .i64 0, .int .i64 0, .string ⟨#[]⟩], .int .i64 1]) (by simp [results, Try.results13, go_sem, z0, z1, z2]) rfl ⟨rfl, set3_below nulV HB2.out (by omega)⟩
set_option maxRecDepth 100000 in
set_option maxHeartbeats 6400000 in
theorem do_else0 (op : Int) (a b : Val) (w : World) (ho : ¬ (4 ≤ op ∧ op ≤ 20)) (h1 : oneOf op = false) : Calls Try.prog 13 #[.int .i64 op, .agg #[.int .i64 a.k, .int .i64 a.n, .string (str a.s)], .agg #[.int .i64 b.k, .int .i64 b.n, .string (str b.s)]] w fun e w' => e = .returned (.tuple #[.agg #[.int .i64 nulV.k, .int .i64 nulV.n, .string (str nulV.s)], .int .i64 1]) ∧ Below w.heap.size w w' := by
  have HT := Lib.hid (tri_new w a b)
  have ht1 := fun w => takesOne_any op w
  have ht2 := fun w => calculates_any op w
  have ht3 := fun w => compares_any op w
  simp only [h1, show decide (4 ≤ op ∧ op ≤ 9) = false from decide_eq_false (by omega), show decide (10 ≤ op ∧ op ≤ 15) = false from decide_eq_false (by omega)] at ht1 ht2 ht3
  have HT1 := Lib.hid ht1
  have HT2 := Lib.hid ht2
  have HT3 := Lib.hid ht3
  have hmiss : ∀ g1 g2 g3 g4, fidx [(19, CF 85 g1), (20, CF 85 g2), (16, FF 73), (17, CF 86 g3), (18, CF 86 g4)] op = none := fun g1 g2 g3 g4 => by
    simp only [fidx]
    rw [if_neg (by omega), if_neg (by omega), if_neg (by omega), if_neg (by omega), if_neg (by omega)]; rfl
  have HM := Lib.hid hmiss
  clear ht1 ht2 ht3 hmiss ho h1
  go_enter Try.func13, Try.ntmps13
  go_wp2_with fail
  refine do_reg1 _ _ _ w _ HT.out ?_
  intro u hT
  clear HT
  obtain ⟨p0, p1, p2⟩ := bx_cells hT.1.1; obtain ⟨q0, q1, q2⟩ := bx_cells hT.1.2.1; obtain ⟨g0, g1, g2⟩ := bx_free hT.1.2.1; have hT0 := hT; obtain ⟨_, zk, zn, zs, hz⟩ := hT; obtain ⟨z0, z1, z2⟩ := bx_cells hz; obtain ⟨f0, f1, f2⟩ := bx_free hz
  have hS0 := hT0
  clear hz hT0
  have HS0 := Lib.hid hS0
  clear hS0
  go_wp2_with (first
    | (go_at_call 31; refine (HT1.out _).mono ?_; rintro e w' ⟨rfl, rfl⟩)
    | (go_at_call 32; refine (HT2.out _).mono ?_; rintro e w' ⟨rfl, rfl⟩)
    | (go_at_call 35; refine (HT3.out _).mono ?_; rintro e w' ⟨rfl, rfl⟩)
    | (go_at_call 38; refine (decisions_any _).mono ?_; rintro e w1 ⟨M, c1, c2, c3, c4, rfl, hD⟩; have hT1 := HS0.out.below hD.2.1; have hl := run_missF Try.underlying62 .nilFunc (fun w => by kernel_rfl) w1 M op _ hD.1 (HM.out _ _ _ _); obtain ⟨p0, p1, p2⟩ := bx_cells hT1.1.1; obtain ⟨q0, q1, q2⟩ := bx_cells hT1.1.2.1; obtain ⟨_, zk, zn, zs, hz⟩ := id hT1; obtain ⟨z0, z1, z2⟩ := bx_cells hz; obtain ⟨f0, f1, f2⟩ := bx_free hz; have HB2 := Lib.hid hT1.1.2.2; clear hz; have HDD := Lib.hid hD; clear hT1 hD))
  refine bodyPost_ret (v := .tuple #[.agg #[.int .i64 0, .int .i64 0, .string ⟨#[]⟩], .int .i64 1]) (by simp [results, Try.results13, go_sem, z0, z1, z2]) rfl ⟨rfl, set3_below nulV HB2.out (by omega)⟩
theorem doR_other {op : Int} (A B : Val) (h : ¬ (4 ≤ op ∧ op ≤ 20)) : doR op A B = (nulV, 1) := by
  unfold doR
  rw [if_neg (by omega), if_neg (by omega), if_neg (by omega), if_neg (by omega), if_neg (by omega), if_neg (by omega), if_neg (by omega)]
/-- Do, whatever the operation -/
theorem do_any (op : Int) (a b : Val) (w : World) (ha : a.OK) (hb : b.OK) : Calls Try.prog 13 #[.int .i64 op, .agg #[.int .i64 a.k, .int .i64 a.n, .string (str a.s)], .agg #[.int .i64 b.k, .int .i64 b.n, .string (str b.s)]] w fun e w' => e = .returned (.tuple #[.agg #[.int .i64 ((doR op (normV a) (if oneOf op = true then normV a else normV b)).1).k, .int .i64 ((doR op (normV a) (if oneOf op = true then normV a else normV b)).1).n, .string (str ((doR op (normV a) (if oneOf op = true then normV a else normV b)).1).s)], .int .i64 (doR op (normV a) (if oneOf op = true then normV a else normV b)).2]) ∧ Below w.heap.size w w' := by
  by_cases ho : 4 ≤ op ∧ op ≤ 20
  · have h17 : op = 4 ∨ op = 5 ∨ op = 6 ∨ op = 7 ∨ op = 8 ∨ op = 9 ∨ op = 10 ∨ op = 11 ∨ op = 12 ∨ op = 13 ∨ op = 14 ∨ op = 15 ∨ op = 16 ∨ op = 17 ∨ op = 18 ∨ op = 19 ∨ op = 20 := by omega
    rcases h17 with rfl | rfl | rfl | rfl | rfl | rfl | rfl | rfl | rfl | rfl | rfl | rfl | rfl | rfl | rfl | rfl | rfl
    · exact do_4 a b w ha hb
    · exact do_5 a b w ha hb
    · exact do_6 a b w ha hb
    · exact do_7 a b w ha hb
    · exact do_8 a b w ha hb
    · exact do_9 a b w ha hb
    · exact do_10 a b w ha hb
    · exact do_11 a b w ha hb
    · exact do_12 a b w ha hb
    · exact do_13 a b w ha hb
    · exact do_14 a b w ha hb
    · exact do_15 a b w ha hb
    · exact do_16 a b w ha hb
    · exact do_17 a b w ha hb
    · exact do_18 a b w ha hb
    · exact do_19 a b w ha hb
    · exact do_20 a b w ha hb
  · rw [doR_other _ _ ho]
    cases h1 : oneOf op with
    | true => exact do_else1 op a b w ho h1
    | false => exact do_else0 op a b w ho h1
end Go.Proofs.Ytbhilmgpmebaiaa
namespace Go.Proofs.Ytbhilmgpmebaiaa
open Go.RowKit
def isK (k : Int) : Bool := decide (0 ≤ k ∧ k ≤ 3)
def ok2 (k a b : Int) : Bool := okK k a && okK k b
def resR (op a b : Int) : Int × Int :=
  if op = 21 then (1, 0) else if (isK a && isK b) = false then (0, 1)
  else if 4 ≤ op ∧ op ≤ 9 ∨ op = 23 then (if ok2 1 a b = true then (1, 0) else (0, 22))
  else if 10 ≤ op ∧ op ≤ 15 then (if smK a b = true then (3, 0) else (0, 22))
  else if op = 16 ∨ op = 17 ∨ op = 18 then (if ok2 3 a b = true then (3, 0) else (0, 22))
  else if op = 19 ∨ op = 20 then (3, 0) else if op = 22 then (1, 0) else if op = 24 ∨ op = 25 then (a, 0) else (0, 1)
theorem hp_1 (w : World) (a : Obj) : (w.alloc a).heap[w.heap.size]? = some a := heap_alloc_new _ _
set_option maxHeartbeats 3200000 in
theorem res_calc (op : Int) (hop : 5 ≤ op ∧ op ≤ 9) (a b : Int) (w : World) : Calls Try.prog 24 #[.int .i64 op, .int .i64 a, .int .i64 b] w fun e w' => e = .returned (.tuple #[.int .i64 (resR op a b).1, .int .i64 (resR op a b).2]) ∧ Below w.heap.size w w' := by
  have ht1 := fun w => takesOne_any op w
  have ht2 := fun w => calculates_any op w
  have ht3 := fun w => compares_any op w
  have hka := fun w => isKind_any a w
  have hkb := fun w => isKind_any b w
  have hf1 : oneOf op = false := decide_eq_false (by omega)
  have hf2 : decide (4 ≤ op ∧ op ≤ 9) = true := decide_eq_true (by omega)
  have hf3 : decide (10 ≤ op ∧ op ≤ 15) = false := decide_eq_false (by omega)
  have e21 : (op == 21) = false := beq_false_of_ne (by omega)
  have e23 : (op == 23) = false := beq_false_of_ne (by omega)
  have n21 : ¬ op = 21 := by omega
  have nA : (4 ≤ op ∧ op ≤ 9 ∨ op = 23) = True := by simp; omega
  have nB : (10 ≤ op ∧ op ≤ 15) = False := by simp; omega
  simp only [hf1, hf2, hf3] at ht1 ht2 ht3
  have HT1 := Lib.hid ht1
  have HT2 := Lib.hid ht2
  have HT3 := Lib.hid ht3
  clear ht1 ht2 ht3 hf1 hf2 hf3
  cases h1 : isK a with
  | false =>
    simp only [show decide (0 ≤ a ∧ a ≤ 3) = false from h1] at hka
    have HKA := Lib.hid hka
    rw [show resR op a b = (0, 1) by simp [resR, h1, n21, nA, nB]]
    clear hka hkb h1
    go_enter Try.func24, Try.ntmps24
    go_wp2_with (first
      | (go_at_call 31; refine (HT1.out _).mono ?_; rintro e w' ⟨rfl, rfl⟩)
      | (go_at_call 53; refine (HKA.out _).mono ?_; rintro e w' ⟨rfl, rfl⟩))
    refine bodyPost_ret (v := .tuple #[.int .i64 0, .int .i64 1]) (by simp [results, Try.results24, go_sem]) rfl ⟨?_, ?_⟩
    · rfl
    · (repeat (first | exact Below.refl _ _ | exact HBW.out | refine bl_al ?_ _ | refine Below.setCell ?_ (by first | omega | (simp; done) | (simp; omega)) _ | refine Below.drew ?_))
  | true =>
    simp only [show decide (0 ≤ a ∧ a ≤ 3) = true from h1] at hka
    have HKA := Lib.hid hka
    cases h2 : isK b with
    | false =>
      simp only [show decide (0 ≤ b ∧ b ≤ 3) = false from h2] at hkb
      have HKB := Lib.hid hkb
      rw [show resR op a b = (0, 1) by simp [resR, h1, h2, n21, nA, nB]]
      clear hka hkb h1 h2
      go_enter Try.func24, Try.ntmps24
      go_wp2_with (first
        | (go_at_call 31; refine (HT1.out _).mono ?_; rintro e w' ⟨rfl, rfl⟩)
        | (go_at_call 53; refine (HKA.out _).mono ?_; rintro e w' ⟨rfl, rfl⟩; clear HKA)
        | (go_at_call 53; refine (HKB.out _).mono ?_; rintro e w' ⟨rfl, rfl⟩))
      refine bodyPost_ret (v := .tuple #[.int .i64 0, .int .i64 1]) (by simp [results, Try.results24, go_sem]) rfl ⟨?_, ?_⟩
      · rfl
      · (repeat (first | exact Below.refl _ _ | exact HBW.out | refine bl_al ?_ _ | refine Below.setCell ?_ (by first | omega | (simp; done) | (simp; omega)) _ | refine Below.drew ?_))
    | true =>
      simp only [show decide (0 ≤ b ∧ b ≤ 3) = true from h2] at hkb
      have HKB := Lib.hid hkb
      clear hka hkb
      have hao := fun H T w h => allOf2_any 1 a b H T w h
      cases h3 : ok2 1 a b with
      | false =>
        simp only [show (okK 1 a && okK 1 b) = false from h3] at hao
        have HAO := Lib.hid hao
        rw [show resR op a b = (0, 22) by simp [resR, h1, h2, h3, n21, nA, nB]]
        clear hao h3 h1 h2
        go_enter Try.func24, Try.ntmps24
        go_wp2_with (first
          | (go_at_call 31; refine (HT1.out _).mono ?_; rintro e w' ⟨rfl, rfl⟩)
          | (go_at_call 53; refine (HKA.out _).mono ?_; rintro e w' ⟨rfl, rfl⟩; clear HKA)
          | (go_at_call 53; refine (HKB.out _).mono ?_; rintro e w' ⟨rfl, rfl⟩)
          | (go_at_call 32; refine (HT2.out _).mono ?_; rintro e w' ⟨rfl, rfl⟩)
          | (go_at_call 35; refine (HT3.out _).mono ?_; rintro e w' ⟨rfl, rfl⟩)
          | (go_at_call 55; refine (HAO.out _ _ _ (hp_1 _ _)).mono ?_; rintro e w' ⟨rfl, rfl⟩)
          | (go_at_call 54; refine (kindIf_any _ _ _).mono ?_; rintro e w' ⟨rfl, rfl⟩))
        refine bodyPost_ret (v := .tuple #[.int .i64 0, .int .i64 22]) (by simp [results, Try.results24, go_sem]) rfl ⟨?_, ?_⟩
        · rfl
        · (repeat (first | exact Below.refl _ _ | exact HBW.out | refine bl_al ?_ _ | refine Below.setCell ?_ (by first | omega | (simp; done) | (simp; omega)) _ | refine Below.drew ?_))
      | true =>
        simp only [show (okK 1 a && okK 1 b) = true from h3] at hao
        have HAO := Lib.hid hao
        rw [show resR op a b = (1, 0) by simp [resR, h1, h2, h3, n21, nA, nB]]
        clear hao h3 h1 h2
        go_enter Try.func24, Try.ntmps24
        go_wp2_with (first
          | (go_at_call 31; refine (HT1.out _).mono ?_; rintro e w' ⟨rfl, rfl⟩)
          | (go_at_call 53; refine (HKA.out _).mono ?_; rintro e w' ⟨rfl, rfl⟩; clear HKA)
          | (go_at_call 53; refine (HKB.out _).mono ?_; rintro e w' ⟨rfl, rfl⟩)
          | (go_at_call 32; refine (HT2.out _).mono ?_; rintro e w' ⟨rfl, rfl⟩)
          | (go_at_call 35; refine (HT3.out _).mono ?_; rintro e w' ⟨rfl, rfl⟩)
          | (go_at_call 55; refine (HAO.out _ _ _ (hp_1 _ _)).mono ?_; rintro e w' ⟨rfl, rfl⟩)
          | (go_at_call 54; refine (kindIf_any _ _ _).mono ?_; rintro e w' ⟨rfl, rfl⟩))
        refine bodyPost_ret (v := .tuple #[.int .i64 1, .int .i64 0]) (by simp [results, Try.results24, go_sem]) rfl ⟨?_, ?_⟩
        · rfl
        · (repeat (first | exact Below.refl _ _ | exact HBW.out | refine bl_al ?_ _ | refine Below.setCell ?_ (by first | omega | (simp; done) | (simp; omega)) _ | refine Below.drew ?_))
set_option maxHeartbeats 3200000 in
theorem res_comp (op : Int) (hop : 10 ≤ op ∧ op ≤ 15) (a b : Int) (w : World) : Calls Try.prog 24 #[.int .i64 op, .int .i64 a, .int .i64 b] w fun e w' => e = .returned (.tuple #[.int .i64 (resR op a b).1, .int .i64 (resR op a b).2]) ∧ Below w.heap.size w w' := by
  have ht1 := fun w => takesOne_any op w
  have ht2 := fun w => calculates_any op w
  have ht3 := fun w => compares_any op w
  have hka := fun w => isKind_any a w
  have hkb := fun w => isKind_any b w
  have hf1 : oneOf op = false := decide_eq_false (by omega)
  have hf2 : decide (4 ≤ op ∧ op ≤ 9) = false := decide_eq_false (by omega)
  have hf3 : decide (10 ≤ op ∧ op ≤ 15) = true := decide_eq_true (by omega)
  have e21 : (op == 21) = false := beq_false_of_ne (by omega)
  have e23 : (op == 23) = false := beq_false_of_ne (by omega)
  have n21 : ¬ op = 21 := by omega
  have nA : (4 ≤ op ∧ op ≤ 9 ∨ op = 23) = False := by simp; omega
  have nB : (10 ≤ op ∧ op ≤ 15) = True := by simp; omega
  simp only [hf1, hf2, hf3] at ht1 ht2 ht3
  have HT1 := Lib.hid ht1
  have HT2 := Lib.hid ht2
  have HT3 := Lib.hid ht3
  clear ht1 ht2 ht3 hf1 hf2 hf3
  cases h1 : isK a with
  | false =>
    simp only [show decide (0 ≤ a ∧ a ≤ 3) = false from h1] at hka
    have HKA := Lib.hid hka
    rw [show resR op a b = (0, 1) by simp [resR, h1, n21, nA, nB]]
    clear hka hkb h1
    go_enter Try.func24, Try.ntmps24
    go_wp2_with (first
      | (go_at_call 31; refine (HT1.out _).mono ?_; rintro e w' ⟨rfl, rfl⟩)
      | (go_at_call 53; refine (HKA.out _).mono ?_; rintro e w' ⟨rfl, rfl⟩))
    refine bodyPost_ret (v := .tuple #[.int .i64 0, .int .i64 1]) (by simp [results, Try.results24, go_sem]) rfl ⟨?_, ?_⟩
    · rfl
    · (repeat (first | exact Below.refl _ _ | exact HBW.out | refine bl_al ?_ _ | refine Below.setCell ?_ (by first | omega | (simp; done) | (simp; omega)) _ | refine Below.drew ?_))
  | true =>
    simp only [show decide (0 ≤ a ∧ a ≤ 3) = true from h1] at hka
    have HKA := Lib.hid hka
    cases h2 : isK b with
    | false =>
      simp only [show decide (0 ≤ b ∧ b ≤ 3) = false from h2] at hkb
      have HKB := Lib.hid hkb
      rw [show resR op a b = (0, 1) by simp [resR, h1, h2, n21, nA, nB]]
      clear hka hkb h1 h2
      go_enter Try.func24, Try.ntmps24
      go_wp2_with (first
        | (go_at_call 31; refine (HT1.out _).mono ?_; rintro e w' ⟨rfl, rfl⟩)
        | (go_at_call 53; refine (HKA.out _).mono ?_; rintro e w' ⟨rfl, rfl⟩; clear HKA)
        | (go_at_call 53; refine (HKB.out _).mono ?_; rintro e w' ⟨rfl, rfl⟩))
      refine bodyPost_ret (v := .tuple #[.int .i64 0, .int .i64 1]) (by simp [results, Try.results24, go_sem]) rfl ⟨?_, ?_⟩
      · rfl
      · (repeat (first | exact Below.refl _ _ | exact HBW.out | refine bl_al ?_ _ | refine Below.setCell ?_ (by first | omega | (simp; done) | (simp; omega)) _ | refine Below.drew ?_))
    | true =>
      simp only [show decide (0 ≤ b ∧ b ≤ 3) = true from h2] at hkb
      have HKB := Lib.hid hkb
      clear hka hkb
      have hsk := fun w => sameKind_any a b w
      cases h3 : smK a b with
      | false =>
        simp only [h3] at hsk
        have HSK := Lib.hid hsk
        rw [show resR op a b = (0, 22) by simp [resR, h1, h2, h3, n21, nA, nB]]
        clear hsk h3 h1 h2
        go_enter Try.func24, Try.ntmps24
        go_wp2_with (first
          | (go_at_call 31; refine (HT1.out _).mono ?_; rintro e w' ⟨rfl, rfl⟩)
          | (go_at_call 53; refine (HKA.out _).mono ?_; rintro e w' ⟨rfl, rfl⟩; clear HKA)
          | (go_at_call 53; refine (HKB.out _).mono ?_; rintro e w' ⟨rfl, rfl⟩)
          | (go_at_call 32; refine (HT2.out _).mono ?_; rintro e w' ⟨rfl, rfl⟩)
          | (go_at_call 35; refine (HT3.out _).mono ?_; rintro e w' ⟨rfl, rfl⟩)
          | (go_at_call 56; refine (HSK.out _).mono ?_; rintro e w' ⟨rfl, rfl⟩)
          | (go_at_call 54; refine (kindIf_any _ _ _).mono ?_; rintro e w' ⟨rfl, rfl⟩))
        refine bodyPost_ret (v := .tuple #[.int .i64 0, .int .i64 22]) (by simp [results, Try.results24, go_sem]) rfl ⟨?_, ?_⟩
        · rfl
        · (repeat (first | exact Below.refl _ _ | exact HBW.out | refine bl_al ?_ _ | refine Below.setCell ?_ (by first | omega | (simp; done) | (simp; omega)) _ | refine Below.drew ?_))
      | true =>
        simp only [h3] at hsk
        have HSK := Lib.hid hsk
        rw [show resR op a b = (3, 0) by simp [resR, h1, h2, h3, n21, nA, nB]]
        clear hsk h3 h1 h2
        go_enter Try.func24, Try.ntmps24
        go_wp2_with (first
          | (go_at_call 31; refine (HT1.out _).mono ?_; rintro e w' ⟨rfl, rfl⟩)
          | (go_at_call 53; refine (HKA.out _).mono ?_; rintro e w' ⟨rfl, rfl⟩; clear HKA)
          | (go_at_call 53; refine (HKB.out _).mono ?_; rintro e w' ⟨rfl, rfl⟩)
          | (go_at_call 32; refine (HT2.out _).mono ?_; rintro e w' ⟨rfl, rfl⟩)
          | (go_at_call 35; refine (HT3.out _).mono ?_; rintro e w' ⟨rfl, rfl⟩)
          | (go_at_call 56; refine (HSK.out _).mono ?_; rintro e w' ⟨rfl, rfl⟩)
          | (go_at_call 54; refine (kindIf_any _ _ _).mono ?_; rintro e w' ⟨rfl, rfl⟩))
        refine bodyPost_ret (v := .tuple #[.int .i64 3, .int .i64 0]) (by simp [results, Try.results24, go_sem]) rfl ⟨?_, ?_⟩
        · rfl
        · (repeat (first | exact Below.refl _ _ | exact HBW.out | refine bl_al ?_ _ | refine Below.setCell ?_ (by first | omega | (simp; done) | (simp; omega)) _ | refine Below.drew ?_))
set_option maxHeartbeats 3200000 in
theorem res_else (op : Int) (hop : ¬ (4 ≤ op ∧ op ≤ 25)) (a b : Int) (w : World) : Calls Try.prog 24 #[.int .i64 op, .int .i64 a, .int .i64 b] w fun e w' => e = .returned (.tuple #[.int .i64 (resR op a b).1, .int .i64 (resR op a b).2]) ∧ Below w.heap.size w w' := by
  have ht1 := fun w => takesOne_any op w
  have ht2 := fun w => calculates_any op w
  have ht3 := fun w => compares_any op w
  have hka := fun w => isKind_any a w
  have hkb := fun w => isKind_any b w
  have hf1 : oneOf op = false := decide_eq_false (by omega)
  have hf2 : decide (4 ≤ op ∧ op ≤ 9) = false := decide_eq_false (by omega)
  have hf3 : decide (10 ≤ op ∧ op ≤ 15) = false := decide_eq_false (by omega)
  have e16 : (op == 16) = false := beq_false_of_ne (by omega)
  have e17 : (op == 17) = false := beq_false_of_ne (by omega)
  have e18 : (op == 18) = false := beq_false_of_ne (by omega)
  have e19 : (op == 19) = false := beq_false_of_ne (by omega)
  have e20 : (op == 20) = false := beq_false_of_ne (by omega)
  have e21 : (op == 21) = false := beq_false_of_ne (by omega)
  have e22 : (op == 22) = false := beq_false_of_ne (by omega)
  have e23 : (op == 23) = false := beq_false_of_ne (by omega)
  have e24 : (op == 24) = false := beq_false_of_ne (by omega)
  have e25 : (op == 25) = false := beq_false_of_ne (by omega)
  have n16 : ¬ op = 16 := by omega
  have n17 : ¬ op = 17 := by omega
  have n18 : ¬ op = 18 := by omega
  have n19 : ¬ op = 19 := by omega
  have n20 : ¬ op = 20 := by omega
  have n21 : ¬ op = 21 := by omega
  have n22 : ¬ op = 22 := by omega
  have n23 : ¬ op = 23 := by omega
  have n24 : ¬ op = 24 := by omega
  have n25 : ¬ op = 25 := by omega
  have nA : ¬ (4 ≤ op ∧ op ≤ 9) := by omega
  have nB : ¬ (10 ≤ op ∧ op ≤ 15) := by omega
  simp only [hf1, hf2, hf3] at ht1 ht2 ht3
  have HT1 := Lib.hid ht1
  have HT2 := Lib.hid ht2
  have HT3 := Lib.hid ht3
  clear ht1 ht2 ht3 hf1 hf2 hf3
  cases h1 : isK a with
  | false =>
    simp only [show decide (0 ≤ a ∧ a ≤ 3) = false from h1] at hka
    have HKA := Lib.hid hka
    rw [show resR op a b = (0, 1) by simp [resR, h1, n16, n17, n18, n19, n20, n21, n22, n23, n24, n25, nA, nB]]
    clear hka hkb h1
    go_enter Try.func24, Try.ntmps24
    go_wp2_with (first
      | (go_at_call 31; refine (HT1.out _).mono ?_; rintro e w' ⟨rfl, rfl⟩)
      | (go_at_call 53; refine (HKA.out _).mono ?_; rintro e w' ⟨rfl, rfl⟩))
    refine bodyPost_ret (v := .tuple #[.int .i64 0, .int .i64 1]) (by simp [results, Try.results24, go_sem]) rfl ⟨?_, ?_⟩
    · rfl
    · (repeat (first | exact Below.refl _ _ | exact HBW.out | refine bl_al ?_ _ | refine Below.setCell ?_ (by first | omega | (simp; done) | (simp; omega)) _ | refine Below.drew ?_))
  | true =>
    simp only [show decide (0 ≤ a ∧ a ≤ 3) = true from h1] at hka
    have HKA := Lib.hid hka
    cases h2 : isK b with
    | false =>
      simp only [show decide (0 ≤ b ∧ b ≤ 3) = false from h2] at hkb
      have HKB := Lib.hid hkb
      rw [show resR op a b = (0, 1) by simp [resR, h1, h2, n16, n17, n18, n19, n20, n21, n22, n23, n24, n25, nA, nB]]
      clear hka hkb h1 h2
      go_enter Try.func24, Try.ntmps24
      go_wp2_with (first
        | (go_at_call 31; refine (HT1.out _).mono ?_; rintro e w' ⟨rfl, rfl⟩)
        | (go_at_call 53; refine (HKA.out _).mono ?_; rintro e w' ⟨rfl, rfl⟩; clear HKA)
        | (go_at_call 53; refine (HKB.out _).mono ?_; rintro e w' ⟨rfl, rfl⟩))
      refine bodyPost_ret (v := .tuple #[.int .i64 0, .int .i64 1]) (by simp [results, Try.results24, go_sem]) rfl ⟨?_, ?_⟩
      · rfl
      · (repeat (first | exact Below.refl _ _ | exact HBW.out | refine bl_al ?_ _ | refine Below.setCell ?_ (by first | omega | (simp; done) | (simp; omega)) _ | refine Below.drew ?_))
    | true =>
      simp only [show decide (0 ≤ b ∧ b ≤ 3) = true from h2] at hkb
      have HKB := Lib.hid hkb
      clear hka hkb
      rw [show resR op a b = (0, 1) by simp [resR, h1, h2, n16, n17, n18, n19, n20, n21, n22, n23, n24, n25, nA, nB]]
      clear h1 h2
      go_enter Try.func24, Try.ntmps24
      go_wp2_with (first
        | (go_at_call 31; refine (HT1.out _).mono ?_; rintro e w' ⟨rfl, rfl⟩)
        | (go_at_call 53; refine (HKA.out _).mono ?_; rintro e w' ⟨rfl, rfl⟩; clear HKA)
        | (go_at_call 53; refine (HKB.out _).mono ?_; rintro e w' ⟨rfl, rfl⟩)
        | (go_at_call 32; refine (HT2.out _).mono ?_; rintro e w' ⟨rfl, rfl⟩)
        | (go_at_call 35; refine (HT3.out _).mono ?_; rintro e w' ⟨rfl, rfl⟩))
      refine bodyPost_ret (v := .tuple #[.int .i64 0, .int .i64 1]) (by simp [results, Try.results24, go_sem]) rfl ⟨?_, ?_⟩
      · rfl
      · (repeat (first | exact Below.refl _ _ | exact HBW.out | refine bl_al ?_ _ | refine Below.setCell ?_ (by first | omega | (simp; done) | (simp; omega)) _ | refine Below.drew ?_))
theorem res_21 (a b : Int) (w : World) : Calls Try.prog 24 #[.int .i64 21, .int .i64 a, .int .i64 b] w fun e w' => e = .returned (.tuple #[.int .i64 1, .int .i64 0]) ∧ w' = w := by
  go_enter Try.func24, Try.ntmps24
  go_wp2_with fail
  refine bodyPost_ret (v := .tuple #[.int .i64 1, .int .i64 0]) (by simp [results, Try.results24, go_sem]) rfl ⟨?_, ?_⟩
  · rfl
  · rfl
end Go.Proofs.Ytbhilmgpmebaiaa
