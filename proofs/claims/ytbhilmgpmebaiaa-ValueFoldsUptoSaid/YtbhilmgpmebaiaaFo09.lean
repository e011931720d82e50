/-
  ValueFolds: of any operation and any list of values (of bulk at most 1048576) every sum over the group is as the document's own answer has it; the values stay. Condition: the second form's bound.
-/
import Derived.Test.YtbhilmgpmebaiaaFo00
import Derived.Test.YtbhilmgpmebaiaaFo01
import Derived.Test.YtbhilmgpmebaiaaFo05
import Derived.Test.YtbhilmgpmebaiaaFo06
import Derived.Test.YtbhilmgpmebaiaaFo07
import Derived.Test.YtbhilmgpmebaiaaFo08
import Derived.WalkKit
import Derived.ProofKit
import Derived.OpenShut
namespace Go.Proofs.Ytbhilmgpmebaiaa
open Go.RowKit
set_option maxRecDepth 100000 in
set_option maxHeartbeats 6400000 in
theorem rfold_21 (v : Value) (l : List Val) (w : World) (hv : Rw w v l) (ho : ∀ x ∈ l, x.OK) (hl : l.length ≤ 1073741824) (hsl : ∀ x ∈ l, x.s.length ≤ 1099511627776) :
    Calls Try.prog 16 #[.int .i64 21, v] w fun e w' => e = .returned (.tuple #[.agg #[.int .i64 ((cntL l.length).1).k, .int .i64 ((cntL l.length).1).n, .string (str ((cntL l.length).1).s)], .int .i64 (cntL l.length).2]) ∧ Below w.heap.size w w' := by
  have hok := someV_ok ho
  have hssl : ∀ x ∈ someV l, x.s.length ≤ 1099511627776 := fun x hx => by
    simp only [someV, List.mem_filter, List.mem_map] at hx
    obtain ⟨⟨y, hy, rfl⟩, _⟩ := hx
    exact Nat.le_trans (norm_len y) (hsl y hy)
  have hln := Nat.le_trans (someV_len l) hl
  have HNN := Lib.hid (rsome_any v l (w.alloc (BX 0 0 ⟨#[]⟩)) (hv.below (bl_al (Below.refl _ _) _)) ho hl)
  obtain ⟨a, cap, rfl, hcap, hcells⟩ := hv
  have hzz := heap_alloc_new w (BX 0 0 ⟨#[]⟩)
  have HZ0 := Lib.hid hzz
  clear ho hsl hcells hcap hzz
  clear hok hssl hln
  go_enter Try.func16, Try.ntmps16
  go_wp2_with (first
    | (go_at_call 47; refine HNN.out.mono ?_; rintro e w1 ⟨v1, rfl, hown, hb1⟩; have hz := (hb1.block w.heap.size (by simp)).trans HZ0.out; obtain ⟨z0, z1, z2⟩ := bx_cells hz; obtain ⟨f0, f1, f2⟩ := bx_free hz; have hlz := bx_lt hz; have HB1 := Lib.hid (bl_tr (bl_al (Below.refl w.heap.size w) (BX 0 0 ⟨#[]⟩)) hb1); have HRW := Lib.hid hown.rw; obtain ⟨a1, c1, rfl, hc1, hcell1⟩ := hown.rw; have HZ1 := Lib.hid hz; clear hown hb1 hcell1 hz)
    | (go_at_call 40; refine (rnumber_any _ _).mono ?_; rintro e w2 ⟨rfl, hw⟩; have hz2 : w2.heap[w.heap.size]? = some (BX 0 0 ⟨#[]⟩) := hw ▸ hp_al HZ1.out _; have hb2 : Below w.heap.size w w2 := hw ▸ bl_al HB1.out _; have HB2 := Lib.hid hb2; clear hw hb2; obtain ⟨y0, y1, y2⟩ := bx_cells hz2; obtain ⟨x0, x1, x2⟩ := bx_free hz2; have hlz2 := bx_lt hz2; clear hz2))
  refine bodyPost_ret (v := .tuple #[.agg #[.int .i64 1, .int .i64 (l.length : Int), .string ⟨#[]⟩], .int .i64 0]) (by simp [results, Try.results16, go_sem, y0, y1, y2]) rfl ⟨rfl, set3_below (numV (l.length : Int)) HB2.out (Nat.le_refl _)⟩
set_option maxRecDepth 100000 in
set_option maxHeartbeats 6400000 in
theorem rfold_22 (v : Value) (l : List Val) (w : World) (hv : Rw w v l) (ho : ∀ x ∈ l, x.OK) (hl : l.length ≤ 1073741824) (hsl : ∀ x ∈ l, x.s.length ≤ 1099511627776) :
    Calls Try.prog 16 #[.int .i64 22, v] w fun e w' => e = .returned (.tuple #[.agg #[.int .i64 ((cntL (someV l).length).1).k, .int .i64 ((cntL (someV l).length).1).n, .string (str ((cntL (someV l).length).1).s)], .int .i64 (cntL (someV l).length).2]) ∧ Below w.heap.size w w' := by
  have hok := someV_ok ho
  have hssl : ∀ x ∈ someV l, x.s.length ≤ 1099511627776 := fun x hx => by
    simp only [someV, List.mem_filter, List.mem_map] at hx
    obtain ⟨⟨y, hy, rfl⟩, _⟩ := hx
    exact Nat.le_trans (norm_len y) (hsl y hy)
  have hln := Nat.le_trans (someV_len l) hl
  have HNN := Lib.hid (rsome_any v l (w.alloc (BX 0 0 ⟨#[]⟩)) (hv.below (bl_al (Below.refl _ _) _)) ho hl)
  obtain ⟨a, cap, rfl, hcap, hcells⟩ := hv
  have hzz := heap_alloc_new w (BX 0 0 ⟨#[]⟩)
  have HZ0 := Lib.hid hzz
  clear ho hsl hcells hcap hzz
  generalize someV l = s at *
  clear hok hssl hln
  go_enter Try.func16, Try.ntmps16
  go_wp2_with (first
    | (go_at_call 47; refine HNN.out.mono ?_; rintro e w1 ⟨v1, rfl, hown, hb1⟩; have hz := (hb1.block w.heap.size (by simp)).trans HZ0.out; obtain ⟨z0, z1, z2⟩ := bx_cells hz; obtain ⟨f0, f1, f2⟩ := bx_free hz; have hlz := bx_lt hz; have HB1 := Lib.hid (bl_tr (bl_al (Below.refl w.heap.size w) (BX 0 0 ⟨#[]⟩)) hb1); have HRW := Lib.hid hown.rw; obtain ⟨a1, c1, rfl, hc1, hcell1⟩ := hown.rw; have HZ1 := Lib.hid hz; clear hown hb1 hcell1 hz)
    | (go_at_call 40; refine (rnumber_any _ _).mono ?_; rintro e w2 ⟨rfl, hw⟩; have hz2 : w2.heap[w.heap.size]? = some (BX 0 0 ⟨#[]⟩) := hw ▸ hp_al HZ1.out _; have hb2 : Below w.heap.size w w2 := hw ▸ bl_al HB1.out _; have HB2 := Lib.hid hb2; clear hw hb2; obtain ⟨y0, y1, y2⟩ := bx_cells hz2; obtain ⟨x0, x1, x2⟩ := bx_free hz2; have hlz2 := bx_lt hz2; clear hz2))
  refine bodyPost_ret (v := .tuple #[.agg #[.int .i64 1, .int .i64 (s.length : Int), .string ⟨#[]⟩], .int .i64 0]) (by simp [results, Try.results16, go_sem, y0, y1, y2]) rfl ⟨rfl, set3_below (numV (s.length : Int)) HB2.out (Nat.le_refl _)⟩
set_option maxRecDepth 100000 in
set_option maxHeartbeats 6400000 in
theorem rfold_23 (v : Value) (l : List Val) (w : World) (hv : Rw w v l) (ho : ∀ x ∈ l, x.OK) (hl : l.length ≤ 1073741824) (hsl : ∀ x ∈ l, x.s.length ≤ 1099511627776) :
    Calls Try.prog 16 #[.int .i64 23, v] w fun e w' => e = .returned (.tuple #[.agg #[.int .i64 ((sumR (someV l)).1).k, .int .i64 ((sumR (someV l)).1).n, .string (str ((sumR (someV l)).1).s)], .int .i64 (sumR (someV l)).2]) ∧ Below w.heap.size w w' := by
  have hok := someV_ok ho
  have hssl : ∀ x ∈ someV l, x.s.length ≤ 1099511627776 := fun x hx => by
    simp only [someV, List.mem_filter, List.mem_map] at hx
    obtain ⟨⟨y, hy, rfl⟩, _⟩ := hx
    exact Nat.le_trans (norm_len y) (hsl y hy)
  have hln := Nat.le_trans (someV_len l) hl
  have HNN := Lib.hid (rsome_any v l (w.alloc (BX 0 0 ⟨#[]⟩)) (hv.below (bl_al (Below.refl _ _) _)) ho hl)
  obtain ⟨a, cap, rfl, hcap, hcells⟩ := hv
  have hzz := heap_alloc_new w (BX 0 0 ⟨#[]⟩)
  have HZ0 := Lib.hid hzz
  clear ho hsl hcells hcap hzz
  generalize someV l = s at *
  by_cases hs : s = []
  · subst hs
    rw [show sumR [] = (nulV, 0) from rfl]
    have g1 : (((([] : List Val).length : Nat) : Int) == 0) = true := rfl
    clear hok hssl hln
    go_enter Try.func16, Try.ntmps16
    go_wp2_with (first
      | (go_at_call 47; refine HNN.out.mono ?_; rintro e w1 ⟨v1, rfl, hown, hb1⟩; have hz := (hb1.block w.heap.size (by simp)).trans HZ0.out; obtain ⟨z0, z1, z2⟩ := bx_cells hz; obtain ⟨f0, f1, f2⟩ := bx_free hz; have hlz := bx_lt hz; have HB1 := Lib.hid (bl_tr (bl_al (Below.refl w.heap.size w) (BX 0 0 ⟨#[]⟩)) hb1); have HRW := Lib.hid hown.rw; obtain ⟨a1, c1, rfl, hc1, hcell1⟩ := hown.rw; have HZ1 := Lib.hid hz; clear hown hb1 hcell1 hz))
    refine bodyPost_ret (v := .tuple #[.agg #[.int .i64 0, .int .i64 0, .string ⟨#[]⟩], .int .i64 0]) (by simp [results, Try.results16, go_sem, z0, z1, z2]) rfl ⟨rfl, set3_below nulV HB1.out (Nat.le_refl _)⟩
  · have hs0 : 0 < s.length := List.length_pos_iff.2 hs
    have hs1 : ¬ ((s.length : Int) = 0) := by omega
    have g1 : ((s.length : Int) == 0) = false := beq_false_of_ne hs1
    rw [show sumR s = totR s by rw [sumR, if_neg hs]; rfl]
    have HOK := Lib.hid hok
    have HSL := Lib.hid hssl
    generalize hR : totR s = R at *
    have HR := Lib.hid hR
    clear hR hok hssl hs
    go_enter Try.func16, Try.ntmps16
    go_wp2_with (first
      | (go_at_call 47; refine HNN.out.mono ?_; rintro e w1 ⟨v1, rfl, hown, hb1⟩; have hz := (hb1.block w.heap.size (by simp)).trans HZ0.out; obtain ⟨z0, z1, z2⟩ := bx_cells hz; obtain ⟨f0, f1, f2⟩ := bx_free hz; have hlz := bx_lt hz; have HB1 := Lib.hid (bl_tr (bl_al (Below.refl w.heap.size w) (BX 0 0 ⟨#[]⟩)) hb1); have HRW := Lib.hid hown.rw; obtain ⟨a1, c1, rfl, hc1, hcell1⟩ := hown.rw; have HZ1 := Lib.hid hz; clear hown hb1 hcell1 hz)
      | (go_at_call 48; refine (HR.out ▸ rtotal_any (.slice a1 s.length c1) s _ HRW.out (fun x hx => (HOK.out x hx).1) hln).mono ?_; rintro e w2 ⟨rfl, hb2⟩; have hz2 := (hb2.block w.heap.size hlz).trans HZ1.out; obtain ⟨y0, y1, y2⟩ := bx_cells hz2; obtain ⟨x0, x1, x2⟩ := bx_free hz2; have hlz2 := bx_lt hz2; have HB2 := Lib.hid (HB1.out.trans (hb2.mono (by omega))); clear hz2 hb2))
    refine bodyPost_ret (v := .tuple #[.agg #[.int .i64 R.1.k, .int .i64 R.1.n, .string (str R.1.s)], .int .i64 R.2]) (by simp [results, Try.results16, go_sem, y0, y1, y2]) rfl ⟨rfl, set3_below R.1 HB2.out (Nat.le_refl _)⟩
set_option maxRecDepth 100000 in
set_option maxHeartbeats 6400000 in
theorem rfold_24 (v : Value) (l : List Val) (w : World) (hv : Rw w v l) (ho : ∀ x ∈ l, x.OK) (hl : l.length ≤ 1073741824) (hsl : ∀ x ∈ l, x.s.length ≤ 1099511627776) :
    Calls Try.prog 16 #[.int .i64 24, v] w fun e w' => e = .returned (.tuple #[.agg #[.int .i64 ((extR (-1) (someV l)).1).k, .int .i64 ((extR (-1) (someV l)).1).n, .string (str ((extR (-1) (someV l)).1).s)], .int .i64 (extR (-1) (someV l)).2]) ∧ Below w.heap.size w w' := by
  have hok := someV_ok ho
  have hssl : ∀ x ∈ someV l, x.s.length ≤ 1099511627776 := fun x hx => by
    simp only [someV, List.mem_filter, List.mem_map] at hx
    obtain ⟨⟨y, hy, rfl⟩, _⟩ := hx
    exact Nat.le_trans (norm_len y) (hsl y hy)
  have hln := Nat.le_trans (someV_len l) hl
  have HNN := Lib.hid (rsome_any v l (w.alloc (BX 0 0 ⟨#[]⟩)) (hv.below (bl_al (Below.refl _ _) _)) ho hl)
  obtain ⟨a, cap, rfl, hcap, hcells⟩ := hv
  have hzz := heap_alloc_new w (BX 0 0 ⟨#[]⟩)
  have HZ0 := Lib.hid hzz
  clear ho hsl hcells hcap hzz
  generalize someV l = s at *
  by_cases hs : s = []
  · subst hs
    rw [show extR (-1) [] = (nulV, 0) from rfl]
    have g1 : (((([] : List Val).length : Nat) : Int) == 0) = true := rfl
    clear hok hssl hln
    go_enter Try.func16, Try.ntmps16
    go_wp2_with (first
      | (go_at_call 47; refine HNN.out.mono ?_; rintro e w1 ⟨v1, rfl, hown, hb1⟩; have hz := (hb1.block w.heap.size (by simp)).trans HZ0.out; obtain ⟨z0, z1, z2⟩ := bx_cells hz; obtain ⟨f0, f1, f2⟩ := bx_free hz; have hlz := bx_lt hz; have HB1 := Lib.hid (bl_tr (bl_al (Below.refl w.heap.size w) (BX 0 0 ⟨#[]⟩)) hb1); have HRW := Lib.hid hown.rw; obtain ⟨a1, c1, rfl, hc1, hcell1⟩ := hown.rw; have HZ1 := Lib.hid hz; clear hown hb1 hcell1 hz))
    refine bodyPost_ret (v := .tuple #[.agg #[.int .i64 0, .int .i64 0, .string ⟨#[]⟩], .int .i64 0]) (by simp [results, Try.results16, go_sem, z0, z1, z2]) rfl ⟨rfl, set3_below nulV HB1.out (Nat.le_refl _)⟩
  · have hs0 : 0 < s.length := List.length_pos_iff.2 hs
    have hs1 : ¬ ((s.length : Int) = 0) := by omega
    have g1 : ((s.length : Int) == 0) = false := beq_false_of_ne hs1
    have HOK := Lib.hid hok
    have HSL := Lib.hid hssl
    generalize hR : extR (-1) s = R at *
    have HR := Lib.hid hR
    clear hR hok hssl hs
    go_enter Try.func16, Try.ntmps16
    go_wp2_with (first
      | (go_at_call 47; refine HNN.out.mono ?_; rintro e w1 ⟨v1, rfl, hown, hb1⟩; have hz := (hb1.block w.heap.size (by simp)).trans HZ0.out; obtain ⟨z0, z1, z2⟩ := bx_cells hz; obtain ⟨f0, f1, f2⟩ := bx_free hz; have hlz := bx_lt hz; have HB1 := Lib.hid (bl_tr (bl_al (Below.refl w.heap.size w) (BX 0 0 ⟨#[]⟩)) hb1); have HRW := Lib.hid hown.rw; obtain ⟨a1, c1, rfl, hc1, hcell1⟩ := hown.rw; have HZ1 := Lib.hid hz; clear hown hb1 hcell1 hz)
      | (go_at_call 49; refine (HR.out ▸ rend_24 (.slice a1 s.length c1) s _ HRW.out HOK.out hln HSL.out hs0).mono ?_; rintro e w2 ⟨rfl, hb2⟩; have hz2 := (hb2.block w.heap.size hlz).trans HZ1.out; obtain ⟨y0, y1, y2⟩ := bx_cells hz2; obtain ⟨x0, x1, x2⟩ := bx_free hz2; have hlz2 := bx_lt hz2; have HB2 := Lib.hid (HB1.out.trans (hb2.mono (by omega))); clear hz2 hb2))
    refine bodyPost_ret (v := .tuple #[.agg #[.int .i64 R.1.k, .int .i64 R.1.n, .string (str R.1.s)], .int .i64 R.2]) (by simp [results, Try.results16, go_sem, y0, y1, y2]) rfl ⟨rfl, set3_below R.1 HB2.out (Nat.le_refl _)⟩
set_option maxRecDepth 100000 in
set_option maxHeartbeats 6400000 in
theorem rfold_25 (v : Value) (l : List Val) (w : World) (hv : Rw w v l) (ho : ∀ x ∈ l, x.OK) (hl : l.length ≤ 1073741824) (hsl : ∀ x ∈ l, x.s.length ≤ 1099511627776) :
    Calls Try.prog 16 #[.int .i64 25, v] w fun e w' => e = .returned (.tuple #[.agg #[.int .i64 ((extR 1 (someV l)).1).k, .int .i64 ((extR 1 (someV l)).1).n, .string (str ((extR 1 (someV l)).1).s)], .int .i64 (extR 1 (someV l)).2]) ∧ Below w.heap.size w w' := by
  have hok := someV_ok ho
  have hssl : ∀ x ∈ someV l, x.s.length ≤ 1099511627776 := fun x hx => by
    simp only [someV, List.mem_filter, List.mem_map] at hx
    obtain ⟨⟨y, hy, rfl⟩, _⟩ := hx
    exact Nat.le_trans (norm_len y) (hsl y hy)
  have hln := Nat.le_trans (someV_len l) hl
  have HNN := Lib.hid (rsome_any v l (w.alloc (BX 0 0 ⟨#[]⟩)) (hv.below (bl_al (Below.refl _ _) _)) ho hl)
  obtain ⟨a, cap, rfl, hcap, hcells⟩ := hv
  have hzz := heap_alloc_new w (BX 0 0 ⟨#[]⟩)
  have HZ0 := Lib.hid hzz
  clear ho hsl hcells hcap hzz
  generalize someV l = s at *
  by_cases hs : s = []
  · subst hs
    rw [show extR 1 [] = (nulV, 0) from rfl]
    have g1 : (((([] : List Val).length : Nat) : Int) == 0) = true := rfl
    clear hok hssl hln
    go_enter Try.func16, Try.ntmps16
    go_wp2_with (first
      | (go_at_call 47; refine HNN.out.mono ?_; rintro e w1 ⟨v1, rfl, hown, hb1⟩; have hz := (hb1.block w.heap.size (by simp)).trans HZ0.out; obtain ⟨z0, z1, z2⟩ := bx_cells hz; obtain ⟨f0, f1, f2⟩ := bx_free hz; have hlz := bx_lt hz; have HB1 := Lib.hid (bl_tr (bl_al (Below.refl w.heap.size w) (BX 0 0 ⟨#[]⟩)) hb1); have HRW := Lib.hid hown.rw; obtain ⟨a1, c1, rfl, hc1, hcell1⟩ := hown.rw; have HZ1 := Lib.hid hz; clear hown hb1 hcell1 hz))
    refine bodyPost_ret (v := .tuple #[.agg #[.int .i64 0, .int .i64 0, .string ⟨#[]⟩], .int .i64 0]) (by simp [results, Try.results16, go_sem, z0, z1, z2]) rfl ⟨rfl, set3_below nulV HB1.out (Nat.le_refl _)⟩
  · have hs0 : 0 < s.length := List.length_pos_iff.2 hs
    have hs1 : ¬ ((s.length : Int) = 0) := by omega
    have g1 : ((s.length : Int) == 0) = false := beq_false_of_ne hs1
    have HOK := Lib.hid hok
    have HSL := Lib.hid hssl
    generalize hR : extR 1 s = R at *
    have HR := Lib.hid hR
    clear hR hok hssl hs
    go_enter Try.func16, Try.ntmps16
    go_wp2_with (first
      | (go_at_call 47; refine HNN.out.mono ?_; rintro e w1 ⟨v1, rfl, hown, hb1⟩; have hz := (hb1.block w.heap.size (by simp)).trans HZ0.out; obtain ⟨z0, z1, z2⟩ := bx_cells hz; obtain ⟨f0, f1, f2⟩ := bx_free hz; have hlz := bx_lt hz; have HB1 := Lib.hid (bl_tr (bl_al (Below.refl w.heap.size w) (BX 0 0 ⟨#[]⟩)) hb1); have HRW := Lib.hid hown.rw; obtain ⟨a1, c1, rfl, hc1, hcell1⟩ := hown.rw; have HZ1 := Lib.hid hz; clear hown hb1 hcell1 hz)
      | (go_at_call 49; refine (HR.out ▸ rend_25 (.slice a1 s.length c1) s _ HRW.out HOK.out hln HSL.out hs0).mono ?_; rintro e w2 ⟨rfl, hb2⟩; have hz2 := (hb2.block w.heap.size hlz).trans HZ1.out; obtain ⟨y0, y1, y2⟩ := bx_cells hz2; obtain ⟨x0, x1, x2⟩ := bx_free hz2; have hlz2 := bx_lt hz2; have HB2 := Lib.hid (HB1.out.trans (hb2.mono (by omega))); clear hz2 hb2))
    refine bodyPost_ret (v := .tuple #[.agg #[.int .i64 R.1.k, .int .i64 R.1.n, .string (str R.1.s)], .int .i64 R.2]) (by simp [results, Try.results16, go_sem, y0, y1, y2]) rfl ⟨rfl, set3_below R.1 HB2.out (Nat.le_refl _)⟩
set_option maxRecDepth 100000 in
set_option maxHeartbeats 6400000 in
theorem rfold_else (op : Int) (v : Value) (l : List Val) (w : World) (hv : Rw w v l) (ho : ∀ x ∈ l, x.OK) (hl : l.length ≤ 1073741824) (hsl : ∀ x ∈ l, x.s.length ≤ 1099511627776) (hop : ¬ (21 ≤ op ∧ op ≤ 25)) :
    Calls Try.prog 16 #[.int .i64 op, v] w fun e w' => e = .returned (.tuple #[.agg #[.int .i64 ((((nulV, 1) : Val × Int)).1).k, .int .i64 ((((nulV, 1) : Val × Int)).1).n, .string (str ((((nulV, 1) : Val × Int)).1).s)], .int .i64 (((nulV, 1) : Val × Int)).2]) ∧ Below w.heap.size w w' := by
  have hok := someV_ok ho
  have hssl : ∀ x ∈ someV l, x.s.length ≤ 1099511627776 := fun x hx => by
    simp only [someV, List.mem_filter, List.mem_map] at hx
    obtain ⟨⟨y, hy, rfl⟩, _⟩ := hx
    exact Nat.le_trans (norm_len y) (hsl y hy)
  have hln := Nat.le_trans (someV_len l) hl
  have HNN := Lib.hid (rsome_any v l (w.alloc (BX 0 0 ⟨#[]⟩)) (hv.below (bl_al (Below.refl _ _) _)) ho hl)
  obtain ⟨a, cap, rfl, hcap, hcells⟩ := hv
  have hzz := heap_alloc_new w (BX 0 0 ⟨#[]⟩)
  have HZ0 := Lib.hid hzz
  clear ho hsl hcells hcap hzz
  generalize someV l = s at *
  have e21 : (op == 21) = false := beq_false_of_ne (by omega)
  have e22 : (op == 22) = false := beq_false_of_ne (by omega)
  have n23 : (op != 23) = true := bne_iff_ne.2 (by omega)
  have n24 : (op != 24) = true := bne_iff_ne.2 (by omega)
  have n25 : (op != 25) = true := bne_iff_ne.2 (by omega)
  clear hok hssl hln hop
  go_enter Try.func16, Try.ntmps16
  go_wp2_with (first
    | (go_at_call 47; refine HNN.out.mono ?_; rintro e w1 ⟨v1, rfl, hown, hb1⟩; have hz := (hb1.block w.heap.size (by simp)).trans HZ0.out; obtain ⟨z0, z1, z2⟩ := bx_cells hz; obtain ⟨f0, f1, f2⟩ := bx_free hz; have hlz := bx_lt hz; have HB1 := Lib.hid (bl_tr (bl_al (Below.refl w.heap.size w) (BX 0 0 ⟨#[]⟩)) hb1); have HRW := Lib.hid hown.rw; obtain ⟨a1, c1, rfl, hc1, hcell1⟩ := hown.rw; have HZ1 := Lib.hid hz; clear hown hb1 hcell1 hz))
  refine bodyPost_ret (v := .tuple #[.agg #[.int .i64 0, .int .i64 0, .string ⟨#[]⟩], .int .i64 1]) (by simp [results, Try.results16, go_sem, z0, z1, z2]) rfl ⟨rfl, set3_below nulV HB1.out (Nat.le_refl _)⟩
theorem rfold_any (op : Int) (v : Value) (l : List Val) (w : World) (hv : Rw w v l) (ho : ∀ x ∈ l, x.OK) (hl : l.length ≤ 1073741824) (hsl : ∀ x ∈ l, x.s.length ≤ 1099511627776) :
    Calls Try.prog 16 #[.int .i64 op, v] w fun e w' => e = .returned (.tuple #[.agg #[.int .i64 ((foldR op l).1).k, .int .i64 ((foldR op l).1).n, .string (str ((foldR op l).1).s)], .int .i64 (foldR op l).2]) ∧ Below w.heap.size w w' := by
  by_cases h : 21 ≤ op ∧ op ≤ 25
  · have h5 : op = 21 ∨ op = 22 ∨ op = 23 ∨ op = 24 ∨ op = 25 := by omega
    rcases h5 with rfl | rfl | rfl | rfl | rfl
    · exact rfold_21 v l w hv ho hl hsl
    · exact rfold_22 v l w hv ho hl hsl
    · exact rfold_23 v l w hv ho hl hsl
    · exact rfold_24 v l w hv ho hl hsl
    · exact rfold_25 v l w hv ho hl hsl
  · rw [show foldR op l = (nulV, 1) by rw [foldR, if_neg (by omega), if_neg (by omega), if_neg (by omega), if_neg (by omega), if_neg (by omega)]]
    exact rfold_else op v l w hv ho hl hsl h
end Go.Proofs.Ytbhilmgpmebaiaa
namespace Go.Proofs.Ytbhilmgpmebaiaa
open Go.RowKit
attribute [local go_sem ↓] eql32_eq neq32_eq
set_option maxRecDepth 100000 in
set_option maxHeartbeats 6400000 in
theorem rsame_one (va vb : Value) (l : List Val) (w : World) (Ha Hb : Nat) (T : TypeId) (ha : w.heap[Ha]? = some (.cells #[va] T (0, 0))) (hb : w.heap[Hb]? = some (.cells #[vb] T (0, 0))) (hva : Rw w va l) (hvb : Rw w vb l) (hok : ∀ x ∈ l, x.OK) (hl : l.length ≤ 1073741824) :
    Calls Try.prog 17 #[.slice (some ⟨Ha, 0, none⟩) 1 1, .slice (some ⟨Hb, 0, none⟩) 1 1] w fun e w' => e = .returned (.bool true) ∧ Below w.heap.size w w' := by
  obtain ⟨aa, ca, rfl, hca, hcella⟩ := hva
  obtain ⟨ab, cb, rfl, hcb, hcellb⟩ := hvb
  have HA0 := Lib.hid ((cell_of_row _ Ha 0 _ _ _ ha).trans (show (#[Value.slice aa l.length ca] : Array Value)[0]? = some (.slice aa l.length ca) from rfl))
  have HB0 := Lib.hid ((cell_of_row _ Hb 0 _ _ _ hb).trans (show (#[Value.slice ab l.length cb] : Array Value)[0]? = some (.slice ab l.length cb) from rfl))
  have hla := bx_lt ha
  have hlb := bx_lt hb
  have HCA := Lib.hid hcella
  have HCB := Lib.hid hcellb
  have HOK := Lib.hid hok
  clear ha hb hcella hcellb hok
  generalize hn : l.length = n at *
  have HN := Lib.hid hn
  clear hn
  go_enter Try.func17, Try.ntmps17
  go_wp2_with fail
  go_loopw [5, 6] (fun i _ wr => (i = .int .i64 0 ∨ i = .int .i64 1) ∧ Below w.heap.size w wr) (fun i _ _ => 1 - (intOf i).toNat)
  case atStart => exact ⟨.inl rfl, Below.refl _ _⟩
  case round =>
    obtain ⟨hi, hbw⟩ := hrel
    have hsz := hbw.size
    have a0 := (hbw.cell (p := ⟨Ha, 0, none⟩) hla).trans HA0.out
    have b0 := (hbw.cell (p := ⟨Hb, 0, none⟩) hlb).trans HB0.out
    have HBW := Lib.hid hbw
    clear hbw
    rcases hi with rfl | rfl
    · go_wp2_with fail
      refine wp_region_held_drew (S := fun u => Below w.heap.size w u) (by kernel_rfl) (HBW.out.drew) (fun hHeld => ?_)
      refine wpAnyH_take (i := 0) (oi := ({ dst := some 18, op := Op.move (Operand.tmp 0), type := 32, pos := "ref.go:96", after := #[], guard := none } : Oper)) (v := ?_) rfl (by kernel_rfl) (by kernel_rfl) (by kernel_rfl) (fun _ _ _ h => h) (Or.inl ⟨by rfl, ?_⟩) (by assumption) ?_
      rotate_left 1
      · (intro u hSw; go_simp; try with_reducible rfl)
      try simp only [Act.put, List.setIfInBounds_toArray, List.set_cons_zero, List.set_cons_succ]
      refine wpAnyH_take (i := 1) (oi := ({ dst := some 19, op := Op.move (Operand.tmp 5), type := 3, pos := "ref.go:96", after := #[], guard := none } : Oper)) (v := ?_) rfl (by kernel_rfl) (by kernel_rfl) (by kernel_rfl) (fun _ _ _ h => h) (Or.inl ⟨by rfl, ?_⟩) (by assumption) ?_
      rotate_left 1
      · (intro u hSw; go_simp; try with_reducible rfl)
      try simp only [Act.put, List.setIfInBounds_toArray, List.set_cons_zero, List.set_cons_succ]
      refine wpAnyH_take (i := 2) (oi := ({ dst := some 20, op := Op.indexAddr 32 (Operand.tmp 18) (Operand.tmp 19), type := 0, pos := "ref.go:96", after := #[{ on := 0, ground := Ground.data }, { on := 1, ground := Ground.data }], guard := none } : Oper)) (v := ?_) rfl (by kernel_rfl) (by kernel_rfl) (by kernel_rfl) (fun _ _ _ h => h) (Or.inl ⟨by rfl, ?_⟩) (by assumption) ?_
      rotate_left 1
      · (intro u hSw; go_simp; try with_reducible rfl)
      try simp only [Act.put, List.setIfInBounds_toArray, List.set_cons_zero, List.set_cons_succ]
      refine wpAnyH_take (i := 3) (oi := ({ dst := some 21, op := Op.load 34 (Operand.tmp 20), type := 34, pos := "ref.go:96", after := #[{ on := 2, ground := Ground.data }], guard := none } : Oper)) (v := ?_) rfl (by kernel_rfl) (by kernel_rfl) (by kernel_rfl) (fun _ _ _ h => h) (Or.inl ⟨by rfl, ?_⟩) (by assumption) ?_
      rotate_left 1
      · (intro u hSw; have a0 := (hSw.cell (p := ⟨Ha, 0, none⟩) hla).trans HA0.out; have b0 := (hSw.cell (p := ⟨Hb, 0, none⟩) hlb).trans HB0.out; go_simp; try with_reducible rfl)
      try simp only [Act.put, List.setIfInBounds_toArray, List.set_cons_zero, List.set_cons_succ]
      refine wpAnyH_take (i := 4) (oi := ({ dst := some 22, op := Op.call { callee := Callee.builtin Builtin.len, args := #[Operand.tmp 21], argTypes := #[34] }, type := 3, pos := "ref.go:96", after := #[{ on := 3, ground := Ground.data }], guard := none } : Oper)) (v := ?_) rfl (by kernel_rfl) (by kernel_rfl) (by kernel_rfl) (fun _ _ _ h => h) (Or.inl ⟨by rfl, ?_⟩) (by assumption) ?_
      rotate_left 1
      · (intro u hSw; go_simp; try with_reducible rfl)
      try simp only [Act.put, List.setIfInBounds_toArray, List.set_cons_zero, List.set_cons_succ]
      refine wpAnyH_take (i := 5) (oi := ({ dst := some 23, op := Op.move (Operand.tmp 1), type := 32, pos := "ref.go:96", after := #[], guard := none } : Oper)) (v := ?_) rfl (by kernel_rfl) (by kernel_rfl) (by kernel_rfl) (fun _ _ _ h => h) (Or.inl ⟨by rfl, ?_⟩) (by assumption) ?_
      rotate_left 1
      · (intro u hSw; go_simp; try with_reducible rfl)
      try simp only [Act.put, List.setIfInBounds_toArray, List.set_cons_zero, List.set_cons_succ]
      refine wpAnyH_take (i := 6) (oi := ({ dst := some 24, op := Op.move (Operand.tmp 5), type := 3, pos := "ref.go:96", after := #[], guard := none } : Oper)) (v := ?_) rfl (by kernel_rfl) (by kernel_rfl) (by kernel_rfl) (fun _ _ _ h => h) (Or.inl ⟨by rfl, ?_⟩) (by assumption) ?_
      rotate_left 1
      · (intro u hSw; go_simp; try with_reducible rfl)
      try simp only [Act.put, List.setIfInBounds_toArray, List.set_cons_zero, List.set_cons_succ]
      refine wpAnyH_take (i := 7) (oi := ({ dst := some 25, op := Op.indexAddr 32 (Operand.tmp 23) (Operand.tmp 24), type := 0, pos := "ref.go:96", after := #[{ on := 5, ground := Ground.data }, { on := 6, ground := Ground.data }], guard := none } : Oper)) (v := ?_) rfl (by kernel_rfl) (by kernel_rfl) (by kernel_rfl) (fun _ _ _ h => h) (Or.inl ⟨by rfl, ?_⟩) (by assumption) ?_
      rotate_left 1
      · (intro u hSw; go_simp; try with_reducible rfl)
      try simp only [Act.put, List.setIfInBounds_toArray, List.set_cons_zero, List.set_cons_succ]
      refine wpAnyH_take (i := 8) (oi := ({ dst := some 26, op := Op.load 34 (Operand.tmp 25), type := 34, pos := "ref.go:96", after := #[{ on := 7, ground := Ground.data }], guard := none } : Oper)) (v := ?_) rfl (by kernel_rfl) (by kernel_rfl) (by kernel_rfl) (fun _ _ _ h => h) (Or.inl ⟨by rfl, ?_⟩) (by assumption) ?_
      rotate_left 1
      · (intro u hSw; have a0 := (hSw.cell (p := ⟨Ha, 0, none⟩) hla).trans HA0.out; have b0 := (hSw.cell (p := ⟨Hb, 0, none⟩) hlb).trans HB0.out; go_simp; try with_reducible rfl)
      try simp only [Act.put, List.setIfInBounds_toArray, List.set_cons_zero, List.set_cons_succ]
      refine wpAnyH_take (i := 9) (oi := ({ dst := some 27, op := Op.call { callee := Callee.builtin Builtin.len, args := #[Operand.tmp 26], argTypes := #[34] }, type := 3, pos := "ref.go:96", after := #[{ on := 8, ground := Ground.data }], guard := none } : Oper)) (v := ?_) rfl (by kernel_rfl) (by kernel_rfl) (by kernel_rfl) (fun _ _ _ h => h) (Or.inl ⟨by rfl, ?_⟩) (by assumption) ?_
      rotate_left 1
      · (intro u hSw; go_simp; try with_reducible rfl)
      try simp only [Act.put, List.setIfInBounds_toArray, List.set_cons_zero, List.set_cons_succ]
      refine wpAnyH_take (i := 10) (oi := ({ dst := some 28, op := Op.binOp BinOp.neq 3 (Operand.tmp 22) (Operand.tmp 27) 3, type := 4, pos := "ref.go:96", after := #[{ on := 4, ground := Ground.data }, { on := 9, ground := Ground.data }], guard := none } : Oper)) (v := ?_) rfl (by kernel_rfl) (by kernel_rfl) (by kernel_rfl) (fun _ _ _ h => h) (Or.inl ⟨by rfl, ?_⟩) (by assumption) ?_
      rotate_left 1
      · (intro u hSw; go_simp; try with_reducible rfl)
      try simp only [Act.put, List.setIfInBounds_toArray, List.set_cons_zero, List.set_cons_succ]
      refine wpAnyH_done (by kernel_rfl) ?_ _
      clear a0 b0
      have HB1 := Lib.hid hHeld
      clear hHeld
      go_wp2_with fail
      go_loopw [6] (fun j wi => ∃ k : Nat, k ≤ n ∧ j = .int .i64 (k : Int) ∧ Below w.heap.size w wi) (fun j _ => n - (intOf j).toNat)
      case atStart => exact ⟨0, Nat.zero_le _, rfl, HB1.out⟩
      case round =>
        obtain ⟨k, hk, rfl, hbi⟩ := hrel
        have a0 := (hbi.cell (p := ⟨Ha, 0, none⟩) hla).trans HA0.out
        have b0 := (hbi.cell (p := ⟨Hb, 0, none⟩) hlb).trans HB0.out
        have HBI := Lib.hid hbi
        clear hbi
        by_cases hlt : k < n
        · obtain ⟨b1, o1, rfl, hb1, hd1⟩ := HCA.out (by omega)
          obtain ⟨b2, o2, rfl, hb2, hd2⟩ := HCB.out (by omega)
          obtain ⟨x, hx⟩ : ∃ x, l[k]? = some x := ⟨_, List.getElem?_eq_getElem (by rw [HN.out]; exact hlt)⟩
          have HP := Lib.hid (hd1 k x hx)
          have HQ := Lib.hid (hd2 k x hx)
          have he := fun (u : World) => run_neq32 u x x (HOK.out x (List.mem_of_getElem? hx)).1 (HOK.out x (List.mem_of_getElem? hx)).1
          simp only [decide_true, Bool.not_true] at he
          have hkn : (k : Int) < (n : Int) := by omega
          have hcn1 : (n : Int) ≤ (ca : Int) := by omega
          have hcn2 : (n : Int) ≤ (cb : Int) := by omega
          clear hd1 hd2 hx
          go_wp2_with fail
          refine wp_region_held_drew (S := fun u => Below w.heap.size w u) (by kernel_rfl) (HBI.out.drew) (fun hHeld => ?_)
          refine wpAnyH_take (i := 0) (oi := ({ dst := some 38, op := Op.move (Operand.tmp 0), type := 32, pos := "ref.go:100", after := #[], guard := none } : Oper)) (v := ?_) rfl (by kernel_rfl) (by kernel_rfl) (by kernel_rfl) (fun _ _ _ h => h) (Or.inl ⟨by rfl, ?_⟩) (by assumption) ?_
          rotate_left 1
          · (intro u hSw; go_simp; try with_reducible rfl)
          try simp only [Act.put, List.setIfInBounds_toArray, List.set_cons_zero, List.set_cons_succ]
          refine wpAnyH_take (i := 1) (oi := ({ dst := some 39, op := Op.move (Operand.tmp 5), type := 3, pos := "ref.go:100", after := #[], guard := none } : Oper)) (v := ?_) rfl (by kernel_rfl) (by kernel_rfl) (by kernel_rfl) (fun _ _ _ h => h) (Or.inl ⟨by rfl, ?_⟩) (by assumption) ?_
          rotate_left 1
          · (intro u hSw; go_simp; try with_reducible rfl)
          try simp only [Act.put, List.setIfInBounds_toArray, List.set_cons_zero, List.set_cons_succ]
          refine wpAnyH_take (i := 2) (oi := ({ dst := some 40, op := Op.indexAddr 32 (Operand.tmp 38) (Operand.tmp 39), type := 0, pos := "ref.go:100", after := #[{ on := 0, ground := Ground.data }, { on := 1, ground := Ground.data }], guard := none } : Oper)) (v := ?_) rfl (by kernel_rfl) (by kernel_rfl) (by kernel_rfl) (fun _ _ _ h => h) (Or.inl ⟨by rfl, ?_⟩) (by assumption) ?_
          rotate_left 1
          · (intro u hSw; go_simp; try with_reducible rfl)
          try simp only [Act.put, List.setIfInBounds_toArray, List.set_cons_zero, List.set_cons_succ]
          refine wpAnyH_take (i := 3) (oi := ({ dst := some 41, op := Op.load 34 (Operand.tmp 40), type := 34, pos := "ref.go:100", after := #[{ on := 2, ground := Ground.data }], guard := none } : Oper)) (v := ?_) rfl (by kernel_rfl) (by kernel_rfl) (by kernel_rfl) (fun _ _ _ h => h) (Or.inl ⟨by rfl, ?_⟩) (by assumption) ?_
          rotate_left 1
          · (intro u hSw; have a0 := (hSw.cell (p := ⟨Ha, 0, none⟩) hla).trans HA0.out; have b0 := (hSw.cell (p := ⟨Hb, 0, none⟩) hlb).trans HB0.out; have p0 := (hSw.cell (p := ⟨b1, o1 + k * 3, none⟩) hb1).trans HP.out.1; have p1 := (hSw.cell (p := ⟨b1, o1 + k * 3 + 1, none⟩) hb1).trans HP.out.2.1; have p2 := (hSw.cell (p := ⟨b1, o1 + k * 3 + 2, none⟩) hb1).trans HP.out.2.2; have q0 := (hSw.cell (p := ⟨b2, o2 + k * 3, none⟩) hb2).trans HQ.out.1; have q1 := (hSw.cell (p := ⟨b2, o2 + k * 3 + 1, none⟩) hb2).trans HQ.out.2.1; have q2 := (hSw.cell (p := ⟨b2, o2 + k * 3 + 2, none⟩) hb2).trans HQ.out.2.2; go_simp; try with_reducible rfl)
          try simp only [Act.put, List.setIfInBounds_toArray, List.set_cons_zero, List.set_cons_succ]
          refine wpAnyH_take (i := 4) (oi := ({ dst := some 42, op := Op.move (Operand.tmp 6), type := 3, pos := "ref.go:100", after := #[], guard := none } : Oper)) (v := ?_) rfl (by kernel_rfl) (by kernel_rfl) (by kernel_rfl) (fun _ _ _ h => h) (Or.inl ⟨by rfl, ?_⟩) (by assumption) ?_
          rotate_left 1
          · (intro u hSw; go_simp; try with_reducible rfl)
          try simp only [Act.put, List.setIfInBounds_toArray, List.set_cons_zero, List.set_cons_succ]
          refine wpAnyH_take (i := 5) (oi := ({ dst := some 43, op := Op.indexAddr 34 (Operand.tmp 41) (Operand.tmp 42), type := 0, pos := "ref.go:100", after := #[{ on := 3, ground := Ground.data }, { on := 4, ground := Ground.data }], guard := none } : Oper)) (v := ?_) rfl (by kernel_rfl) (by kernel_rfl) (by kernel_rfl) (fun _ _ _ h => h) (Or.inl ⟨by rfl, ?_⟩) (by assumption) ?_
          rotate_left 1
          · (intro u hSw; go_simp; try with_reducible rfl)
          try simp only [Act.put, List.setIfInBounds_toArray, List.set_cons_zero, List.set_cons_succ]
          refine wpAnyH_take (i := 6) (oi := ({ dst := some 44, op := Op.load 23 (Operand.tmp 43), type := 23, pos := "ref.go:100", after := #[{ on := 5, ground := Ground.data }], guard := none } : Oper)) (v := ?_) rfl (by kernel_rfl) (by kernel_rfl) (by kernel_rfl) (fun _ _ _ h => h) (Or.inl ⟨by rfl, ?_⟩) (by assumption) ?_
          rotate_left 1
          · (intro u hSw; have a0 := (hSw.cell (p := ⟨Ha, 0, none⟩) hla).trans HA0.out; have b0 := (hSw.cell (p := ⟨Hb, 0, none⟩) hlb).trans HB0.out; have p0 := (hSw.cell (p := ⟨b1, o1 + k * 3, none⟩) hb1).trans HP.out.1; have p1 := (hSw.cell (p := ⟨b1, o1 + k * 3 + 1, none⟩) hb1).trans HP.out.2.1; have p2 := (hSw.cell (p := ⟨b1, o1 + k * 3 + 2, none⟩) hb1).trans HP.out.2.2; have q0 := (hSw.cell (p := ⟨b2, o2 + k * 3, none⟩) hb2).trans HQ.out.1; have q1 := (hSw.cell (p := ⟨b2, o2 + k * 3 + 1, none⟩) hb2).trans HQ.out.2.1; have q2 := (hSw.cell (p := ⟨b2, o2 + k * 3 + 2, none⟩) hb2).trans HQ.out.2.2; go_simp; try with_reducible rfl)
          try simp only [Act.put, List.setIfInBounds_toArray, List.set_cons_zero, List.set_cons_succ]
          refine wpAnyH_take (i := 7) (oi := ({ dst := some 45, op := Op.move (Operand.tmp 1), type := 32, pos := "ref.go:100", after := #[], guard := none } : Oper)) (v := ?_) rfl (by kernel_rfl) (by kernel_rfl) (by kernel_rfl) (fun _ _ _ h => h) (Or.inl ⟨by rfl, ?_⟩) (by assumption) ?_
          rotate_left 1
          · (intro u hSw; go_simp; try with_reducible rfl)
          try simp only [Act.put, List.setIfInBounds_toArray, List.set_cons_zero, List.set_cons_succ]
          refine wpAnyH_take (i := 8) (oi := ({ dst := some 46, op := Op.move (Operand.tmp 5), type := 3, pos := "ref.go:100", after := #[], guard := none } : Oper)) (v := ?_) rfl (by kernel_rfl) (by kernel_rfl) (by kernel_rfl) (fun _ _ _ h => h) (Or.inl ⟨by rfl, ?_⟩) (by assumption) ?_
          rotate_left 1
          · (intro u hSw; go_simp; try with_reducible rfl)
          try simp only [Act.put, List.setIfInBounds_toArray, List.set_cons_zero, List.set_cons_succ]
          refine wpAnyH_take (i := 9) (oi := ({ dst := some 47, op := Op.indexAddr 32 (Operand.tmp 45) (Operand.tmp 46), type := 0, pos := "ref.go:100", after := #[{ on := 7, ground := Ground.data }, { on := 8, ground := Ground.data }], guard := none } : Oper)) (v := ?_) rfl (by kernel_rfl) (by kernel_rfl) (by kernel_rfl) (fun _ _ _ h => h) (Or.inl ⟨by rfl, ?_⟩) (by assumption) ?_
          rotate_left 1
          · (intro u hSw; go_simp; try with_reducible rfl)
          try simp only [Act.put, List.setIfInBounds_toArray, List.set_cons_zero, List.set_cons_succ]
          refine wpAnyH_take (i := 10) (oi := ({ dst := some 48, op := Op.load 34 (Operand.tmp 47), type := 34, pos := "ref.go:100", after := #[{ on := 9, ground := Ground.data }], guard := none } : Oper)) (v := ?_) rfl (by kernel_rfl) (by kernel_rfl) (by kernel_rfl) (fun _ _ _ h => h) (Or.inl ⟨by rfl, ?_⟩) (by assumption) ?_
          rotate_left 1
          · (intro u hSw; have a0 := (hSw.cell (p := ⟨Ha, 0, none⟩) hla).trans HA0.out; have b0 := (hSw.cell (p := ⟨Hb, 0, none⟩) hlb).trans HB0.out; have p0 := (hSw.cell (p := ⟨b1, o1 + k * 3, none⟩) hb1).trans HP.out.1; have p1 := (hSw.cell (p := ⟨b1, o1 + k * 3 + 1, none⟩) hb1).trans HP.out.2.1; have p2 := (hSw.cell (p := ⟨b1, o1 + k * 3 + 2, none⟩) hb1).trans HP.out.2.2; have q0 := (hSw.cell (p := ⟨b2, o2 + k * 3, none⟩) hb2).trans HQ.out.1; have q1 := (hSw.cell (p := ⟨b2, o2 + k * 3 + 1, none⟩) hb2).trans HQ.out.2.1; have q2 := (hSw.cell (p := ⟨b2, o2 + k * 3 + 2, none⟩) hb2).trans HQ.out.2.2; go_simp; try with_reducible rfl)
          try simp only [Act.put, List.setIfInBounds_toArray, List.set_cons_zero, List.set_cons_succ]
          refine wpAnyH_take (i := 11) (oi := ({ dst := some 49, op := Op.move (Operand.tmp 6), type := 3, pos := "ref.go:100", after := #[], guard := none } : Oper)) (v := ?_) rfl (by kernel_rfl) (by kernel_rfl) (by kernel_rfl) (fun _ _ _ h => h) (Or.inl ⟨by rfl, ?_⟩) (by assumption) ?_
          rotate_left 1
          · (intro u hSw; go_simp; try with_reducible rfl)
          try simp only [Act.put, List.setIfInBounds_toArray, List.set_cons_zero, List.set_cons_succ]
          refine wpAnyH_take (i := 12) (oi := ({ dst := some 50, op := Op.indexAddr 34 (Operand.tmp 48) (Operand.tmp 49), type := 0, pos := "ref.go:100", after := #[{ on := 10, ground := Ground.data }, { on := 11, ground := Ground.data }], guard := none } : Oper)) (v := ?_) rfl (by kernel_rfl) (by kernel_rfl) (by kernel_rfl) (fun _ _ _ h => h) (Or.inl ⟨by rfl, ?_⟩) (by assumption) ?_
          rotate_left 1
          · (intro u hSw; go_simp; try with_reducible rfl)
          try simp only [Act.put, List.setIfInBounds_toArray, List.set_cons_zero, List.set_cons_succ]
          refine wpAnyH_take (i := 13) (oi := ({ dst := some 51, op := Op.load 23 (Operand.tmp 50), type := 23, pos := "ref.go:100", after := #[{ on := 12, ground := Ground.data }], guard := none } : Oper)) (v := ?_) rfl (by kernel_rfl) (by kernel_rfl) (by kernel_rfl) (fun _ _ _ h => h) (Or.inl ⟨by rfl, ?_⟩) (by assumption) ?_
          rotate_left 1
          · (intro u hSw; have a0 := (hSw.cell (p := ⟨Ha, 0, none⟩) hla).trans HA0.out; have b0 := (hSw.cell (p := ⟨Hb, 0, none⟩) hlb).trans HB0.out; have p0 := (hSw.cell (p := ⟨b1, o1 + k * 3, none⟩) hb1).trans HP.out.1; have p1 := (hSw.cell (p := ⟨b1, o1 + k * 3 + 1, none⟩) hb1).trans HP.out.2.1; have p2 := (hSw.cell (p := ⟨b1, o1 + k * 3 + 2, none⟩) hb1).trans HP.out.2.2; have q0 := (hSw.cell (p := ⟨b2, o2 + k * 3, none⟩) hb2).trans HQ.out.1; have q1 := (hSw.cell (p := ⟨b2, o2 + k * 3 + 1, none⟩) hb2).trans HQ.out.2.1; have q2 := (hSw.cell (p := ⟨b2, o2 + k * 3 + 2, none⟩) hb2).trans HQ.out.2.2; go_simp; try with_reducible rfl)
          try simp only [Act.put, List.setIfInBounds_toArray, List.set_cons_zero, List.set_cons_succ]
          refine wpAnyH_take (i := 14) (oi := ({ dst := some 52, op := Op.binOp BinOp.neq 23 (Operand.tmp 44) (Operand.tmp 51) 23, type := 4, pos := "ref.go:100", after := #[{ on := 6, ground := Ground.data }, { on := 13, ground := Ground.data }], guard := none } : Oper)) (v := ?_) rfl (by kernel_rfl) (by kernel_rfl) (by kernel_rfl) (fun _ _ _ h => h) (Or.inl ⟨by rfl, ?_⟩) (by assumption) ?_
          rotate_left 1
          · (intro u hSw; go_simp; try with_reducible rfl)
          try simp only [Act.put, List.setIfInBounds_toArray, List.set_cons_zero, List.set_cons_succ]
          refine wpAnyH_done (by kernel_rfl) ?_ _
          have HH := Lib.hid hHeld
          clear hHeld
          go_wp2_with fail
          go_roundw
          case rel => exact ⟨k + 1, by omega, by go_num, HH.out⟩
          case measure => simp [intOf]; omega
        · have hkn : k = n := by omega
          subst hkn
          have hcn : decide ((k : Int) < (k : Int)) = false := decide_eq_false (by omega)
          go_wp2_with fail
          go_roundw
          case rel => exact ⟨.inr rfl, HBI.out⟩
          case measure => simp [intOf]
    · go_wp2_with fail
      go_ret
      exact ⟨rfl, HBW.out⟩
end Go.Proofs.Ytbhilmgpmebaiaa
namespace Go.Proofs.Ytbhilmgpmebaiaa
open Go.RowKit
attribute [local go_sem ↓] eql32_eq neq32_eq
theorem hp_2v (w : World) (a b : Obj) : ((w.alloc a).alloc b).heap[w.heap.size + 1]? = some b := by
  have h := heap_alloc_new (w.alloc a) b
  rw [show (w.alloc a).heap.size = w.heap.size + 1 by simp] at h
  exact h
theorem extL_rng (c : Int) : ∀ (r : List Val) (b : Val), Rng b.s → (∀ x ∈ r, Rng x.s) → Rng (extL c b r).1.s
  | [], b, hb, _ => hb
  | v :: r, b, hb, h => by
    rw [extL]
    split
    · exact fun x hx => by simp [nulV] at hx
    · refine extL_rng c r _ ?_ (fun x hx => h x (List.mem_cons_of_mem _ hx))
      split
      · exact h v List.mem_cons_self
      · exact hb
theorem extR_rng (c : Int) (s : List Val) (h : ∀ x ∈ s, Rng x.s) : Rng (extR c s).1.s := by
  cases s with
  | nil => exact fun x hx => by simp [extR, nulV] at hx
  | cons a r => exact extL_rng c _ a (h a List.mem_cons_self) h
theorem rng_nil {v : Val} (h : v.s = []) : Rng v.s := by rw [h]; exact fun x hx => by simp at hx
theorem foldR_rng (op : Int) (l : List Val) (h : ∀ x ∈ l, x.OK) : Rng (foldR op l).1.s := by
  have hs := fun x hx => (someV_ok h x hx).1.1
  unfold foldR sumR cnS
  repeat' split
  all_goals first | exact rng_nil rfl | exact extR_rng _ _ hs
set_option maxRecDepth 100000 in
set_option maxHeartbeats 6400000 in
theorem folds_walk (op : Int) (v : Value) (l : List Val) (w : World) (hv : Rw w v l) (ho : ∀ x ∈ l, x.OK) (hl : l.length ≤ 1073741824) (hsl : ∀ x ∈ l, x.s.length ≤ 1099511627776) :
    Calls Try.prog 4 #[.int .i64 op, v] w fun e w' => e = .returned (.bool true) ∧ Below w.heap.size w w' := by
  obtain ⟨i0, hi, hz0, hz1, hz2⟩ := info_parts info32
  have HV := Lib.hid (fun u (hu : Below w.heap.size w u) => hv.below hu)
  have HL := Lib.hid hl
  have hf := fun v' u (h : Rw u v' l) => fold_any op v' l u h ho hl hsl
  have hg := fun v' u (h : Rw u v' l) => rfold_any op v' l u h ho hl hsl
  have hrg := foldR_rng op l ho
  generalize foldR op l = R at *
  obtain ⟨d, er⟩ := R
  dsimp only at hf hg hrg
  have he := fun (u : World) => run_eql32 u d d hrg hrg
  simp only [decide_true] at he
  have HF := Lib.hid hf
  have HG := Lib.hid hg
  have HS := Lib.hid (fun va vb u Ha Hb T h1 h2 h3 h4 => rsame_one va vb l u Ha Hb T h1 h2 h3 h4 ho hl)
  obtain ⟨a0, cap0, rfl, hcap0, hce0⟩ := hv
  clear hf hg hrg ho hl hsl hcap0 hce0
  go_enter Try.func4, Try.ntmps4
  go_wp2_with (first
    | (go_at_call 12; refine (awake_any _).mono ?_; rintro e w2 ⟨rfl, hb2⟩; have hs2 := hb2.size; have HB2 := Lib.hid hb2; clear hb2)
    | (refine wpList_build_empty (o := ⟨some 12, _, _, _, _, _⟩) rfl 29 23 3 rfl buildV ?_; intro v12 w3 ho3 hb3 hob3 hs3; have O3 := Lib.hid (show OwnR w3 w2.heap.size v12 [] from ho3); have B3 := Lib.hid (bl_tr HB2.out hb3); have S3 := Lib.hid hb3.size; clear ho3 hb3 hob3 hs3)
    | (at_builtin; refine wpList_append_rw (o := ⟨some 14, _, _, _, _, _⟩) rfl (Operand.tmp 12) (Operand.tmp 13) 29 rfl w2.heap.size i0 Try.underlying29 hi hz0 hz1 hz2 _ [] rfl O3.out _ l rfl (HV.out _ B3.out) (by have := HL.out; simp only [List.length_nil]; omega) S3.out ?_; intro v14 w4 hown4 hg4; have hr4 := hown4.rw; rw [List.nil_append] at hr4; have h4 := (B3.out.size); have HB4 := Lib.hid (B3.out.grown hg4 (by omega) (fun g hg => (by have := (O3.out.lt g hg).1; omega))); obtain ⟨a14, c14, rfl, hc14, hce14⟩ := id hr4; have HR4 := Lib.hid hr4; clear hown4 hg4 hr4 hc14 hce14 h4)
    | (go_at_call 15; refine (HF.out _ _ HR4.out).mono ?_; rintro e w5 ⟨rfl, hb5⟩; have HR5 := Lib.hid (HR4.out.below hb5); have HB5 := Lib.hid (HB4.out.trans (hb5.mono HB4.out.size)); clear hb5)
    | (go_at_call 16; refine (HG.out _ _ (HV.out _ (bl_al HB5.out _))).mono ?_; rintro e w6 ⟨rfl, hb6⟩; have hx := kp (heap_alloc_new w5 (BX d.k d.n (str d.s))) hb6; obtain ⟨x0, x1, x2⟩ := bx_cells (hp_al hx (BX d.k d.n (str d.s))); have hr7 := (HR5.out.below ((Below.refl _ _).alloc (Nat.le_refl _) (BX d.k d.n (str d.s)))).below hb6; have HB7 := Lib.hid (bl_al (bl_tr (bl_al HB5.out (BX d.k d.n (str d.s))) hb6) (BX d.k d.n (str d.s))); have HR7 := Lib.hid (hr7.below ((Below.refl _ _).alloc (Nat.le_refl _) (BX d.k d.n (str d.s)))); clear hb6 hx hr7)
    | (go_at_call 17; refine (HS.out _ _ _ _ _ _ (hp_al (hp_2v _ _ _) _) (hp_3 _ _ _ _) ((HR7.out.below ((Below.refl _ _).alloc (Nat.le_refl _) _)).below ((Below.refl _ _).alloc (Nat.le_refl _) _)) (HV.out _ (bl_al (bl_al HB7.out _) _))).mono ?_; rintro e w8 ⟨rfl, hb8⟩; have HB8 := Lib.hid (bl_tr (bl_al (bl_al HB7.out _) _) hb8); clear hb8))
  go_ret
  exact ⟨rfl, HB8.out⟩
end Go.Proofs.Ytbhilmgpmebaiaa
namespace Go.Proofs.Ytbhilmgpmebaiaa
open Go.ChangeShapes Go.WideShapes Go.ChangeAt Go.RowKit Go.Deep
namespace plainValueFolds
set_option maxRecDepth 100000 in
theorem contract (H : Type) (enc : TypeId × Value → H) (W : World) (base : Nat) (args : Array Value) (ds gs : List (DataW H)) (before : List MemPlace)
    (hval : ∀ (j : Nat) t v, Try.f4.params[j]? = some t → args[j]? = some v → Value.okWide Try.prog W .any base t v)
    (hW : DataW.Whole enc Try.prog Try.f4.params.toList Rows.valueFoldsSpec.vars false W args.toList ds gs before) (hk : Rows.uptoSmall H (ds ++ gs) = true) :
    Calls Try.prog 4 args W fun e W' => ∃ v, e = .returned v ∧ Rows.valueFoldsSpec.post enc Try.prog Try.f4 false true false false W args v W' := by
  have hW' := hW
  obtain ⟨p, q, hA0, hV, rfl, hfz, hnd⟩ := hW
  have hA : DataW.TrodAll enc Try.prog W 0 (fun _ => true) true Try.f4.params.toList args.toList ds p := hA0
  rw [Try.params4] at hA hval
  obtain ⟨v0, vs0, d0, ds0, p0, q0, hargs, rfl, rfl, h0, r0⟩ := trodAll_cons hA
  obtain ⟨v1, vs1, d1, ds1, p1, q1, rfl, rfl, rfl, h1, r1⟩ := trodAll_cons r0
  obtain ⟨rfl, rfl, rfl⟩ := trodAll_nil r1
  obtain rfl : args = #[v0, v1] := by cases args; simp_all
  obtain ⟨rfl, rfl⟩ := trodVars_none hV
  have hbulk : Rows.uptoBulkAll ([d0, d1] ++ []) ≤ 1048576 := of_decide_eq_true hk
  simp only [List.append_nil, Rows.uptoBulkAll] at hbulk
  obtain ⟨a0, rfl, rfl, rfl, g0⟩ := open_int Try.underlying3 (hval 0 3 v0 rfl rfl) h0
  replace g0 := i64_of_wf g0
  obtain ⟨a1, b1, g1, c1⟩ := rwv_of_trod (hval 1 29 v1 rfl rfl) h1
  refine (folds_walk a0 v1 a1 W b1 (fun x hx => (g1 x hx).1) (by omega) (fun x hx => by have := (g1 x hx).2; omega)).mono fun e W' ⟨he, hb⟩ => ⟨_, he, ?_⟩
  exact law_post (T := 4) laidOut (by rw [Try.params4]; decide +kernel) rfl rfl Try.underlying4 (fun gs h => by subst h; rfl) hW' hb
set_option maxRecDepth 100000 in
theorem lifted (os : Os) (started : os.Started) (H : Type) (enc : TypeId × Value → H) (F : Stop.Interp) :
    ReturnsInHanded {} Try.checked os 4 .any ((Rows.OpenSpec.upto Rows.valueFoldsSpec).pre6 enc Try.prog Try.f4 Rows.valueFoldsUptoRow.domain false) (((Rows.OpenSpec.upto Rows.valueFoldsSpec).at F).post enc Try.prog Try.f4 false true false false) := by
  refine returnsInHanded_of_cond (C := Try.checked) (s := Rows.OpenSpec.upto Rows.valueFoldsSpec) (k := Rows.uptoSmall) rfl own started (by kernel_rfl) Try.func4
    (OpenSpec.witness (enc := enc) (C := Try.checked) (s := Rows.OpenSpec.upto Rows.valueFoldsSpec) (k := Rows.uptoSmall) rfl false ⟨#[], #[.int .i64 0, .slice none 0 0], []⟩ 8 (by kernel_rfl) (by kernel_rfl) (by kernel_rfl)
      (x := ([.lit (.int .i64 0), .nil], [], [])) (by kernel_rfl) rfl (by kernel_rfl)) ?_
  intro W base args ds gs before hval hW _ hk _
  exact contract H enc W base args ds gs before hval hW hk
theorem over : Rows.valueFoldsUptoRow.holds Try.pinned (Rows.OpenSpec.upto Rows.valueFoldsSpec) :=
  OpenClaim.holds_of_cond 4 Try.f4 rfl rfl rfl rfl rfl rfl rfl ⟨rfl, rfl, rfl, rfl, rfl⟩ rfl rfl rfl rfl rfl (by kernel_rfl) Try.func4 (by kernel_rfl)
    (of_decide_eq_true (by kernel_rfl)) (by unfold Func.isWrapper; first | (rw [if_pos (by decide +kernel)]; kernel_rfl) | (rw [if_neg (by decide +kernel)]; exact ⟨rfl, rfl⟩))
    (fun os started H enc _ F => lifted os started H enc F)
/-- the statement, its second form -/
theorem proved : Rows.ValueFoldsUptoSaid := over
end plainValueFolds
theorem valueFoldsUpto : Rows.ValueFoldsUptoSaid := plainValueFolds.proved
end Go.Proofs.Ytbhilmgpmebaiaa
