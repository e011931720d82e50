/- the reference's pager: Commit -/
import Derived.Test.YtdkjkibdncbibaaGreatCm23
import Derived.Test.YtdkjkibdncbibaaGreatCm24
import Derived.Test.YtdkjkibdncbibaaGreatCm26
namespace Go.Proofs.YtdkjkibdncbibaaGreat
open Go.RowKit
open Go.Lib (hid)
/-- what the reference's Commit leaves -/
def RCmEnds (w : World) (B P gn gw : Nat) (nv wv : Value) (ar us : Int) (now was : List (List Int)) (d : Nat) (e : Ending) (w' : World) : Prop :=
 Chg (fun q => q = P) w w' ∧
 ((d = 0 ∧ e = .returned (.int .i64 0) ∧ RPw w' B P gn gw nv wv ar us now was) ∨
  (0 < d ∧ ar < 8 + 264 * (d : Int) ∧ e = .returned (.int .i64 42) ∧ ∃ g' nv', RPw w' B P g' gw nv' wv ar 0 was was ∧ w.heap.size ≤ g') ∨
  (0 < d ∧ 8 + 264 * (d : Int) ≤ ar ∧ e = .returned (.int .i64 0) ∧ ∃ g' wv', RPw w' B P gn g' nv wv' ar ((if ar < us + (8 + 264 * (d : Int)) then 0 else us) + (8 + 264 * (d : Int))) now now ∧ w.heap.size ≤ g'))
theorem Chg.usedP {P : Nat} {a b c : World} (h : Chg (fun q => q = P) a b) (k : Chg (fun q => q = P) b c) : Chg (fun q => q = P) a c := h.trans k (fun _ h => .inl h)
set_option maxRecDepth 100000 in
set_option maxHeartbeats 2000000 in
theorem rcommit_any (B P gn gw : Nat) (nv wv : Value) (ar us : Int) (now was : List (List Int)) (w : World) (h : RPw w B P gn gw nv wv ar us now was) (hl4 : now.length ≤ 4096) (hu0 : 0 ≤ us) (hua : us ≤ ar) (har : ar ≤ 1048576) :
  Calls Tryz.prog 48 #[.pointer (some ⟨P, 0, none⟩)] w fun e w' => RCmEnds w B P gn gw nv wv ar us now was (difL now was now.length) e w' := by
 have HH := hid h
 have HCH := hid (rchanged_any B P gn gw nv wv ar us now was w h hl4)
 have HL4 := hid hl4
 have hdl := difL_le now was now.length
 obtain ⟨cap, rfl⟩ := h.pg.nw.1
 obtain ⟨capw, rfl⟩ := h.ws.1
 generalize difL now was now.length = d at *
 clear h
 by_cases hd : d = 0
 ·subst hd
  clear hdl
  go_enter Tryz.func48, Tryz.ntmps48
  go_wp2_with fail
  refine HCH.out.mono ?_
  rintro e w1 ⟨rfl, hb⟩
  have HB := hid hb
  clear hb
  go_wp2_with fail
  go_ret
  unfold RCmEnds
  exact ⟨Chg.fresh HB.out, .inl ⟨rfl, rfl, HH.out.fresh HB.out⟩⟩
 ·have hdz : ((d : Int) == 0) = false := by simpa using hd
  have HDP := hid (show 0 < d by omega)
  obtain ⟨q, hq⟩ : ∃ q : Int, 8 + 264 * (d : Int) = q := ⟨_, rfl⟩
  have hw1 : IntKind.i64.wrap (264 * (d : Int)) = 264 * (d : Int) := wrap_i64 _ (by omega) (by omega)
  have hw2 : IntKind.i64.wrap (8 + 264 * (d : Int)) = q := by rw [hq]; exact wrap_i64 _ (by omega) (by omega)
  have hw3 : IntKind.i64.wrap (us + q) = us + q := wrap_i64 _ (by omega) (by omega)
  have hw5 : IntKind.i64.wrap q = q := wrap_i64 _ (by omega) (by omega)
  have hq0 : 0 ≤ q := by omega
  have HQ := hid hq
  clear hq hd hdl
  by_cases hg : us + q > ar
  ·have HG := hid hg
   by_cases hf : q > ar
   ·have HF := hid hf
    clear hu0 hua har hq0
    go_enter Tryz.func48, Tryz.ntmps48
    go_wp2_with fail
    refine HCH.out.mono ?_
    rintro e w1 ⟨rfl, hb⟩
    have HB2 := hid (show Below w.heap.size w w1.drew from hb.drew)
    have h2 := HH.out.fresh HB2.out
    have HS := hid h2.pg.box
    have d2 := (cell_of_row _ P 2 _ _ _ h2.pg.box).trans (show (#[.slice (some ⟨gn, 0, none⟩) now.length cap, .slice (some ⟨gw, 0, none⟩) was.length capw, .int .i64 ar, .int .i64 us] : Array Value)[2]? = some (.int .i64 ar) from rfl)
    have d3 := (cell_of_row _ P 3 _ _ _ h2.pg.box).trans (show (#[.slice (some ⟨gn, 0, none⟩) now.length cap, .slice (some ⟨gw, 0, none⟩) was.length capw, .int .i64 ar, .int .i64 us] : Array Value)[3]? = some (.int .i64 us) from rfl)
    have d0 := (cell_of_row _ P 0 _ _ _ h2.pg.box).trans (show (#[.slice (some ⟨gn, 0, none⟩) now.length cap, .slice (some ⟨gw, 0, none⟩) was.length capw, .int .i64 ar, .int .i64 us] : Array Value)[0]? = some (.slice (some ⟨gn, 0, none⟩) now.length cap) from rfl)
    have f3 := frozen_of_row _ P 3 _ _ h2.pg.box
    clear hb
    have HU := hid (h2.used 0)
    have u2 := (cell_of_row _ P 2 _ _ _ HU.out.1.pg.box).trans (show (#[.slice (some ⟨gn, 0, none⟩) now.length cap, .slice (some ⟨gw, 0, none⟩) was.length capw, .int .i64 ar, .int .i64 0] : Array Value)[2]? = some (.int .i64 ar) from rfl)
    have u3 := (cell_of_row _ P 3 _ _ _ HU.out.1.pg.box).trans (show (#[.slice (some ⟨gn, 0, none⟩) now.length cap, .slice (some ⟨gw, 0, none⟩) was.length capw, .int .i64 ar, .int .i64 0] : Array Value)[3]? = some (.int .i64 0) from rfl)
    have g3 := frozen_of_row _ P 3 _ _ HU.out.1.pg.box
    have HAB := hid (rabort_any B P gn gw _ _ ar 0 now was _ HU.out.1 HL4.out)
    clear h2
    go_wp2_with fail
    refine wp_region_held_drew (S := fun u => u.heap[P]? = some (.cells #[.slice (some ⟨gn, 0, none⟩) now.length cap, .slice (some ⟨gw, 0, none⟩) was.length capw, .int .i64 ar, .int .i64 us] 44 (0, 0))) (by kernel_rfl) (HS.out) (fun hHeld => ?_)
    refine tk (i := 0) (oi := ⟨some 12, .move (.tmp 0), 33, "ref.go:122", #[], none⟩) (v := ?_) (Or.inl ⟨by rfl, ?_⟩) ?_
    rotate_left 1
    ·(intro u hSw; go_simp; try with_reducible rfl)
    try simp only [Act.put, sA, sB, sC]
    refine tk (i := 1) (oi := ⟨some 13, .nilCheck (.tmp 12), 0, "ref.go:122", #[⟨0, .data⟩], none⟩) (v := ?_) (Or.inl ⟨by rfl, ?_⟩) ?_
    rotate_left 1
    ·(intro u hSw; go_simp; try with_reducible rfl)
    try simp only [Act.put, sA, sB, sC]
    refine tk (i := 2) (oi := ⟨some 14, .fieldAddr 44 (.tmp 13) 3, 0, "ref.go:122", #[⟨1, .data⟩], none⟩) (v := ?_) (Or.inl ⟨by rfl, ?_⟩) ?_
    rotate_left 1
    ·(intro u hSw; go_simp; try with_reducible rfl)
    try simp only [Act.put, sA, sB, sC]
    refine tk (i := 3) (oi := ⟨some 15, .load 3 (.tmp 14), 3, "ref.go:122", #[⟨2, .data⟩], none⟩) (v := ?_) (Or.inl ⟨by rfl, ?_⟩) ?_
    rotate_left 1
    ·(intro u hSw; have p2 := (cell_of_row u P 2 _ _ _ hSw).trans (show (#[.slice (some ⟨gn, 0, none⟩) now.length cap, .slice (some ⟨gw, 0, none⟩) was.length capw, .int .i64 ar, .int .i64 us] : Array Value)[2]? = some (.int .i64 ar) from rfl); have p3 := (cell_of_row u P 3 _ _ _ hSw).trans (show (#[.slice (some ⟨gn, 0, none⟩) now.length cap, .slice (some ⟨gw, 0, none⟩) was.length capw, .int .i64 ar, .int .i64 us] : Array Value)[3]? = some (.int .i64 us) from rfl); go_simp; try with_reducible rfl)
    try simp only [Act.put, sA, sB, sC]
    refine tk (i := 4) (oi := ⟨some 16, .move (.tmp 4), 3, "ref.go:122", #[], none⟩) (v := ?_) (Or.inl ⟨by rfl, ?_⟩) ?_
    rotate_left 1
    ·(intro u hSw; go_simp; try with_reducible rfl)
    try simp only [Act.put, sA, sB, sC]
    refine tk (i := 5) (oi := ⟨some 17, .binOp BinOp.add 3 (.tmp 15) (.tmp 16) 3, 3, "ref.go:122", #[⟨3, .data⟩, ⟨4, .data⟩], none⟩) (v := ?_) (Or.inl ⟨by rfl, ?_⟩) ?_
    rotate_left 1
    ·(intro u hSw; go_simp; try with_reducible rfl)
    try simp only [Act.put, sA, sB, sC]
    refine tk (i := 6) (oi := ⟨some 18, .move (.tmp 0), 33, "ref.go:122", #[], none⟩) (v := ?_) (Or.inl ⟨by rfl, ?_⟩) ?_
    rotate_left 1
    ·(intro u hSw; go_simp; try with_reducible rfl)
    try simp only [Act.put, sA, sB, sC]
    refine tk (i := 7) (oi := ⟨some 19, .nilCheck (.tmp 18), 0, "ref.go:122", #[⟨6, .data⟩], none⟩) (v := ?_) (Or.inl ⟨by rfl, ?_⟩) ?_
    rotate_left 1
    ·(intro u hSw; go_simp; try with_reducible rfl)
    try simp only [Act.put, sA, sB, sC]
    refine tk (i := 8) (oi := ⟨some 20, .fieldAddr 44 (.tmp 19) 2, 0, "ref.go:122", #[⟨7, .data⟩], none⟩) (v := ?_) (Or.inl ⟨by rfl, ?_⟩) ?_
    rotate_left 1
    ·(intro u hSw; go_simp; try with_reducible rfl)
    try simp only [Act.put, sA, sB, sC]
    refine tk (i := 9) (oi := ⟨some 21, .load 3 (.tmp 20), 3, "ref.go:122", #[⟨8, .data⟩], none⟩) (v := ?_) (Or.inl ⟨by rfl, ?_⟩) ?_
    rotate_left 1
    ·(intro u hSw; have p2 := (cell_of_row u P 2 _ _ _ hSw).trans (show (#[.slice (some ⟨gn, 0, none⟩) now.length cap, .slice (some ⟨gw, 0, none⟩) was.length capw, .int .i64 ar, .int .i64 us] : Array Value)[2]? = some (.int .i64 ar) from rfl); have p3 := (cell_of_row u P 3 _ _ _ hSw).trans (show (#[.slice (some ⟨gn, 0, none⟩) now.length cap, .slice (some ⟨gw, 0, none⟩) was.length capw, .int .i64 ar, .int .i64 us] : Array Value)[3]? = some (.int .i64 us) from rfl); go_simp; try with_reducible rfl)
    try simp only [Act.put, sA, sB, sC]
    refine tk (i := 10) (oi := ⟨some 22, .binOp BinOp.gtr 3 (.tmp 17) (.tmp 21) 3, 4, "ref.go:122", #[⟨5, .data⟩, ⟨9, .data⟩], none⟩) (v := ?_) (Or.inl ⟨by rfl, ?_⟩) ?_
    rotate_left 1
    ·(intro u hSw; go_simp; try with_reducible rfl)
    try simp only [Act.put, sA, sB, sC]
    refine wpAnyH_done (by kernel_rfl) ?_ _
    generalize w1.drew = w2 at *
    go_wp2_with fail
    refine HAB.out.mono ?_
    rintro e w5 ⟨rfl, hE, hC⟩
    have HE := hid hE
    have HC := hid hC
    clear hE hC
    go_wp2_with fail
    go_ret
    obtain ⟨g', nv', k1, k2⟩ := HE.out
    unfold RCmEnds
    rw [HQ.out]
    exact ⟨((Chg.fresh HB2.out).usedP HU.out.2).usedP HC.out, .inr (.inl ⟨HDP.out, HF.out, rfl, g', nv', k1, Nat.le_trans (Nat.le_trans HB2.out.size HU.out.2.size) k2⟩)⟩
   ·have HF := hid (show q ≤ ar by omega)
    clear hu0 hua har hq0
    go_enter Tryz.func48, Tryz.ntmps48
    go_wp2_with fail
    refine HCH.out.mono ?_
    rintro e w1 ⟨rfl, hb⟩
    have HB2 := hid (show Below w.heap.size w w1.drew from hb.drew)
    have h2 := HH.out.fresh HB2.out
    have HS := hid h2.pg.box
    have d2 := (cell_of_row _ P 2 _ _ _ h2.pg.box).trans (show (#[.slice (some ⟨gn, 0, none⟩) now.length cap, .slice (some ⟨gw, 0, none⟩) was.length capw, .int .i64 ar, .int .i64 us] : Array Value)[2]? = some (.int .i64 ar) from rfl)
    have d3 := (cell_of_row _ P 3 _ _ _ h2.pg.box).trans (show (#[.slice (some ⟨gn, 0, none⟩) now.length cap, .slice (some ⟨gw, 0, none⟩) was.length capw, .int .i64 ar, .int .i64 us] : Array Value)[3]? = some (.int .i64 us) from rfl)
    have d0 := (cell_of_row _ P 0 _ _ _ h2.pg.box).trans (show (#[.slice (some ⟨gn, 0, none⟩) now.length cap, .slice (some ⟨gw, 0, none⟩) was.length capw, .int .i64 ar, .int .i64 us] : Array Value)[0]? = some (.slice (some ⟨gn, 0, none⟩) now.length cap) from rfl)
    have f3 := frozen_of_row _ P 3 _ _ h2.pg.box
    clear hb
    have HU := hid (h2.used 0)
    have u2 := (cell_of_row _ P 2 _ _ _ HU.out.1.pg.box).trans (show (#[.slice (some ⟨gn, 0, none⟩) now.length cap, .slice (some ⟨gw, 0, none⟩) was.length capw, .int .i64 ar, .int .i64 0] : Array Value)[2]? = some (.int .i64 ar) from rfl)
    have u3 := (cell_of_row _ P 3 _ _ _ HU.out.1.pg.box).trans (show (#[.slice (some ⟨gn, 0, none⟩) now.length cap, .slice (some ⟨gw, 0, none⟩) was.length capw, .int .i64 ar, .int .i64 0] : Array Value)[3]? = some (.int .i64 0) from rfl)
    have g3 := frozen_of_row _ P 3 _ _ HU.out.1.pg.box
    have HV := hid (HU.out.1.used q)
    obtain ⟨cap', g', w8, happ, hb8, hbl, hge⟩ := copy_bk _ 25 B gn _ now HV.out.1.pg.nw HV.out.1.pg.ne HL4.out (Nat.le_of_lt (Nat.lt_of_le_of_lt HV.out.1.pg.bp HV.out.1.pg.lt.1)) w1.drew.heap.size (by simp)
    have HD := hid (HV.out.1.done g' hbl hb8 hge)
    have HGE := hid hge
    have HAPP := hid happ
    have HSZ := hid (show w.heap.size ≤ _ from Nat.le_trans HB2.out.size (Nat.le_trans HU.out.2.size HV.out.2.size))
    have e0 := (cell_of_row _ P 0 _ _ _ (HV.out.1.fresh ((Below.refl _ _).alloc (Nat.le_refl _) (.cells #[] 50))).pg.box).trans (show (#[.slice (some ⟨gn, 0, none⟩) now.length cap, .slice (some ⟨gw, 0, none⟩) was.length capw, .int .i64 ar, .int .i64 q] : Array Value)[0]? = some (.slice (some ⟨gn, 0, none⟩) now.length cap) from rfl)
    have e1 := (cell_of_row _ P 1 _ _ _ (HV.out.1.fresh hbl).pg.box).trans (show (#[.slice (some ⟨gn, 0, none⟩) now.length cap, .slice (some ⟨gw, 0, none⟩) was.length capw, .int .i64 ar, .int .i64 q] : Array Value)[1]? = some (.slice (some ⟨gw, 0, none⟩) was.length capw) from rfl)
    have g1 := frozen_of_row w8 P 1 _ _ (HV.out.1.fresh hbl).pg.box
    clear happ hb8 hbl hge
    clear h2
    go_wp2_with fail
    refine wp_region_held_drew (S := fun u => u.heap[P]? = some (.cells #[.slice (some ⟨gn, 0, none⟩) now.length cap, .slice (some ⟨gw, 0, none⟩) was.length capw, .int .i64 ar, .int .i64 us] 44 (0, 0))) (by kernel_rfl) (HS.out) (fun hHeld => ?_)
    refine tk (i := 0) (oi := ⟨some 12, .move (.tmp 0), 33, "ref.go:122", #[], none⟩) (v := ?_) (Or.inl ⟨by rfl, ?_⟩) ?_
    rotate_left 1
    ·(intro u hSw; go_simp; try with_reducible rfl)
    try simp only [Act.put, sA, sB, sC]
    refine tk (i := 1) (oi := ⟨some 13, .nilCheck (.tmp 12), 0, "ref.go:122", #[⟨0, .data⟩], none⟩) (v := ?_) (Or.inl ⟨by rfl, ?_⟩) ?_
    rotate_left 1
    ·(intro u hSw; go_simp; try with_reducible rfl)
    try simp only [Act.put, sA, sB, sC]
    refine tk (i := 2) (oi := ⟨some 14, .fieldAddr 44 (.tmp 13) 3, 0, "ref.go:122", #[⟨1, .data⟩], none⟩) (v := ?_) (Or.inl ⟨by rfl, ?_⟩) ?_
    rotate_left 1
    ·(intro u hSw; go_simp; try with_reducible rfl)
    try simp only [Act.put, sA, sB, sC]
    refine tk (i := 3) (oi := ⟨some 15, .load 3 (.tmp 14), 3, "ref.go:122", #[⟨2, .data⟩], none⟩) (v := ?_) (Or.inl ⟨by rfl, ?_⟩) ?_
    rotate_left 1
    ·(intro u hSw; have p2 := (cell_of_row u P 2 _ _ _ hSw).trans (show (#[.slice (some ⟨gn, 0, none⟩) now.length cap, .slice (some ⟨gw, 0, none⟩) was.length capw, .int .i64 ar, .int .i64 us] : Array Value)[2]? = some (.int .i64 ar) from rfl); have p3 := (cell_of_row u P 3 _ _ _ hSw).trans (show (#[.slice (some ⟨gn, 0, none⟩) now.length cap, .slice (some ⟨gw, 0, none⟩) was.length capw, .int .i64 ar, .int .i64 us] : Array Value)[3]? = some (.int .i64 us) from rfl); go_simp; try with_reducible rfl)
    try simp only [Act.put, sA, sB, sC]
    refine tk (i := 4) (oi := ⟨some 16, .move (.tmp 4), 3, "ref.go:122", #[], none⟩) (v := ?_) (Or.inl ⟨by rfl, ?_⟩) ?_
    rotate_left 1
    ·(intro u hSw; go_simp; try with_reducible rfl)
    try simp only [Act.put, sA, sB, sC]
    refine tk (i := 5) (oi := ⟨some 17, .binOp BinOp.add 3 (.tmp 15) (.tmp 16) 3, 3, "ref.go:122", #[⟨3, .data⟩, ⟨4, .data⟩], none⟩) (v := ?_) (Or.inl ⟨by rfl, ?_⟩) ?_
    rotate_left 1
    ·(intro u hSw; go_simp; try with_reducible rfl)
    try simp only [Act.put, sA, sB, sC]
    refine tk (i := 6) (oi := ⟨some 18, .move (.tmp 0), 33, "ref.go:122", #[], none⟩) (v := ?_) (Or.inl ⟨by rfl, ?_⟩) ?_
    rotate_left 1
    ·(intro u hSw; go_simp; try with_reducible rfl)
    try simp only [Act.put, sA, sB, sC]
    refine tk (i := 7) (oi := ⟨some 19, .nilCheck (.tmp 18), 0, "ref.go:122", #[⟨6, .data⟩], none⟩) (v := ?_) (Or.inl ⟨by rfl, ?_⟩) ?_
    rotate_left 1
    ·(intro u hSw; go_simp; try with_reducible rfl)
    try simp only [Act.put, sA, sB, sC]
    refine tk (i := 8) (oi := ⟨some 20, .fieldAddr 44 (.tmp 19) 2, 0, "ref.go:122", #[⟨7, .data⟩], none⟩) (v := ?_) (Or.inl ⟨by rfl, ?_⟩) ?_
    rotate_left 1
    ·(intro u hSw; go_simp; try with_reducible rfl)
    try simp only [Act.put, sA, sB, sC]
    refine tk (i := 9) (oi := ⟨some 21, .load 3 (.tmp 20), 3, "ref.go:122", #[⟨8, .data⟩], none⟩) (v := ?_) (Or.inl ⟨by rfl, ?_⟩) ?_
    rotate_left 1
    ·(intro u hSw; have p2 := (cell_of_row u P 2 _ _ _ hSw).trans (show (#[.slice (some ⟨gn, 0, none⟩) now.length cap, .slice (some ⟨gw, 0, none⟩) was.length capw, .int .i64 ar, .int .i64 us] : Array Value)[2]? = some (.int .i64 ar) from rfl); have p3 := (cell_of_row u P 3 _ _ _ hSw).trans (show (#[.slice (some ⟨gn, 0, none⟩) now.length cap, .slice (some ⟨gw, 0, none⟩) was.length capw, .int .i64 ar, .int .i64 us] : Array Value)[3]? = some (.int .i64 us) from rfl); go_simp; try with_reducible rfl)
    try simp only [Act.put, sA, sB, sC]
    refine tk (i := 10) (oi := ⟨some 22, .binOp BinOp.gtr 3 (.tmp 17) (.tmp 21) 3, 4, "ref.go:122", #[⟨5, .data⟩, ⟨9, .data⟩], none⟩) (v := ?_) (Or.inl ⟨by rfl, ?_⟩) ?_
    rotate_left 1
    ·(intro u hSw; go_simp; try with_reducible rfl)
    try simp only [Act.put, sA, sB, sC]
    refine wpAnyH_done (by kernel_rfl) ?_ _
    generalize w1.drew = w2 at *
    go_wp2_with (first
     | (refine wpList_of_run rfl (exec_bslice 25 0 #[] rfl #[] rfl _ (run_empty_blocks _)) ?_)
     | (at_builtin; refine wpList_of_run rfl (exec_append (Operand.tmp 43) (Operand.tmp 47) 25 rfl _ _ rfl rfl HAPP.out) ?_))
    go_ret
    unfold RCmEnds
    rw [HQ.out]
    refine ⟨(((Chg.fresh HB2.out).usedP HU.out.2).usedP HV.out.2).usedP HD.out.2, .inr (.inr ⟨HDP.out, HF.out, rfl, g', .slice (some ⟨g', 0, none⟩) now.length cap', ?_, Nat.le_trans HSZ.out HGE.out⟩)⟩
    rw [if_pos (show ar < us + q from HG.out), Int.zero_add]
    exact HD.out.1
  ·have HG := hid (show ¬ ar < us + q by omega)
   have hf : ¬ q > ar := by omega
   have HF := hid (show q ≤ ar by omega)
   clear hu0 hua har hq0
   go_enter Tryz.func48, Tryz.ntmps48
   go_wp2_with fail
   refine HCH.out.mono ?_
   rintro e w1 ⟨rfl, hb⟩
   have HB2 := hid (show Below w.heap.size w w1.drew from hb.drew)
   have h2 := HH.out.fresh HB2.out
   have HS := hid h2.pg.box
   have d2 := (cell_of_row _ P 2 _ _ _ h2.pg.box).trans (show (#[.slice (some ⟨gn, 0, none⟩) now.length cap, .slice (some ⟨gw, 0, none⟩) was.length capw, .int .i64 ar, .int .i64 us] : Array Value)[2]? = some (.int .i64 ar) from rfl)
   have d3 := (cell_of_row _ P 3 _ _ _ h2.pg.box).trans (show (#[.slice (some ⟨gn, 0, none⟩) now.length cap, .slice (some ⟨gw, 0, none⟩) was.length capw, .int .i64 ar, .int .i64 us] : Array Value)[3]? = some (.int .i64 us) from rfl)
   have d0 := (cell_of_row _ P 0 _ _ _ h2.pg.box).trans (show (#[.slice (some ⟨gn, 0, none⟩) now.length cap, .slice (some ⟨gw, 0, none⟩) was.length capw, .int .i64 ar, .int .i64 us] : Array Value)[0]? = some (.slice (some ⟨gn, 0, none⟩) now.length cap) from rfl)
   have f3 := frozen_of_row _ P 3 _ _ h2.pg.box
   clear hb
   have HU := hid (⟨h2, Chg.refl (fun q => q = P) _⟩ : RPw w1.drew B P gn gw _ _ ar us now was ∧ Chg (fun q => q = P) w1.drew w1.drew)
   have HV := hid (h2.used (us + q))
   obtain ⟨cap', g', w8, happ, hb8, hbl, hge⟩ := copy_bk _ 25 B gn _ now HV.out.1.pg.nw HV.out.1.pg.ne HL4.out (Nat.le_of_lt (Nat.lt_of_le_of_lt HV.out.1.pg.bp HV.out.1.pg.lt.1)) w1.drew.heap.size (by simp)
   have HD := hid (HV.out.1.done g' hbl hb8 hge)
   have HGE := hid hge
   have HAPP := hid happ
   have HSZ := hid (show w.heap.size ≤ _ from Nat.le_trans HB2.out.size (Nat.le_trans HU.out.2.size HV.out.2.size))
   have e0 := (cell_of_row _ P 0 _ _ _ (HV.out.1.fresh ((Below.refl _ _).alloc (Nat.le_refl _) (.cells #[] 50))).pg.box).trans (show (#[.slice (some ⟨gn, 0, none⟩) now.length cap, .slice (some ⟨gw, 0, none⟩) was.length capw, .int .i64 ar, .int .i64 (us + q)] : Array Value)[0]? = some (.slice (some ⟨gn, 0, none⟩) now.length cap) from rfl)
   have e1 := (cell_of_row _ P 1 _ _ _ (HV.out.1.fresh hbl).pg.box).trans (show (#[.slice (some ⟨gn, 0, none⟩) now.length cap, .slice (some ⟨gw, 0, none⟩) was.length capw, .int .i64 ar, .int .i64 (us + q)] : Array Value)[1]? = some (.slice (some ⟨gw, 0, none⟩) was.length capw) from rfl)
   have g1 := frozen_of_row w8 P 1 _ _ (HV.out.1.fresh hbl).pg.box
   clear happ hb8 hbl hge
   clear h2
   go_wp2_with fail
   refine wp_region_held_drew (S := fun u => u.heap[P]? = some (.cells #[.slice (some ⟨gn, 0, none⟩) now.length cap, .slice (some ⟨gw, 0, none⟩) was.length capw, .int .i64 ar, .int .i64 us] 44 (0, 0))) (by kernel_rfl) (HS.out) (fun hHeld => ?_)
   refine tk (i := 0) (oi := ⟨some 12, .move (.tmp 0), 33, "ref.go:122", #[], none⟩) (v := ?_) (Or.inl ⟨by rfl, ?_⟩) ?_
   rotate_left 1
   ·(intro u hSw; go_simp; try with_reducible rfl)
   try simp only [Act.put, sA, sB, sC]
   refine tk (i := 1) (oi := ⟨some 13, .nilCheck (.tmp 12), 0, "ref.go:122", #[⟨0, .data⟩], none⟩) (v := ?_) (Or.inl ⟨by rfl, ?_⟩) ?_
   rotate_left 1
   ·(intro u hSw; go_simp; try with_reducible rfl)
   try simp only [Act.put, sA, sB, sC]
   refine tk (i := 2) (oi := ⟨some 14, .fieldAddr 44 (.tmp 13) 3, 0, "ref.go:122", #[⟨1, .data⟩], none⟩) (v := ?_) (Or.inl ⟨by rfl, ?_⟩) ?_
   rotate_left 1
   ·(intro u hSw; go_simp; try with_reducible rfl)
   try simp only [Act.put, sA, sB, sC]
   refine tk (i := 3) (oi := ⟨some 15, .load 3 (.tmp 14), 3, "ref.go:122", #[⟨2, .data⟩], none⟩) (v := ?_) (Or.inl ⟨by rfl, ?_⟩) ?_
   rotate_left 1
   ·(intro u hSw; have p2 := (cell_of_row u P 2 _ _ _ hSw).trans (show (#[.slice (some ⟨gn, 0, none⟩) now.length cap, .slice (some ⟨gw, 0, none⟩) was.length capw, .int .i64 ar, .int .i64 us] : Array Value)[2]? = some (.int .i64 ar) from rfl); have p3 := (cell_of_row u P 3 _ _ _ hSw).trans (show (#[.slice (some ⟨gn, 0, none⟩) now.length cap, .slice (some ⟨gw, 0, none⟩) was.length capw, .int .i64 ar, .int .i64 us] : Array Value)[3]? = some (.int .i64 us) from rfl); go_simp; try with_reducible rfl)
   try simp only [Act.put, sA, sB, sC]
   refine tk (i := 4) (oi := ⟨some 16, .move (.tmp 4), 3, "ref.go:122", #[], none⟩) (v := ?_) (Or.inl ⟨by rfl, ?_⟩) ?_
   rotate_left 1
   ·(intro u hSw; go_simp; try with_reducible rfl)
   try simp only [Act.put, sA, sB, sC]
   refine tk (i := 5) (oi := ⟨some 17, .binOp BinOp.add 3 (.tmp 15) (.tmp 16) 3, 3, "ref.go:122", #[⟨3, .data⟩, ⟨4, .data⟩], none⟩) (v := ?_) (Or.inl ⟨by rfl, ?_⟩) ?_
   rotate_left 1
   ·(intro u hSw; go_simp; try with_reducible rfl)
   try simp only [Act.put, sA, sB, sC]
   refine tk (i := 6) (oi := ⟨some 18, .move (.tmp 0), 33, "ref.go:122", #[], none⟩) (v := ?_) (Or.inl ⟨by rfl, ?_⟩) ?_
   rotate_left 1
   ·(intro u hSw; go_simp; try with_reducible rfl)
   try simp only [Act.put, sA, sB, sC]
   refine tk (i := 7) (oi := ⟨some 19, .nilCheck (.tmp 18), 0, "ref.go:122", #[⟨6, .data⟩], none⟩) (v := ?_) (Or.inl ⟨by rfl, ?_⟩) ?_
   rotate_left 1
   ·(intro u hSw; go_simp; try with_reducible rfl)
   try simp only [Act.put, sA, sB, sC]
   refine tk (i := 8) (oi := ⟨some 20, .fieldAddr 44 (.tmp 19) 2, 0, "ref.go:122", #[⟨7, .data⟩], none⟩) (v := ?_) (Or.inl ⟨by rfl, ?_⟩) ?_
   rotate_left 1
   ·(intro u hSw; go_simp; try with_reducible rfl)
   try simp only [Act.put, sA, sB, sC]
   refine tk (i := 9) (oi := ⟨some 21, .load 3 (.tmp 20), 3, "ref.go:122", #[⟨8, .data⟩], none⟩) (v := ?_) (Or.inl ⟨by rfl, ?_⟩) ?_
   rotate_left 1
   ·(intro u hSw; have p2 := (cell_of_row u P 2 _ _ _ hSw).trans (show (#[.slice (some ⟨gn, 0, none⟩) now.length cap, .slice (some ⟨gw, 0, none⟩) was.length capw, .int .i64 ar, .int .i64 us] : Array Value)[2]? = some (.int .i64 ar) from rfl); have p3 := (cell_of_row u P 3 _ _ _ hSw).trans (show (#[.slice (some ⟨gn, 0, none⟩) now.length cap, .slice (some ⟨gw, 0, none⟩) was.length capw, .int .i64 ar, .int .i64 us] : Array Value)[3]? = some (.int .i64 us) from rfl); go_simp; try with_reducible rfl)
   try simp only [Act.put, sA, sB, sC]
   refine tk (i := 10) (oi := ⟨some 22, .binOp BinOp.gtr 3 (.tmp 17) (.tmp 21) 3, 4, "ref.go:122", #[⟨5, .data⟩, ⟨9, .data⟩], none⟩) (v := ?_) (Or.inl ⟨by rfl, ?_⟩) ?_
   rotate_left 1
   ·(intro u hSw; go_simp; try with_reducible rfl)
   try simp only [Act.put, sA, sB, sC]
   refine wpAnyH_done (by kernel_rfl) ?_ _
   generalize w1.drew = w2 at *
   go_wp2_with (first
    | (refine wpList_of_run rfl (exec_bslice 25 0 #[] rfl #[] rfl _ (run_empty_blocks _)) ?_)
    | (at_builtin; refine wpList_of_run rfl (exec_append (Operand.tmp 43) (Operand.tmp 47) 25 rfl _ _ rfl rfl HAPP.out) ?_))
   go_ret
   unfold RCmEnds
   rw [HQ.out]
   refine ⟨((Chg.fresh HB2.out).usedP HV.out.2).usedP HD.out.2, .inr (.inr ⟨HDP.out, HF.out, rfl, g', .slice (some ⟨g', 0, none⟩) now.length cap', ?_, Nat.le_trans HSZ.out HGE.out⟩)⟩
   rw [if_neg (show ¬ ar < us + q from Int.not_lt.2 HG.out)]
   exact HD.out.1
end Go.Proofs.YtdkjkibdncbibaaGreat
/- the reference's pager: New -/
namespace Go.Proofs.YtdkjkibdncbibaaGreat
open Go.RowKit
open Go.Lib (hid)
theorem undBks : Tryz.prog.underlying 25 = some (.slice (Tryz.prog.elem 25)) := by kernel_rfl
theorem sizeBks (u : World) : (sizeOf (Tryz.prog.elem 25)).run Tryz.prog u = .ok 256 u := by kernel_rfl
/-- the blocks from one on -/
theorem run_from_bks (u : World) (g sz m : Nat) (hm : 0 < m) : (Instr.slice 25 (.slice (some ⟨g, 0, none⟩) (sz + m) (sz + m)) (some (.int .i64 (sz : Int))) none none).run Tryz.prog u = .ok (.slice (some ⟨g, sz * 256, none⟩) m m) u := by
 rw [run_slice_l u 25 (some ⟨g, 0, none⟩) (sz + m) (sz + m) undBks .i64 (sz : Int) (by omega) (by omega), sizeBks]
 show Result.ok (sliced (some ⟨g, 0, none⟩) ((sz : Int)).toNat (sz + m) (sz + m) 256) u = _
 unfold sliced
 rw [if_neg (by omega), Int.toNat_natCast, Nat.add_sub_cancel_left, Option.map_some, Addr.add_mid, Nat.zero_add]
theorem exec_slice_bks {ρ : Operand → Value} {o : Oper} {w : World} (x lo : Operand) (ho : o.op = .slice 25 x (some lo) none none) (va : Option Addr) (vn vc : Nat) (hx : ρ x = .slice va vn vc) (vlo : Value) (hlo : ρ lo = vlo) (r : Value) (h : (Instr.slice 25 (.slice va vn vc) (some vlo) none none).run Tryz.prog w = .ok r w) :
  (execOp ρ o).run Tryz.prog w = .ok (.value r) w := by
 unfold execOp
 rw [ho]
 simp [hx, hlo, Instr.sliceAt, h]
theorem flatB_drop (bs : List (List Int)) (hb : ∀ l ∈ bs, l.length = 256) (sz k : Nat) (v : Value) (h : (flatB (bs.drop sz))[k]? = some v) : (flatB bs)[sz * 256 + k]? = some v := by
  obtain ⟨i, j, l, rfl, hl, hv⟩ := flatB_at (bs.drop sz) (fun l hl => hb l (List.mem_of_mem_drop hl)) k v h
  rw [List.getElem?_drop] at hl
  have := flatB_get bs hb (sz + i) l hl j v hv
  rwa [show (sz + i) * 256 + j = sz * 256 + (i * 256 + j) by rw [Nat.add_mul, Nat.add_assoc]] at this
set_option maxRecDepth 100000 in
/-- a copy of the blocks from one on, in a block of its own -/
theorem copy_from (u : World) (ty : TypeId) (B g sz m : Nat) (v : Value) (bs : List (List Int)) (h : BkC u B g v bs) (hl : bs.length = sz + m) (h0 : 0 < m) (h4 : bs.length ≤ 4096) (n : Nat) (hn : u.heap.size = n) :
    ∃ cap' g' w', (Builtin.append_ #[25, 25] ty #[.slice (some ⟨n, 0, none⟩) 0 0, .slice (some ⟨g, sz * 256, none⟩) m m]).run Tryz.prog (u.alloc (.cells #[] 50)) = .ok (.slice (some ⟨g', 0, none⟩) m cap') w' ∧ BkC w' n g' (.slice (some ⟨g', 0, none⟩) m cap') (bs.drop sz) ∧ Below u.heap.size u w' ∧ u.heap.size ≤ g' := by
  subst hn
  have hbl : Below u.heap.size u (u.alloc (.cells #[] 50)) := (Below.refl _ _).alloc (Nat.le_refl _) _
  have h7 : BkC (u.alloc (.cells #[] 50)) B g v bs := h.of (hbl.block g h.2.2.1) (Nat.lt_of_lt_of_le h.2.2.1 hbl.size)
  have he : (u.alloc (.cells #[] 50)).heap[u.heap.size]? = some (.cells #[] 50 (0, 0)) := heap_alloc_new _ _
  obtain ⟨i, z, hi, hz, hs, hby, hzs⟩ : ∃ i z, Tryz.prog.info? 50 = some i ∧ i.zero = some z ∧ i.size = 256 ∧ i.bytes = 256 ∧ z.cells.size = 256 := by
    have h1 : (Tryz.prog.info? 50).map (fun ie => (ie.zero.map fun z => z.cells.size, ie.size, ie.bytes)) = some (some 256, 256, 256) := by kernel_rfl
    cases hie : Tryz.prog.info? 50 with
    | none => rw [hie] at h1; cases h1
    | some ie =>
      rw [hie] at h1
      simp only [Option.map_some, Option.some.injEq, Prod.mk.injEq] at h1
      cases hz : ie.zero with
      | none => rw [hz] at h1; exact absurd h1.1 (by simp)
      | some z => rw [hz] at h1; exact ⟨ie, z, rfl, hz, h1.2.1, h1.2.2, by simpa using h1.1⟩
  have hb : ∀ l ∈ bs, l.length = 256 := fun l hl => by obtain ⟨i, hi⟩ := List.mem_iff_getElem?.1 hl; exact (h.2.2.2.1 i l hi).1
  have hbd : ∀ l ∈ bs.drop sz, l.length = 256 := fun l hl => hb l (List.mem_of_mem_drop hl)
  have hdl : (bs.drop sz).length = m := by rw [List.length_drop]; omega
  have hc : ∀ k x, (flatB (bs.drop sz))[k]? = some x → (u.alloc (.cells #[] 50)).cell? ((⟨g, sz * 256, none⟩ : Addr).add k) = some x := fun k x hx => by
    have := h7.cells (sz * 256 + k) x (flatB_drop bs hb sz k x hx)
    rw [Addr.add_mid] at this ⊢
    rwa [Nat.zero_add] at this
  have how : (u.alloc (.cells #[] 50)).ownsRow u.heap.size 50 256 (.slice (some ⟨u.heap.size, 0, none⟩) 0 0) 0 [] := ⟨rfl, .inr ⟨u.heap.size, 0, #[], rfl, Nat.le_refl _, he, Nat.le_refl _, Nat.zero_le _, rfl, rfl⟩⟩
  have h1 : ∀ v ∈ flatB (bs.drop sz), v.oneCell' = true := fun v hv => by
    obtain ⟨l, _, hv⟩ := List.mem_flatMap.1 hv
    obtain ⟨x, _, rfl⟩ := List.mem_map.1 hv
    rfl
  obtain ⟨v', w', hr, h2, h3, _⟩ := run_append_own (P := Tryz.prog) (u.alloc (.cells #[] 50)) u.heap.size 25 ty 50 i z 256 256 Tryz.underlying25 hi hz hs hby hzs (by decide) _ 0 [] how ⟨g, sz * 256, none⟩ m m (flatB (bs.drop sz)) ((flatB_len _ hbd).trans (by rw [hdl])) hc h1 (by unfold maxLen; omega) (by omega) (Nat.le_of_lt (Array.getElem?_eq_some_iff.1 he).1)
  rw [Nat.zero_add, List.nil_append] at h2
  rw [← hdl] at h2
  obtain ⟨g', hg'⟩ := BkC.owned hbd (by omega) h2
  rw [hdl] at h2
  obtain ⟨⟨cap', hv'⟩, a2, a3⟩ := hg'
  rw [hdl] at hv'
  subst hv'
  have hch : Chg (fun q => q = u.heap.size) u w' := (Chg.fresh hbl).trans (G := fun q => q = u.heap.size) (Chg.grown h3 (fun k hk => by injection hk with hk; exact hk.symm)) (fun i hi => .inl hi)
  exact ⟨cap', g', w', hr, ⟨⟨cap', by rw [hdl]⟩, a2, a3⟩, hch.below (fun k hk => Nat.le_of_eq hk.symm) (Nat.le_refl _), a2⟩
/-- the pages of a new pager -/
def rnewN (homes : List (List Int)) (sz : Nat) : List (List Int) := ((homes.drop sz).set 0 (zeros 256)).set 0 (putL (zeros 256) 0 (be8 1))
set_option maxRecDepth 100000 in
set_option maxHeartbeats 1000000 in
theorem rnew_any (B gh sz m nb : Nat) (homes : List (List Int)) (w : World) (hnb : sz + m = nb) (h : BkC w B gh (.slice (some ⟨gh, 0, none⟩) nb nb) homes) (hl : homes.length = sz + m) (h3 : 3 ≤ sz) (h0 : 0 < m) (h4 : sz + m ≤ 4096) (hrg : ∀ l ∈ homes, Rng l) :
    Calls Tryz.prog 10 #[.slice (some ⟨gh, 0, none⟩) nb nb, .int .i64 (sz : Int)] w fun e w' => (∃ P gn gw nv wv, e = .returned (.pointer (some ⟨P, 0, none⟩)) ∧ RPw w' w.heap.size P gn gw nv wv (256 * ((sz : Int) - 2)) 0 (rnewN homes sz) (rnewN homes sz)) ∧ Below w.heap.size w w' := by
  have hbl : ∀ u : World, (Instr.build 50 #[]).run Tryz.prog u = .ok (.agg (ArrU8 (zeros 256))) u := fun u => by kernel_rfl
  have HI35 := hid (show (Tryz.prog.info? 50).map (·.size) = some 256 by kernel_rfl)
  have SZ := hid (show (ArrU8 (zeros 256)).size = 256 by rw [ArrU8_size, zeros_len])
  obtain ⟨cap1, g1, w8, happ, hb8, hbw, hge⟩ := copy_from w 25 B gh sz m _ homes h hl h0 (by omega) w.heap.size rfl
  have HAPP1 := hid happ
  have HBW := hid hbw
  have HG1 := hid hge
  have hdl : (homes.drop sz).length = m := by rw [List.length_drop]; omega
  have HDL := hid hdl
  have HRG := hid hrg
  have HM0 := hid h0
  have HM4 := hid (show m ≤ 4096 by omega)
  obtain ⟨l0, hl0⟩ : ∃ l0, (homes.drop sz)[0]? = some l0 := ⟨_, List.getElem?_eq_getElem (by omega)⟩
  have HTH := hid (show w8.there g1 0 256 from by have := (bk_row hb8 0 l0 hl0).2; rwa [Nat.zero_mul] at this)
  have h9 := hb8.set 0 (by omega) (zeros 256) (zeros_len _)
  rw [Nat.zero_mul] at h9
  have HCH9 := hid (show Chg (fun q => q = g1) w8 (w8.setCells g1 0 ((zeros 256).map (Value.int .u8))) from Chg.setCells g1 _ _ _ (Chg.refl _ w8) rfl)
  have HST := hid (show Calls Tryz.prog 41 #[.pointer (some ⟨g1, 0, none⟩), .int .i64 0, .int .u64 1] (w8.setCells g1 0 ((zeros 256).map (Value.int .u8))) fun e w' => e = .returned (.tuple #[]) ∧ BkC w' w.heap.size g1 (.slice (some ⟨g1, 0, none⟩) m cap1) (rnewN homes sz) ∧ Chg (fun q => q = g1) (w8.setCells g1 0 ((zeros 256).map (Value.int .u8))) w' from by
    have := rset5_any w.heap.size g1 _ _ 0 0 1 (zeros 256) _ h9 (by rw [List.getElem?_set, if_pos rfl, if_pos (by omega)]) (by decide) (by decide)
    rwa [Nat.zero_mul] at this)
  generalize hw9 : w8.setCells g1 0 ((zeros 256).map (Value.int .u8)) = w9 at *
  have HW9 := hid (show w8.setCells g1 0 (ArrU8 (zeros 256)).toList = w9 from hw9)
  have hml : (0 : Int) < (m : Int) := by omega
  have hs3 : ¬ (sz : Int) < 3 := by omega
  have hsl : ¬ (nb : Int) ≤ (sz : Int) := by omega
  have hwa : IntKind.i64.wrap ((sz : Int) - 2) = (sz : Int) - 2 := wrap_i64 _ (by omega) (by omega)
  have hwb : IntKind.i64.wrap (256 * ((sz : Int) - 2)) = 256 * ((sz : Int) - 2) := wrap_i64 _ (by omega) (by omega)
  have HFR := hid (show ∀ u : World, (Instr.slice 25 (.slice (some ⟨gh, 0, none⟩) nb nb) (some (.int .i64 (sz : Int))) none none).run Tryz.prog u = .ok (.slice (some ⟨gh, sz * 256, none⟩) m m) u from fun u => by rw [← hnb]; exact run_from_bks u gh sz m h0)
  clear hnb h hl h3 h0 h4 hrg happ hb8 hbw hge hl0 h9 hw9 hdl
  go_enter Tryz.func10, Tryz.ntmps10
  go_wp2_with (first
    | (refine wpList_of_run rfl (exec_bslice 25 0 #[] rfl #[] rfl _ (run_empty_blocks _)) ?_)
    | (refine wpList_of_run (o := ⟨some 17, _, _, _, _, _⟩) rfl (exec_slice_bks (Operand.tmp 15) (Operand.tmp 16) rfl (some ⟨gh, 0, none⟩) nb nb rfl (.int .i64 (sz : Int)) rfl (.slice (some ⟨gh, sz * 256, none⟩) m m) (HFR.out _)) ?_)
    | (at_builtin; refine wpList_of_run rfl (exec_append (Operand.tmp 14) (Operand.tmp 17) 25 rfl _ _ rfl rfl HAPP1.out) ?_)
    | (refine wpList_store_mid rfl 50 (Operand.tmp 21) (Operand.tmp 20) rfl g1 0 (ArrU8 (zeros 256)) rfl rfl (by rw [SZ.out]; exact HTH.out) (by rw [SZ.out]; exact HI35.out) (ArrU8_one _) ?_; rw [HW9.out]))
  refine HST.out.mono ?_
  rintro e w10 ⟨rfl, hb10, hc10⟩
  have hrl : (rnewN homes sz).length = m := by unfold rnewN; rw [List.length_set, List.length_set, HDL.out]
  have hC8 : Chg (fun q => q = g1) w8 w10 := HCH9.out.trans hc10 (fun _ h => .inl h)
  have hB10 : Below w.heap.size w w10 := HBW.out.trans (hC8.below (fun k hk => by rw [hk]; exact HG1.out) HBW.out.size)
  have HB10 := hid hb10
  have HBL10 := hid hB10
  obtain ⟨cap2, g2, w12, happ2, hb12, hbw2, hge2⟩ := copy_bk w10 25 w.heap.size g1 _ _ hb10 (by rw [hrl]; exact HM0.out) (by rw [hrl]; exact HM4.out) hB10.size w10.heap.size rfl
  rw [hrl] at happ2 hb12
  have HAPP2 := hid happ2
  have HB12 := hid hb12
  have HBW2 := hid hbw2
  have HG2 := hid hge2
  have HRL := hid hrl
  clear happ2 hb12 hbw2 hge2 hrl hC8 hB10 hb10 hc10
  go_wp2_with (first
    | (refine wpList_of_run rfl (exec_bslice 25 0 #[] rfl #[] rfl _ (run_empty_blocks _)) ?_)
    | (at_builtin; refine wpList_of_run rfl (exec_append (Operand.tmp 26) (Operand.tmp 27) 25 rfl _ _ rfl rfl HAPP2.out) ?_))
  go_ret
  have hbx : Below w12.heap.size w12 (w12.alloc (.cells #[.slice (some ⟨g1, 0, none⟩) m cap1, .slice (some ⟨g2, 0, none⟩) m cap2, .int .i64 (256 * ((sz : Int) - 2)), .int .i64 0] 44)) := (Below.refl _ _).alloc (Nat.le_refl _) _
  have hn12 := HB10.out.of (HBW2.out.block g1 HB10.out.2.2.1) (Nat.lt_of_lt_of_le HB10.out.2.2.1 HBW2.out.size)
  have hw := HBL10.out.trans (HBW2.out.mono HBL10.out.size)
  have hg1 := hn12.2.2.1
  have hg2 := HB12.out.2.2.1
  have hgg := HG2.out
  have hg10 := HB10.out.2.2.1
  have hrr : ∀ l ∈ rnewN homes sz, Rng l := fun l hl => by
    unfold rnewN at hl
    rcases List.mem_or_eq_of_mem_set hl with h1 | h1
    · rcases List.mem_or_eq_of_mem_set h1 with h2 | h2
      · exact HRG.out l (List.mem_of_mem_drop h2)
      · rw [h2]; exact rng_zeros _
    · rw [h1]; exact putL_rng (rng_zeros _) (be8_rng 1)
  refine ⟨⟨w12.heap.size, g1, g2, .slice (some ⟨g1, 0, none⟩) m cap1, .slice (some ⟨g2, 0, none⟩) m cap2, rfl, ?_⟩, hw.trans (hbx.mono hw.size)⟩
  exact { pg := { box := heap_alloc_new _ _, nw := hn12.of (hbx.block g1 hg1) (Nat.lt_of_lt_of_le hg1 hbx.size), np := by omega, bp := hw.size, rg := hrr, ne := by rw [HRL.out]; exact HM0.out }, ws := HB12.out.of (hbx.block g2 hg2) (Nat.lt_of_lt_of_le hg2 hbx.size), ng := by omega, gp := by omega, ln := rfl, rw := hrr }
end Go.Proofs.YtdkjkibdncbibaaGreat
/- the program's pages beside the document's, plain -/
namespace Go.Proofs.YtdkjkibdncbibaaGreat
open Go.RowKit
open Go.Lib (hid)
/-- a list of pages is what a function says -/
def Rel (N : Nat) (F : Int → List Int) (now : List (List Int)) : Prop := now.length = N ∧ ∀ i : Nat, i < N → now[i]? = some (F i)
section
variable {N : Nat} {F F' : Int → List Int} {now was : List (List Int)} {k : PK} {v : PV} {rs : List (List Int)} {W : Int → List Int}
theorem Rel.set (h : Rel N F now) (i : Nat) (hi : i < N) (b : List Int) (hF : ∀ m : Int, F' m = if m = (i : Int) then b else F m) : Rel N F' (now.set i b) := by
 refine ⟨by rw [List.length_set]; exact h.1, fun j hj => ?_⟩
 rw [List.getElem?_set, hF]
 by_cases hij : i = j
 ·subst hij
  rw [if_pos rfl, if_pos rfl, if_pos (by rw [h.1]; exact hi)]
 ·rw [if_neg hij, if_neg (show ¬ (j : Int) = (i : Int) from fun e => hij (Int.ofNat.inj e).symm)]
  exact h.2 j hj
theorem Rel.congr (h : Rel N F now) (hF : ∀ m : Int, F' m = F m) : Rel N F' now := ⟨h.1, fun j hj => by rw [hF]; exact h.2 j hj⟩
theorem Rel.at (h : Rel N F now) (i : Nat) (hi : i < N) : now[i]?.getD [] = F i := by rw [h.2 i hi]; rfl
theorem Rel.z0 (h : Rel N F now) (h0 : 0 < N) : z0 now = F 0 := h.at 0 h0
/-- so many pages there are -/
def nP (k : PK) : Nat := (k.nb - k.sz).toNat
theorem PJ.nP (hj : PJ k v) : ((nP k : Nat) : Int) = k.nb - k.sz ∧ 0 < nP k ∧ nP k ≤ 4096 := by
 have h1 := hj.z1
 have h2 := hj.z2
 have h3 := hj.z3
 unfold Go.Proofs.YtdkjkibdncbibaaGreat.nP
 omega
theorem rel_used (hj : PJ k v) (h : Rel (nP k) (NL v W) now) (i : Nat) (hi : i < 18) : nAt (z0 now) i = hN v.h1 i := by
 rw [h.z0 hj.nP.2.1]
 exact nAt_NL hj i hi
theorem rel_in (hj : PJ k v) (h : Rel (nP k) (NL v W) now) (n : Int) : rin now n = inU v n := by
 unfold rin inU usedN
 rw [rel_used hj h 0 (by decide)]
 rfl
theorem rel_root (hj : PJ k v) (h : Rel (nP k) (NL v W) now) (n : Int) : rrootV now n = (if 0 ≤ n ∧ n < 16 then ((hN v.h1 (2 + n.toNat) : Nat) : Int) else (0 : Int)) := by
 unfold rrootV
 by_cases hn : 0 ≤ n ∧ n < 16
 ·rw [if_pos hn, if_pos hn, rel_used hj h _ (by omega)]
 ·rw [if_neg hn, if_neg hn]
theorem rel_get (hl : PL k v rs W) (hj : PJ k v) (hm : PM v W) (h : Rel (nP k) (NL v W) now) (n : Int) : rgetV now n = .tuple #[.agg (ArrU8 (geR k v n).1), .int .i64 (geR k v n).2] := by
  unfold rgetV geR
  rw [rel_in hj h]
  by_cases hi : inU v n = true
  · have hr := inU_rng hi (usedN_le hj)
    have h1 : 1 ≤ n := by
      have := hi
      unfold inU at this
      simp at this
      omega
    rw [if_pos hi, if_pos hi, hl.cu hm n h1 hr.2, h.at n.toNat (by have := hj.nP.1; omega), show ((n.toNat : Nat) : Int) = n by omega]
  · rw [if_neg hi, if_neg hi]
theorem rel_put (hl : PL k v rs W) (hj : PJ k v) (hm : PM v W) (h : Rel (nP k) (NL v W) now) (n : Int) (b : List Int) (hb : b.length = 256) (hr : Rng b) (o : Value) :
    rputE now n = (if inU v n = true then 0 else 2) ∧ PL k { v with ov := o, ca := (puV k v n b).1, od := (puV k v n b).2.1, ch := (puV k v n b).2.2 } rs W ∧ PJ k { v with ov := o, ca := (puV k v n b).1, od := (puV k v n b).2.1, ch := (puV k v n b).2.2 } ∧ PM { v with ov := o, ca := (puV k v n b).1, od := (puV k v n b).2.1, ch := (puV k v n b).2.2 } W ∧
      Rel (nP k) (NL { v with ov := o, ca := (puV k v n b).1, od := (puV k v n b).2.1, ch := (puV k v n b).2.2 } W) (rputN now n b) := by
  unfold rputE rputN puV
  rw [rel_in hj h]
  by_cases hi : inU v n = true
  · have hg := inU_rng hi (usedN_le hj)
    have h1 : 1 ≤ n := by
      have := hi
      unfold inU at this
      simp at this
      omega
    obtain ⟨s1, s2⟩ := PM.st hl hj hm n b h1 hg.2
    simp only [if_pos hi]
    refine ⟨trivial, hl.as rfl rfl rfl rfl rfl rfl rfl, (hj.st n b hg hb hr).ov o, s1.as rfl rfl rfl, ?_⟩
    refine h.set n.toNat (by have := hj.nP.1; omega) b (fun m => ?_)
    rw [show ((n.toNat : Nat) : Int) = n by omega]
    exact s2 m
  · simp only [if_neg hi]
    exact ⟨trivial, hl.as rfl rfl rfl rfl rfl rfl rfl, hj.ov o, hm.as rfl rfl rfl, h⟩
theorem rel_free (hl : PL k v rs W) (hj : PJ k v) (hm : PM v W) (h : Rel (nP k) (NL v W) now) (n : Int) : Rel (nP k) (NL (frU k v n) W) (rfrN now n) := by
  unfold rfrN
  rw [rel_in hj h]
  by_cases hi : inU v n = true
  · have hg := inU_rng hi (usedN_le hj)
    have h1 : 1 ≤ n := by
      have := hi
      unfold inU at this
      simp at this
      omega
    have hNp := hj.nP
    rw [if_pos hi, h.z0 hNp.2.1, show nAt (NL v W 0) 1 = hN v.h1 1 from nAt_NL hj 1 (by decide)]
    have s2 := (fr_yes hl hj hm hi).2
    refine Rel.set (F := fun m => if m = n then putL (zeros 256) 0 (be8 (hN v.h1 1)) else NL v W m) (h.set n.toNat (by omega) _ (fun m => ?_)) 0 hNp.2.1 _ (fun m => ?_)
    · rw [show ((n.toNat : Nat) : Int) = n by omega]
    · rw [s2]
      by_cases hm0 : m = 0
      · subst hm0
        rw [if_neg (show (0 : Int) ≠ n by omega), if_pos rfl, if_pos (show (0 : Int) = ((0 : Nat) : Int) from rfl)]
      · rw [if_neg hm0, if_neg (show ¬ m = ((0 : Nat) : Int) from hm0)]
  · rw [if_neg hi, fr_no hi]
    exact h
theorem rel_alloc (hl : PL k v rs W) (hj : PJ k v) (hm : PM v W) (h : Rel (nP k) (NL v W) now) : ralV now = (alU k v).2 ∧ PM (alU k v).1 W ∧ Rel (nP k) (NL (alU k v).1 W) (ralN now) := by
 have hNp := hj.nP
 have hu := hj.u1
 have e0 := rel_used hj h 0 (by decide)
 have e1 := rel_used hj h 1 (by decide)
 have hA : ralA now ↔ (0 < hN v.h1 1 ∧ hN v.h1 1 < hN v.h1 0) := by
  unfold ralA
  rw [e0, e1]
  exact Iff.rfl
 unfold ralV ralN
 rw [e0, e1, h.z0 hNp.2.1, h.1]
 by_cases ha : 0 < hN v.h1 1 ∧ hN v.h1 1 < hN v.h1 0
 ·obtain ⟨s1, s2, s3⟩ := al_head hl hj hm ha
  rw [if_pos (hA.2 ha), if_pos (hA.2 ha), s1, h.at _ (by omega)]
  refine ⟨rfl, s2, ?_⟩
  refine Rel.set (F := fun m => if m = 0 then putL (NL v W 0) 8 (be8 (beI ((NL v W (hN v.h1 1 : Nat)).take 8))) else NL v W m) (h.set 0 hNp.2.1 _ (fun m => rfl)) _ (by omega) _ (fun m => ?_)
  rw [s3]
 ·rw [if_neg (fun e => ha (hA.1 e)), if_neg (fun e => ha (hA.1 e))]
  by_cases hf : (hN v.h1 0 : Int) < k.nb - k.sz
  ·obtain ⟨s1, s2, s3⟩ := al_next hl hj hm ha hf
   rw [if_neg (by omega), if_neg (by omega), s1]
   refine ⟨rfl, s2, ?_⟩
   refine Rel.set (F := fun m => if m = 0 then putL (NL v W 0) 0 (be8 (hN v.h1 0 + 1)) else NL v W m) (h.set 0 hNp.2.1 _ (fun m => rfl)) _ (by omega) _ (fun m => ?_)
   rw [s3]
  ·rw [if_pos (by omega), if_pos (by omega), al_full ha hf]
   exact ⟨rfl, hm, h⟩
theorem rel_dif (hl : PL k v rs W) (hj : PJ k v) (hm : PM v W) (h0 : (W 0).length = 256 ∧ Rng (W 0)) (h : Rel (nP k) (NL v W) now) (hw : Rel (nP k) W was) : chN v = (difL now was now.length : Nat) := by
 rw [chN_dif hl hj hm h0, h.1]
 unfold dif difL
 congr 2
 refine List.filter_congr (fun i hi => ?_)
 have hi2 := List.mem_range.1 hi
 rw [h.at i hi2, hw.at i hi2]
theorem rel_root_set (hl : PL k v rs W) (hj : PJ k v) (hm : PM v W) (h : Rel (nP k) (NL v W) now) (n : Int) (x : Nat) (hx : x < 18446744073709551616) : Rel (nP k) (NL (psrU v n x) W) (rsrN now n x) := by
 have hp := (psr_all hl hj hm n x hx).2.2.2
 have hNp := hj.nP
 unfold rsrN
 by_cases hn : 0 ≤ n ∧ n < 16
 ·rw [if_pos hn, h.z0 hNp.2.1]
  refine h.set 0 hNp.2.1 _ (fun m => ?_)
  rw [hp]
  by_cases hm0 : m = 0
  ·rw [if_pos ⟨hn.1, hn.2, hm0⟩, if_pos (show m = ((0 : Nat) : Int) from hm0)]
  ·rw [if_neg (fun e => hm0 e.2.2), if_neg (show ¬ m = ((0 : Nat) : Int) from hm0)]
 ·rw [if_neg hn]
  exact h.congr (fun m => by rw [hp, if_neg (fun e => hn ⟨e.1, e.2.1⟩)])
end
end Go.Proofs.YtdkjkibdncbibaaGreat
/- both pagers side by side -/
namespace Go.Proofs.YtdkjkibdncbibaaGreat
open Go.RowKit
open Go.Lib (hid)
/-- what turns -/
structure TV where
 v : PV
 rs : List (List Int)
 W : Int → List Int
 gn : Nat
 gw : Nat
 nv : Value
 wv : Value
 now : List (List Int)
 was : List (List Int)
section
variable {k : PK} {Bx P : Nat} {t t' : TV} {w w' u u' : World}
end
end Go.Proofs.YtdkjkibdncbibaaGreat
/- both pagers' calls -/
namespace Go.Proofs.YtdkjkibdncbibaaGreat
open Go.RowKit
open Go.Lib (hid)
section
variable {k : PK} {Bx P : Nat} {t : TV} {w : World}
theorem NL_clean {v : PV} {W : Int → List Int} (hm : PM v W) (h0 : (W 0).length = 256 ∧ Rng (W 0)) (h1 : v.h1 = v.h0) (hc : v.ch = []) (n : Int) : NL v W n = W n := by
 unfold NL
 by_cases hn : n = 0
 ·rw [if_pos hn, h1, hm.h0, ovB_hdr h0.1 h0.2, hn]
 ·rw [if_neg hn, hc]
  rfl
theorem frU_s (n : Int) {v : PV} : (frU k v n).s = v.s ∧ (frU k v n).a = v.a ∧ (frU k v n).b = v.b ∧ (frU k v n).c = v.c ∧ (frU k v n).pe = v.pe ∧ (frU k v n).en = v.en ∧ (frU k v n).lg = v.lg := by
 unfold frU
 split <;> exact ⟨rfl, rfl, rfl, rfl, rfl, rfl, rfl⟩
theorem psrU_s (n : Int) (x : Nat) {v : PV} : (psrU v n x).s = v.s ∧ (psrU v n x).a = v.a ∧ (psrU v n x).b = v.b ∧ (psrU v n x).c = v.c := by
 unfold psrU
 split <;> exact ⟨rfl, rfl, rfl, rfl⟩
end
end Go.Proofs.YtdkjkibdncbibaaGreat
/- both pagers' Commit and Checkpoint -/
namespace Go.Proofs.YtdkjkibdncbibaaGreat
open Go.RowKit
open Go.Lib (hid)
section
variable {k : PK} {Bx P : Nat} {t : TV} {w : World}
end
end Go.Proofs.YtdkjkibdncbibaaGreat
/- the law's step -/
namespace Go.Proofs.YtdkjkibdncbibaaGreat
open Go.RowKit
open Go.Lib (hid)
section
variable {k : PK} {Bx P : Nat} {t t' : TV} {w w' : World}
end
end Go.Proofs.YtdkjkibdncbibaaGreat
/- the law's step: Put, Get, Free, SetRoot, Root and Changed; every kind -/
namespace Go.Proofs.YtdkjkibdncbibaaGreat
open Go.RowKit
open Go.Lib (hid)
section
variable {k : PK} {Bx P : Nat} {t t' : TV} {w w' : World}
end
end Go.Proofs.YtdkjkibdncbibaaGreat
/- the law's same -/
namespace Go.Proofs.YtdkjkibdncbibaaGreat
open Go.RowKit
open Go.Lib (hid)
section
variable {k : PK} {Bx P : Nat} {t t' t1 t2 : TV} {w w' w1 w2 : World}
end
end Go.Proofs.YtdkjkibdncbibaaGreat
