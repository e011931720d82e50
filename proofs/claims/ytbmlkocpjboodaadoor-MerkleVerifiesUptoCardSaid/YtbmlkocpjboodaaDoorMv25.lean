/- stage 7, plain: what an entry of a proof is -/
import Derived.Test.YtbmlkocpjboodaaDoorMv24
namespace Go.Proofs.YtbmlkocpjboodaaDoor
open Go.RowKit
open Go.Lib (hid)
theorem rdEnt_at (l : List Int) (h : Rng l) (h2 : 2 ≤ l.length) : ∃ kk : Nat, kk ≤ 65535 ∧ bits BinOp.or .i64 ((l[0]?.getD 0) * 256) (l[1]?.getD 0) = (kk : Int) ∧ (l.length < 10 + kk → rdEnt l = .inl 6) ∧
  (10 + kk ≤ l.length → rdN ((l.drop (2 + kk)).take 8) < 1 → rdEnt l = .inl 5) ∧
  (10 + kk ≤ l.length → ¬ rdN ((l.drop (2 + kk)).take 8) < 1 → rdEnt l = .inr (((l.drop 2).take kk, (rdN ((l.drop (2 + kk)).take 8)).toNat), l.drop (10 + kk))) := by
 have hk := rdN_2 (h.take 2) (by rw [List.length_take]; omega)
 obtain ⟨kk, hkk⟩ : ∃ kk : Nat, rdN (l.take 2) = (kk : Int) := ⟨(rdN (l.take 2)).toNat, by omega⟩
 have hE : rdEnt l = if l.length < 2 then .inl 6 else if (l.drop 2).length < kk then .inl 6 else if ((l.drop 2).drop kk).length < 8 then .inl 6 else if rdN (((l.drop 2).drop kk).take 8) < 1 then .inl 5 else .inr (((l.drop 2).take kk, (rdN (((l.drop 2).drop kk).take 8)).toNat), ((l.drop 2).drop kk).drop 8) := by
  unfold rdEnt
  rw [hkk, Int.toNat_natCast]
 rw [List.drop_drop, List.drop_drop] at hE
 rw [if_neg (by omega)] at hE
 refine ⟨kk, by omega, ?_, fun hs => ?_, fun hs hc => ?_, fun hs hc => ?_⟩
 ·match l, h2 with
  | x0 :: x1 :: t, _ =>
   have g0 := h x0 List.mem_cons_self
   have g1 := h x1 (List.mem_cons_of_mem _ List.mem_cons_self)
   have hr : Rng [x0, x1] := fun y hy => by
    rcases List.mem_cons.1 hy with rfl | hy
    ·exact g0
    ·rcases List.mem_singleton.1 hy with rfl
     exact g1
   have hs := be_stepi [x0, x1] hr 1 (by decide) (by simp)
   have e0 : (beI (List.take 1 [x0, x1]) : Int) = x0 := by
    have : List.take 1 [x0, x1] = [x0] := rfl
    rw [this]
    simp only [beI, List.foldl_cons, List.foldl_nil]
    omega
   rw [e0] at hs
   have e2 : rdN [x0, x1] = (kk : Int) := hkk
   rw [show List.take (1 + 1) [x0, x1] = [x0, x1] from rfl] at hs
   rw [show IntKind.i64.wrap (beI [x0, x1] : Int) = rdN [x0, x1] from rfl, e2] at hs
   rw [IntWalk.i64_in x0 (by omega), IntWalk.i64_in (x0 * 256) (by omega)] at hs
   rw [show IntKind.i64.wrap ([x0, x1][1]?.getD 0) = x1 from IntWalk.i64_in x1 (by omega)] at hs
   exact hs
 ·rw [hE]
  rw [List.length_drop, List.length_drop]
  split
  ·rfl
  ·rw [if_pos (by omega)]
 ·rw [hE, List.length_drop, List.length_drop, if_neg (by omega), if_neg (by omega), if_pos hc]
 ·rw [hE, List.length_drop, List.length_drop, if_neg (by omega), if_neg (by omega), if_neg hc, show 2 + kk + 8 = 10 + kk by omega]
theorem exec_midB {ρ : Operand → Value} {o : Oper} {w : World} (x lo hi : Operand) (ho : o.op = .slice 31 x (some lo) (some hi) none) (a : Option Addr) (n c : Nat) (vl vh : Value) (hx : ρ x = .slice a n c) (hl : ρ lo = vl) (hh : ρ hi = vh) (r : Value) (h : (Instr.slice 31 (.slice a n c) (some vl) (some vh) none).run Tryd.prog w = .ok r w) : (execOp ρ o).run Tryd.prog w = .ok (.value r) w := by
 unfold execOp
 rw [ho]
 simp only [hx, hl, hh, Option.map_some, Option.map_none, Sem.run_bind, run_sliceAt_slice w 31 _ _ _ _ und62, h, Result.andThen_ok, Sem.run_pure]
theorem exec_onB {ρ : Operand → Value} {o : Oper} {w : World} (x lo : Operand) (ho : o.op = .slice 31 x (some lo) none none) (a : Option Addr) (n c : Nat) (vl : Value) (hx : ρ x = .slice a n c) (hl : ρ lo = vl) (r : Value) (h : (Instr.slice 31 (.slice a n c) (some vl) none none).run Tryd.prog w = .ok r w) : (execOp ρ o).run Tryd.prog w = .ok (.value r) w := by
 unfold execOp
 rw [ho]
 simp only [hx, hl, Option.map_some, Option.map_none, Sem.run_bind, run_sliceAt_slice w 31 _ _ _ _ und62, h, Result.andThen_ok, Sem.run_pure]
set_option maxRecDepth 100000 in
set_option maxHeartbeats 8000000 in
theorem refRead_two {S : Nat → Prop} (T : List Int → Int ⊕ (MT × List Int)) (d : Nat) (hd : d ≤ 4096)
  (hT : ∀ (u : World) (a : Option Addr) (c m : Nat) (l : List Int), l.length = m → KIs u S (.slice a m c) l → (∀ q, S q → q < u.heap.size) → Rng l → l.length ≤ 1048576 → Calls Tryd.prog 72 #[.slice a m c, .int .i64 ((d + 1 : Nat) : Int)] u fun e w' => PEnd S u e w' (T l))
  (hok : ∀ l t r, T l = .inr (t, r) → Rng l → Rng r ∧ r.length ≤ l.length)
  (w : World) (a : Option Addr) (c m : Nat) (r : List Int) (hm : r.length + 1 = m) (hb : KIs w S (.slice a m c) (2 :: r)) (hS : ∀ q, S q → q < w.heap.size) (hr : Rng r) (hl : r.length ≤ 1048576) :
  Calls Tryd.prog 72 #[.slice a m c, .int .i64 (d : Int)] w fun e w' => PEnd S w e w' (rdNd T r) := by
 obtain ⟨b, o, rfl, hbl, hcl⟩ := bs_cells hb.1 hm (by omega)
 have cx : w.cell? ⟨b, o, none⟩ = some (.int .u8 2) := hcl 0 (by omega)
 obtain ⟨a1, c1, q1, hb1⟩ := kis_drop hb hm 1 (by omega)
 replace q1 : ∀ (u : World), (Instr.slice 31 (.slice (some ⟨b, o, none⟩) m c) (some (.int .i64 1)) none none).run Tryd.prog u = .ok (.slice a1 (m - 1) c1) u := q1
 have HBD := hid (fun u => run_build_pt u 2)
 have hd1 : ¬ (d : Int) > 4096 := by omega
 have hm1 : ¬ (m : Int) = 0 := by omega
 have hm2 : 0 < m := by omega
 have hm3 : (0 : Int) < (m : Int) := by omega
 have hadd : IntKind.i64.wrap ((d : Int) + 1) = ((d + 1 : Nat) : Int) := by rw [IntWalk.i64_in _ (by omega)]; omega
 have e64 : ∀ x : Int, wrap64 x = IntKind.i64.wrap x := fun x => by simp only [wrap64, IntKind.wrap_i64]
 have E64 := hid e64
 have hRN : rdNd T r = match T r with
  | .inl c => .inl c
  | .inr (tl, r1) => match rdEnt r1 with
   | .inl c => .inl c
   | .inr ((k, n), r2) => match T r2 with
    | .inl c => .inl c
    | .inr (tr, r3) => .inr (mkN k n (zeros 32) tl tr, r3) := rfl
 have HRN := hid hRN
 have HR := hid (And.intro hm (And.intro hb1 (And.intro hr hl)))
 have HT := hid hT
 have HS := hid hS
 have HOK := hid hok
 clear hb hcl hb1 hbl hm hr hl hT hok hRN e64 hS
 have HP := hid (show PB (w.alloc (.cells (ptC 2 (zeros 32) [] 0 (.pointer none) (.pointer none)) 127)) w.heap.size 2 (zeros 32) [] 0 (.pointer none) (.pointer none) from ⟨zeros_len _, heap_alloc_new _ _⟩)
 have HB1 := hid (show Below w.heap.size w (w.alloc (.cells (ptC 2 (zeros 32) [] 0 (.pointer none) (.pointer none)) 127)) from (Below.refl _ _).alloc (Nat.le_refl _) _)
 have k0 := HP.out.c0
 go_enter Tryd.func72, Tryd.ntmps72
 go_wp2_with (refine wpList_of_run (o := ⟨some 23, _, _, _, _, _⟩) rfl (exec_buildP 127 #[(0, Operand.tmp 22)] rfl #[(0, .int .u8 2)] (by simp only [List.map_toArray, List.map_cons, List.map_nil]; rfl) _ (HBD.out _)) ?_)
 have HP1 := hid HP.out
 have HB1' := hid HB1.out
 clear HP HB1 k0
 generalize w.alloc (.cells (ptC 2 (zeros 32) [] 0 (.pointer none) (.pointer none)) 127) = w1 at *
 have hT1 := HT.out w1 a1 c1 (m - 1) r (by have := HR.out.1; omega) (HR.out.2.1.below HB1'.out) (fun q hq => Nat.lt_of_lt_of_le (HS.out q hq) HB1'.out.size) HR.out.2.2.1 HR.out.2.2.2
 have hok1 := HOK.out r
 have hRN := HRN.out
 generalize T r = R1 at *
 refine hT1.mono ?_
 cases R1 with
 | inl e1 =>
  rintro e w2 ⟨hc, rfl, hb2⟩
  have HB2 := hid (HB1'.out.trans (hb2.mono HB1'.out.size))
  have HC := hid hc
  have HRS := hid (show rdNd T r = .inl e1 from hRN)
  have hne : (e1 != 0) = true := bne_iff_ne.2 hc
  clear hb2 hT1 hRN hok1 hc
  go_wp2_with fail
  go_ret3
  rw [HRS.out]
  exact ⟨HC.out, rfl, HB2.out⟩
 | inr x =>
  obtain ⟨tl, r1⟩ := x
  rintro e w2 ⟨bl, a2, c2, rfl, hpl, hb2, hbw2⟩
  obtain ⟨hr1, hl1⟩ := hok1 tl r1 rfl HR.out.2.2.1
  have hl1' : r1.length ≤ 1048576 := Nat.le_trans hl1 HR.out.2.2.2
  have HB2 := hid (HB1'.out.trans (hbw2.mono HB1'.out.size))
  have HP2 := hid (HP1.out.below hbw2)
  have HPL := hid hpl
  have HP1W := hid HP1.out
  have HW12 := hid hbw2.size
  have HR1 := hid (And.intro hb2 (And.intro hr1 hl1'))
  have hRN2 : rdNd T r = match rdEnt r1 with
   | .inl c => .inl c
   | .inr ((k, n), r2) => match T r2 with
    | .inl c => .inl c
    | .inr (tr, r3) => .inr (mkN k n (zeros 32) tl tr, r3) := hRN
  have HRN2 := hid hRN2
  have hn1 : (r1.length : Int) ≤ 1048576 := by omega
  clear hpl hb2 hbw2 hr1 hl1 hT1 hRN hRN2 hok1 HP1 HB1'
  generalize hnl : r1.length = nl at *
  have HNL := hid hnl
  clear hnl
  by_cases h2 : nl < 2
  ·have HRS := hid (show rdNd T r = .inl 6 from by rw [HRN2.out, show rdEnt r1 = .inl 6 from by unfold rdEnt; rw [if_pos (by rw [HNL.out]; exact h2)]])
   have h2i : (nl : Int) < 2 := by omega
   go_wp2_with fail
   refine wp_region_held_drew (S := fun u => Below w.heap.size w u) (by kernel_rfl) (HB2.out.drew) (fun hHeld => ?_)
   refine tk (i := 0) (oi := ⟨some 69, .move (.tmp 0), 31, "ref.go:152", #[], none⟩) (v := ?_) (Or.inl ⟨by rfl, ?_⟩) ?_
   rotate_left 1
   ·(intro u hSw; go_simp; try with_reducible rfl)
   try simp only [Act.put, sA, sB, sC]
   refine tk (i := 1) (oi := ⟨some 70, .call ⟨.builtin .len, #[.tmp 69], #[31]⟩, 3, "ref.go:152", #[⟨0, .data⟩], none⟩) (v := ?_) (Or.inl ⟨by rfl, ?_⟩) ?_
   rotate_left 1
   ·(intro u hSw; go_simp; try with_reducible rfl)
   try simp only [Act.put, sA, sB, sC]
   refine tk (i := 2) (oi := ⟨some 71, .binOp BinOp.lss 3 (.tmp 70) (.const (Value.int IntKind.i64 2)) 3, 4, "ref.go:152", #[⟨1, .data⟩], none⟩) (v := .bool true) (Or.inl ⟨by rfl, ?_⟩) ?_
   ·intro u hSw
    go_simp; try omega
   try simp only [Act.put, sA, sB, sC]
   refine tk (i := 3) (oi := ⟨some 72, .move (.tmp 71), 4, "ref.go:152", #[⟨2, .data⟩], none⟩) (v := ?_) (Or.inl ⟨by rfl, ?_⟩) ?_
   rotate_left 1
   ·(intro u hSw; go_simp; try with_reducible rfl)
   try simp only [Act.put, sA, sB, sC]
   refine tk (i := 4) (oi := ⟨some 73, .move (.tmp 0), 31, "ref.go:152", #[⟨3, .guard⟩], some (3, false)⟩) (v := undef) (by exact .inr ⟨by rfl, rfl⟩) ?_
   try simp only [Act.put, sA, sB, sC]
   refine tk (i := 5) (oi := ⟨some 74, .call ⟨.builtin .len, #[.tmp 73], #[31]⟩, 3, "ref.go:152", #[⟨4, .data⟩, ⟨3, .guard⟩], some (3, false)⟩) (v := undef) (by exact .inr ⟨by rfl, rfl⟩) ?_
   try simp only [Act.put, sA, sB, sC]
   refine tk (i := 6) (oi := ⟨some 75, .binOp BinOp.sub 3 (.tmp 74) (.const (Value.int IntKind.i64 10)) 3, 3, "ref.go:152", #[⟨5, .data⟩, ⟨3, .guard⟩], some (3, false)⟩) (v := undef) (by exact .inr ⟨by rfl, rfl⟩) ?_
   try simp only [Act.put, sA, sB, sC]
   refine tk (i := 7) (oi := ⟨some 76, .move (.tmp 0), 31, "ref.go:152", #[⟨3, .guard⟩], some (3, false)⟩) (v := undef) (by exact .inr ⟨by rfl, rfl⟩) ?_
   try simp only [Act.put, sA, sB, sC]
   refine tk (i := 8) (oi := ⟨some 77, .indexAddr 31 (.tmp 76) (.const (Value.int IntKind.i64 0)), 0, "ref.go:152", #[⟨7, .data⟩, ⟨3, .guard⟩], some (3, false)⟩) (v := undef) (by exact .inr ⟨by rfl, rfl⟩) ?_
   try simp only [Act.put, sA, sB, sC]
   refine tk (i := 9) (oi := ⟨some 78, .load 5 (.tmp 77), 5, "ref.go:152", #[⟨8, .data⟩, ⟨3, .guard⟩], some (3, false)⟩) (v := undef) (by exact .inr ⟨by rfl, rfl⟩) ?_
   try simp only [Act.put, sA, sB, sC]
   refine tk (i := 10) (oi := ⟨some 79, .convert 5 3 (.tmp 78), 3, "ref.go:152", #[⟨9, .data⟩, ⟨3, .guard⟩], some (3, false)⟩) (v := undef) (by exact .inr ⟨by rfl, rfl⟩) ?_
   try simp only [Act.put, sA, sB, sC]
   refine tk (i := 11) (oi := ⟨some 80, .binOp BinOp.shl 3 (.tmp 79) (.const (Value.int IntKind.u64 8)) 79, 3, "ref.go:152", #[⟨10, .data⟩, ⟨3, .guard⟩], some (3, false)⟩) (v := undef) (by exact .inr ⟨by rfl, rfl⟩) ?_
   try simp only [Act.put, sA, sB, sC]
   refine tk (i := 12) (oi := ⟨some 81, .move (.tmp 0), 31, "ref.go:152", #[⟨3, .guard⟩], some (3, false)⟩) (v := undef) (by exact .inr ⟨by rfl, rfl⟩) ?_
   try simp only [Act.put, sA, sB, sC]
   refine tk (i := 13) (oi := ⟨some 82, .indexAddr 31 (.tmp 81) (.const (Value.int IntKind.i64 1)), 0, "ref.go:152", #[⟨12, .data⟩, ⟨3, .guard⟩], some (3, false)⟩) (v := undef) (by exact .inr ⟨by rfl, rfl⟩) ?_
   try simp only [Act.put, sA, sB, sC]
   refine tk (i := 14) (oi := ⟨some 83, .load 5 (.tmp 82), 5, "ref.go:152", #[⟨13, .data⟩, ⟨3, .guard⟩], some (3, false)⟩) (v := undef) (by exact .inr ⟨by rfl, rfl⟩) ?_
   try simp only [Act.put, sA, sB, sC]
   refine tk (i := 15) (oi := ⟨some 84, .convert 5 3 (.tmp 83), 3, "ref.go:152", #[⟨14, .data⟩, ⟨3, .guard⟩], some (3, false)⟩) (v := undef) (by exact .inr ⟨by rfl, rfl⟩) ?_
   try simp only [Act.put, sA, sB, sC]
   refine tk (i := 16) (oi := ⟨some 85, .binOp BinOp.or 3 (.tmp 80) (.tmp 84) 3, 3, "ref.go:152", #[⟨11, .data⟩, ⟨15, .data⟩, ⟨3, .guard⟩], some (3, false)⟩) (v := undef) (by exact .inr ⟨by rfl, rfl⟩) ?_
   try simp only [Act.put, sA, sB, sC]
   refine tk (i := 17) (oi := ⟨some 86, .binOp BinOp.lss 3 (.tmp 75) (.tmp 85) 3, 4, "ref.go:152", #[⟨6, .data⟩, ⟨16, .data⟩, ⟨3, .guard⟩], some (3, false)⟩) (v := undef) (by exact .inr ⟨by rfl, rfl⟩) ?_
   try simp only [Act.put, sA, sB, sC]
   refine tk (i := 18) (oi := ⟨some 87, .pick (.tmp 72) (.const (Value.bool true)) (.tmp 86), 4, "ref.go:152", #[⟨3, .data⟩, ⟨17, .data⟩], none⟩) (v := ?_) (Or.inl ⟨by rfl, ?_⟩) ?_
   rotate_left 1
   ·(intro u hSw; go_simp; try with_reducible rfl)
   try simp only [Act.put, sA, sB, sC]
   refine wpAnyH_done (by kernel_rfl) ?_ _
   go_wp2_with fail
   go_ret3
   rw [HRS.out]
   exact ⟨by decide, rfl, HB2.out.drew⟩
  ·obtain ⟨kk, hkk, hor, hE1, hE2, hE3⟩ := rdEnt_at r1 HR1.out.2.1 (by rw [HNL.out]; omega)
   obtain ⟨b2, o2, rfl, hbl2, hcl2⟩ := bs_cells HR1.out.1.1 HNL.out (by omega)
   have HCB := hid (fun u (hu : Below w2.heap.size w2 u) i (hi : i < nl) => (World.cell?_of_block (a := ⟨b2, o2 + i, none⟩) (hu.block b2 hbl2)).trans (hcl2 i hi))
   have hx0 := HR1.out.2.1.get 0
   have hx1 := HR1.out.2.1.get 1
   have HOR := hid hor
   rw [HNL.out] at hE1 hE2 hE3
   have HEE := hid (And.intro hE1 (And.intro hE2 hE3))
   have h2i : ¬ (nl : Int) < 2 := by omega
   have h2j : (0 : Int) < (nl : Int) := by omega
   have h2m : 0 < nl := by omega
   have h2o : 1 < nl := by omega
   have h2k : (1 : Int) < (nl : Int) := by omega
   have hb9 : Below w2.heap.size w2 w2.drew := (Below.refl _ _).drew
   clear hE1 hE2 hE3 hor hcl2 hbl2
   by_cases h3 : nl < 10 + kk
   ·have HRS := hid (show rdNd T r = .inl 6 from by rw [HRN2.out, HEE.out.1 h3])
    go_wp2_with fail
    refine wp_region_held_drew (S := fun u => Below w2.heap.size w2 u) (by kernel_rfl) (hb9) (fun hHeld => ?_)
    refine tk (i := 0) (oi := ⟨some 69, .move (.tmp 0), 31, "ref.go:152", #[], none⟩) (v := ?_) (Or.inl ⟨by rfl, ?_⟩) ?_
    rotate_left 1
    ·(intro u hSw; go_simp; try with_reducible rfl)
    try simp only [Act.put, sA, sB, sC]
    refine tk (i := 1) (oi := ⟨some 70, .call ⟨.builtin .len, #[.tmp 69], #[31]⟩, 3, "ref.go:152", #[⟨0, .data⟩], none⟩) (v := ?_) (Or.inl ⟨by rfl, ?_⟩) ?_
    rotate_left 1
    ·(intro u hSw; go_simp; try with_reducible rfl)
    try simp only [Act.put, sA, sB, sC]
    refine tk (i := 2) (oi := ⟨some 71, .binOp BinOp.lss 3 (.tmp 70) (.const (Value.int IntKind.i64 2)) 3, 4, "ref.go:152", #[⟨1, .data⟩], none⟩) (v := .bool false) (Or.inl ⟨by rfl, ?_⟩) ?_
    ·intro u hSw
     go_simp; try omega
    try simp only [Act.put, sA, sB, sC]
    refine tk (i := 3) (oi := ⟨some 72, .move (.tmp 71), 4, "ref.go:152", #[⟨2, .data⟩], none⟩) (v := ?_) (Or.inl ⟨by rfl, ?_⟩) ?_
    rotate_left 1
    ·(intro u hSw; go_simp; try with_reducible rfl)
    try simp only [Act.put, sA, sB, sC]
    refine tk (i := 4) (oi := ⟨some 73, .move (.tmp 0), 31, "ref.go:152", #[⟨3, .guard⟩], some (3, false)⟩) (v := ?_) (Or.inl ⟨by rfl, ?_⟩) ?_
    rotate_left 1
    ·(intro u hSw; go_simp; try with_reducible rfl)
    try simp only [Act.put, sA, sB, sC]
    refine tk (i := 5) (oi := ⟨some 74, .call ⟨.builtin .len, #[.tmp 73], #[31]⟩, 3, "ref.go:152", #[⟨4, .data⟩, ⟨3, .guard⟩], some (3, false)⟩) (v := ?_) (Or.inl ⟨by rfl, ?_⟩) ?_
    rotate_left 1
    ·(intro u hSw; go_simp; try with_reducible rfl)
    try simp only [Act.put, sA, sB, sC]
    refine tk (i := 6) (oi := ⟨some 75, .binOp BinOp.sub 3 (.tmp 74) (.const (Value.int IntKind.i64 10)) 3, 3, "ref.go:152", #[⟨5, .data⟩, ⟨3, .guard⟩], some (3, false)⟩) (v := .int .i64 ((nl : Int) - 10)) (Or.inl ⟨by rfl, ?_⟩) ?_
    ·intro u hSw
     go_simp; first | done | exact IntWalk.i64_in _ (by omega) | (simp only [E64.out]; exact IntWalk.i64_in _ (by omega))
    try simp only [Act.put, sA, sB, sC]
    refine tk (i := 7) (oi := ⟨some 76, .move (.tmp 0), 31, "ref.go:152", #[⟨3, .guard⟩], some (3, false)⟩) (v := ?_) (Or.inl ⟨by rfl, ?_⟩) ?_
    rotate_left 1
    ·(intro u hSw; go_simp; try with_reducible rfl)
    try simp only [Act.put, sA, sB, sC]
    refine tk (i := 8) (oi := ⟨some 77, .indexAddr 31 (.tmp 76) (.const (Value.int IntKind.i64 0)), 0, "ref.go:152", #[⟨7, .data⟩, ⟨3, .guard⟩], some (3, false)⟩) (v := ?_) (Or.inl ⟨by rfl, ?_⟩) ?_
    rotate_left 1
    ·(intro u hSw; go_simp; try with_reducible rfl)
    try simp only [Act.put, sA, sB, sC]
    refine tk (i := 9) (oi := ⟨some 78, .load 5 (.tmp 77), 5, "ref.go:152", #[⟨8, .data⟩, ⟨3, .guard⟩], some (3, false)⟩) (v := ?_) (Or.inl ⟨by rfl, ?_⟩) ?_
    rotate_left 1
    ·(intro u hSw; have y0 := HCB.out _ hSw 0 (by omega); have y1 := HCB.out _ hSw 1 (by omega); simp only [Nat.add_zero] at y0; go_simp; try with_reducible rfl)
    try simp only [Act.put, sA, sB, sC]
    refine tk (i := 10) (oi := ⟨some 79, .convert 5 3 (.tmp 78), 3, "ref.go:152", #[⟨9, .data⟩, ⟨3, .guard⟩], some (3, false)⟩) (v := .int .i64 (r1[0]?.getD 0)) (Or.inl ⟨by rfl, ?_⟩) ?_
    ·intro u hSw
     go_simp; first | done | exact IntWalk.i64_in _ (by omega) | (simp only [E64.out]; exact IntWalk.i64_in _ (by omega))
    try simp only [Act.put, sA, sB, sC]
    refine tk (i := 11) (oi := ⟨some 80, .binOp BinOp.shl 3 (.tmp 79) (.const (Value.int IntKind.u64 8)) 79, 3, "ref.go:152", #[⟨10, .data⟩, ⟨3, .guard⟩], some (3, false)⟩) (v := .int .i64 ((r1[0]?.getD 0) * 256)) (Or.inl ⟨by rfl, ?_⟩) ?_
    ·intro u hSw
     go_simp; first | done | exact IntWalk.i64_in _ (by omega) | (simp only [E64.out]; exact IntWalk.i64_in _ (by omega))
    try simp only [Act.put, sA, sB, sC]
    refine tk (i := 12) (oi := ⟨some 81, .move (.tmp 0), 31, "ref.go:152", #[⟨3, .guard⟩], some (3, false)⟩) (v := ?_) (Or.inl ⟨by rfl, ?_⟩) ?_
    rotate_left 1
    ·(intro u hSw; go_simp; try with_reducible rfl)
    try simp only [Act.put, sA, sB, sC]
    refine tk (i := 13) (oi := ⟨some 82, .indexAddr 31 (.tmp 81) (.const (Value.int IntKind.i64 1)), 0, "ref.go:152", #[⟨12, .data⟩, ⟨3, .guard⟩], some (3, false)⟩) (v := ?_) (Or.inl ⟨by rfl, ?_⟩) ?_
    rotate_left 1
    ·(intro u hSw; go_simp; try with_reducible rfl)
    try simp only [Act.put, sA, sB, sC]
    refine tk (i := 14) (oi := ⟨some 83, .load 5 (.tmp 82), 5, "ref.go:152", #[⟨13, .data⟩, ⟨3, .guard⟩], some (3, false)⟩) (v := ?_) (Or.inl ⟨by rfl, ?_⟩) ?_
    rotate_left 1
    ·(intro u hSw; have y0 := HCB.out _ hSw 0 (by omega); have y1 := HCB.out _ hSw 1 (by omega); simp only [Nat.add_zero] at y0; go_simp; try with_reducible rfl)
    try simp only [Act.put, sA, sB, sC]
    refine tk (i := 15) (oi := ⟨some 84, .convert 5 3 (.tmp 83), 3, "ref.go:152", #[⟨14, .data⟩, ⟨3, .guard⟩], some (3, false)⟩) (v := .int .i64 (r1[1]?.getD 0)) (Or.inl ⟨by rfl, ?_⟩) ?_
    ·intro u hSw
     go_simp; first | done | exact IntWalk.i64_in _ (by omega) | (simp only [E64.out]; exact IntWalk.i64_in _ (by omega))
    try simp only [Act.put, sA, sB, sC]
    refine tk (i := 16) (oi := ⟨some 85, .binOp BinOp.or 3 (.tmp 80) (.tmp 84) 3, 3, "ref.go:152", #[⟨11, .data⟩, ⟨15, .data⟩, ⟨3, .guard⟩], some (3, false)⟩) (v := .int .i64 (kk : Int)) (Or.inl ⟨by rfl, ?_⟩) ?_
    ·intro u hSw
     go_simp; exact HOR.out
    try simp only [Act.put, sA, sB, sC]
    refine tk (i := 17) (oi := ⟨some 86, .binOp BinOp.lss 3 (.tmp 75) (.tmp 85) 3, 4, "ref.go:152", #[⟨6, .data⟩, ⟨16, .data⟩, ⟨3, .guard⟩], some (3, false)⟩) (v := .bool true) (Or.inl ⟨by rfl, ?_⟩) ?_
    ·intro u hSw
     go_simp; try omega
    try simp only [Act.put, sA, sB, sC]
    refine tk (i := 18) (oi := ⟨some 87, .pick (.tmp 72) (.const (Value.bool true)) (.tmp 86), 4, "ref.go:152", #[⟨3, .data⟩, ⟨17, .data⟩], none⟩) (v := ?_) (Or.inl ⟨by rfl, ?_⟩) ?_
    rotate_left 1
    ·(intro u hSw; go_simp; try with_reducible rfl)
    try simp only [Act.put, sA, sB, sC]
    refine wpAnyH_done (by kernel_rfl) ?_ _
    go_wp2_with fail
    go_ret3
    rw [HRS.out]
    exact ⟨by decide, rfl, HB2.out.drew⟩
   ·go_wp2_with fail
    refine wp_region_held_drew (S := fun u => Below w2.heap.size w2 u) (by kernel_rfl) (hb9) (fun hHeld => ?_)
    refine tk (i := 0) (oi := ⟨some 69, .move (.tmp 0), 31, "ref.go:152", #[], none⟩) (v := ?_) (Or.inl ⟨by rfl, ?_⟩) ?_
    rotate_left 1
    ·(intro u hSw; go_simp; try with_reducible rfl)
    try simp only [Act.put, sA, sB, sC]
    refine tk (i := 1) (oi := ⟨some 70, .call ⟨.builtin .len, #[.tmp 69], #[31]⟩, 3, "ref.go:152", #[⟨0, .data⟩], none⟩) (v := ?_) (Or.inl ⟨by rfl, ?_⟩) ?_
    rotate_left 1
    ·(intro u hSw; go_simp; try with_reducible rfl)
    try simp only [Act.put, sA, sB, sC]
    refine tk (i := 2) (oi := ⟨some 71, .binOp BinOp.lss 3 (.tmp 70) (.const (Value.int IntKind.i64 2)) 3, 4, "ref.go:152", #[⟨1, .data⟩], none⟩) (v := .bool false) (Or.inl ⟨by rfl, ?_⟩) ?_
    ·intro u hSw
     go_simp; try omega
    try simp only [Act.put, sA, sB, sC]
    refine tk (i := 3) (oi := ⟨some 72, .move (.tmp 71), 4, "ref.go:152", #[⟨2, .data⟩], none⟩) (v := ?_) (Or.inl ⟨by rfl, ?_⟩) ?_
    rotate_left 1
    ·(intro u hSw; go_simp; try with_reducible rfl)
    try simp only [Act.put, sA, sB, sC]
    refine tk (i := 4) (oi := ⟨some 73, .move (.tmp 0), 31, "ref.go:152", #[⟨3, .guard⟩], some (3, false)⟩) (v := ?_) (Or.inl ⟨by rfl, ?_⟩) ?_
    rotate_left 1
    ·(intro u hSw; go_simp; try with_reducible rfl)
    try simp only [Act.put, sA, sB, sC]
    refine tk (i := 5) (oi := ⟨some 74, .call ⟨.builtin .len, #[.tmp 73], #[31]⟩, 3, "ref.go:152", #[⟨4, .data⟩, ⟨3, .guard⟩], some (3, false)⟩) (v := ?_) (Or.inl ⟨by rfl, ?_⟩) ?_
    rotate_left 1
    ·(intro u hSw; go_simp; try with_reducible rfl)
    try simp only [Act.put, sA, sB, sC]
    refine tk (i := 6) (oi := ⟨some 75, .binOp BinOp.sub 3 (.tmp 74) (.const (Value.int IntKind.i64 10)) 3, 3, "ref.go:152", #[⟨5, .data⟩, ⟨3, .guard⟩], some (3, false)⟩) (v := .int .i64 ((nl : Int) - 10)) (Or.inl ⟨by rfl, ?_⟩) ?_
    ·intro u hSw
     go_simp; first | done | exact IntWalk.i64_in _ (by omega) | (simp only [E64.out]; exact IntWalk.i64_in _ (by omega))
    try simp only [Act.put, sA, sB, sC]
    refine tk (i := 7) (oi := ⟨some 76, .move (.tmp 0), 31, "ref.go:152", #[⟨3, .guard⟩], some (3, false)⟩) (v := ?_) (Or.inl ⟨by rfl, ?_⟩) ?_
    rotate_left 1
    ·(intro u hSw; go_simp; try with_reducible rfl)
    try simp only [Act.put, sA, sB, sC]
    refine tk (i := 8) (oi := ⟨some 77, .indexAddr 31 (.tmp 76) (.const (Value.int IntKind.i64 0)), 0, "ref.go:152", #[⟨7, .data⟩, ⟨3, .guard⟩], some (3, false)⟩) (v := ?_) (Or.inl ⟨by rfl, ?_⟩) ?_
    rotate_left 1
    ·(intro u hSw; go_simp; try with_reducible rfl)
    try simp only [Act.put, sA, sB, sC]
    refine tk (i := 9) (oi := ⟨some 78, .load 5 (.tmp 77), 5, "ref.go:152", #[⟨8, .data⟩, ⟨3, .guard⟩], some (3, false)⟩) (v := ?_) (Or.inl ⟨by rfl, ?_⟩) ?_
    rotate_left 1
    ·(intro u hSw; have y0 := HCB.out _ hSw 0 (by omega); have y1 := HCB.out _ hSw 1 (by omega); simp only [Nat.add_zero] at y0; go_simp; try with_reducible rfl)
    try simp only [Act.put, sA, sB, sC]
    refine tk (i := 10) (oi := ⟨some 79, .convert 5 3 (.tmp 78), 3, "ref.go:152", #[⟨9, .data⟩, ⟨3, .guard⟩], some (3, false)⟩) (v := .int .i64 (r1[0]?.getD 0)) (Or.inl ⟨by rfl, ?_⟩) ?_
    ·intro u hSw
     go_simp; first | done | exact IntWalk.i64_in _ (by omega) | (simp only [E64.out]; exact IntWalk.i64_in _ (by omega))
    try simp only [Act.put, sA, sB, sC]
    refine tk (i := 11) (oi := ⟨some 80, .binOp BinOp.shl 3 (.tmp 79) (.const (Value.int IntKind.u64 8)) 79, 3, "ref.go:152", #[⟨10, .data⟩, ⟨3, .guard⟩], some (3, false)⟩) (v := .int .i64 ((r1[0]?.getD 0) * 256)) (Or.inl ⟨by rfl, ?_⟩) ?_
    ·intro u hSw
     go_simp; first | done | exact IntWalk.i64_in _ (by omega) | (simp only [E64.out]; exact IntWalk.i64_in _ (by omega))
    try simp only [Act.put, sA, sB, sC]
    refine tk (i := 12) (oi := ⟨some 81, .move (.tmp 0), 31, "ref.go:152", #[⟨3, .guard⟩], some (3, false)⟩) (v := ?_) (Or.inl ⟨by rfl, ?_⟩) ?_
    rotate_left 1
    ·(intro u hSw; go_simp; try with_reducible rfl)
    try simp only [Act.put, sA, sB, sC]
    refine tk (i := 13) (oi := ⟨some 82, .indexAddr 31 (.tmp 81) (.const (Value.int IntKind.i64 1)), 0, "ref.go:152", #[⟨12, .data⟩, ⟨3, .guard⟩], some (3, false)⟩) (v := ?_) (Or.inl ⟨by rfl, ?_⟩) ?_
    rotate_left 1
    ·(intro u hSw; go_simp; try with_reducible rfl)
    try simp only [Act.put, sA, sB, sC]
    refine tk (i := 14) (oi := ⟨some 83, .load 5 (.tmp 82), 5, "ref.go:152", #[⟨13, .data⟩, ⟨3, .guard⟩], some (3, false)⟩) (v := ?_) (Or.inl ⟨by rfl, ?_⟩) ?_
    rotate_left 1
    ·(intro u hSw; have y0 := HCB.out _ hSw 0 (by omega); have y1 := HCB.out _ hSw 1 (by omega); simp only [Nat.add_zero] at y0; go_simp; try with_reducible rfl)
    try simp only [Act.put, sA, sB, sC]
    refine tk (i := 15) (oi := ⟨some 84, .convert 5 3 (.tmp 83), 3, "ref.go:152", #[⟨14, .data⟩, ⟨3, .guard⟩], some (3, false)⟩) (v := .int .i64 (r1[1]?.getD 0)) (Or.inl ⟨by rfl, ?_⟩) ?_
    ·intro u hSw
     go_simp; first | done | exact IntWalk.i64_in _ (by omega) | (simp only [E64.out]; exact IntWalk.i64_in _ (by omega))
    try simp only [Act.put, sA, sB, sC]
    refine tk (i := 16) (oi := ⟨some 85, .binOp BinOp.or 3 (.tmp 80) (.tmp 84) 3, 3, "ref.go:152", #[⟨11, .data⟩, ⟨15, .data⟩, ⟨3, .guard⟩], some (3, false)⟩) (v := .int .i64 (kk : Int)) (Or.inl ⟨by rfl, ?_⟩) ?_
    ·intro u hSw
     go_simp; exact HOR.out
    try simp only [Act.put, sA, sB, sC]
    refine tk (i := 17) (oi := ⟨some 86, .binOp BinOp.lss 3 (.tmp 75) (.tmp 85) 3, 4, "ref.go:152", #[⟨6, .data⟩, ⟨16, .data⟩, ⟨3, .guard⟩], some (3, false)⟩) (v := .bool false) (Or.inl ⟨by rfl, ?_⟩) ?_
    ·intro u hSw
     go_simp; try omega
    try simp only [Act.put, sA, sB, sC]
    refine tk (i := 18) (oi := ⟨some 87, .pick (.tmp 72) (.const (Value.bool true)) (.tmp 86), 4, "ref.go:152", #[⟨3, .data⟩, ⟨17, .data⟩], none⟩) (v := ?_) (Or.inl ⟨by rfl, ?_⟩) ?_
    rotate_left 1
    ·(intro u hSw; go_simp; try with_reducible rfl)
    try simp only [Act.put, sA, sB, sC]
    refine wpAnyH_done (by kernel_rfl) ?_ _
    have hbu := hb9
    clear hb9
    generalize World.drew w2 = ud at *
    go_wp2_with fail
    refine wp_region_held_drew (S := fun u => Below w2.heap.size w2 u) (by kernel_rfl) (hbu.drew) (fun hHeld => ?_)
    refine tk (i := 0) (oi := ⟨some 88, .move (.tmp 0), 31, "ref.go:155", #[], none⟩) (v := ?_) (Or.inl ⟨by rfl, ?_⟩) ?_
    rotate_left 1
    ·(intro u hSw; go_simp; try with_reducible rfl)
    try simp only [Act.put, sA, sB, sC]
    refine tk (i := 1) (oi := ⟨some 89, .indexAddr 31 (.tmp 88) (.const (Value.int IntKind.i64 0)), 0, "ref.go:155", #[⟨0, .data⟩], none⟩) (v := ?_) (Or.inl ⟨by rfl, ?_⟩) ?_
    rotate_left 1
    ·(intro u hSw; go_simp; try with_reducible rfl)
    try simp only [Act.put, sA, sB, sC]
    refine tk (i := 2) (oi := ⟨some 90, .load 5 (.tmp 89), 5, "ref.go:155", #[⟨1, .data⟩], none⟩) (v := ?_) (Or.inl ⟨by rfl, ?_⟩) ?_
    rotate_left 1
    ·(intro u hSw; have y0 := HCB.out _ hSw 0 (by omega); have y1 := HCB.out _ hSw 1 (by omega); simp only [Nat.add_zero] at y0; go_simp; try with_reducible rfl)
    try simp only [Act.put, sA, sB, sC]
    refine tk (i := 3) (oi := ⟨some 91, .convert 5 3 (.tmp 90), 3, "ref.go:155", #[⟨2, .data⟩], none⟩) (v := .int .i64 (r1[0]?.getD 0)) (Or.inl ⟨by rfl, ?_⟩) ?_
    ·intro u hSw
     go_simp; first | done | exact IntWalk.i64_in _ (by omega) | (simp only [E64.out]; exact IntWalk.i64_in _ (by omega))
    try simp only [Act.put, sA, sB, sC]
    refine tk (i := 4) (oi := ⟨some 92, .binOp BinOp.shl 3 (.tmp 91) (.const (Value.int IntKind.u64 8)) 79, 3, "ref.go:155", #[⟨3, .data⟩], none⟩) (v := .int .i64 ((r1[0]?.getD 0) * 256)) (Or.inl ⟨by rfl, ?_⟩) ?_
    ·intro u hSw
     go_simp; first | done | exact IntWalk.i64_in _ (by omega) | (simp only [E64.out]; exact IntWalk.i64_in _ (by omega))
    try simp only [Act.put, sA, sB, sC]
    refine tk (i := 5) (oi := ⟨some 93, .move (.tmp 0), 31, "ref.go:155", #[], none⟩) (v := ?_) (Or.inl ⟨by rfl, ?_⟩) ?_
    rotate_left 1
    ·(intro u hSw; go_simp; try with_reducible rfl)
    try simp only [Act.put, sA, sB, sC]
    refine tk (i := 6) (oi := ⟨some 94, .indexAddr 31 (.tmp 93) (.const (Value.int IntKind.i64 1)), 0, "ref.go:155", #[⟨5, .data⟩], none⟩) (v := ?_) (Or.inl ⟨by rfl, ?_⟩) ?_
    rotate_left 1
    ·(intro u hSw; go_simp; try with_reducible rfl)
    try simp only [Act.put, sA, sB, sC]
    refine tk (i := 7) (oi := ⟨some 95, .load 5 (.tmp 94), 5, "ref.go:155", #[⟨6, .data⟩], none⟩) (v := ?_) (Or.inl ⟨by rfl, ?_⟩) ?_
    rotate_left 1
    ·(intro u hSw; have y0 := HCB.out _ hSw 0 (by omega); have y1 := HCB.out _ hSw 1 (by omega); simp only [Nat.add_zero] at y0; go_simp; try with_reducible rfl)
    try simp only [Act.put, sA, sB, sC]
    refine tk (i := 8) (oi := ⟨some 96, .convert 5 3 (.tmp 95), 3, "ref.go:155", #[⟨7, .data⟩], none⟩) (v := .int .i64 (r1[1]?.getD 0)) (Or.inl ⟨by rfl, ?_⟩) ?_
    ·intro u hSw
     go_simp; first | done | exact IntWalk.i64_in _ (by omega) | (simp only [E64.out]; exact IntWalk.i64_in _ (by omega))
    try simp only [Act.put, sA, sB, sC]
    refine tk (i := 9) (oi := ⟨some 97, .binOp BinOp.or 3 (.tmp 92) (.tmp 96) 3, 3, "ref.go:155", #[⟨4, .data⟩, ⟨8, .data⟩], none⟩) (v := .int .i64 (kk : Int)) (Or.inl ⟨by rfl, ?_⟩) ?_
    ·intro u hSw
     go_simp; exact HOR.out
    try simp only [Act.put, sA, sB, sC]
    refine tk (i := 10) (oi := ⟨some 11, .assign (.tmp 97), 3, "ref.go:155", #[⟨9, .data⟩, ⟨0, .phase⟩, ⟨1, .phase⟩, ⟨2, .phase⟩, ⟨3, .phase⟩, ⟨4, .phase⟩, ⟨5, .phase⟩, ⟨6, .phase⟩, ⟨7, .phase⟩, ⟨8, .phase⟩, ⟨9, .phase⟩], none⟩) (v := ?_) (Or.inl ⟨by rfl, ?_⟩) ?_
    rotate_left 1
    ·(intro u hSw; go_simp; try with_reducible rfl)
    try simp only [Act.put, sA, sB, sC]
    refine wpAnyH_done (by kernel_rfl) ?_ _
    have hbe := hbu.drew
    clear hbu hHeld
    generalize World.drew ud = ue at *
    have hS2 : S b2 := HR1.out.1.2 b2 o2 nl c2 rfl (by rw [HNL.out]; omega)
    have hb2w : b2 < w.heap.size := HS.out b2 hS2
    obtain ⟨a5, c5, q5, hb5⟩ := bs_mid HR1.out.1.1 HNL.out 2 (2 + kk) (by omega) (by omega)
    rw [show 2 + kk - 2 = kk by omega] at q5 hb5
    have hkl : ((r1.drop 2).take kk).length = kk := by rw [List.length_take, List.length_drop, HNL.out]; omega
    have HKR := hid (show Rng ((r1.drop 2).take kk) from (HR1.out.2.1.drop 2).take kk)
    generalize hkey : (r1.drop 2).take kk = key at *
    have HKEY := hid hkey
    have CV := hid (conv_bs ue a5 kk c5 key (hb5.below hbe))
    have HP2U := hid (HP2.out.below hbe)
    have HB2U := hid (HB2.out.trans (hbe.mono HB2.out.size))
    have k33 : ue.cell? ⟨w.heap.size, 33, none⟩ = some (.string (str [])) := HP2U.out.ck
    have f33 : ue.frozen? ⟨w.heap.size, 33, none⟩ = false := HP2U.out.fz 33
    obtain ⟨K2, hK2⟩ : ∃ K2 : Nat, K2 = 2 + kk := ⟨_, rfl⟩
    replace q5 : ∀ (u : World), (Instr.slice 31 (.slice (some ⟨b2, o2, none⟩) nl c2) (some (.int .i64 2)) (some (.int .i64 (2 + (kk : Int)))) none).run Tryd.prog u = .ok (.slice a5 kk c5) u := fun u => by rw [show (2 : Int) + (kk : Int) = ((2 + kk : Nat) : Int) by omega]; exact q5 u
    have HQ5 := hid q5
    have HKL := hid hkl
    have HK2 := hid hK2
    clear hb5 hkey hkl q5
    go_wp2_with (first | (refine wpList_of_run (o := ⟨some 102, _, _, _, _, _⟩) rfl (exec_midB (Operand.tmp 99) (Operand.const (.int .i64 2)) (Operand.tmp 101) rfl (some ⟨b2, o2, none⟩) nl c2 (.int .i64 2) (.int .i64 (2 + (kk : Int))) rfl rfl rfl _ (HQ5.out ue)) ?_) | (refine wpList_of_run (o := ⟨some 103, _, _, _, _, _⟩) rfl (exec_convP 31 9 (Operand.tmp 102) rfl _ rfl _ CV.out) ?_))
    have hch3 := PB.chg (w := ue) HP2U.out 33 (.string (str key))
    have HP3 := hid (PB.setk (w := ue) HP2U.out key)
    have HB3 := hid (HB2U.out.trans (hch3.below (B := w.heap.size) (fun q e => by omega) HB2U.out.size))
    have HCB3 := hid (fun i (hi : i < nl) => (World.cell?_of_block (a := ⟨b2, o2 + i, none⟩) (hch3.block b2 (Nat.lt_of_lt_of_le hb2w HB2U.out.size) (by omega))).trans (HCB.out ue hbe i hi))
    have HPL3 := hid (PTs.cg hch3 (blk_lt HP1W.out.2) (HPL.out.below hbe))
    have HR3 := hid (KIs.cg (HR1.out.1.below hbe) hch3 (fun q _ hq e => by have := HS.out q hq; omega))
    have hsz3 : w1.heap.size ≤ (ue.setCell ⟨w.heap.size, 33, none⟩ (.string (str key))).heap.size := Nat.le_trans HW12.out (Nat.le_trans hbe.size hch3.size)
    clear hch3 k33 f33 hbe
    generalize ue.setCell ⟨w.heap.size, 33, none⟩ (.string (str key)) = w3 at *
    have HSZ3 := hid hsz3
    have HL8 := hid (show Rng (r1.drop K2) ∧ (r1.drop K2).length = nl - K2 from ⟨HR1.out.2.1.drop K2, by rw [List.length_drop, HNL.out]⟩)
    clear hsz3
    go_loop [12, 13] (fun c i => ∃ j : Nat, j ≤ 8 ∧ c = .int .u64 (beI ((r1.drop K2).take j) : Int) ∧ i = .int .i64 (j : Int)) (fun _ i => 8 - (intOf i).toNat)
    case atStart => exact ⟨0, Nat.zero_le _, rfl, rfl⟩
    case round =>
     obtain ⟨j, hj, rfl, rfl⟩ := hrel
     by_cases hlt : j < 8
     ·have hce := HCB3.out (K2 + j) (by omega)
      have hst := be_step (r1.drop K2) HL8.out.1 j hlt (by rw [HL8.out.2]; omega)
      rw [List.getElem?_drop] at hst
      have HST := hid hst
      obtain ⟨KJ, hKJ⟩ : ∃ KJ : Nat, KJ = K2 + j := ⟨_, rfl⟩
      rw [← hKJ] at hce
      have hkjn : (2 + (kk : Int) + (j : Int)).toNat = KJ := by omega
      have hkj0 : (0 : Int) ≤ 2 + (kk : Int) + (j : Int) := by omega
      have hkj1 : 2 + (kk : Int) + (j : Int) < (nl : Int) := by omega
      have hkj2 : KJ < nl := by omega
      have hj8 : (j : Int) < 8 := by omega
      have HKJ := hid hKJ
      clear hst hKJ
      go_wp2
      go_round
      case rel => exact ⟨j + 1, by omega, by rw [← HST.out, ← HKJ.out, HK2.out], by go_num⟩
      case measure => simp [intOf]; omega
     ·have hj2 : j = 8 := by omega
      subst hj2
      obtain ⟨bv, hbv⟩ : ∃ bv : Int, (beI ((r1.drop K2).take 8) : Int) = bv := ⟨_, rfl⟩
      obtain ⟨cnt, hcnt⟩ : ∃ cnt : Int, rdN ((r1.drop K2).take 8) = cnt := ⟨_, rfl⟩
      have hcw : IntKind.i64.wrap bv = cnt := by rw [← hcnt, ← hbv]; rfl
      have hcw2 : wrap64 bv = cnt := by simp only [E64.out]; exact hcw
      have hcr : cnt < 9223372036854775808 := by rw [← hcw, IntKind.wrap_i64]; omega
      have HEE2 := hid HEE.out.2
      rw [← HK2.out, hcnt] at HEE2
      rw [hbv]
      have HCR := hid hcr
      have k34 : w3.cell? ⟨w.heap.size, 34, none⟩ = some (.int .i64 0) := HP3.out.cn
      have f34 : w3.frozen? ⟨w.heap.size, 34, none⟩ = false := HP3.out.fz 34
      have k34b := (HP3.out.setn cnt).cn
      have HP4 := hid (HP3.out.setn cnt)
      have hch4 := HP3.out.chg 34 (.int .i64 cnt)
      have HB4 := hid (HB3.out.trans (hch4.below (B := w.heap.size) (fun q e => by omega) HB3.out.size))
      clear hbv hcnt hcr hlt hj
      by_cases hc1 : cnt < 1
      ·have HRS := hid (show rdNd T r = .inl 5 from by rw [HRN2.out, HEE2.out.1 (by omega) (by omega)])
       clear hch4
       go_wp2_with fail
       go_ret3
       rw [HRS.out]
       exact ⟨by decide, rfl, HB4.out⟩
      ·have HE3 := hid (HEE2.out.2 (by omega) (by omega))
       obtain ⟨K10, hK10⟩ : ∃ K10 : Nat, K10 = 10 + kk := ⟨_, rfl⟩
       have HR4 := hid (HR3.out.cg hch4 (fun q _ hq e => by have := HS.out q hq; omega))
       have HPL4 := hid (PTs.cg hch4 (blk_lt HP1W.out.2) HPL3.out)
       have HSZ4 := hid (Nat.le_trans HSZ3.out hch4.size)
       obtain ⟨a6, c6, q6, hb6⟩ := kis_drop HR4.out HNL.out K10 (by omega)
       have HR6 := hid hb6
       replace q6 : ∀ (u : World), (Instr.slice 31 (.slice (some ⟨b2, o2, none⟩) nl c2) (some (.int .i64 (10 + (kk : Int)))) none none).run Tryd.prog u = .ok (.slice a6 (nl - K10) c6) u := fun u => by rw [show (10 : Int) + (kk : Int) = (K10 : Int) by omega]; exact q6 u
       have HQ6 := hid q6
       clear q6
       have HK10 := hid hK10
       clear hch4 hb6 hK10
       go_wp2_with (refine wpList_of_run (o := ⟨some 138, _, _, _, _, _⟩) rfl (exec_onB (Operand.tmp 135) (Operand.tmp 137) rfl (some ⟨b2, o2, none⟩) nl c2 (.int .i64 (10 + (kk : Int))) rfl rfl _ (HQ6.out _)) ?_)
       clear k34 f34 k34b
       generalize w3.setCell ⟨w.heap.size, 34, none⟩ (.int .i64 cnt) = w4 at *
       have hT2 := HT.out w4 a6 c6 (nl - K10) (r1.drop K10) (by rw [List.length_drop, HNL.out]) HR6.out (fun q hq => Nat.lt_of_lt_of_le (HS.out q hq) HB4.out.size) (HR1.out.2.1.drop K10) (by rw [List.length_drop, HNL.out]; omega)
       have hRN3 : rdNd T r = match T (r1.drop K10) with
        | .inl c => .inl c
        | .inr (tr, r3) => .inr (mkN key cnt.toNat (zeros 32) tl tr, r3) := by
        rw [HRN2.out, HE3.out, HK10.out]
       generalize T (r1.drop K10) = R2 at *
       refine hT2.mono ?_
       cases R2 with
       | inl e1 =>
        rintro e w5 ⟨hc, rfl, hb5⟩
        have HB5 := hid (HB4.out.trans (hb5.mono HB4.out.size))
        have HC := hid hc
        have HRS := hid (show rdNd T r = .inl e1 from hRN3)
        have hne : (e1 != 0) = true := bne_iff_ne.2 hc
        clear hb5 hT2 hRN3 hc
        go_wp2_with fail
        go_ret3
        rw [HRS.out]
        exact ⟨HC.out, rfl, HB5.out⟩
       | inr x =>
        obtain ⟨tr, r3⟩ := x
        rintro e w5 ⟨br, a7, c7, rfl, hpr, hk7, hb5⟩
        have HB5 := hid (HB4.out.trans (hb5.mono HB4.out.size))
        have HP5 := hid (HP4.out.below hb5)
        have HP6 := hid (HP5.out.setl (.pointer (some ⟨bl, 0, none⟩)))
        have HP7 := hid (HP6.out.setr (.pointer (some ⟨br, 0, none⟩)))
        have hch6 := HP5.out.chg 35 (.pointer (some ⟨bl, 0, none⟩))
        have hch7 := hch6.trans (HP6.out.chg 36 (.pointer (some ⟨br, 0, none⟩))) (fun i e => .inl e)
        have hX1 : w.heap.size < w1.heap.size := blk_lt HP1W.out.2
        have HPL7 := hid (PTs.cg hch7 hX1 (HPL4.out.below hb5))
        have HPR7 := hid (PTs.cg hch7 (Nat.lt_of_lt_of_le hX1 HSZ4.out) hpr)
        have HK7 := hid (hk7.cg hch7 (fun q _ hq e => by have := HS.out q hq; omega))
        have HB7 := hid (HB5.out.trans (hch7.below (B := w.heap.size) (fun q e => by omega) HB5.out.size))
        have k35 : w5.cell? ⟨w.heap.size, 35, none⟩ = some (.pointer none) := HP5.out.cl
        have f35 : w5.frozen? ⟨w.heap.size, 35, none⟩ = false := HP5.out.fz 35
        have k36 := HP6.out.cr
        have f36 := HP6.out.fz 36
        have HRS := hid (show rdNd T r = .inr (mkN key cnt.toNat (zeros 32) tl tr, r3) from hRN3)
        clear hb5 hT2 hRN3 hpr hk7 hch6 hch7
        go_wp2_with fail
        go_ret3
        rw [HRS.out]
        have hcn : ((cnt.toNat : Nat) : Int) = cnt := by omega
        exact ⟨_, _, _, rfl, ⟨_, _, _, rfl, Nat.le_refl _, by rw [hcn]; exact HP7.out, HPL7.out.mono (Nat.le_of_lt hX1), HPR7.out.mono (Nat.le_trans (Nat.le_of_lt hX1) HSZ4.out)⟩, HK7.out, HB7.out⟩
set_option maxRecDepth 100000 in
set_option maxHeartbeats 8000000 in
theorem refRead_deep {S : Nat → Prop} (w : World) (a : Option Addr) (c m d : Nat) (l : List Int) (hd : d = 4097) :
  Calls Tryd.prog 72 #[.slice a m c, .int .i64 (d : Int)] w fun e w' => PEnd S w e w' (rdT 0 l) := by
 subst hd
 go_enter Tryd.func72, Tryd.ntmps72
 go_wp2_with fail
 go_ret3
 exact ⟨by decide, rfl, Below.refl _ _⟩
set_option maxRecDepth 100000 in
set_option maxHeartbeats 8000000 in
theorem refRead_short {S : Nat → Prop} (w : World) (a : Option Addr) (c d : Nat) (hd : d ≤ 4096) :
  Calls Tryd.prog 72 #[.slice a 0 c, .int .i64 (d : Int)] w fun e w' => PEnd S w e w' (.inl 6) := by
 have hd1 : ¬ (d : Int) > 4096 := by omega
 go_enter Tryd.func72, Tryd.ntmps72
 go_wp2_with fail
 go_ret3
 exact ⟨by decide, rfl, Below.refl _ _⟩
theorem refRead_any {S : Nat → Prop} : ∀ (f d : Nat), f + d = 4097 → ∀ (u : World) (a : Option Addr) (c m : Nat) (l : List Int), l.length = m → KIs u S (.slice a m c) l → (∀ q, S q → q < u.heap.size) → Rng l → l.length ≤ 1048576 →
  Calls Tryd.prog 72 #[.slice a m c, .int .i64 (d : Int)] u fun e w' => PEnd S u e w' (rdT f l)
 | 0, d, hf, u, a, c, m, l, hm, hb, hS, hr, hl => refRead_deep u a c m d l (by omega)
 | f + 1, d, hf, u, a, c, m, [], hm, hb, hS, hr, hl => by
  have hm0 : m = 0 := hm.symm
  subst hm0
  exact refRead_short u a c d (by omega)
 | f + 1, d, hf, u, a, c, m, x :: r, hm, hb, hS, hr, hl => by
  have hx := hr x List.mem_cons_self
  have hr' : Rng r := fun y hy => hr y (List.mem_cons_of_mem _ hy)
  have hm' : r.length + 1 = m := hm
  have e : rdT (f + 1) (x :: r) = if x = 0 then .inr (.nil, r) else if x = 1 then rdP r else if x = 2 then rdNd (rdT f) r else .inl 5 := rfl
  rw [e]
  by_cases n0 : x = 0
  ·subst n0
   rw [if_pos rfl]
   exact refRead_zero u a c m d r hm' hb (by omega)
  ·rw [if_neg n0]
   by_cases n1 : x = 1
   ·subst n1
    rw [if_pos rfl]
    exact refRead_one u a c m d r hm' hb (by omega)
   ·rw [if_neg n1]
    by_cases n2 : x = 2
    ·subst n2
     rw [if_pos rfl]
     exact refRead_two (rdT f) d (by omega) (fun u a c m l h1 h2 h3 h4 h5 => refRead_any f (d + 1) (by omega) u a c m l h1 h2 h3 h4 h5) (fun l t r h hl => ⟨(rdT_ok f l hl t r h).2, by have := rdT_len f l t r h; omega⟩) u a c m r hm' hb hS hr' (by have : (2 :: r).length = r.length + 1 := rfl; omega)
    ·rw [if_neg n2]
     exact refRead_other u a c m d x r hm' hb (by omega) n0 n1 n2
end Go.Proofs.YtbmlkocpjboodaaDoor
