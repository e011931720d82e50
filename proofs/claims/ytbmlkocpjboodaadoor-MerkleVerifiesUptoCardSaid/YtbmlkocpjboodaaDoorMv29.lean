/- stage 7: Verify of the reference -/
import Derived.Test.YtbmlkocpjboodaaDoorMv28
namespace Go.Proofs.YtbmlkocpjboodaaDoor
open Go.RowKit
open Go.Lib (hid)
/-- how the reference's Verify ends -/
def VEndR (w : World) (d : Ending) (w' : World) : Int ⊕ List (List Int × Nat) → Prop
 | .inl c => c ≠ 0 ∧ d = .returned (.tuple #[.slice none 0 0, .int .i64 c]) ∧ Below w.heap.size w w'
 | .inr es => ∃ v, d = .returned (.tuple #[v, .int .i64 0]) ∧ RfO w' w.heap.size v es ∧ Below w.heap.size w w'
def prevN (es : List (List Int × Nat)) (j : Nat) : Option (List Int) := if j = 0 then none else (es[j - 1]?).map (·.1)
theorem asc_chn (t : MT) : t.ascends = chn none t.ino := by
  have h1 := ascends_ino t
  have h2 := chn_asc t.ino none
  cases hc : chn none t.ino with
  | true => exact h1.2 (h2.1 hc).1
  | false =>
    cases ha : t.ascends with
    | false => rfl
    | true =>
      have := h2.2 ⟨h1.1 ha, fun k hk => by cases hk⟩
      rw [hc] at this
      cases this
set_option maxRecDepth 100000 in
set_option maxHeartbeats 8000000 in
theorem refVerify_any (w : World) (root fr to : List Int) (e : Bool) (a : Option Addr) (c m : Nat) (pf : List Int) (hr : root.length = 32) (hm : pf.length = m) (hp : Bs w (.slice a m c) pf) (gf : Rng fr) (gt : Rng to) (gp : Rng pf) (hl : pf.length ≤ 1048576) :
  Calls Tryd.prog 23 #[.agg (ArrU8 root), .string (str fr), .string (str to), .bool e, .slice a m c] w fun d w' => VEndR w d w' (verO root fr to e pf) := by
 have HVO := hid (show verO root fr to e pf = match rdAll pf with
  | .inl c => .inl c
  | .inr t => if t.ascends = false then .inl 9 else if t.tells fr to e = false then .inl 50 else if t.dg = root then .inr (t.ents fr to e) else .inl 51 from rfl)
 have HG := hid (And.intro gf gt)
 have HB1 := hid (show Below w.heap.size w (w.alloc (.cells (ArrU8 root) 35)) from (Below.refl _ _).alloc (Nat.le_refl _) _)
 have HX1 := hid (heap_alloc_new w (.cells (ArrU8 root) 35))
 have HRO := hid hr
 have HRD := hid (fun u hu => refReadAll_any u a c m pf hm (show Bs u (.slice a m c) pf from hp.below hu) gp hl)
 have HOK := hid (fun t (h : rdAll pf = .inr t) => And.intro (rdAll_ok gp h) (Nat.le_trans (rdAll_len h) hl))
 clear gf gt hr hm hp gp hl
 go_enter Tryd.func23, Tryd.ntmps23
 go_wp2_with fail
 generalize w.alloc (.cells (ArrU8 root) 35) = w1 at *
 have hrd := HRD.out w1 HB1.out
 have hok := HOK.out
 have hvo := HVO.out
 clear HRD HOK HVO
 generalize rdAll pf = R1 at *
 refine hrd.mono ?_
 cases R1 with
 | inl e1 =>
  rintro d w2 ⟨hc, rfl, hb2⟩
  have H2 := hid (And.intro hc (HB1.out.trans (hb2.mono HB1.out.size)))
  have HRS := hid (show verO root fr to e pf = .inl e1 from hvo)
  have hne : (e1 != 0) = true := bne_iff_ne.2 hc
  clear hrd hok hvo hc hb2
  go_wp2_with fail
  go_ret2
  rw [HRS.out]
  exact ⟨H2.out.1, rfl, H2.out.2⟩
 | inr t =>
  rintro d w2 ⟨bp, rfl, hpt, hb2⟩
  obtain ⟨hg, hsz⟩ := hok t rfl
  have HVR := hid (show verO root fr to e pf = if t.ascends = false then .inl 9 else if t.tells fr to e = false then .inl 50 else if t.dg = root then .inr (t.ents fr to e) else .inl 51 from hvo)
  rw [asc_chn, tells_eq, ents_ino] at HVR
  have HB2 := hid (HB1.out.trans (hb2.mono HB1.out.size))
  have HX2 := hid ((hb2.block _ (blk_lt HX1.out)).trans HX1.out)
  have HPT := hid (fun u (hu : Below w2.heap.size w2 u) => (show PTs u w1.heap.size (.pointer (some ⟨bp, 0, none⟩)) t from hpt.below hu))
  have HEN := hid (pents_any t _ w2 hpt hsz)
  have HES := hid (And.intro (ino_rng t hg) (Nat.le_trans (ino_len t) hsz))
  have HGD := hid hg
  generalize t.ino = es at *
  clear hrd hok hvo hg hsz hpt hb2 HX1
  go_wp2_with fail
  refine HEN.out.mono ?_
  rintro d w3 ⟨v3, rfl, ho3, hb3⟩
  have HV := hid ho3.rfs
  obtain ⟨a3, c3, rfl⟩ := ho3.slc
  generalize hnl : es.length = n at *
  have HNL := hid hnl
  have HB3 := hid (And.intro hb3 (HB2.out.trans (hb3.mono HB2.out.size)))
  have HF := hid (rfl : es.filter (fun x => hasQ fr to e x.1) = es.filter (fun x => hasQ fr to e x.1))
  have hF : es.filter (fun x => hasQ fr to e x.1) = es.filter (fun x => hasQ fr to e x.1) := rfl
  generalize hR : es.filter (fun x => hasQ fr to e x.1) = R at HVR
  have hA0 : chn none es = chn none es := rfl
  generalize hA : chn none es = A at HVR
  have HR0 := hid (And.intro hR hA)
  have hn1 : (n : Int) ≤ 1048576 := by have := HES.out.2; omega
  clear hb3 HEN ho3 hF HF hR hA hA0 hnl
  go_wp2_with fail
  go_loopw [15, 16] (fun ov iv wr => ∃ (j : Nat) (acc : List (List Int × Nat)), j ≤ n ∧ RfO wr w3.heap.size ov acc ∧ iv = .int .i64 (j : Int) ∧ acc ++ (es.drop j).filter (fun x => hasQ fr to e x.1) = R ∧ chn (prevN es j) (es.drop j) = A ∧ Below w3.heap.size w3 wr ∧ acc.length ≤ j) (fun _ iv _ => n - (intOf iv).toNat)
  case atStart => exact ⟨0, [], Nat.zero_le _, ⟨rfl, .inr ⟨w3.heap.size, 0, #[], rfl, Nat.le_refl _, heap_alloc_new _ _, Nat.le_refl _, Nat.zero_le _, rfl, rfl⟩⟩, rfl, HR0.out.1, HR0.out.2, (Below.refl _ _).alloc (Nat.le_refl _) _, Nat.le_refl _⟩
  case round =>
   obtain ⟨j, acc, hj, hro, rfl, hacc, hA, hbw, hlen⟩ := hrel
   obtain ⟨ao, no, co, rfl⟩ : ∃ a n c, _ = Value.slice a n c := by obtain ⟨a, c, e⟩ := hro.slc; exact ⟨a, _, c, e⟩
   by_cases hjl : j < n
   ·have hjl' : j < es.length := by rw [HNL.out]; exact hjl
    have hx : es[j]? = some (es[j]'hjl') := List.getElem?_eq_getElem hjl'
    have hdr : es.drop j = es[j]'hjl' :: es.drop (j + 1) := List.drop_eq_getElem_cons hjl'
    generalize es[j]'hjl' = x at hx hdr
    have hpk : prevN es (j + 1) = some x.1 := by unfold prevN; rw [if_neg (by omega), Nat.add_sub_cancel, hx]; rfl
    rw [hdr, List.filter_cons] at hacc
    rw [hdr] at hA
    unfold chn at hA
    rw [← hpk] at hA
    have gx := HES.out.1 x (List.mem_of_getElem? hx)
    obtain ⟨a', c', he, hall⟩ := HV.out
    injection he with e1 e0 e2
    clear e0
    subst e1 e2
    obtain ⟨g, o, hag, hgl, hc0, hc1⟩ := hall j (toI x) (by rw [List.getElem?_map, hx]; rfl)
    subst hag
    have hj0 : (0 : Int) ≤ (j : Int) := by omega
    have hj1 : (j : Int) < (n : Int) := by omega
    have hbx : ∀ u, Below wr.heap.size wr u → u.cell? ⟨g, o + j * 2, none⟩ = some (.string (str x.1)) ∧ u.cell? ⟨g, o + j * 2 + 1, none⟩ = some (.int .i64 (x.2 : Int)) := fun u hu => ⟨(World.cell?_of_block (a := ⟨g, o + j * 2, none⟩) ((hbw.trans (hu.mono hbw.size)).block g hgl)).trans hc0, (World.cell?_of_block (a := ⟨g, o + j * 2 + 1, none⟩) ((hbw.trans (hu.mono hbw.size)).block g hgl)).trans hc1⟩
    have HC := hid hbx
    have HIN := hid (fun u => refIn_any u x.1 fr to e gx HG.out.1 HG.out.2)
    have HX := hid (And.intro hjl (And.intro hro (And.intro hbw hlen)))
    have HB9 := hid (Below.refl wr.heap.size wr).drew
    have HXG := hid (And.intro hx gx)
    clear hbx hro hbw hlen hx hdr hc0 hc1 hjl hjl' hgl hj hpk gx
    by_cases hz : j = 0
    ·subst hz
     have HR := hid (show chn (prevN es 1) (es.drop 1) = A from by rw [← hA]; rfl)
     clear hA hall
     go_wp2_with fail
     refine wp_region_held_drew (S := fun u => Below wr.heap.size wr u) (by kernel_rfl) (HB9.out) (fun hHeld => ?_)
     refine tk (i := 0) (oi := ⟨some 35, .move (.tmp 16), 3, "ref.go:228", #[], none⟩) (v := ?_) (Or.inl ⟨by rfl, ?_⟩) ?_
     rotate_left 1
     ·(intro u hSw; go_simp; try with_reducible rfl)
     try simp only [Act.put, sA, sB, sC]
     refine tk (i := 1) (oi := ⟨some 36, .binOp BinOp.gtr 3 (.tmp 35) (.const (Value.int IntKind.i64 0)) 3, 4, "ref.go:228", #[⟨0, .data⟩], none⟩) (v := ?_) (Or.inl ⟨by rfl, ?_⟩) ?_
     rotate_left 1
     ·(intro u hSw; go_simp; try with_reducible rfl)
     try simp only [Act.put, sA, sB, sC]
     refine tk (i := 2) (oi := ⟨some 37, .move (.tmp 36), 4, "ref.go:228", #[⟨1, .data⟩], none⟩) (v := ?_) (Or.inl ⟨by rfl, ?_⟩) ?_
     rotate_left 1
     ·(intro u hSw; go_simp; try with_reducible rfl)
     try simp only [Act.put, sA, sB, sC]
     refine tk (i := 3) (oi := ⟨some 38, .move (.tmp 14), 22, "ref.go:228", #[⟨2, .guard⟩], some (2, true)⟩) (v := undef) (by exact .inr ⟨by rfl, rfl⟩) ?_
     try simp only [Act.put, sA, sB, sC]
     refine tk (i := 4) (oi := ⟨some 39, .move (.tmp 16), 3, "ref.go:228", #[⟨2, .guard⟩], some (2, true)⟩) (v := undef) (by exact .inr ⟨by rfl, rfl⟩) ?_
     try simp only [Act.put, sA, sB, sC]
     refine tk (i := 5) (oi := ⟨some 40, .binOp BinOp.sub 3 (.tmp 39) (.const (Value.int IntKind.i64 1)) 3, 3, "ref.go:228", #[⟨4, .data⟩, ⟨2, .guard⟩], some (2, true)⟩) (v := undef) (by exact .inr ⟨by rfl, rfl⟩) ?_
     try simp only [Act.put, sA, sB, sC]
     refine tk (i := 6) (oi := ⟨some 41, .indexAddr 22 (.tmp 38) (.tmp 40), 0, "ref.go:228", #[⟨3, .data⟩, ⟨5, .data⟩, ⟨2, .guard⟩], some (2, true)⟩) (v := undef) (by exact .inr ⟨by rfl, rfl⟩) ?_
     try simp only [Act.put, sA, sB, sC]
     refine tk (i := 7) (oi := ⟨some 42, .fieldAddr 45 (.tmp 41) 0, 0, "ref.go:228", #[⟨6, .data⟩, ⟨2, .guard⟩], some (2, true)⟩) (v := undef) (by exact .inr ⟨by rfl, rfl⟩) ?_
     try simp only [Act.put, sA, sB, sC]
     refine tk (i := 8) (oi := ⟨some 43, .load 9 (.tmp 42), 9, "ref.go:228", #[⟨7, .data⟩, ⟨2, .guard⟩], some (2, true)⟩) (v := undef) (by exact .inr ⟨by rfl, rfl⟩) ?_
     try simp only [Act.put, sA, sB, sC]
     refine tk (i := 9) (oi := ⟨some 44, .move (.tmp 14), 22, "ref.go:228", #[⟨2, .guard⟩], some (2, true)⟩) (v := undef) (by exact .inr ⟨by rfl, rfl⟩) ?_
     try simp only [Act.put, sA, sB, sC]
     refine tk (i := 10) (oi := ⟨some 45, .move (.tmp 16), 3, "ref.go:228", #[⟨2, .guard⟩], some (2, true)⟩) (v := undef) (by exact .inr ⟨by rfl, rfl⟩) ?_
     try simp only [Act.put, sA, sB, sC]
     refine tk (i := 11) (oi := ⟨some 46, .indexAddr 22 (.tmp 44) (.tmp 45), 0, "ref.go:228", #[⟨9, .data⟩, ⟨10, .data⟩, ⟨2, .guard⟩], some (2, true)⟩) (v := undef) (by exact .inr ⟨by rfl, rfl⟩) ?_
     try simp only [Act.put, sA, sB, sC]
     refine tk (i := 12) (oi := ⟨some 47, .fieldAddr 45 (.tmp 46) 0, 0, "ref.go:228", #[⟨11, .data⟩, ⟨2, .guard⟩], some (2, true)⟩) (v := undef) (by exact .inr ⟨by rfl, rfl⟩) ?_
     try simp only [Act.put, sA, sB, sC]
     refine tk (i := 13) (oi := ⟨some 48, .load 9 (.tmp 47), 9, "ref.go:228", #[⟨12, .data⟩, ⟨2, .guard⟩], some (2, true)⟩) (v := undef) (by exact .inr ⟨by rfl, rfl⟩) ?_
     try simp only [Act.put, sA, sB, sC]
     refine tk (i := 14) (oi := ⟨some 49, .binOp BinOp.geq 9 (.tmp 43) (.tmp 48) 9, 4, "ref.go:228", #[⟨8, .data⟩, ⟨13, .data⟩, ⟨2, .guard⟩], some (2, true)⟩) (v := undef) (by exact .inr ⟨by rfl, rfl⟩) ?_
     try simp only [Act.put, sA, sB, sC]
     refine tk (i := 15) (oi := ⟨some 50, .pick (.tmp 37) (.tmp 49) (.const (Value.bool false)), 4, "ref.go:228", #[⟨2, .data⟩, ⟨14, .data⟩], none⟩) (v := ?_) (Or.inl ⟨by rfl, ?_⟩) ?_
     rotate_left 1
     ·(intro u hSw; go_simp; try with_reducible rfl)
     try simp only [Act.put, sA, sB, sC]
     refine wpAnyH_done (by kernel_rfl) ?_ _
     have c0 := (HC.out _ HB9.out).1
     have c1 := (HC.out _ HB9.out).2
     clear HC
     simp only [Nat.zero_mul, Nat.add_zero] at c0 c1
     generalize World.drew wr = w9 at *
     go_wp2_with fail
     refine (HIN.out _).mono ?_
     rintro d w9 ⟨rfl, rfl⟩
     generalize hasQ fr to e x.1 = q at *
     cases q with
     | false =>
      have HAC := hid (show acc ++ (es.drop (1)).filter (fun x => hasQ fr to e x.1) = R from by rw [← hacc]; simp)
      clear hacc
      go_wp2_with fail
      go_roundw
      case rel => exact ⟨1, acc, HX.out.1, HX.out.2.1.below HB9.out, by go_num, HAC.out, HR.out, HX.out.2.2.1.trans (HB9.out.mono HX.out.2.2.1.size), by have := HX.out.2.2.2; omega⟩
      case measure => have := HX.out.1; simp [intOf]; omega
     | true =>
      have HAC := hid (show (acc ++ [x]) ++ (es.drop (1)).filter (fun x => hasQ fr to e x.1) = R from by rw [← hacc]; simp)
      clear hacc
      go_wp2_with (at_builtin; refine wpList_append_re (o := ⟨some 67, _, _, _, _, _⟩) rfl (Operand.tmp 61) (Operand.tmp 66) rfl w3.heap.size _ acc rfl ((HX.out.2.1.below HB9.out).below ((Below.refl _ _).alloc (Nat.le_refl _) _)) w9.heap.size x.1 x.2 rfl (heap_alloc_new _ _) (by have := HX.out.2.2.2; have := HX.out.1; have := HES.out.2; omega) (by have := HX.out.2.2.1.size; have := HB9.out.size; simp; omega) ?_; intro a8 c8 w8 hr8 hb8; have H8 := hid (And.intro hr8 (((HX.out.2.2.1.trans (HB9.out.mono HX.out.2.2.1.size)).alloc (Nat.le_trans HX.out.2.2.1.size HB9.out.size) (.cells #[.string (str x.1), .int .i64 (x.2 : Int)] 45)).trans hb8)); clear hr8 hb8)
      go_roundw
      case rel => exact ⟨1, acc ++ [x], HX.out.1, H8.out.1, by go_num, HAC.out, HR.out, H8.out.2, by have h9 := HX.out.2.2.2; rw [List.length_append, List.length_cons, List.length_nil]; omega⟩
      case measure => have := HX.out.1; simp [intOf]; omega
    ·obtain ⟨i, rfl⟩ : ∃ i, j = i + 1 := ⟨j - 1, by omega⟩
     obtain ⟨y, hy⟩ : ∃ y, es[i]? = some y := ⟨_, List.getElem?_eq_getElem (by have := HX.out.1; rw [HNL.out]; omega)⟩
     have gy := HES.out.1 y (List.mem_of_getElem? hy)
     have hpk : prevN es (i + 1) = some y.1 := by unfold prevN; rw [if_neg (by omega), Nat.add_sub_cancel, hy]; rfl
     rw [hpk, Option.elim_some] at hA
     obtain ⟨g', o', hag, hgl, hc0, -⟩ := hall i (toI y) (by rw [List.getElem?_map, hy]; rfl)
     injection hag with hag
     injection hag with hg1 hg2 _
     subst hg1 hg2
     have HC2 := hid (fun u (hu : Below wr.heap.size wr u) => (show u.cell? ⟨g, o + i * 2, none⟩ = some (.string (str y.1)) from (World.cell?_of_block (a := ⟨g, o + i * 2, none⟩) ((HX.out.2.2.1.trans (hu.mono HX.out.2.2.1.size)).block g hgl)).trans hc0))
     have hbl := bl gy HXG.out.2
     have hi0 : (0 : Int) ≤ (i : Int) := by omega
     have hi2 : (0 : Int) ≤ (i : Int) + 1 := by omega
     have hi3 : (i : Int) + 1 < (n : Int) := by have := HX.out.1; omega
     have hi1 : (i : Int) < (n : Int) := by omega
     clear hall hgl hc0 hy hz hpk gy
     by_cases k3 : cmpI y.1 x.1 < 0
     ·rw [decide_eq_true k3] at hbl hA
      have HR := hid (show chn (prevN es (i + 1 + 1)) (es.drop (i + 1 + 1)) = A from by rw [← hA]; rfl)
      clear hA k3
      go_wp2_with fail
      refine wp_region_held_drew (S := fun u => Below wr.heap.size wr u) (by kernel_rfl) (HB9.out) (fun hHeld => ?_)
      refine tk (i := 0) (oi := ⟨some 35, .move (.tmp 16), 3, "ref.go:228", #[], none⟩) (v := ?_) (Or.inl ⟨by rfl, ?_⟩) ?_
      rotate_left 1
      ·(intro u hSw; go_simp; try with_reducible rfl)
      try simp only [Act.put, sA, sB, sC]
      refine tk (i := 1) (oi := ⟨some 36, .binOp BinOp.gtr 3 (.tmp 35) (.const (Value.int IntKind.i64 0)) 3, 4, "ref.go:228", #[⟨0, .data⟩], none⟩) (v := .bool true) (Or.inl ⟨by rfl, ?_⟩) ?_
      ·intro u hSw
       go_simp
      try simp only [Act.put, sA, sB, sC]
      refine tk (i := 2) (oi := ⟨some 37, .move (.tmp 36), 4, "ref.go:228", #[⟨1, .data⟩], none⟩) (v := ?_) (Or.inl ⟨by rfl, ?_⟩) ?_
      rotate_left 1
      ·(intro u hSw; go_simp; try with_reducible rfl)
      try simp only [Act.put, sA, sB, sC]
      refine tk (i := 3) (oi := ⟨some 38, .move (.tmp 14), 22, "ref.go:228", #[⟨2, .guard⟩], some (2, true)⟩) (v := ?_) (Or.inl ⟨by rfl, ?_⟩) ?_
      rotate_left 1
      ·(intro u hSw; go_simp; try with_reducible rfl)
      try simp only [Act.put, sA, sB, sC]
      refine tk (i := 4) (oi := ⟨some 39, .move (.tmp 16), 3, "ref.go:228", #[⟨2, .guard⟩], some (2, true)⟩) (v := ?_) (Or.inl ⟨by rfl, ?_⟩) ?_
      rotate_left 1
      ·(intro u hSw; go_simp; try with_reducible rfl)
      try simp only [Act.put, sA, sB, sC]
      refine tk (i := 5) (oi := ⟨some 40, .binOp BinOp.sub 3 (.tmp 39) (.const (Value.int IntKind.i64 1)) 3, 3, "ref.go:228", #[⟨4, .data⟩, ⟨2, .guard⟩], some (2, true)⟩) (v := .int .i64 (i : Int)) (Or.inl ⟨by rfl, ?_⟩) ?_
      ·intro u hSw
       go_simp; first | done | exact IntWalk.i64_in _ (by omega) | (rw [IntWalk.i64_in _ (by omega)]; omega)
      try simp only [Act.put, sA, sB, sC]
      refine tk (i := 6) (oi := ⟨some 41, .indexAddr 22 (.tmp 38) (.tmp 40), 0, "ref.go:228", #[⟨3, .data⟩, ⟨5, .data⟩, ⟨2, .guard⟩], some (2, true)⟩) (v := ?_) (Or.inl ⟨by rfl, ?_⟩) ?_
      rotate_left 1
      ·(intro u hSw; go_simp; try with_reducible rfl)
      try simp only [Act.put, sA, sB, sC]
      refine tk (i := 7) (oi := ⟨some 42, .fieldAddr 45 (.tmp 41) 0, 0, "ref.go:228", #[⟨6, .data⟩, ⟨2, .guard⟩], some (2, true)⟩) (v := ?_) (Or.inl ⟨by rfl, ?_⟩) ?_
      rotate_left 1
      ·(intro u hSw; go_simp; try with_reducible rfl)
      try simp only [Act.put, sA, sB, sC]
      refine tk (i := 8) (oi := ⟨some 43, .load 9 (.tmp 42), 9, "ref.go:228", #[⟨7, .data⟩, ⟨2, .guard⟩], some (2, true)⟩) (v := ?_) (Or.inl ⟨by rfl, ?_⟩) ?_
      rotate_left 1
      ·(intro u hSw; have y0 := (HC.out _ hSw).1; have y1 := (HC.out _ hSw).2; have y2 := HC2.out _ hSw; go_simp; try with_reducible rfl)
      try simp only [Act.put, sA, sB, sC]
      refine tk (i := 9) (oi := ⟨some 44, .move (.tmp 14), 22, "ref.go:228", #[⟨2, .guard⟩], some (2, true)⟩) (v := ?_) (Or.inl ⟨by rfl, ?_⟩) ?_
      rotate_left 1
      ·(intro u hSw; go_simp; try with_reducible rfl)
      try simp only [Act.put, sA, sB, sC]
      refine tk (i := 10) (oi := ⟨some 45, .move (.tmp 16), 3, "ref.go:228", #[⟨2, .guard⟩], some (2, true)⟩) (v := ?_) (Or.inl ⟨by rfl, ?_⟩) ?_
      rotate_left 1
      ·(intro u hSw; go_simp; try with_reducible rfl)
      try simp only [Act.put, sA, sB, sC]
      refine tk (i := 11) (oi := ⟨some 46, .indexAddr 22 (.tmp 44) (.tmp 45), 0, "ref.go:228", #[⟨9, .data⟩, ⟨10, .data⟩, ⟨2, .guard⟩], some (2, true)⟩) (v := ?_) (Or.inl ⟨by rfl, ?_⟩) ?_
      rotate_left 1
      ·(intro u hSw; go_simp; try with_reducible rfl)
      try simp only [Act.put, sA, sB, sC]
      refine tk (i := 12) (oi := ⟨some 47, .fieldAddr 45 (.tmp 46) 0, 0, "ref.go:228", #[⟨11, .data⟩, ⟨2, .guard⟩], some (2, true)⟩) (v := ?_) (Or.inl ⟨by rfl, ?_⟩) ?_
      rotate_left 1
      ·(intro u hSw; go_simp; try with_reducible rfl)
      try simp only [Act.put, sA, sB, sC]
      refine tk (i := 13) (oi := ⟨some 48, .load 9 (.tmp 47), 9, "ref.go:228", #[⟨12, .data⟩, ⟨2, .guard⟩], some (2, true)⟩) (v := ?_) (Or.inl ⟨by rfl, ?_⟩) ?_
      rotate_left 1
      ·(intro u hSw; have y0 := (HC.out _ hSw).1; have y1 := (HC.out _ hSw).2; have y2 := HC2.out _ hSw; go_simp; try with_reducible rfl)
      try simp only [Act.put, sA, sB, sC]
      refine tk (i := 14) (oi := ⟨some 49, .binOp BinOp.geq 9 (.tmp 43) (.tmp 48) 9, 4, "ref.go:228", #[⟨8, .data⟩, ⟨13, .data⟩, ⟨2, .guard⟩], some (2, true)⟩) (v := .bool false) (Or.inl ⟨by rfl, ?_⟩) ?_
      ·(intro u hSw; go_simp; try with_reducible rfl)
      try simp only [Act.put, sA, sB, sC]
      refine tk (i := 15) (oi := ⟨some 50, .pick (.tmp 37) (.tmp 49) (.const (Value.bool false)), 4, "ref.go:228", #[⟨2, .data⟩, ⟨14, .data⟩], none⟩) (v := ?_) (Or.inl ⟨by rfl, ?_⟩) ?_
      rotate_left 1
      ·(intro u hSw; go_simp; try with_reducible rfl)
      try simp only [Act.put, sA, sB, sC]
      refine wpAnyH_done (by kernel_rfl) ?_ _
      have c0 := (HC.out _ HB9.out).1
      have c1 := (HC.out _ HB9.out).2
      clear HC HC2 hbl
      generalize World.drew wr = w9 at *
      go_wp2_with fail
      refine (HIN.out _).mono ?_
      rintro d w9 ⟨rfl, rfl⟩
      generalize hasQ fr to e x.1 = q at *
      cases q with
      | false =>
       have HAC := hid (show acc ++ (es.drop (i + 2)).filter (fun x => hasQ fr to e x.1) = R from by rw [← hacc]; simp)
       clear hacc
       go_wp2_with fail
       go_roundw
       case rel => exact ⟨i + 2, acc, HX.out.1, HX.out.2.1.below HB9.out, by go_num, HAC.out, HR.out, HX.out.2.2.1.trans (HB9.out.mono HX.out.2.2.1.size), by have := HX.out.2.2.2; omega⟩
       case measure => have := HX.out.1; simp [intOf]; omega
      | true =>
       have HAC := hid (show (acc ++ [x]) ++ (es.drop (i + 2)).filter (fun x => hasQ fr to e x.1) = R from by rw [← hacc]; simp)
       clear hacc
       go_wp2_with (at_builtin; refine wpList_append_re (o := ⟨some 67, _, _, _, _, _⟩) rfl (Operand.tmp 61) (Operand.tmp 66) rfl w3.heap.size _ acc rfl ((HX.out.2.1.below HB9.out).below ((Below.refl _ _).alloc (Nat.le_refl _) _)) w9.heap.size x.1 x.2 rfl (heap_alloc_new _ _) (by have := HX.out.2.2.2; have := HX.out.1; have := HES.out.2; omega) (by have := HX.out.2.2.1.size; have := HB9.out.size; simp; omega) ?_; intro a8 c8 w8 hr8 hb8; have H8 := hid (And.intro hr8 (((HX.out.2.2.1.trans (HB9.out.mono HX.out.2.2.1.size)).alloc (Nat.le_trans HX.out.2.2.1.size HB9.out.size) (.cells #[.string (str x.1), .int .i64 (x.2 : Int)] 45)).trans hb8)); clear hr8 hb8)
       go_roundw
       case rel => exact ⟨i + 2, acc ++ [x], HX.out.1, H8.out.1, by go_num, HAC.out, HR.out, H8.out.2, by have h9 := HX.out.2.2.2; rw [List.length_append, List.length_cons, List.length_nil]; omega⟩
       case measure => have := HX.out.1; simp [intOf]; omega
     ·rw [decide_eq_false k3] at hbl hA
      have HR := hid (show false = A from by rw [← hA]; rfl)
      clear hA k3
      go_wp2_with fail
      refine wp_region_held_drew (S := fun u => Below wr.heap.size wr u) (by kernel_rfl) (HB9.out) (fun hHeld => ?_)
      refine tk (i := 0) (oi := ⟨some 35, .move (.tmp 16), 3, "ref.go:228", #[], none⟩) (v := ?_) (Or.inl ⟨by rfl, ?_⟩) ?_
      rotate_left 1
      ·(intro u hSw; go_simp; try with_reducible rfl)
      try simp only [Act.put, sA, sB, sC]
      refine tk (i := 1) (oi := ⟨some 36, .binOp BinOp.gtr 3 (.tmp 35) (.const (Value.int IntKind.i64 0)) 3, 4, "ref.go:228", #[⟨0, .data⟩], none⟩) (v := .bool true) (Or.inl ⟨by rfl, ?_⟩) ?_
      ·intro u hSw
       go_simp
      try simp only [Act.put, sA, sB, sC]
      refine tk (i := 2) (oi := ⟨some 37, .move (.tmp 36), 4, "ref.go:228", #[⟨1, .data⟩], none⟩) (v := ?_) (Or.inl ⟨by rfl, ?_⟩) ?_
      rotate_left 1
      ·(intro u hSw; go_simp; try with_reducible rfl)
      try simp only [Act.put, sA, sB, sC]
      refine tk (i := 3) (oi := ⟨some 38, .move (.tmp 14), 22, "ref.go:228", #[⟨2, .guard⟩], some (2, true)⟩) (v := ?_) (Or.inl ⟨by rfl, ?_⟩) ?_
      rotate_left 1
      ·(intro u hSw; go_simp; try with_reducible rfl)
      try simp only [Act.put, sA, sB, sC]
      refine tk (i := 4) (oi := ⟨some 39, .move (.tmp 16), 3, "ref.go:228", #[⟨2, .guard⟩], some (2, true)⟩) (v := ?_) (Or.inl ⟨by rfl, ?_⟩) ?_
      rotate_left 1
      ·(intro u hSw; go_simp; try with_reducible rfl)
      try simp only [Act.put, sA, sB, sC]
      refine tk (i := 5) (oi := ⟨some 40, .binOp BinOp.sub 3 (.tmp 39) (.const (Value.int IntKind.i64 1)) 3, 3, "ref.go:228", #[⟨4, .data⟩, ⟨2, .guard⟩], some (2, true)⟩) (v := .int .i64 (i : Int)) (Or.inl ⟨by rfl, ?_⟩) ?_
      ·intro u hSw
       go_simp; first | done | exact IntWalk.i64_in _ (by omega) | (rw [IntWalk.i64_in _ (by omega)]; omega)
      try simp only [Act.put, sA, sB, sC]
      refine tk (i := 6) (oi := ⟨some 41, .indexAddr 22 (.tmp 38) (.tmp 40), 0, "ref.go:228", #[⟨3, .data⟩, ⟨5, .data⟩, ⟨2, .guard⟩], some (2, true)⟩) (v := ?_) (Or.inl ⟨by rfl, ?_⟩) ?_
      rotate_left 1
      ·(intro u hSw; go_simp; try with_reducible rfl)
      try simp only [Act.put, sA, sB, sC]
      refine tk (i := 7) (oi := ⟨some 42, .fieldAddr 45 (.tmp 41) 0, 0, "ref.go:228", #[⟨6, .data⟩, ⟨2, .guard⟩], some (2, true)⟩) (v := ?_) (Or.inl ⟨by rfl, ?_⟩) ?_
      rotate_left 1
      ·(intro u hSw; go_simp; try with_reducible rfl)
      try simp only [Act.put, sA, sB, sC]
      refine tk (i := 8) (oi := ⟨some 43, .load 9 (.tmp 42), 9, "ref.go:228", #[⟨7, .data⟩, ⟨2, .guard⟩], some (2, true)⟩) (v := ?_) (Or.inl ⟨by rfl, ?_⟩) ?_
      rotate_left 1
      ·(intro u hSw; have y0 := (HC.out _ hSw).1; have y1 := (HC.out _ hSw).2; have y2 := HC2.out _ hSw; go_simp; try with_reducible rfl)
      try simp only [Act.put, sA, sB, sC]
      refine tk (i := 9) (oi := ⟨some 44, .move (.tmp 14), 22, "ref.go:228", #[⟨2, .guard⟩], some (2, true)⟩) (v := ?_) (Or.inl ⟨by rfl, ?_⟩) ?_
      rotate_left 1
      ·(intro u hSw; go_simp; try with_reducible rfl)
      try simp only [Act.put, sA, sB, sC]
      refine tk (i := 10) (oi := ⟨some 45, .move (.tmp 16), 3, "ref.go:228", #[⟨2, .guard⟩], some (2, true)⟩) (v := ?_) (Or.inl ⟨by rfl, ?_⟩) ?_
      rotate_left 1
      ·(intro u hSw; go_simp; try with_reducible rfl)
      try simp only [Act.put, sA, sB, sC]
      refine tk (i := 11) (oi := ⟨some 46, .indexAddr 22 (.tmp 44) (.tmp 45), 0, "ref.go:228", #[⟨9, .data⟩, ⟨10, .data⟩, ⟨2, .guard⟩], some (2, true)⟩) (v := ?_) (Or.inl ⟨by rfl, ?_⟩) ?_
      rotate_left 1
      ·(intro u hSw; go_simp; try with_reducible rfl)
      try simp only [Act.put, sA, sB, sC]
      refine tk (i := 12) (oi := ⟨some 47, .fieldAddr 45 (.tmp 46) 0, 0, "ref.go:228", #[⟨11, .data⟩, ⟨2, .guard⟩], some (2, true)⟩) (v := ?_) (Or.inl ⟨by rfl, ?_⟩) ?_
      rotate_left 1
      ·(intro u hSw; go_simp; try with_reducible rfl)
      try simp only [Act.put, sA, sB, sC]
      refine tk (i := 13) (oi := ⟨some 48, .load 9 (.tmp 47), 9, "ref.go:228", #[⟨12, .data⟩, ⟨2, .guard⟩], some (2, true)⟩) (v := ?_) (Or.inl ⟨by rfl, ?_⟩) ?_
      rotate_left 1
      ·(intro u hSw; have y0 := (HC.out _ hSw).1; have y1 := (HC.out _ hSw).2; have y2 := HC2.out _ hSw; go_simp; try with_reducible rfl)
      try simp only [Act.put, sA, sB, sC]
      refine tk (i := 14) (oi := ⟨some 49, .binOp BinOp.geq 9 (.tmp 43) (.tmp 48) 9, 4, "ref.go:228", #[⟨8, .data⟩, ⟨13, .data⟩, ⟨2, .guard⟩], some (2, true)⟩) (v := .bool true) (Or.inl ⟨by rfl, ?_⟩) ?_
      ·(intro u hSw; go_simp; try with_reducible rfl)
      try simp only [Act.put, sA, sB, sC]
      refine tk (i := 15) (oi := ⟨some 50, .pick (.tmp 37) (.tmp 49) (.const (Value.bool false)), 4, "ref.go:228", #[⟨2, .data⟩, ⟨14, .data⟩], none⟩) (v := ?_) (Or.inl ⟨by rfl, ?_⟩) ?_
      rotate_left 1
      ·(intro u hSw; go_simp; try with_reducible rfl)
      try simp only [Act.put, sA, sB, sC]
      refine wpAnyH_done (by kernel_rfl) ?_ _
      go_wp2_with fail
      go_ret2
      rw [HVR.out, if_pos HR.out.symm]
      exact ⟨by decide, rfl, HB3.out.2.trans ((HX.out.2.2.1.trans (HB9.out.mono HX.out.2.2.1.size)).mono HB3.out.2.size)⟩
   ·have hje : j = n := by omega
    subst hje
    have hdn : es.drop j = [] := by rw [← HNL.out]; exact List.drop_length
    rw [hdn] at hacc hA
    have HR := hid (show true = A from hA)
    have HAC := hid (show acc = R from by rw [← hacc]; simp)
    have HW := hid (And.intro hro hbw)
    have hbw2 : Below w2.heap.size w2 wr := HB3.out.1.trans (hbw.mono HB3.out.1.size)
    have HPM := hid (show Calls Tryd.prog 44 #[.pointer (some ⟨bp, 0, none⟩), .string ⟨#[]⟩, .string ⟨#[]⟩, .bool false, .bool false, .string (str fr), .string (str to), .bool e] wr fun d w' => d = .returned (.bool (missT fr to e t [] [] false false)) ∧ Below wr.heap.size wr w' from pmiss_any fr to e HG.out.1 HG.out.2 t _ wr [] [] false false (HPT.out wr hbw2) HGD.out (fun x hx => by cases hx) (fun x hx => by cases hx))
    have HBW := hid hbw2
    generalize missT fr to e t [] [] false false = ms at *
    clear hro hbw hlen hacc hA hdn hj hbw2
    go_wp2_with fail
    refine HPM.out.mono ?_
    rintro d w4 ⟨rfl, hb4⟩
    have HB4 := hid (And.intro hb4 (HB3.out.2.trans ((HW.out.2.trans (hb4.mono HW.out.2.size)).mono HB3.out.2.size)))
    have HPS := hid (fun u (hu : Below w4.heap.size w4 u) => psum_any t _ u (HPT.out u (HBW.out.trans ((hb4.trans (hu.mono hb4.size)).mono HBW.out.size))) HGD.out)
    have HRG := hid (fun u (hu : Below w4.heap.size w4 u) => (show u.rangeAt w.heap.size 0 (root.map (Value.int .u8)) from fun q x hq => by
     rw [cell_of_row u w.heap.size (0 + q) _ _ _ (((HBW.out.trans ((hb4.trans (hu.mono hb4.size)).mono HBW.out.size)).block _ (blk_lt HX2.out)).trans HX2.out), Nat.zero_add]
     unfold ArrU8
     rw [List.getElem?_toArray]
     exact hq))
    have HIM := hid (show (Tryd.prog.info? 35).map (·.size) = some (root.map (Value.int .u8)).length by rw [List.length_map, HRO.out]; exact (info_re32 root HRO.out).trans (by rw [sz32 root HRO.out]))
    clear hb4 HPM
    cases ms with
    | false =>
     have HRS := hid (show verO root fr to e pf = .inl 50 from by rw [HVR.out, if_neg (by rw [← HR.out]; decide), if_pos rfl])
     go_wp2_with fail
     go_ret2
     rw [HRS.out]
     exact ⟨by decide, rfl, HB4.out.2⟩
    | true =>
     have HDL := hid HGD.out.dlen
     rw [if_neg (show ¬ A = false by rw [← HR.out]; decide), if_neg (show ¬ true = false by decide)] at HVR
     generalize t.dg = dg at *
     have hb : Below w4.heap.size w4 w4.drew := (Below.refl _ _).drew
     by_cases hd : dg = root
     ·rw [if_pos hd] at HVR
      have HD := hid hd
      clear hd
      go_wp2_with fail
      refine wp_region_held_drew (S := fun u => Below w4.heap.size w4 u) (by kernel_rfl) (hb) (fun hHeld => ?_)
      refine tk (i := 0) (oi := ⟨some 74, .move (.tmp 12), 83, "ref.go:239", #[], none⟩) (v := ?_) (Or.inl ⟨by rfl, ?_⟩) ?_
      rotate_left 1
      ·(intro u hSw; go_simp; try with_reducible rfl)
      try simp only [Act.put, sA, sB, sC]
      refine tk (i := 2) (oi := ⟨some 76, .load 35 (.tmp 5), 35, "ref.go:239", #[], none⟩) (v := .agg (ArrU8 root)) (Or.inl ⟨by rfl, ?_⟩) ?_
      ·intro u hSw
       exact exec_load_mid 35 (Operand.tmp 5) rfl w.heap.size 0 rfl (root.map (Value.int .u8)) _ (HRG.out _ hSw) Tryd.underlying35 rfl HIM.out
      try simp only [Act.put, sA, sB, sC]
      refine wpAnyH_ready (rs := [1]) (by kernel_rfl) (by simp) ?_
      refine (AllReadyH.cons (o := ⟨some 75, .call ⟨.value (.func 45), #[.tmp 74], #[83]⟩, 35, "ref.go:239", #[⟨0, .data⟩], none⟩) rfl (fun K hK => ?_) AllReadyH.nil)
      try (generalize World.drew w4 = ud at *)
      go_simp
      refine (HPS.out _ hb).mono ?_
      rintro d cu ⟨rfl, hb9⟩
      have hb := hb.trans (hb9.mono hb.size)
      clear hb9
      go_wp2_with fail
      refine hK.out _ _ hb (fun hHeld => ?_)
      clear hK K
      try simp only [Act.put, sA, sB, sC]
      refine tk (i := 3) (oi := ⟨some 77, .binOp BinOp.neq 35 (.tmp 75) (.tmp 76) 35, 4, "ref.go:239", #[⟨1, .data⟩, ⟨2, .data⟩], none⟩) (v := .bool false) (Or.inl ⟨by rfl, ?_⟩) ?_
      ·intro u hSw
       exact exec_neq_32 (Operand.tmp 75) (Operand.tmp 76) _ rfl dg root rfl rfl HDL.out HRO.out false (by rw [decide_eq_true HD.out]; rfl)
      try simp only [Act.put, sA, sB, sC]
      refine wpAnyH_done (by kernel_rfl) ?_ _
      have HE := hid hb
      clear hb hHeld
      go_wp2_with fail
      go_ret2
      rw [HVR.out]
      exact ⟨_, rfl, by rw [← HAC.out]; exact (((HW.out.1.below HB4.out.1).below HE.out).base HB3.out.2.size), HB4.out.2.trans (HE.out.mono HB4.out.2.size)⟩
     ·rw [if_neg hd] at HVR
      have HD := hid hd
      clear hd
      go_wp2_with fail
      refine wp_region_held_drew (S := fun u => Below w4.heap.size w4 u) (by kernel_rfl) (hb) (fun hHeld => ?_)
      refine tk (i := 0) (oi := ⟨some 74, .move (.tmp 12), 83, "ref.go:239", #[], none⟩) (v := ?_) (Or.inl ⟨by rfl, ?_⟩) ?_
      rotate_left 1
      ·(intro u hSw; go_simp; try with_reducible rfl)
      try simp only [Act.put, sA, sB, sC]
      refine tk (i := 2) (oi := ⟨some 76, .load 35 (.tmp 5), 35, "ref.go:239", #[], none⟩) (v := .agg (ArrU8 root)) (Or.inl ⟨by rfl, ?_⟩) ?_
      ·intro u hSw
       exact exec_load_mid 35 (Operand.tmp 5) rfl w.heap.size 0 rfl (root.map (Value.int .u8)) _ (HRG.out _ hSw) Tryd.underlying35 rfl HIM.out
      try simp only [Act.put, sA, sB, sC]
      refine wpAnyH_ready (rs := [1]) (by kernel_rfl) (by simp) ?_
      refine (AllReadyH.cons (o := ⟨some 75, .call ⟨.value (.func 45), #[.tmp 74], #[83]⟩, 35, "ref.go:239", #[⟨0, .data⟩], none⟩) rfl (fun K hK => ?_) AllReadyH.nil)
      try (generalize World.drew w4 = ud at *)
      go_simp
      refine (HPS.out _ hb).mono ?_
      rintro d cu ⟨rfl, hb9⟩
      have hb := hb.trans (hb9.mono hb.size)
      clear hb9
      go_wp2_with fail
      refine hK.out _ _ hb (fun hHeld => ?_)
      clear hK K
      try simp only [Act.put, sA, sB, sC]
      refine tk (i := 3) (oi := ⟨some 77, .binOp BinOp.neq 35 (.tmp 75) (.tmp 76) 35, 4, "ref.go:239", #[⟨1, .data⟩, ⟨2, .data⟩], none⟩) (v := .bool true) (Or.inl ⟨by rfl, ?_⟩) ?_
      ·intro u hSw
       exact exec_neq_32 (Operand.tmp 75) (Operand.tmp 76) _ rfl dg root rfl rfl HDL.out HRO.out true (by rw [decide_eq_false HD.out]; rfl)
      try simp only [Act.put, sA, sB, sC]
      refine wpAnyH_done (by kernel_rfl) ?_ _
      have HE := hid hb
      clear hb hHeld
      go_wp2_with fail
      go_ret2
      rw [HVR.out]
      exact ⟨by decide, rfl, HB4.out.2.trans (HE.out.mono HB4.out.2.size)⟩
end Go.Proofs.YtbmlkocpjboodaaDoor
