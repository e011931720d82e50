import Derived.Test.YtdkjkibdncbibaaGreatCm11
namespace Go.Proofs.YtdkjkibdncbibaaGreat
open Go.RowKit
open Go.Lib (hid)
/-- bytes that lie in blocks from one on and below another -/
def BsI (w : World) (lo hi : Nat) (v : Value) (l : List Int) : Prop := Bs w v l ∧ ∀ ad n c, v = .slice (some ad) n c → 0 < l.length → lo ≤ ad.block ∧ ad.block < hi
/-- records that lie in blocks from one on and below another -/
def Recs (w : World) (lo hi : Nat) (v : Value) (ps : List (List Int)) : Prop :=
 ∃ (a : Option Addr) (cap : Nat), v = .slice a ps.length cap ∧ (0 < ps.length → ∃ b off, a = some ⟨b, off, none⟩ ∧ b < w.heap.size ∧ lo ≤ b ∧ b < hi ∧ ∀ i, i < ps.length → ∃ x, w.cell? ⟨b, off + i, none⟩ = some x ∧ BsI w lo hi x (ps[i]?.getD []))
theorem Recs.chg {w w' : World} {lo hi : Nat} {v : Value} {ps : List (List Int)} {F : Nat → Prop} (h : Recs w lo hi v ps) (hc : Chg F w w') (hF : ∀ k, lo ≤ k → k < hi → ¬ F k) : Recs w' lo hi v ps := by
 obtain ⟨a, cap, hv, h⟩ := h
 refine ⟨a, cap, hv, fun hl => ?_⟩
 obtain ⟨b, off, ha, hbs, h1, h2, hcell⟩ := h hl
 refine ⟨b, off, ha, Nat.lt_of_lt_of_le hbs hc.size, h1, h2, fun i hi2 => ?_⟩
 obtain ⟨x, hx, hb1, hb2⟩ := hcell i hi2
 exact ⟨x, (World.cell?_of_block (a := ⟨b, off + i, none⟩) (hc.block b hbs (hF b h1 h2))).trans hx, hb1.chg hc (fun ad n c e h0 => hF _ (hb2 ad n c e h0).1 (hb2 ad n c e h0).2), hb2⟩
theorem Recs.nil (w : World) (lo hi : Nat) : Recs w lo hi (.slice none 0 0) [] := ⟨none, 0, rfl, fun h => by simp at h⟩
theorem Recs.widen {w : World} {lo hi lo' hi' : Nat} {v : Value} {ps : List (List Int)} (h : Recs w lo hi v ps) (h1 : lo' ≤ lo) (h2 : hi ≤ hi') : Recs w lo' hi' v ps := by
 obtain ⟨a, cap, hv, h⟩ := h
 refine ⟨a, cap, hv, fun hl => ?_⟩
 obtain ⟨b, off, ha, hbs, h3, h4, hcell⟩ := h hl
 refine ⟨b, off, ha, hbs, by omega, by omega, fun i hi2 => ?_⟩
 obtain ⟨x, hx, hb1, hb2⟩ := hcell i hi2
 exact ⟨x, hx, hb1, fun ad n c e h0 => by have := hb2 ad n c e h0; omega⟩
theorem recs_of_own {T E : TypeId} {w : World} {B : Nat} {v : Value} {ps : List (List Int)} (h : OwnPs T E w B v ps) : Recs w B w.heap.size v ps := by
  obtain ⟨xs, h1, h2⟩ := h
  rcases h1.2 with ⟨rfl, h0⟩ | ⟨g, cap, cur, rfl, hg, hh, hle, _, _, _⟩
  · have : ps = [] := List.eq_nil_of_length_eq_zero h0
    subst this
    exact Recs.nil _ _ _
  · refine ⟨some ⟨g, 0, none⟩, cap, rfl, fun _ => ⟨g, 0, rfl, (h1.lt g rfl).2, hg, (h1.lt g rfl).2, fun i hi => ?_⟩⟩
    obtain ⟨x, hx, ho, _⟩ := h2 i hi
    have := h1.cells (g := g) rfl i x hx
    rw [Addr.add_mid] at this
    refine ⟨x, this, Bs_of_own ho, fun ad n c e h0 => ho.lt ad.block (by rw [e]; rfl)⟩
def OpEnds (D : Nat) (fi sz : Int) (a b c : Nat) (rs : List (List Int)) (w : World) (e : Ending) (w' : World) : Prop :=
 ∃ P v, e = .returned (.tuple #[.pointer (some ⟨P, 0, none⟩), v, .int .i64 0]) ∧ LgIs w' P D fi sz a b c (.slice none 0 0) ∧ Recs w' w.heap.size P v rs ∧ w.heap.size ≤ P ∧ Below w.heap.size w w'
set_option maxRecDepth 100000 in
set_option maxHeartbeats 4000000 in
theorem open_yes (B D M : Nat) (nb rm fz fi sz : Int) (f : Int → List Int) (L : List WR) (lv : Value) (a b c : Nat) (rs : List (List Int)) (w : World) (h : Dk w B D M nb rm fz false f L lv) (h1 : 0 ≤ fi) (h2 : 3 ≤ sz) (h3 : fi ≤ nb - sz) (hnb : nb ≤ 4096) (hr : ∀ n, Rng (f n))
    (hm : nst f fi 2 = (a, b, c)) (ha : a ≠ 0) (hc : (c : Int) ≤ (sz - 2) * 256) (har : areaB f (fi + 2) c = encs rs) (hrs : ∀ r ∈ rs, Rng r) :
    Calls Tryz.prog 34 #[.pointer (some ⟨D, 0, none⟩), .int .i64 fi, .int .i64 sz] w (OpEnds D fi sz a b c rs w) := by
  have hz := zero102
  have hzm := zeroMark
  have HBO := hid (blocksOf_yes B D M nb rm fz fi sz false f L lv w h h1 h2 h3 hnb)
  have hnm := fun u (h : Dk u B D M nb rm fz false f L lv) => newestMark_any B D M nb rm fz fi sz f L lv u h h1 (by omega) hnb hr
  rw [hm, show nmRes (a, b, c) = .returned (.tuple #[.agg #[Value.int .u64 (a : Int), .int .u64 (b : Int), .int .u64 (c : Int)], .int .i64 0]) from by rw [nmRes, if_neg (by exact ha)]; rfl] at hnm
  have HNM := hid hnm
  have hra := fun u (h : Dk u B D M nb rm fz false f L lv) => readArea_any B D M nb rm fz fi sz f L lv c u h h1 (by omega) h2 hnb hc
  rw [har] at hra
  have HRA := hid hra
  have HRM := hid (fun u => lroom_any D fi sz u (by omega) (by omega))
  have hel : (encs rs).length ≤ 1048576 := by
    have := areaB_len f (fi + 2) h.2.2.2.2.2.2.1 c
    rw [har] at this
    omega
  have HRI := hid (fun u v (hv : BsB u u.heap.size v (encs rs)) => recordsIn_any v rs u hv hrs hel)
  obtain ⟨R, hR⟩ : ∃ R : Int, (sz - 2) * 256 = R := ⟨_, rfl⟩
  rw [hR] at HRM hc
  have hRb : 0 ≤ R ∧ R ≤ 1048576 := by omega
  have hcn : ¬ (R < (c : Int)) := by omega
  have hw1 : IntKind.u64.wrap R = R := wrap_u64 _ hRb.1 (by omega)
  have hw2 : IntKind.i64.wrap (c : Int) = (c : Int) := wrap_i64 _ (by omega) (by omega)
  have hbd : ∀ u : World, (Instr.build 116 #[(0, Value.agg #[Value.pointer (some ⟨D, 0, none⟩), .int .i64 fi, .int .i64 sz]), (1, Value.agg #[Value.int .u64 (a : Int), .int .u64 (b : Int), .int .u64 (c : Int)])]).run Tryz.prog u = .ok (.agg #[Value.pointer (some ⟨D, 0, none⟩), .int .i64 fi, .int .i64 sz, .int .u64 (a : Int), .int .u64 (b : Int), .int .u64 (c : Int), .slice none 0 0]) u := fun u => by kernel_rfl
  have HD := hid h
  clear h hnm hra hm ha har hrs hel hR hr
  go_enter Tryz.func34, Tryz.ntmps34
  go_wp2_with fail
  refine HBO.out.mono ?_
  rintro e wa ⟨rfl, hb⟩
  have XA := hid hb
  have HXA := hid (heap_alloc_new wa (.cells #[Value.pointer (some ⟨D, 0, none⟩), .int .i64 fi, .int .i64 sz] 103))
  have XB := hid (show Below w.heap.size w (wa.alloc (.cells #[Value.pointer (some ⟨D, 0, none⟩), .int .i64 fi, .int .i64 sz] 103)) from hb.alloc hb.size _)
  have HLA := hid (show w.heap.size ≤ wa.heap.size ∧ wa.heap.size < (wa.alloc (.cells #[Value.pointer (some ⟨D, 0, none⟩), .int .i64 fi, .int .i64 sz] 103)).heap.size from ⟨hb.size, by simp⟩)
  clear hb
  go_wp2_with fail
  generalize hwb : wa.alloc (.cells #[Value.pointer (some ⟨D, 0, none⟩), .int .i64 fi, .int .i64 sz] 103) = wb at *
  have HWB := hid hwb
  clear hwb
  refine (HNM.out wb (HD.out.chg (Chg.fresh (F := fun _ => False) XB.out) (fun _ _ h => h))).mono ?_
  rintro e wc ⟨rfl, hb⟩
  have XC := hid (XB.out.trans (hb.mono XB.out.size))
  have XC1 := hid hb
  have HXC := hid (heap_alloc_new wc (.cells #[Value.int .u64 (a : Int), .int .u64 (b : Int), .int .u64 (c : Int)] 107))
  have XD1 := hid (show Below wb.heap.size wb (wc.alloc (.cells #[Value.int .u64 (a : Int), .int .u64 (b : Int), .int .u64 (c : Int)] 107)) from hb.alloc hb.size _)
  have HLC := hid (show wb.heap.size ≤ wc.heap.size ∧ wc.heap.size < (wc.alloc (.cells #[Value.int .u64 (a : Int), .int .u64 (b : Int), .int .u64 (c : Int)] 107)).heap.size from ⟨hb.size, by simp⟩)
  clear hb
  go_wp2_with fail
  generalize hwd : wc.alloc (.cells #[Value.int .u64 (a : Int), .int .u64 (b : Int), .int .u64 (c : Int)] 107) = wd at *
  have HWD := hid hwd
  clear hwd
  have HXD := hid ((XD1.out.block _ HLA.out.2).trans HXA.out)
  have HSD := hid (show wd.drew.heap[wa.heap.size]? = some (.cells #[Value.pointer (some ⟨D, 0, none⟩), .int .i64 fi, .int .i64 sz] 103 (0, 0)) ∧ wd.drew.heap[wc.heap.size]? = some (.cells #[Value.int .u64 (a : Int), .int .u64 (b : Int), .int .u64 (c : Int)] 107 (0, 0)) from ⟨HXD.out, HXC.out⟩)
  refine wp_region_held_drew (S := fun u => u.heap[wa.heap.size]? = some (.cells #[Value.pointer (some ⟨D, 0, none⟩), .int .i64 fi, .int .i64 sz] 103 (0, 0)) ∧ u.heap[wc.heap.size]? = some (.cells #[Value.int .u64 (a : Int), .int .u64 (b : Int), .int .u64 (c : Int)] 107 (0, 0))) (by kernel_rfl) (HSD.out) (fun hHeld => ?_)
  refine tk (i := 0) (oi := ⟨some 32, .fieldAddr 107 (.tmp 11) 2, 0, "log.go:42", #[], none⟩) (v := ?_) (Or.inl ⟨by rfl, ?_⟩) ?_
  rotate_left 1
  · (intro u hSw; go_simp; try with_reducible rfl)
  try simp only [Act.put, sA, sB, sC]
  refine tk (i := 1) (oi := ⟨some 33, .load 60 (.tmp 32), 60, "log.go:42", #[⟨0, .data⟩], none⟩) (v := ?_) (Or.inl ⟨by rfl, ?_⟩) ?_
  rotate_left 1
  · intro u hSw
    have m0 := (cell_of_row u (wc.heap.size) 0 _ _ _ hSw.2).trans (show (#[Value.int .u64 (a : Int), .int .u64 (b : Int), .int .u64 (c : Int)] : Array Value)[0]? = some (.int .u64 (a : Int)) from rfl); have m1 := (cell_of_row u (wc.heap.size) 1 _ _ _ hSw.2).trans (show (#[Value.int .u64 (a : Int), .int .u64 (b : Int), .int .u64 (c : Int)] : Array Value)[1]? = some (.int .u64 (b : Int)) from rfl); have m2 := (cell_of_row u (wc.heap.size) 2 _ _ _ hSw.2).trans (show (#[Value.int .u64 (a : Int), .int .u64 (b : Int), .int .u64 (c : Int)] : Array Value)[2]? = some (.int .u64 (c : Int)) from rfl)
    go_simp
    try with_reducible rfl
  try simp only [Act.put, sA, sB, sC]
  refine tk (i := 2) (oi := ⟨some 34, .load 103 (.tmp 9), 103, "log.go:42", #[], none⟩) (v := ?_) (Or.inl ⟨by rfl, ?_⟩) ?_
  rotate_left 1
  · intro u hSw
    have p0 := (cell_of_row u (wa.heap.size) 0 _ _ _ hSw.1).trans (show (#[Value.pointer (some ⟨D, 0, none⟩), .int .i64 fi, .int .i64 sz] : Array Value)[0]? = some (.pointer (some ⟨D, 0, none⟩)) from rfl); have p1 := (cell_of_row u (wa.heap.size) 1 _ _ _ hSw.1).trans (show (#[Value.pointer (some ⟨D, 0, none⟩), .int .i64 fi, .int .i64 sz] : Array Value)[1]? = some (.int .i64 fi) from rfl); have p2 := (cell_of_row u (wa.heap.size) 2 _ _ _ hSw.1).trans (show (#[Value.pointer (some ⟨D, 0, none⟩), .int .i64 fi, .int .i64 sz] : Array Value)[2]? = some (.int .i64 sz) from rfl)
    go_simp
    try with_reducible rfl
  try simp only [Act.put, sA, sB, sC]
  refine wpAnyH_ready (rs := [3]) (by kernel_rfl) (by simp) ?_
  refine AllReadyH.cons (o := ⟨some 35, .call ⟨.value (.func 70), #[.tmp 34], #[103]⟩, 3, "log.go:42", #[⟨2, .data⟩], none⟩) rfl (fun K hK => ?_) AllReadyH.nil
  go_simp
  go_at_call 70
  refine (HRM.out _).mono ?_
  rintro e we ⟨rfl, hb⟩
  have XE := hid (show Below wd.heap.size wd we from ((Below.refl _ _).drew).trans hb)
  have HXE := hid (And.intro ((XE.out.block wa.heap.size (by have := HLA.out; have := HLC.out; omega)).trans HXD.out) ((XE.out.block wc.heap.size HLC.out.2).trans HXC.out))
  clear hb
  go_wp2_with fail
  refine hK.out _ _ HXE.out (fun hHeld => ?_)
  clear hK K
  try simp only [Act.put, sA, sB, sC]
  refine tk (i := 4) (oi := ⟨some 36, .convert 3 60 (.tmp 35), 60, "log.go:42", #[⟨3, .data⟩], none⟩) (v := ?_) (Or.inl ⟨by rfl, ?_⟩) ?_
  rotate_left 1
  · (intro u hSw; go_simp; try with_reducible rfl)
  try simp only [Act.put, sA, sB, sC]
  refine tk (i := 5) (oi := ⟨some 37, .binOp BinOp.gtr 60 (.tmp 33) (.tmp 36) 60, 4, "log.go:42", #[⟨1, .data⟩, ⟨4, .data⟩], none⟩) (v := ?_) (Or.inl ⟨by rfl, ?_⟩) ?_
  rotate_left 1
  · (intro u hSw; go_simp; try with_reducible rfl)
  try simp only [Act.put, sA, sB, sC]
  refine wpAnyH_done (by kernel_rfl) ?_ _
  have XWE := hid (show Below w.heap.size w we from (XB.out.trans (XD1.out.mono XB.out.size)).trans (XE.out.mono (XB.out.trans (XD1.out.mono XB.out.size)).size))
  have x0 := (cell_of_row _ (wa.heap.size) 0 _ _ _ HXE.out.1).trans (show (#[Value.pointer (some ⟨D, 0, none⟩), .int .i64 fi, .int .i64 sz] : Array Value)[0]? = some (.pointer (some ⟨D, 0, none⟩)) from rfl)
  have x1 := (cell_of_row _ (wa.heap.size) 1 _ _ _ HXE.out.1).trans (show (#[Value.pointer (some ⟨D, 0, none⟩), .int .i64 fi, .int .i64 sz] : Array Value)[1]? = some (.int .i64 fi) from rfl)
  have x2 := (cell_of_row _ (wa.heap.size) 2 _ _ _ HXE.out.1).trans (show (#[Value.pointer (some ⟨D, 0, none⟩), .int .i64 fi, .int .i64 sz] : Array Value)[2]? = some (.int .i64 sz) from rfl)
  have y0 := (cell_of_row _ (wc.heap.size) 0 _ _ _ HXE.out.2).trans (show (#[Value.int .u64 (a : Int), .int .u64 (b : Int), .int .u64 (c : Int)] : Array Value)[0]? = some (.int .u64 (a : Int)) from rfl)
  have y1 := (cell_of_row _ (wc.heap.size) 1 _ _ _ HXE.out.2).trans (show (#[Value.int .u64 (a : Int), .int .u64 (b : Int), .int .u64 (c : Int)] : Array Value)[1]? = some (.int .u64 (b : Int)) from rfl)
  have y2 := (cell_of_row _ (wc.heap.size) 2 _ _ _ HXE.out.2).trans (show (#[Value.int .u64 (a : Int), .int .u64 (b : Int), .int .u64 (c : Int)] : Array Value)[2]? = some (.int .u64 (c : Int)) from rfl)
  go_wp2_with fail
  refine (HRA.out we (HD.out.chg (Chg.fresh (F := fun _ => False) XWE.out) (fun _ _ h => h))).mono ?_
  rintro e wf ⟨rv, rfl, ho, hb⟩
  have XF := hid hb
  have HRI2 := hid (HRI.out wf rv ⟨ho.bs, fun ad n c e h0 => (ho.lt ad.block (by rw [e]; rfl)).2⟩)
  clear ho hb x0 x1 x2 y0 y1 y2
  go_wp2_with fail
  refine HRI2.out.mono ?_
  rintro e wg ⟨rv2, rfl, hps, hb⟩
  have XG := hid hb
  have HPS := hid (recs_of_own hps)
  have HXG := hid (And.intro ((hb.block wa.heap.size (by have := HLA.out; have := HLC.out; have := XE.out.size; have := XF.out.size; omega)).trans ((XF.out.block wa.heap.size (by have := HLA.out; have := HLC.out; have := XE.out.size; omega)).trans HXE.out.1)) ((hb.block wc.heap.size (by have := HLC.out; have := XE.out.size; have := XF.out.size; omega)).trans ((XF.out.block wc.heap.size (by have := HLC.out; have := XE.out.size; omega)).trans HXE.out.2)))
  clear hps hb
  have z0 := (cell_of_row _ (wa.heap.size) 0 _ _ _ HXG.out.1).trans (show (#[Value.pointer (some ⟨D, 0, none⟩), .int .i64 fi, .int .i64 sz] : Array Value)[0]? = some (.pointer (some ⟨D, 0, none⟩)) from rfl)
  have z1 := (cell_of_row _ (wa.heap.size) 1 _ _ _ HXG.out.1).trans (show (#[Value.pointer (some ⟨D, 0, none⟩), .int .i64 fi, .int .i64 sz] : Array Value)[1]? = some (.int .i64 fi) from rfl)
  have z2 := (cell_of_row _ (wa.heap.size) 2 _ _ _ HXG.out.1).trans (show (#[Value.pointer (some ⟨D, 0, none⟩), .int .i64 fi, .int .i64 sz] : Array Value)[2]? = some (.int .i64 sz) from rfl)
  have q0 := (cell_of_row _ (wc.heap.size) 0 _ _ _ HXG.out.2).trans (show (#[Value.int .u64 (a : Int), .int .u64 (b : Int), .int .u64 (c : Int)] : Array Value)[0]? = some (.int .u64 (a : Int)) from rfl)
  have q1 := (cell_of_row _ (wc.heap.size) 1 _ _ _ HXG.out.2).trans (show (#[Value.int .u64 (a : Int), .int .u64 (b : Int), .int .u64 (c : Int)] : Array Value)[1]? = some (.int .u64 (b : Int)) from rfl)
  have q2 := (cell_of_row _ (wc.heap.size) 2 _ _ _ HXG.out.2).trans (show (#[Value.int .u64 (a : Int), .int .u64 (b : Int), .int .u64 (c : Int)] : Array Value)[2]? = some (.int .u64 (c : Int)) from rfl)
  go_wp2_with fail
  go_ret3
  have q1 := XWE.out.size
  have q2 := XF.out.size
  have q3 := XG.out.size
  have hbg : Below w.heap.size w wg := (XWE.out.trans (XF.out.mono q1)).trans (XG.out.mono (by omega))
  exact ⟨wg.heap.size, rv2, rfl, heap_alloc_new _ _, (HPS.out.widen (by omega) (Nat.le_refl _)).chg ((Chg.refl (fun _ => False) wg).alloc _) (fun _ _ _ h => h), by omega, hbg.alloc (by omega) _⟩
end Go.Proofs.YtdkjkibdncbibaaGreat
namespace Go.Proofs.YtdkjkibdncbibaaGreat
open Go.RowKit
open Go.Lib (hid)
def convC (x : Value) : Sem Value := convert 83 9 x
theorem convC_eq (x : Value) : convert 83 9 x = convC x := rfl
attribute [local go_sem ↓] convC_eq
end Go.Proofs.YtdkjkibdncbibaaGreat
namespace Go.Proofs.YtdkjkibdncbibaaGreat
open Go.RowKit
open Go.Lib (hid)
theorem flat8_drop (ns : List Nat) (r : List Int) : ∀ j, j ≤ ns.length → (ns.flatMap be8 ++ r).drop (8 * j) = (ns.drop j).flatMap be8 ++ r := by
 intro j
 induction j with
 | zero => intro _; simp
 | succ j ih =>
  intro h
  have hlt : j < ns.length := by omega
  rw [show 8 * (j + 1) = 8 * j + 8 by omega, ← List.drop_drop, ih (by omega), List.drop_eq_getElem_cons hlt, List.flatMap_cons, List.append_assoc, List.drop_left' (be8_len _)]
theorem nAt_mb (a b c j x : Nat) (h : (mnums a b c)[j]? = some x) (hx : x < 18446744073709551616) : nAt (mb a b c) j = x := by
 have hlt : j < (mnums a b c).length := (List.getElem?_eq_some_iff.1 h).1
 have he : (mnums a b c)[j] = x := (List.getElem?_eq_some_iff.1 h).2
 unfold nAt mb
 rw [flat8_drop _ _ j (by omega), List.drop_eq_getElem_cons hlt, he, List.flatMap_cons, List.append_assoc, List.take_left' (be8_len _), beI_be8 _ hx]
theorem okB_mb (a b c : Nat) (ha : a < 18446744073709551616) (hb : b < 18446744073709551616) (hc : c < 18446744073709551616) : okB (mb a b c) = true := by
 unfold okB
 rw [nAt_mb a b c 0 a rfl ha, nAt_mb a b c 5 a rfl ha, nAt_mb a b c 1 b rfl hb, nAt_mb a b c 4 b rfl hb, nAt_mb a b c 2 c rfl hc, nAt_mb a b c 3 c rfl hc]
 simp
/-- the newest mark is (a, b, c): it lies whole in its block, and the other block has no later one -/
def Mk (f : Int → List Int) (fi : Int) (a b c : Nat) : Prop :=
 (okB (f (fi + (a % 2 : Nat))) = true ∧ nAt (f (fi + (a % 2 : Nat))) 0 = a ∧ nAt (f (fi + (a % 2 : Nat))) 1 = b ∧ nAt (f (fi + (a % 2 : Nat))) 2 = c) ∧ a ≠ 0 ∧
 ¬ (okB (f (fi + ((a + 1) % 2 : Nat))) = true ∧ nAt (f (fi + ((a + 1) % 2 : Nat))) 0 % 2 = (a + 1) % 2 ∧ a < nAt (f (fi + ((a + 1) % 2 : Nat))) 0)
theorem nst_mk {f : Int → List Int} {fi : Int} {a b c : Nat} (h : Mk f fi a b c) : nst f fi 2 = (a, b, c) := by
 obtain ⟨⟨h1, h2, h3, h4⟩, h0, h5⟩ := h
 have e0 : fi + ((0 : Nat) : Int) = fi := by omega
 show pk 1 (f (fi + (1 : Nat))) (pk 0 (f (fi + (0 : Nat))) (0, 0, 0)) = _
 rcases Nat.mod_two_eq_zero_or_one a with hp | hp
 ·have hp1 : (a + 1) % 2 = 1 := by omega
  rw [hp] at h1 h2 h3 h4
  rw [hp1] at h5
  have e1 : pk 0 (f (fi + (0 : Nat))) (0, 0, 0) = (a, b, c) := by
   rw [pk, if_pos ⟨h1, by rw [h2, hp], by rw [h2]; show 0 < a; omega⟩, h2, h3, h4]
  rw [e1, pk, if_neg (fun h => h5 ⟨h.1, h.2.1, h.2.2⟩)]
 ·have hp1 : (a + 1) % 2 = 0 := by omega
  rw [hp] at h1 h2 h3 h4
  rw [hp1] at h5
  have e1 : (pk 0 (f (fi + (0 : Nat))) (0, 0, 0)).1 < a := by
   unfold pk
   split
   ·rename_i h
    show nAt (f (fi + (0 : Nat))) 0 < a
    have h6 : ¬ a < nAt (f (fi + (0 : Nat))) 0 := fun e => h5 ⟨h.1, h.2.1, e⟩
    have h7 : nAt (f (fi + (0 : Nat))) 0 % 2 = 0 := h.2.1
    omega
   ·show 0 < a; omega
  rw [pk, if_pos ⟨h1, by rw [h2, hp], by rw [h2]; exact e1⟩, h2, h3, h4]
theorem fput_at (f : Int → List Int) (n : Int) (b : List Int) : fput f n b n = b := by rw [fput, if_pos rfl]
theorem fput_ne (f : Int → List Int) (n m : Int) (b : List Int) (h : m ≠ n) : fput f n b m = f m := by rw [fput, if_neg h]
/-- a mark behind the newest one -/
theorem Mk.next {f : Int → List Int} {fi : Int} {a b c : Nat} (h : Mk f fi a b c) (b' c' : Nat) (ha : a + 1 < 18446744073709551616) (hb : b' < 18446744073709551616) (hc : c' < 18446744073709551616) : Mk (fput f (fi + ((a + 1) % 2 : Nat)) (mb (a + 1) b' c')) fi (a + 1) b' c' := by
 have e1 : (a + 1 + 1) % 2 = a % 2 := by omega
 have hne : fi + ((a % 2 : Nat) : Int) ≠ fi + (((a + 1) % 2 : Nat) : Int) := by omega
 refine ⟨?_, by omega, ?_⟩
 ·rw [fput_at]
  exact ⟨okB_mb _ _ _ ha hb hc, nAt_mb _ _ _ 0 _ rfl ha, nAt_mb _ _ _ 1 _ rfl hb, nAt_mb _ _ _ 2 _ rfl hc⟩
 ·rw [e1, fput_ne _ _ _ _ hne, h.1.2.1]
  omega
theorem Mk.away {f g : Int → List Int} {fi : Int} {a b c : Nat} (h : Mk f fi a b c) (h0 : g fi = f fi) (h1 : g (fi + 1) = f (fi + 1)) : Mk g fi a b c := by
 have key : ∀ n, n < 2 → g (fi + (n : Nat)) = f (fi + (n : Nat)) := by
  intro n hn
  rcases n with _ | _ | n
  ·simpa using h0
  ·simpa using h1
  ·omega
 unfold Mk
 rw [key _ (Nat.mod_lt _ (by decide)), key _ (Nat.mod_lt _ (by decide))]
 exact h
theorem mk_format (f : Int → List Int) (fi : Int) : Mk (fput (fput f (fi + 1) (mb 1 1 0)) fi (zeros 256)) fi 1 1 0 := by
 have e1 : (1 : Nat) % 2 = 1 := rfl
 have e2 : (1 + 1 : Nat) % 2 = 0 := rfl
 have hne : fi + ((1 : Nat) : Int) ≠ fi := by omega
 have e3 : fi + ((1 : Nat) : Int) = fi + 1 := by omega
 have e4 : fi + ((0 : Nat) : Int) = fi := by omega
 refine ⟨?_, by decide, ?_⟩
 ·rw [e1, fput_ne _ _ _ _ hne, e3, fput_at]
  exact ⟨okB_mb _ _ _ (by decide) (by decide) (by decide), nAt_mb _ _ _ 0 _ rfl (by decide), nAt_mb _ _ _ 1 _ rfl (by decide), nAt_mb _ _ _ 2 _ rfl (by decide)⟩
 ·rw [e2, e4, fput_at]
  have hz : nAt (zeros 256) 0 = 0 := by decide
  rw [hz]
  omega
/-- what writes make of blocks -/
def fputs (f : Int → List Int) : List (Int × List Int) → Int → List Int
 | [] => f
 | x :: r => fputs (fput f x.1 x.2) r
/-- a disk that does not fail -/
def Calm (s : DS) : Prop := s.fz = -1 ∧ s.dn = false
theorem wr_calm {nb rm : Int} {s : DS} (h : Calm s) (n : Int) (b : List Int) (h0 : 0 ≤ n) (h1 : n < nb) (h2 : n < rm) : s.we nb rm n = 0 ∧ Calm (s.wr nb rm n b) ∧ (s.wr nb rm n b).f = fput s.f n b := by
 obtain ⟨fz, dn, f, L⟩ := s
 obtain ⟨e1, e2⟩ := h
 dsimp only at e1 e2
 subst e1 e2
 have he : DS.we nb rm ⟨-1, false, f, L⟩ n = 0 := by
  simp [DS.we, wErr, opOk, hasB]
  omega
 refine ⟨he, ⟨rfl, rfl⟩, ?_⟩
 show (if _ = 0 then _ else _) = _
 rw [if_pos he]
theorem ws_calm {nb rm : Int} : ∀ (l : List (Int × List Int)) {s : DS}, Calm s → (∀ x ∈ l, 0 ≤ x.1 ∧ x.1 < nb ∧ x.1 < rm) → (s.ws nb rm l).2 = 0 ∧ Calm (s.ws nb rm l).1 ∧ (s.ws nb rm l).1.f = fputs s.f l
  | [], s, h, _ => ⟨rfl, h, rfl⟩
  | x :: r, s, h, hx => by
    obtain ⟨h0, h1, h2⟩ := hx x (List.mem_cons_self ..)
    obtain ⟨e1, e2, e3⟩ := wr_calm (nb := nb) (rm := rm) h x.1 x.2 h0 h1 h2
    unfold DS.ws
    rw [if_pos e1]
    have := ws_calm r e2 (fun y hy => hx y (List.mem_cons_of_mem _ hy))
    rw [e3] at this
    exact this
theorem wsy_calm {nb rm : Int} (l : List (Int × List Int)) {s : DS} (h : Calm s) (hx : ∀ x ∈ l, 0 ≤ x.1 ∧ x.1 < nb ∧ x.1 < rm) : (s.wsy nb rm l).2 = 0 ∧ (s.wsy nb rm l).1 = ⟨-1, false, fputs s.f l, []⟩ := by
 obtain ⟨e1, e2, e3⟩ := ws_calm l h hx
 unfold DS.wsy
 rw [if_pos e1]
 obtain ⟨e4, e5⟩ := e2
 generalize (s.ws nb rm l).1 = t at *
 obtain ⟨fz, dn, f, L⟩ := t
 dsimp only at e3 e4 e5
 subst e3 e4 e5
 exact ⟨rfl, rfl⟩
/-- the last block first: a full disk takes none -/
theorem wsy_full {nb rm : Int} (x : Int × List Int) (l : List (Int × List Int)) {s : DS} (h : Calm s) (h0 : 0 ≤ x.1) (h1 : x.1 < nb) (h2 : rm ≤ x.1) : (s.wsy nb rm (x :: l)).2 = 42 ∧ (s.wsy nb rm (x :: l)).1 = s := by
 obtain ⟨fz, dn, f, L⟩ := s
 obtain ⟨e1, e2⟩ := h
 dsimp only at e1 e2
 subst e1 e2
 have he : DS.we nb rm ⟨-1, false, f, L⟩ x.1 = 42 := by
  simp [DS.we, wErr, opOk, hasB]
  omega
 rw [wsy_cons, he, if_neg (by decide)]
 refine ⟨rfl, ?_⟩
 unfold DS.wr
 rw [he]
 rfl
theorem fputs_far (l : List (Int × List Int)) : ∀ (f : Int → List Int) (m : Int), (∀ x ∈ l, x.1 ≠ m) → fputs f l m = f m := by
 induction l with
 | nil => intro f m _; rfl
 | cons x r ih =>
  intro f m h
  show fputs (fput f x.1 x.2) r m = _
  rw [ih _ m (fun y hy => h y (List.mem_cons_of_mem _ hy)), fput_ne _ _ _ _ (fun e => h x (List.mem_cons_self ..) e.symm)]
theorem wl_mem {n : Int} {all : List Int} : ∀ {k : Nat} {x : Int × List Int}, x ∈ wl n all k → n ≤ x.1 ∧ x.1 < n + k
 | 0, x, h => by cases h
 | k + 1, x, h => by
  rcases List.mem_cons.1 h with h | h
  ·subst h; show n ≤ n + (k : Int) ∧ n + (k : Int) < n + ((k + 1 : Nat) : Int); omega
  ·have := wl_mem h; omega
theorem fputs_wl (n : Int) (all : List Int) : ∀ (k : Nat) (f : Int → List Int) (i : Nat), i < k → fputs f (wl n all k) (n + i) = padB (all.drop (256 * i))
 | 0, f, i, h => by omega
 | k + 1, f, i, h => by
  show fputs (fput f (n + k) (padB (all.drop (256 * k)))) (wl n all k) (n + i) = _
  by_cases hi : i < k
  ·exact fputs_wl n all k _ i hi
  ·obtain rfl : i = k := by omega
   rw [fputs_far _ _ _ (fun x hx => by have := wl_mem hx; omega), fput_at]
/-- the blocks that bytes are laid in -/
def catB (all : List Int) : Nat → List Int
 | 0 => []
 | k + 1 => catB all k ++ padB (all.drop (256 * k))
theorem catB_take (all : List Int) : ∀ k, 256 * k ≤ all.length + 255 → (catB all k).take all.length = all.take (256 * k) ∧ (catB all k).length = 256 * k
 | 0, _ => by simp [catB]
 | k + 1, h => by
  obtain ⟨ih, il⟩ := catB_take all k (by omega)
  refine ⟨?_, by rw [catB, List.length_append, il, padB_len]; omega⟩
  have hk : 256 * k ≤ all.length := by omega
  rw [List.take_of_length_le (by omega)] at ih
  rw [catB, List.take_append, il, List.take_of_length_le (by omega), ih, padB, List.take_append, List.length_take, List.length_drop]
  rw [show all.take (256 * (k + 1)) = all.take (256 * k) ++ (all.drop (256 * k)).take 256 by rw [show 256 * (k + 1) = 256 * k + 256 by omega, List.take_add]]
  congr 1
  rw [show all.length - 256 * k - min 256 (all.length - 256 * k) = (all.length - 256 * k) - min 256 (all.length - 256 * k) from rfl]
  rcases Nat.le_total 256 (all.length - 256 * k) with h1 | h1
  ·rw [show (256 - (all.length - 256 * k)) = 0 by omega]
   rw [List.take_of_length_le (by rw [List.length_take, List.length_drop]; omega)]
   simp [zeros]
  ·rw [show all.length - 256 * k - min 256 (all.length - 256 * k) = 0 by omega, List.take_zero, List.append_nil, List.take_of_length_le (by rw [List.length_take, List.length_drop]; omega)]
theorem arB_add (f : Int → List Int) (b : Int) (q : Nat) : ∀ k, arB f b (q + k) = arB f b q ++ arB f (b + q) k
 | 0 => by simp [arB]
 | k + 1 => by
  rw [← Nat.add_assoc, arB, arB_add f b q k, arB, List.append_assoc]
  congr 3
  omega
theorem arB_same (f g : Int → List Int) (b : Int) : ∀ k, (∀ i : Nat, i < k → f (b + i) = g (b + i)) → arB f b k = arB g b k
 | 0, _ => rfl
 | k + 1, h => by rw [arB, arB, arB_same f g b k (fun i hi => h i (by omega)), h k (by omega)]
theorem arB_cat (f : Int → List Int) (b : Int) (all : List Int) : ∀ k, (∀ i : Nat, i < k → f (b + i) = padB (all.drop (256 * i))) → arB f b k = catB all k
 | 0, _ => rfl
 | k + 1, h => by rw [arB, catB, arB_cat f b all k (fun i hi => h i (by omega)), h k (by omega)]
/-- the area behind a Sync's writes -/
theorem area_sync (f : Int → List Int) (b : Int) (c : Nat) (al : List Int) (hf : ∀ n, (f n).length = 256) (h0 : 0 < al.length) (g : Int → List Int)
  (hg : g = fputs f (wl (b + (c / 256 : Nat)) ((f (b + (c / 256 : Nat))).take (c % 256) ++ al) ((c % 256 + al.length - 1) / 256 + 1))) (hgl : ∀ n, (g n).length = 256) : areaB g b (c + al.length) = areaB f b c ++ al := by
 have hcd : c = 256 * (c / 256) + c % 256 := (Nat.div_add_mod _ _).symm
 have hlt : c % 256 < 256 := Nat.mod_lt _ (by decide)
 generalize c / 256 = q at *
 generalize c % 256 = ins at *
 obtain ⟨all, hall⟩ : ∃ all, (f (b + (q : Int))).take ins ++ al = all := ⟨_, rfl⟩
 rw [hall] at hg
 have hlen : all.length = ins + al.length := by rw [← hall, List.length_append, List.length_take, hf]; omega
 have hk1 : 256 * ((ins + al.length - 1) / 256) ≤ ins + al.length - 1 := Nat.mul_div_le _ _
 have hk2 : ins + al.length - 1 < 256 * ((ins + al.length - 1) / 256 + 1) := by omega
 generalize (ins + al.length - 1) / 256 = cnt at *
 have hA := arB_same g f b q (fun i hi => by rw [hg]; exact fputs_far _ _ _ (fun x hx => by have := wl_mem hx; omega))
 have hB := arB_cat g (b + q) all (cnt + 1) (fun i hi => by rw [hg]; exact fputs_wl _ _ _ _ _ hi)
 have hC := (catB_take all (cnt + 1) (by omega)).1
 rw [← areaB_eq g b hgl (q + (cnt + 1)) (c + al.length) (by omega), arB_add, hA, hB, List.take_append, arB_len f b hf, List.take_of_length_le (by rw [arB_len f b hf]; omega), show c + al.length - 256 * q = all.length by omega, hC, List.take_of_length_le (by omega), ← hall, ← List.append_assoc]
 congr 1
 rw [← areaB_eq f b hf (q + 1) c (by omega), arB, List.take_append, arB_len f b hf, show (arB f b q).take c = arB f b q from List.take_of_length_le (by rw [arB_len f b hf]; omega), show c - 256 * q = ins by omega]
end Go.Proofs.YtdkjkibdncbibaaGreat
namespace Go.Proofs.YtdkjkibdncbibaaGreat
open Go.RowKit
open Go.Lib (hid)
/-- a log on a disk that does not fail -/
structure LgS (w : World) (B D M : Nat) (nb rm : Int) (f : Int → List Int) (lv : Value) (P : Nat) (fi sz : Int) (a b c : Nat) (rs : List (List Int)) (av : Value) (pe : List (List Int)) : Prop where
 dk : Dk w B D M nb rm (-1) false f [] lv
 box : LgIs w P D fi sz a b c av
 own : Own w B av (encs pe)
 nf : ¬ Foot D M lv P
 ne : av.ownBlock ≠ some P
 af : ∀ g, av.ownBlock = some g → ¬ Foot D M lv g
 base : B ≤ P
 mkf : Mk f fi a b c
 area : areaB f (fi + 2) c = encs rs
 fits : ((c + (encs pe).length : Nat) : Int) ≤ (sz - 2) * 256
 rng : ∀ n, Rng (f n)
 rrs : ∀ r ∈ rs, Rng r
 rpe : ∀ r ∈ pe, Rng r
 h1 : 0 ≤ fi
 h2 : 3 ≤ sz
 h3 : fi ≤ nb - sz
 h4 : nb ≤ 4096
 ha : a < 1099511627776
 hb : b < 1099511627776
def LFoot (D M : Nat) (lv : Value) (P : Nat) (av : Value) (k : Nat) : Prop := Foot D M lv k ∨ k = P ∨ av.ownBlock = some k
section
variable {w w' : World} {B D M : Nat} {nb rm : Int} {f : Int → List Int} {lv : Value} {P : Nat} {fi sz : Int} {a b c : Nat} {rs : List (List Int)} {av : Value} {pe : List (List Int)}
theorem LgS.small (h : LgS w B D M nb rm f lv P fi sz a b c rs av pe) : c ≤ 1048576 ∧ (encs pe).length ≤ 1048576 := by
  have := h.fits; have := h.h1; have := h.h2; have := h.h3; have := h.h4; omega
theorem fputs_rng (l : List (Int × List Int)) : ∀ (f : Int → List Int), (∀ n, Rng (f n)) → (∀ x ∈ l, Rng x.2) → ∀ n, Rng (fputs f l n) := by
 induction l with
 | nil => intro f h _; exact h
 | cons x r ih =>
  intro f h hx
  refine ih _ (fun n => ?_) (fun y hy => hx y (List.mem_cons_of_mem _ hy))
  by_cases hn : n = x.1
  ·rw [hn, fput_at]; exact hx x (List.mem_cons_self ..)
  ·rw [fput_ne _ _ _ _ hn]; exact h n
theorem wl_rng {n : Int} {all : List Int} (h : Rng all) : ∀ k, ∀ x ∈ wl n all k, Rng x.2
 | 0, x, hx => by cases hx
 | k + 1, x, hx => by
  rcases List.mem_cons.1 hx with hx | hx
  ·subst hx; exact padB_rng (h.drop _)
  ·exact wl_rng h k x hx
theorem fputs_len (l : List (Int × List Int)) : ∀ (f : Int → List Int), (∀ n, (f n).length = 256) → (∀ x ∈ l, x.2.length = 256) → ∀ n, (fputs f l n).length = 256 := by
 induction l with
 | nil => intro f h _; exact h
 | cons x r ih =>
  intro f h hx
  refine ih _ (fun n => ?_) (fun y hy => hx y (List.mem_cons_of_mem _ hy))
  by_cases hn : n = x.1
  ·rw [hn, fput_at]; exact hx x (List.mem_cons_self ..)
  ·rw [fput_ne _ _ _ _ hn]; exact h n
theorem wl_len {n : Int} {all : List Int} : ∀ {k : Nat} {x : Int × List Int}, x ∈ wl n all k → x.2.length = 256
 | 0, x, hx => by cases hx
 | k + 1, x, hx => by
  rcases List.mem_cons.1 hx with hx | hx
  ·subst hx; exact padB_len _
  ·exact wl_len hx
def SEnds (B D M : Nat) (nb rm : Int) (_f : Int → List Int) (lv : Value) (P : Nat) (fi sz : Int) (a b _c : Nat) (rs : List (List Int)) (av : Value) (pe : List (List Int)) (w : World) (e : Ending) (w' : World) : Prop :=
 ∃ f' lv' a' c' rs' av', LgS w' B D M nb rm f' lv' P fi sz a' b c' rs' av' [] ∧ Chg (LFoot D M lv P av) w w' ∧ (∀ k, LFoot D M lv' P av' k → LFoot D M lv P av k ∨ w.heap.size ≤ k) ∧
  ((e = .returned (.int .i64 0) ∧ rs' = rs ++ pe ∧ a' ≤ a + 1) ∨ (e = .returned (.int .i64 42) ∧ rs' = rs ∧ a' = a ∧ rm < nb ∧ pe ≠ []))
theorem ls_sync (h : LgS w B D M nb rm f lv P fi sz a b c rs av pe) (ha1 : a + 1 < 1099511627776) :
  Calls Tryz.prog 86 #[.pointer (some ⟨P, 0, none⟩)] w (SEnds B D M nb rm f lv P fi sz a b c rs av pe w) := by
 have hs := h.small
 have h1 := h.h1; have h2 := h.h2; have h3 := h.h3; have h4 := h.h4; have hb' := h.hb
 by_cases hpe : pe = []
 ·subst hpe
  obtain ⟨sa, sc, hav⟩ := own_form h.own
  have hb := h.box
  rw [hav, show (encs ([] : List (List Int))).length = 0 from rfl] at hb
  refine (sync_nil P D fi sz a b c sa sc w hb).mono ?_
  rintro e w' ⟨rfl, rfl⟩
  exact ⟨f, lv, a, c, rs, av, h, Chg.refl _ _, fun k hk => .inl hk, .inl ⟨rfl, by rw [List.append_nil], by omega⟩⟩
 ·have hlen : 0 < (encs pe).length := by
   obtain ⟨r, pe', rfl⟩ := List.exists_cons_of_ne_nil hpe
   rw [encs_cons]; simp [be8_len]; omega
  refine (sync_some B D M nb rm P fi sz a b c av (encs pe) ⟨-1, false, f, []⟩ lv w h.dk h.box h.own h.nf h.ne rfl h1 (by omega) h2 h4 hlen h.fits h.ha h.hb (by simp)).mono ?_
  rintro e w' ⟨sF, E, aF, bF, cF, lv', rfl, hd, hp, hc, hf, hcase⟩
  have hch : Chg (LFoot D M lv P av) w w' := hc.mono (fun k hk => hk.elim .inl (fun h => .inr (.inl h)))
  have hft : ∀ k, LFoot D M lv' P (.slice none 0 0) k → LFoot D M lv P av k ∨ w.heap.size ≤ k := by
   intro k hk
   rcases hk with hk | hk | hk
   ·exact (hf k hk).imp .inl id
   ·exact .inl (.inr (.inl hk))
   ·cases hk
  have hnf : ¬ Foot D M lv' P := fun e => (hf P e).elim h.nf (fun h' => by have := h.box.lt; omega)
  have hfl := h.dk.2.2.2.2.2.2.1
  have hcd : c = 256 * (c / 256) + c % 256 := (Nat.div_add_mod _ _).symm
  have hcl : c % 256 < 256 := Nat.mod_lt _ (by decide)
  have hfit := h.fits
  obtain ⟨q, hq⟩ : ∃ q, c / 256 = q := ⟨_, rfl⟩
  obtain ⟨cnt, hcnt⟩ : ∃ cnt, (c % 256 + (encs pe).length - 1) / 256 = cnt := ⟨_, rfl⟩
  have hk1 : 256 * cnt ≤ c % 256 + (encs pe).length - 1 := by rw [← hcnt]; exact Nat.mul_div_le _ _
  have haw : aw fi ⟨-1, false, f, []⟩ c (encs pe) = wl (fi + (2 + (q : Int))) ((f (fi + (2 + (q : Int)))).take (c % 256) ++ encs pe) (cnt + 1) := by unfold aw; rw [hq, hcnt]
  rw [haw] at hcase
  by_cases hrm : rm ≤ fi + (2 + (q : Int)) + (cnt : Int)
  ·obtain ⟨g1, g2⟩ := wsy_full (nb := nb) (rm := rm) (fi + (2 + (q : Int)) + (cnt : Int), padB (((f (fi + (2 + (q : Int)))).take (c % 256) ++ encs pe).drop (256 * cnt))) (wl (fi + (2 + (q : Int))) ((f (fi + (2 + (q : Int)))).take (c % 256) ++ encs pe) cnt) (s := ⟨-1, false, f, []⟩) ⟨rfl, rfl⟩ (by show 0 ≤ fi + (2 + (q : Int)) + (cnt : Int); omega) (by show fi + (2 + (q : Int)) + (cnt : Int) < nb; omega) hrm
   change (DS.wsy nb rm ⟨-1, false, f, []⟩ (wl (fi + (2 + (q : Int))) ((f (fi + (2 + (q : Int)))).take (c % 256) ++ encs pe) (cnt + 1))).2 = 42 at g1
   change (DS.wsy nb rm ⟨-1, false, f, []⟩ (wl (fi + (2 + (q : Int))) ((f (fi + (2 + (q : Int)))).take (c % 256) ++ encs pe) (cnt + 1))).1 = _ at g2
   rw [g1, g2] at hcase
   rcases hcase with ⟨_, rfl, rfl, rfl, rfl, rfl⟩ | ⟨h0, _⟩
   ·exact ⟨f, lv', aF, cF, rs, _, { h with dk := hd, box := hp, own := Own.nil _ _, nf := hnf, ne := (fun e => by cases e), af := (fun g hg => by cases hg), fits := (by simp [encs]; omega), rpe := (fun r hr => by cases hr) }, hch, hft, .inr ⟨rfl, rfl, rfl, by omega, hpe⟩⟩
   ·exact absurd h0 (by decide)
  ·obtain ⟨g1, g2⟩ := wsy_calm (nb := nb) (rm := rm) (wl (fi + (2 + (q : Int))) ((f (fi + (2 + (q : Int)))).take (c % 256) ++ encs pe) (cnt + 1)) (s := ⟨-1, false, f, []⟩) ⟨rfl, rfl⟩ (fun x hx => by have := wl_mem hx; omega)
   obtain ⟨g3, g4⟩ := wsy_calm (nb := nb) (rm := rm) (mw fi (a + 1) b (c + (encs pe).length)) (s := ⟨-1, false, fputs f (wl (fi + (2 + (q : Int))) ((f (fi + (2 + (q : Int)))).take (c % 256) ++ encs pe) (cnt + 1)), []⟩) ⟨rfl, rfl⟩ (fun x hx => by
    rw [mw, List.mem_singleton] at hx
    subst hx
    show 0 ≤ fi + (((a + 1) % 2 : Nat) : Int) ∧ fi + (((a + 1) % 2 : Nat) : Int) < nb ∧ fi + (((a + 1) % 2 : Nat) : Int) < rm
    omega)
   rw [g1, g2, g3, g4] at hcase
   rcases hcase with ⟨h0, _⟩ | ⟨_, rfl, rfl, rfl, rfl, rfl⟩
   ·exact absurd rfl h0
   ·rw [if_pos rfl, if_pos rfl] at hp
    have hall : Rng ((f (fi + (2 + (q : Int)))).take (c % 256) ++ encs pe) := rng_append ((h.rng _).take _) (encs_rng h.rpe)
    generalize hg : fputs f (wl (fi + (2 + (q : Int))) ((f (fi + (2 + (q : Int)))).take (c % 256) ++ encs pe) (cnt + 1)) = g at *
    have hgr : ∀ n, Rng (g n) := by rw [← hg]; exact fputs_rng _ _ h.rng (wl_rng hall _)
    have hmk : Mk g fi a bF c := h.mkf.away (by rw [← hg]; exact fputs_far _ _ _ (fun x hx => by have := wl_mem hx; omega)) (by rw [← hg]; exact fputs_far _ _ _ (fun x hx => by have := wl_mem hx; omega))
    have hdf : ∀ n, (fputs g (mw fi (a + 1) bF (c + (encs pe).length)) n).length = 256 := hd.2.2.2.2.2.2.1
    have hfar : ∀ n, fi + 2 ≤ n → fputs g (mw fi (a + 1) bF (c + (encs pe).length)) n = g n := fun n hn => fputs_far _ _ _ (fun x hx => by
     rw [mw, List.mem_singleton] at hx
     subst hx
     show fi + (((a + 1) % 2 : Nat) : Int) ≠ n
     omega)
    have hgl : ∀ n, (g n).length = 256 := fun n => by
     rw [← hg]; exact fputs_len _ _ hfl (fun x hx => wl_len hx) n
    have har : areaB (fputs g (mw fi (a + 1) bF (c + (encs pe).length))) (fi + 2) (c + (encs pe).length) = encs (rs ++ pe) := by
     have e1 : areaB (fputs g (mw fi (a + 1) bF (c + (encs pe).length))) (fi + 2) (c + (encs pe).length) = areaB g (fi + 2) (c + (encs pe).length) := by
      unfold areaB
      rw [arB_same _ g _ _ (fun i hi => hfar _ (by omega))]
     rw [e1, area_sync f (fi + 2) c (encs pe) hfl hlen g (by rw [← hg, hq, hcnt]; rw [show fi + (2 + (q : Int)) = fi + 2 + (q : Int) by omega]) hgl, h.area, encs_append]
    exact ⟨_, lv', a + 1, c + (encs pe).length, rs ++ pe, _, { dk := hd, box := hp, own := Own.nil _ _, nf := hnf, ne := (fun e => by cases e), af := (fun g hg => by cases hg), base := h.base, mkf := hmk.next bF (c + (encs pe).length) (by omega) (by omega) (by omega), area := har, fits := (by rw [show encs ([] : List (List Int)) = [] from rfl, List.length_nil]; omega), rng := fputs_rng _ _ hgr (fun x hx => by rw [mw, List.mem_singleton] at hx; subst hx; exact mb_rng _ _ _), rrs := fun r hr => (List.mem_append.1 hr).elim (h.rrs r) (h.rpe r), rpe := (fun r hr => by cases hr), h1 := h1, h2 := h2, h3 := h3, h4 := h4, ha := ha1, hb := hb' }, hch, hft, .inl ⟨rfl, rfl, Nat.le_refl _⟩⟩
end
end Go.Proofs.YtdkjkibdncbibaaGreat
namespace Go.Proofs.YtdkjkibdncbibaaGreat
open Go.RowKit
open Go.Lib (hid)
/-- a disk that holds a log -/
structure LgD (w : World) (B D M : Nat) (nb rm : Int) (f : Int → List Int) (lv : Value) (fi sz : Int) (a b c : Nat) (rs : List (List Int)) : Prop where
 dk : Dk w B D M nb rm (-1) false f [] lv
 mkf : Mk f fi a b c
 area : areaB f (fi + 2) c = encs rs
 fits : (c : Int) ≤ (sz - 2) * 256
 rng : ∀ n, Rng (f n)
 rrs : ∀ r ∈ rs, Rng r
 h1 : 0 ≤ fi
 h2 : 3 ≤ sz
 h3 : fi ≤ nb - sz
 h4 : nb ≤ 4096
 ha : a < 1099511627776
 hb : b < 1099511627776
section
variable {w w' : World} {B D M : Nat} {nb rm : Int} {f : Int → List Int} {lv : Value} {P : Nat} {fi sz : Int} {a b c : Nat} {rs : List (List Int)} {av : Value} {pe : List (List Int)}
end
end Go.Proofs.YtdkjkibdncbibaaGreat
namespace Go.Proofs.YtdkjkibdncbibaaGreat
open Go.RowKit
open Go.Lib (hid)
section
variable {w w' : World} {B D M : Nat} {nb rm : Int} {f : Int → List Int} {lv : Value} {P : Nat} {fi sz : Int} {a b c : Nat} {rs : List (List Int)} {av : Value} {pe : List (List Int)}
end
end Go.Proofs.YtdkjkibdncbibaaGreat
namespace Go.Proofs.YtdkjkibdncbibaaGreat
open Go.RowKit
open Go.Lib (hid)
theorem survL_memL : ∀ (L : List WR) (ks : List Bool) (x : WR), x ∈ survL L ks → x ∈ L
 | [], _, x, h => by simp [survL] at h
 | y :: L, [], x, h => by simp [survL] at h
 | y :: L, k :: ks, x, h => by
  unfold survL at h
  split at h
  ·rcases List.mem_cons.1 h with h | h
   ·rw [h]; exact List.mem_cons_self ..
   ·exact List.mem_cons_of_mem _ (survL_memL L ks x h)
  ·exact List.mem_cons_of_mem _ (survL_memL L ks x h)
/-- whichever writes survive: what holds of the blocks below, of each write, and of each tear, holds of the blocks that come up -/
theorem redoF_all {g : Int → List Int} {K : List WR} {t : Int} {S : Int → List Int → Prop} (h0 : ∀ n, S n (g n)) (h1 : ∀ x ∈ K, S x.1 x.2.2) (h2 : ∀ x ∈ K, ∀ b, S x.1 b → S x.1 (tearL b x.2.2 t)) : ∀ (j : Nat) (n : Int), S n (redoF g K t j n)
 | 0, n => h0 n
 | j + 1, n => by
  have ih := redoF_all h0 h1 h2 j
  cases hK : K[j]? with
  | none =>
   have e : redoF g K t (j + 1) = redoF g K t j := by rw [redoF, hK]
   rw [e]; exact ih n
  | some x =>
   have e : redoF g K t (j + 1) = fput (redoF g K t j) x.1 (if j + 1 = K.length then tearL (redoF g K t j x.1) x.2.2 t else x.2.2) := by rw [redoF, hK]
   rw [e]
   have hm := List.mem_of_getElem? hK
   by_cases hn : n = x.1
   ·rw [hn, fput_at]
    split
    ·exact h2 x hm _ (ih x.1)
    ·exact h1 x hm
   ·rw [fput_ne _ _ _ _ hn]; exact ih n
theorem upF_every {f : Int → List Int} {L : List WR} {t : Int} {S : Int → List Int → Prop} (h0 : ∀ n, S n (undoF f L n)) (h1 : ∀ x ∈ L, S x.1 x.2.2) (h2 : ∀ x ∈ L, ∀ b, S x.1 b → S x.1 (tearL b x.2.2 t)) (ks : List Bool) (n : Int) : S n (upF f L ks t n) :=
 redoF_all h0 (fun x hx => h1 x (survL_memL L ks x hx)) (fun x hx => h2 x (survL_memL L ks x hx)) _ n
theorem fput_fputL (f : Int → List Int) (n : Int) (a b : List Int) : fput (fput f n a) n b = fput f n b := by funext m; unfold fput; split <;> rfl
theorem fput_sameL (f : Int → List Int) (n : Int) : fput f n (f n) = f := by
 funext m
 unfold fput
 by_cases h : m = n
 ·rw [if_pos h, h]
 ·rw [if_neg h]
theorem undoF_snocL (f : Int → List Int) (L : List WR) (x : WR) : undoF f (L ++ [x]) = undoF (fput f x.1 x.2.1) L := by simp [undoF]
theorem undoF_writeL (f : Int → List Int) (L : List WR) (n : Int) (b : List Int) : undoF (fput f n b) (L ++ [(n, f n, b)]) = undoF f L := by
 rw [undoF_snocL, fput_fputL, fput_sameL]
/-- of one write: the old block, or the new one, torn -/
theorem upF_one (f : Int → List Int) (n : Int) (b : List Int) (ks : List Bool) (t : Int) : upF (fput f n b) [(n, f n, b)] ks t = f ∨ upF (fput f n b) [(n, f n, b)] ks t = fput f n (tearL (f n) b t) := by
  have hu : undoF (fput f n b) [(n, f n, b)] = f := by
    have := undoF_writeL f [] n b
    simpa [undoF] using this
  rcases ks with _ | ⟨k, ks⟩
  · left; unfold upF; rw [hu]; rfl
  · cases k
    · left; unfold upF; rw [hu]; simp [survL, redoF]
    · right; unfold upF; rw [hu]; simp [survL, redoF]
theorem take_tear (b a : List Int) (t : Int) (i : Nat) (h : b.take i = a.take i) (hl : a.length = b.length) : (tearL b a t).take i = b.take i := by
  unfold tearL
  split
  · exact h.symm
  · apply List.ext_getElem?
    intro j
    rw [List.getElem?_take, List.getElem?_take]
    by_cases hj : j < i
    · rw [if_pos hj, if_pos hj]
      have hb : b[j]? = a[j]? := by
        have := congrArg (fun l => l[j]?) h
        simpa [List.getElem?_take, hj] using this
      by_cases ht : j < t.toNat
      · by_cases ht2 : j < a.length
        · rw [List.getElem?_append_left (by rw [List.length_take]; omega), List.getElem?_take, if_pos ht, hb]
        · rw [List.getElem?_eq_none (by rw [List.length_append, List.length_take, List.length_drop]; omega), List.getElem?_eq_none (by omega)]
      · by_cases ht2 : t.toNat ≤ a.length
        · rw [List.getElem?_append_right (by rw [List.length_take]; omega), List.length_take, Nat.min_eq_left ht2, List.getElem?_drop]
          congr 1; omega
        · rw [List.getElem?_eq_none (by rw [List.length_append, List.length_take, List.length_drop]; omega), List.getElem?_eq_none (by omega)]
    · rw [if_neg hj, if_neg hj]
theorem nAt_front (new old : List Int) (t j : Nat) (h : 8 * j + 8 ≤ t) (ht : t ≤ new.length) : nAt (new.take t ++ old.drop t) j = nAt new j := by
 unfold nAt
 congr 1
 apply List.ext_getElem?
 intro i
 rw [List.getElem?_take, List.getElem?_take]
 by_cases hi : i < 8
 ·rw [if_pos hi, if_pos hi, List.getElem?_drop, List.getElem?_drop, List.getElem?_append_left (by rw [List.length_take]; omega), List.getElem?_take, if_pos (by omega)]
 ·rw [if_neg hi, if_neg hi]
theorem nAt_back (new old : List Int) (t j : Nat) (h : t ≤ 8 * j) (ht : t ≤ new.length) : nAt (new.take t ++ old.drop t) j = nAt old j := by
 unfold nAt
 congr 1
 apply List.ext_getElem?
 intro i
 rw [List.getElem?_take, List.getElem?_take]
 by_cases hi : i < 8
 ·rw [if_pos hi, if_pos hi, List.getElem?_drop, List.getElem?_drop, List.getElem?_append_right (by rw [List.length_take]; omega), List.length_take, Nat.min_eq_left ht, List.getElem?_drop]
  congr 1; omega
 ·rw [if_neg hi, if_neg hi]
theorem wr_undo (nb rm : Int) (s : DS) (n : Int) (b : List Int) : undoF (s.wr nb rm n b).f (s.wr nb rm n b).L = undoF s.f s.L ∧ ∀ x ∈ (s.wr nb rm n b).L, x ∈ s.L ∨ (x.1 = n ∧ x.2.2 = b) := by
 unfold DS.wr
 by_cases h : s.we nb rm n = 0
 ·simp only [if_pos h]
  refine ⟨undoF_writeL _ _ _ _, fun x hx => ?_⟩
  rcases List.mem_append.1 hx with hx | hx
  ·exact .inl hx
  ·rw [List.mem_singleton] at hx; subst hx; exact .inr ⟨rfl, rfl⟩
 ·simp only [if_neg h]
  exact ⟨trivial, fun x hx => .inl hx⟩
/-- what a list of writes has done can be undone, however far it came -/
theorem ws_undo (nb rm : Int) : ∀ (l : List (Int × List Int)) (s : DS), undoF (s.ws nb rm l).1.f (s.ws nb rm l).1.L = undoF s.f s.L ∧ ∀ x ∈ (s.ws nb rm l).1.L, x ∈ s.L ∨ ∃ y ∈ l, x.1 = y.1 ∧ x.2.2 = y.2
 | [], _ => ⟨by unfold DS.ws; rfl, fun x hx => .inl (by unfold DS.ws at hx; exact hx)⟩
 | y :: r, s => by
  obtain ⟨h1, h2⟩ := wr_undo nb rm s y.1 y.2
  unfold DS.ws
  split
  ·obtain ⟨h3, h4⟩ := ws_undo nb rm r (s.wr nb rm y.1 y.2)
   refine ⟨h3.trans h1, fun x hx => ?_⟩
   rcases h4 x hx with h | ⟨z, hz, h⟩
   ·rcases h2 x h with h | h
    ·exact .inl h
    ·exact .inr ⟨y, List.mem_cons_self .., h⟩
   ·exact .inr ⟨z, List.mem_cons_of_mem _ hz, h⟩
  ·refine ⟨h1, fun x hx => ?_⟩
   rcases h2 x hx with h | h
   ·exact .inl h
   ·exact .inr ⟨y, List.mem_cons_self .., h⟩
end Go.Proofs.YtdkjkibdncbibaaGreat
namespace Go.Proofs.YtdkjkibdncbibaaGreat
open Go.RowKit
open Go.Lib (hid)
theorem ws_ok (nb rm : Int) : ∀ (l : List (Int × List Int)) (s : DS), (s.ws nb rm l).2 = 0 → (s.ws nb rm l).1.f = fputs s.f l
 | [], _, _ => rfl
 | y :: r, s, h => by
  unfold DS.ws at h ⊢
  by_cases he : s.we nb rm y.1 = 0
  ·rw [if_pos he] at h ⊢
   rw [ws_ok nb rm r _ h]
   show fputs (s.wr nb rm y.1 y.2).f r = fputs (fput s.f y.1 y.2) r
   rw [show (s.wr nb rm y.1 y.2).f = fput s.f y.1 y.2 from if_pos he]
  ·rw [if_neg he] at h
   exact absurd h he
theorem wsy_ok {nb rm : Int} {l : List (Int × List Int)} {s : DS} (h : (s.wsy nb rm l).2 = 0) : (s.wsy nb rm l).1.f = fputs s.f l ∧ (s.wsy nb rm l).1.L = [] ∧ (s.wsy nb rm l).1.dn = false := by
 unfold DS.wsy at h ⊢
 by_cases he : (s.ws nb rm l).2 = 0
 ·rw [if_pos he] at h ⊢
  have hok : opOk (s.ws nb rm l).1.fz (s.ws nb rm l).1.dn = true := by
   dsimp only at h
   unfold DS.se at h
   by_cases ho : opOk (s.ws nb rm l).1.fz (s.ws nb rm l).1.dn = true
   ·exact ho
   ·rw [if_neg ho] at h; exact absurd h (by decide)
  refine ⟨ws_ok nb rm l s he, ?_, ?_⟩
  ·unfold DS.sy; simp only [hok, if_true]
  ·show opDn _ _ = false
   have : opDn (s.ws nb rm l).1.fz (s.ws nb rm l).1.dn = !opOk (s.ws nb rm l).1.fz (s.ws nb rm l).1.dn := by simp [opDn, opOk]
   rw [this, hok]; rfl
 ·rw [if_neg he] at h
  exact absurd h he
theorem wsy_bad {nb rm : Int} {l : List (Int × List Int)} {s : DS} (h : (s.wsy nb rm l).2 ≠ 0) : (s.wsy nb rm l).1.f = (s.ws nb rm l).1.f ∧ (s.wsy nb rm l).1.L = (s.ws nb rm l).1.L := by
 unfold DS.wsy at h ⊢
 by_cases he : (s.ws nb rm l).2 = 0
 ·rw [if_pos he] at h ⊢
  have hok : ¬ opOk (s.ws nb rm l).1.fz (s.ws nb rm l).1.dn = true := fun ho => h (by dsimp only; unfold DS.se; rw [if_pos ho])
  refine ⟨rfl, ?_⟩
  unfold DS.sy; simp only [if_neg hok]
 ·rw [if_neg he]
  exact ⟨rfl, rfl⟩
/-- the first block's head stays -/
theorem wl_head {n : Int} {l0 al : List Int} {ins : Nat} : ∀ {k : Nat} {x : Int × List Int}, x ∈ wl n (l0 ++ al) k → x.1 = n → l0.length = ins → ins ≤ 256 → x.2.take ins = l0
 | 0, x, h, _, _, _ => by cases h
 | k + 1, x, h, hn, hl, hi => by
  rcases List.mem_cons.1 h with h | h
  ·subst h
   have hk : k = 0 := by
    have : n + (k : Int) = n := hn
    omega
   subst hk
   show (padB ((l0 ++ al).drop (256 * 0))).take ins = l0
   rw [Nat.mul_zero, List.drop_zero, padB, List.take_append_of_le_length (by rw [List.length_take, List.length_append]; omega), List.take_take, Nat.min_eq_left hi, List.take_append_of_le_length (by omega), List.take_of_length_le (by omega)]
  ·exact wl_head h hn hl hi
/-- A CRASH AMONG THE WRITES OF THE RECORDS: the marks and the area's bytes are as before, whichever writes survive, the last one torn -/
theorem crash_area {nb rm fi : Int} {s : DS} {c : Nat} {al : List Int} (hL : s.L = []) (hf : ∀ n, (s.f n).length = 256) (hbad : (s.wsy nb rm (aw fi s c al)).2 ≠ 0) (ks : List Bool) (t : Int) (hgl : ∀ n, (upF (s.wsy nb rm (aw fi s c al)).1.f (s.wsy nb rm (aw fi s c al)).1.L ks t n).length = 256) :
  (∀ n, n < fi + 2 → upF (s.wsy nb rm (aw fi s c al)).1.f (s.wsy nb rm (aw fi s c al)).1.L ks t n = s.f n) ∧ areaB (upF (s.wsy nb rm (aw fi s c al)).1.f (s.wsy nb rm (aw fi s c al)).1.L ks t) (fi + 2) c = areaB s.f (fi + 2) c := by
 obtain ⟨e1, e2⟩ := wsy_bad hbad
 obtain ⟨u1, u2⟩ := ws_undo nb rm (aw fi s c al) s
 rw [hL] at u1 u2
 have hund : undoF (s.ws nb rm (aw fi s c al)).1.f (s.ws nb rm (aw fi s c al)).1.L = s.f := u1
 rw [e1, e2] at hgl ⊢
 have hcd : c = 256 * (c / 256) + c % 256 := (Nat.div_add_mod _ _).symm
 have hlt : c % 256 < 256 := Nat.mod_lt _ (by decide)
 obtain ⟨q, hq⟩ : ∃ q, c / 256 = q := ⟨_, rfl⟩
 obtain ⟨ins, hins⟩ : ∃ ins, c % 256 = ins := ⟨_, rfl⟩
 have haw : aw fi s c al = wl (fi + (2 + (q : Int))) ((s.f (fi + (2 + (q : Int)))).take ins ++ al) ((ins + al.length - 1) / 256 + 1) := by unfold aw; rw [hq, hins]
 rw [hq, hins] at hcd
 rw [hins] at hlt
 have hll : ((s.f (fi + (2 + (q : Int)))).take ins).length = ins := by rw [List.length_take, hf]; omega
 have key := upF_every (f := (s.ws nb rm (aw fi s c al)).1.f) (L := (s.ws nb rm (aw fi s c al)).1.L) (t := t)
  (S := fun n b => b.length = 256 ∧ (n < fi + (2 + (q : Int)) → b = s.f n) ∧ (n = fi + (2 + (q : Int)) → b.take ins = (s.f n).take ins))
  (fun n => by rw [hund]; exact ⟨hf n, fun _ => rfl, fun _ => rfl⟩)
  (fun x hx => by
   rcases u2 x hx with h | ⟨y, hy, h1, h2⟩
   ·cases h
   ·rw [haw] at hy
    rw [h1, h2]
    exact ⟨wl_len hy, fun h => by have := wl_mem hy; omega, fun h => (wl_head hy h hll (by omega)).trans (by rw [h])⟩)
  (fun x hx b hb => by
   rcases u2 x hx with h | ⟨y, hy, h1, h2⟩
   ·cases h
   ·rw [haw] at hy
    rw [h1] at hb ⊢
    rw [h2]
    obtain ⟨hb1, hb2, hb3⟩ := hb
    have hyl : y.2.length = 256 := wl_len hy
    refine ⟨?_, fun h => by have := wl_mem hy; omega, fun h => ?_⟩
    ·unfold tearL
     split
     ·exact hyl
     ·rw [List.length_append, List.length_take, List.length_drop]; omega
    ·have hh := wl_head hy h hll (by omega)
     rw [take_tear b y.2 t ins (by rw [hb3 h, hh, h]) (by omega)]
     exact hb3 h)
  ks
 refine ⟨fun n hn => (key n).2.1 (by omega), ?_⟩
 obtain ⟨g, hg⟩ : ∃ g, upF (s.ws nb rm (aw fi s c al)).1.f (s.ws nb rm (aw fi s c al)).1.L ks t = g := ⟨_, rfl⟩
 rw [hg] at key hgl ⊢
 rw [← areaB_eq g (fi + 2) hgl (q + 1) c (by omega), ← areaB_eq s.f (fi + 2) hf (q + 1) c (by omega), arB, arB, List.take_append, List.take_append, arB_len g _ hgl, arB_len s.f _ hf, arB_same g s.f (fi + 2) q (fun i hi => (key _).2.1 (by omega))]
 congr 1
 rw [show c - 256 * q = ins by omega, show fi + 2 + (q : Int) = fi + (2 + (q : Int)) by omega]
 exact (key _).2.2 rfl
theorem areaB_take (f : Int → List Int) (b : Int) (hf : ∀ n, (f n).length = 256) (k m : Nat) (h : k ≤ m) : (areaB f b m).take k = areaB f b k := by
 unfold areaB
 rw [List.take_take, Nat.min_eq_left h]
 exact areaB_eq f b hf m k (by omega)
end Go.Proofs.YtdkjkibdncbibaaGreat
