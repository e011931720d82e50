import Derived.Test.YtaibminomehppaaLogD
import Derived.WalkKit
import Derived.ProofKit
import Derived.BigQuiet
import Derived.Deep.QuietTactic
import Derived.WalkSpells
import Derived.WalkLawsBesides
import Derived.Lib.Hide
import Derived.Deep.MidRow
import Derived.Deep.RegionLaw
import Derived.BigRegion
import Derived.Laws.AppendOwnNone
import Derived.Deep.DeepMust
import Derived.Deep.AppendLies
import Derived.RegionTactic
import Derived.Deep.WholeRow
import Derived.BigFrame
import Derived.Deep.RegionWith
import Derived.Deep.RegionHeld3
import Derived.Maps.RangeWalk
import Derived.Laws.CopyOwn
import Derived.StillTailTactics

namespace Go.Proofs.Ytaibminomehppaa
open Go.RowKit
/-- bytes that lie in blocks from one on and below another -/
def BsI (w : World) (lo hi : Nat) (v : Value) (l : List Int) : Prop := Bs w v l ∧ ∀ ad n c, v = .slice (some ad) n c → 0 < l.length → lo ≤ ad.block ∧ ad.block < hi
/-- records that lie in blocks from one on and below another -/
def Recs (w : World) (lo hi : Nat) (v : Value) (ps : List (List Int)) : Prop :=
  ∃ (a : Option Addr) (cap : Nat), v = .slice a ps.length cap ∧ (0 < ps.length → ∃ b off, a = some ⟨b, off, none⟩ ∧ b < w.heap.size ∧ lo ≤ b ∧ b < hi ∧ ∀ i, i < ps.length → ∃ x, w.cell? ⟨b, off + i, none⟩ = some x ∧ BsI w lo hi x (ps[i]?.getD []))
theorem Recs.chg {w w' : World} {lo hi : Nat} {v : Value} {ps : List (List Int)} {F : Nat → Prop} (h : Recs w lo hi v ps) (hc : Chg F w w') (hF : ∀ k, lo ≤ k → k < hi → ¬ F k) : Recs w' lo hi v ps := by
  obtain ⟨a, cap, hv, h⟩ := h
  refine ⟨a, cap, hv, fun hl => ?_⟩
  obtain ⟨b, off, ha, hbs, h1, h2, hcell⟩ := h hl
  refine ⟨b, off, ha, Nat.lt_of_lt_of_le hbs hc.size, h1, h2, fun i hi2 => ?_⟩
  obtain ⟨x, hx, hb1, hb2⟩ := hcell i hi2
  exact ⟨x, (World.cell?_of_block (a := ⟨b, off + i, none⟩) (hc.block b hbs (hF b h1 h2))).trans hx, hb1.chg hc (fun ad n c e h0 => hF _ (hb2 ad n c e h0).1 (hb2 ad n c e h0).2), hb2⟩
theorem Recs.nil (w : World) (lo hi : Nat) : Recs w lo hi (.slice none 0 0) [] := ⟨none, 0, rfl, fun h => by simp at h⟩
theorem Recs.widen {w : World} {lo hi lo' hi' : Nat} {v : Value} {ps : List (List Int)} (h : Recs w lo hi v ps) (h1 : lo' ≤ lo) (h2 : hi ≤ hi') : Recs w lo' hi' v ps := by
  obtain ⟨a, cap, hv, h⟩ := h
  refine ⟨a, cap, hv, fun hl => ?_⟩
  obtain ⟨b, off, ha, hbs, h3, h4, hcell⟩ := h hl
  refine ⟨b, off, ha, hbs, by omega, by omega, fun i hi2 => ?_⟩
  obtain ⟨x, hx, hb1, hb2⟩ := hcell i hi2
  exact ⟨x, hx, hb1, fun ad n c e h0 => by have := hb2 ad n c e h0; omega⟩
theorem recs_of_own {T E : TypeId} {w : World} {B : Nat} {v : Value} {ps : List (List Int)} (h : OwnPs T E w B v ps) : Recs w B w.heap.size v ps := by
  obtain ⟨xs, h1, h2⟩ := h
  rcases h1.2 with ⟨rfl, h0⟩ | ⟨g, cap, cur, rfl, hg, hh, hle, _, _, _⟩
  · have : ps = [] := List.eq_nil_of_length_eq_zero h0
    subst this
    exact Recs.nil _ _ _
  · refine ⟨some ⟨g, 0, none⟩, cap, rfl, fun _ => ⟨g, 0, rfl, (h1.lt g rfl).2, hg, (h1.lt g rfl).2, fun i hi => ?_⟩⟩
    obtain ⟨x, hx, ho, _⟩ := h2 i hi
    have := h1.cells (g := g) rfl i x hx
    rw [Addr.add_mid] at this
    refine ⟨x, this, Bs_of_own ho, fun ad n c e h0 => ho.lt ad.block (by rw [e]; rfl)⟩
def OpEnds (D : Nat) (fi sz : Int) (a b c : Nat) (rs : List (List Int)) (w : World) (e : Ending) (w' : World) : Prop :=
  ∃ P v, e = .returned (.tuple #[.pointer (some ⟨P, 0, none⟩), v, .int .i64 0]) ∧ LgIs w' P D fi sz a b c (.slice none 0 0) ∧ Recs w' w.heap.size P v rs ∧ w.heap.size ≤ P ∧ Below w.heap.size w w'
set_option maxRecDepth 100000 in
set_option maxHeartbeats 4000000 in
theorem open_yes (B D M : Nat) (nb rm fz fi sz : Int) (f : Int → List Int) (L : List WR) (lv : Value) (a b c : Nat) (rs : List (List Int)) (w : World) (h : Dk w B D M nb rm fz false f L lv) (h1 : 0 ≤ fi) (h2 : 3 ≤ sz) (h3 : fi ≤ nb - sz) (hnb : nb ≤ 4096) (hr : ∀ n, Rng (f n))
    (hm : nst f fi 2 = (a, b, c)) (ha : a ≠ 0) (hc : (c : Int) ≤ (sz - 2) * 256) (har : areaB f (fi + 2) c = encs rs) (hrs : ∀ r ∈ rs, Rng r) :
    Calls Try.prog 28 #[.pointer (some ⟨D, 0, none⟩), .int .i64 fi, .int .i64 sz] w (OpEnds D fi sz a b c rs w) := by
  have hz := zero102
  have hzm := zeroMark
  have HBO := Lib.hid (blocksOf_yes B D M nb rm fz fi sz false f L lv w h h1 h2 h3 hnb)
  have hnm := fun u (h : Dk u B D M nb rm fz false f L lv) => newestMark_any B D M nb rm fz fi sz f L lv u h h1 (by omega) hnb hr
  rw [hm, show nmRes (a, b, c) = .returned (.tuple #[.agg #[Value.int .u64 (a : Int), .int .u64 (b : Int), .int .u64 (c : Int)], .int .i64 0]) from by rw [nmRes, if_neg (by exact ha)]; rfl] at hnm
  have HNM := Lib.hid hnm
  have hra := fun u (h : Dk u B D M nb rm fz false f L lv) => readArea_any B D M nb rm fz fi sz f L lv c u h h1 (by omega) h2 hnb hc
  rw [har] at hra
  have HRA := Lib.hid hra
  have HRM := Lib.hid (fun u => lroom_any D fi sz u (by omega) (by omega))
  have hel : (encs rs).length ≤ 1048576 := by
    have := areaB_len f (fi + 2) h.2.2.2.2.2.2.1 c
    rw [har] at this
    omega
  have HRI := Lib.hid (fun u v (hv : BsB u u.heap.size v (encs rs)) => recordsIn_any v rs u hv hrs hel)
  obtain ⟨R, hR⟩ : ∃ R : Int, (sz - 2) * 256 = R := ⟨_, rfl⟩
  rw [hR] at HRM hc
  have hRb : 0 ≤ R ∧ R ≤ 1048576 := by omega
  have hcn : ¬ (R < (c : Int)) := by omega
  have hw1 : IntKind.u64.wrap R = R := wrap_u64 _ hRb.1 (by omega)
  have hw2 : IntKind.i64.wrap (c : Int) = (c : Int) := wrap_i64 _ (by omega) (by omega)
  have hbd : ∀ u : World, (Instr.build 127 #[(0, Value.agg #[Value.pointer (some ⟨D, 0, none⟩), .int .i64 fi, .int .i64 sz]), (1, Value.agg #[Value.int .u64 (a : Int), .int .u64 (b : Int), .int .u64 (c : Int)])]).run Try.prog u = .ok (.agg #[Value.pointer (some ⟨D, 0, none⟩), .int .i64 fi, .int .i64 sz, .int .u64 (a : Int), .int .u64 (b : Int), .int .u64 (c : Int), .slice none 0 0]) u := fun u => by kernel_rfl
  have HD := Lib.hid h
  clear h hnm hra hm ha har hrs hel hR hr
  go_enter Try.func28, Try.ntmps28
  go_wp2_with fail
  refine HBO.out.mono ?_
  rintro e wa ⟨rfl, hb⟩
  have XA := Lib.hid hb
  have HXA := Lib.hid (heap_alloc_new wa (.cells #[Value.pointer (some ⟨D, 0, none⟩), .int .i64 fi, .int .i64 sz] 79))
  have XB := Lib.hid (show Below w.heap.size w (wa.alloc (.cells #[Value.pointer (some ⟨D, 0, none⟩), .int .i64 fi, .int .i64 sz] 79)) from hb.alloc hb.size _)
  have HLA := Lib.hid (show w.heap.size ≤ wa.heap.size ∧ wa.heap.size < (wa.alloc (.cells #[Value.pointer (some ⟨D, 0, none⟩), .int .i64 fi, .int .i64 sz] 79)).heap.size from ⟨hb.size, by simp⟩)
  clear hb
  go_wp2_with fail
  generalize hwb : wa.alloc (.cells #[Value.pointer (some ⟨D, 0, none⟩), .int .i64 fi, .int .i64 sz] 79) = wb at *
  have HWB := Lib.hid hwb
  clear hwb
  refine (HNM.out wb (HD.out.chg (Chg.fresh (F := fun _ => False) XB.out) (fun _ _ h => h))).mono ?_
  rintro e wc ⟨rfl, hb⟩
  have XC := Lib.hid (XB.out.trans (hb.mono XB.out.size))
  have XC1 := Lib.hid hb
  have HXC := Lib.hid (heap_alloc_new wc (.cells #[Value.int .u64 (a : Int), .int .u64 (b : Int), .int .u64 (c : Int)] 83))
  have XD1 := Lib.hid (show Below wb.heap.size wb (wc.alloc (.cells #[Value.int .u64 (a : Int), .int .u64 (b : Int), .int .u64 (c : Int)] 83)) from hb.alloc hb.size _)
  have HLC := Lib.hid (show wb.heap.size ≤ wc.heap.size ∧ wc.heap.size < (wc.alloc (.cells #[Value.int .u64 (a : Int), .int .u64 (b : Int), .int .u64 (c : Int)] 83)).heap.size from ⟨hb.size, by simp⟩)
  clear hb
  go_wp2_with fail
  generalize hwd : wc.alloc (.cells #[Value.int .u64 (a : Int), .int .u64 (b : Int), .int .u64 (c : Int)] 83) = wd at *
  have HWD := Lib.hid hwd
  clear hwd
  have HXD := Lib.hid ((XD1.out.block _ HLA.out.2).trans HXA.out)
  have HSD := Lib.hid (show wd.drew.heap[wa.heap.size]? = some (.cells #[Value.pointer (some ⟨D, 0, none⟩), .int .i64 fi, .int .i64 sz] 79 (0, 0)) ∧ wd.drew.heap[wc.heap.size]? = some (.cells #[Value.int .u64 (a : Int), .int .u64 (b : Int), .int .u64 (c : Int)] 83 (0, 0)) from ⟨HXD.out, HXC.out⟩)
  refine wp_region_held_drew (S := fun u => u.heap[wa.heap.size]? = some (.cells #[Value.pointer (some ⟨D, 0, none⟩), .int .i64 fi, .int .i64 sz] 79 (0, 0)) ∧ u.heap[wc.heap.size]? = some (.cells #[Value.int .u64 (a : Int), .int .u64 (b : Int), .int .u64 (c : Int)] 83 (0, 0))) (by kernel_rfl) (HSD.out) (fun hHeld => ?_)
  refine wpAnyH_take (i := 0) (oi := ({ dst := some 32, op := Op.fieldAddr 83 (Operand.tmp 11) 2, type := 0, pos := "log.go:42", after := #[], guard := none } : Oper)) (v := ?_) rfl (by kernel_rfl) (by kernel_rfl) (by kernel_rfl) (fun _ _ _ h => h) (Or.inl ⟨by rfl, ?_⟩) (by assumption) ?_
  rotate_left 1
  · (intro u hSw; go_simp; try with_reducible rfl)
  try simp only [Act.put, List.setIfInBounds_toArray, List.set_cons_zero, List.set_cons_succ]
  refine wpAnyH_take (i := 1) (oi := ({ dst := some 33, op := Op.load 60 (Operand.tmp 32), type := 60, pos := "log.go:42", after := #[{ on := 0, ground := Ground.data }], guard := none } : Oper)) (v := ?_) rfl (by kernel_rfl) (by kernel_rfl) (by kernel_rfl) (fun _ _ _ h => h) (Or.inl ⟨by rfl, ?_⟩) (by assumption) ?_
  rotate_left 1
  · intro u hSw
    have m0 := (cell_of_row u (wc.heap.size) 0 _ _ _ hSw.2).trans (show (#[Value.int .u64 (a : Int), .int .u64 (b : Int), .int .u64 (c : Int)] : Array Value)[0]? = some (.int .u64 (a : Int)) from rfl); have m1 := (cell_of_row u (wc.heap.size) 1 _ _ _ hSw.2).trans (show (#[Value.int .u64 (a : Int), .int .u64 (b : Int), .int .u64 (c : Int)] : Array Value)[1]? = some (.int .u64 (b : Int)) from rfl); have m2 := (cell_of_row u (wc.heap.size) 2 _ _ _ hSw.2).trans (show (#[Value.int .u64 (a : Int), .int .u64 (b : Int), .int .u64 (c : Int)] : Array Value)[2]? = some (.int .u64 (c : Int)) from rfl)
    go_simp
    try with_reducible rfl
  try simp only [Act.put, List.setIfInBounds_toArray, List.set_cons_zero, List.set_cons_succ]
  refine wpAnyH_take (i := 2) (oi := ({ dst := some 34, op := Op.load 79 (Operand.tmp 9), type := 79, pos := "log.go:42", after := #[], guard := none } : Oper)) (v := ?_) rfl (by kernel_rfl) (by kernel_rfl) (by kernel_rfl) (fun _ _ _ h => h) (Or.inl ⟨by rfl, ?_⟩) (by assumption) ?_
  rotate_left 1
  · intro u hSw
    have p0 := (cell_of_row u (wa.heap.size) 0 _ _ _ hSw.1).trans (show (#[Value.pointer (some ⟨D, 0, none⟩), .int .i64 fi, .int .i64 sz] : Array Value)[0]? = some (.pointer (some ⟨D, 0, none⟩)) from rfl); have p1 := (cell_of_row u (wa.heap.size) 1 _ _ _ hSw.1).trans (show (#[Value.pointer (some ⟨D, 0, none⟩), .int .i64 fi, .int .i64 sz] : Array Value)[1]? = some (.int .i64 fi) from rfl); have p2 := (cell_of_row u (wa.heap.size) 2 _ _ _ hSw.1).trans (show (#[Value.pointer (some ⟨D, 0, none⟩), .int .i64 fi, .int .i64 sz] : Array Value)[2]? = some (.int .i64 sz) from rfl)
    go_simp
    try with_reducible rfl
  try simp only [Act.put, List.setIfInBounds_toArray, List.set_cons_zero, List.set_cons_succ]
  refine wpAnyH_ready (rs := [3]) (by kernel_rfl) (by simp) ?_
  refine AllReadyH.cons (o := ({ dst := some 35, op := Op.call { callee := Callee.value (Operand.func 77), args := #[Operand.tmp 34], argTypes := #[79] }, type := 3, pos := "log.go:42", after := #[{ on := 2, ground := Ground.data }], guard := none } : Oper)) rfl (fun K hK => ?_) AllReadyH.nil
  go_simp
  go_at_call 77
  refine (HRM.out _).mono ?_
  rintro e we ⟨rfl, hb⟩
  have XE := Lib.hid (show Below wd.heap.size wd we from ((Below.refl _ _).drew).trans hb)
  have HXE := Lib.hid (And.intro ((XE.out.block wa.heap.size (by have := HLA.out; have := HLC.out; omega)).trans HXD.out) ((XE.out.block wc.heap.size HLC.out.2).trans HXC.out))
  clear hb
  go_wp2_with fail
  refine hK.out _ _ HXE.out (fun hHeld => ?_)
  clear hK K
  try simp only [Act.put, List.setIfInBounds_toArray, List.set_cons_zero, List.set_cons_succ]
  refine wpAnyH_take (i := 4) (oi := ({ dst := some 36, op := Op.convert 3 60 (Operand.tmp 35), type := 60, pos := "log.go:42", after := #[{ on := 3, ground := Ground.data }], guard := none } : Oper)) (v := ?_) rfl (by kernel_rfl) (by kernel_rfl) (by kernel_rfl) (fun _ _ _ h => h) (Or.inl ⟨by rfl, ?_⟩) (by assumption) ?_
  rotate_left 1
  · (intro u hSw; go_simp; try with_reducible rfl)
  try simp only [Act.put, List.setIfInBounds_toArray, List.set_cons_zero, List.set_cons_succ]
  refine wpAnyH_take (i := 5) (oi := ({ dst := some 37, op := Op.binOp BinOp.gtr 60 (Operand.tmp 33) (Operand.tmp 36) 60, type := 4, pos := "log.go:42", after := #[{ on := 1, ground := Ground.data }, { on := 4, ground := Ground.data }], guard := none } : Oper)) (v := ?_) rfl (by kernel_rfl) (by kernel_rfl) (by kernel_rfl) (fun _ _ _ h => h) (Or.inl ⟨by rfl, ?_⟩) (by assumption) ?_
  rotate_left 1
  · (intro u hSw; go_simp; try with_reducible rfl)
  try simp only [Act.put, List.setIfInBounds_toArray, List.set_cons_zero, List.set_cons_succ]
  refine wpAnyH_done (by kernel_rfl) ?_ _
  have XWE := Lib.hid (show Below w.heap.size w we from (XB.out.trans (XD1.out.mono XB.out.size)).trans (XE.out.mono (XB.out.trans (XD1.out.mono XB.out.size)).size))
  have x0 := (cell_of_row _ (wa.heap.size) 0 _ _ _ HXE.out.1).trans (show (#[Value.pointer (some ⟨D, 0, none⟩), .int .i64 fi, .int .i64 sz] : Array Value)[0]? = some (.pointer (some ⟨D, 0, none⟩)) from rfl)
  have x1 := (cell_of_row _ (wa.heap.size) 1 _ _ _ HXE.out.1).trans (show (#[Value.pointer (some ⟨D, 0, none⟩), .int .i64 fi, .int .i64 sz] : Array Value)[1]? = some (.int .i64 fi) from rfl)
  have x2 := (cell_of_row _ (wa.heap.size) 2 _ _ _ HXE.out.1).trans (show (#[Value.pointer (some ⟨D, 0, none⟩), .int .i64 fi, .int .i64 sz] : Array Value)[2]? = some (.int .i64 sz) from rfl)
  have y0 := (cell_of_row _ (wc.heap.size) 0 _ _ _ HXE.out.2).trans (show (#[Value.int .u64 (a : Int), .int .u64 (b : Int), .int .u64 (c : Int)] : Array Value)[0]? = some (.int .u64 (a : Int)) from rfl)
  have y1 := (cell_of_row _ (wc.heap.size) 1 _ _ _ HXE.out.2).trans (show (#[Value.int .u64 (a : Int), .int .u64 (b : Int), .int .u64 (c : Int)] : Array Value)[1]? = some (.int .u64 (b : Int)) from rfl)
  have y2 := (cell_of_row _ (wc.heap.size) 2 _ _ _ HXE.out.2).trans (show (#[Value.int .u64 (a : Int), .int .u64 (b : Int), .int .u64 (c : Int)] : Array Value)[2]? = some (.int .u64 (c : Int)) from rfl)
  go_wp2_with fail
  refine (HRA.out we (HD.out.chg (Chg.fresh (F := fun _ => False) XWE.out) (fun _ _ h => h))).mono ?_
  rintro e wf ⟨rv, rfl, ho, hb⟩
  have XF := Lib.hid hb
  have HRI2 := Lib.hid (HRI.out wf rv ⟨ho.bs, fun ad n c e h0 => (ho.lt ad.block (by rw [e]; rfl)).2⟩)
  clear ho hb x0 x1 x2 y0 y1 y2
  go_wp2_with fail
  refine HRI2.out.mono ?_
  rintro e wg ⟨rv2, rfl, hps, hb⟩
  have XG := Lib.hid hb
  have HPS := Lib.hid (recs_of_own hps)
  have HXG := Lib.hid (And.intro ((hb.block wa.heap.size (by have := HLA.out; have := HLC.out; have := XE.out.size; have := XF.out.size; omega)).trans ((XF.out.block wa.heap.size (by have := HLA.out; have := HLC.out; have := XE.out.size; omega)).trans HXE.out.1)) ((hb.block wc.heap.size (by have := HLC.out; have := XE.out.size; have := XF.out.size; omega)).trans ((XF.out.block wc.heap.size (by have := HLC.out; have := XE.out.size; omega)).trans HXE.out.2)))
  clear hps hb
  have z0 := (cell_of_row _ (wa.heap.size) 0 _ _ _ HXG.out.1).trans (show (#[Value.pointer (some ⟨D, 0, none⟩), .int .i64 fi, .int .i64 sz] : Array Value)[0]? = some (.pointer (some ⟨D, 0, none⟩)) from rfl)
  have z1 := (cell_of_row _ (wa.heap.size) 1 _ _ _ HXG.out.1).trans (show (#[Value.pointer (some ⟨D, 0, none⟩), .int .i64 fi, .int .i64 sz] : Array Value)[1]? = some (.int .i64 fi) from rfl)
  have z2 := (cell_of_row _ (wa.heap.size) 2 _ _ _ HXG.out.1).trans (show (#[Value.pointer (some ⟨D, 0, none⟩), .int .i64 fi, .int .i64 sz] : Array Value)[2]? = some (.int .i64 sz) from rfl)
  have q0 := (cell_of_row _ (wc.heap.size) 0 _ _ _ HXG.out.2).trans (show (#[Value.int .u64 (a : Int), .int .u64 (b : Int), .int .u64 (c : Int)] : Array Value)[0]? = some (.int .u64 (a : Int)) from rfl)
  have q1 := (cell_of_row _ (wc.heap.size) 1 _ _ _ HXG.out.2).trans (show (#[Value.int .u64 (a : Int), .int .u64 (b : Int), .int .u64 (c : Int)] : Array Value)[1]? = some (.int .u64 (b : Int)) from rfl)
  have q2 := (cell_of_row _ (wc.heap.size) 2 _ _ _ HXG.out.2).trans (show (#[Value.int .u64 (a : Int), .int .u64 (b : Int), .int .u64 (c : Int)] : Array Value)[2]? = some (.int .u64 (c : Int)) from rfl)
  go_wp2_with fail
  go_ret3
  have q1 := XWE.out.size
  have q2 := XF.out.size
  have q3 := XG.out.size
  have hbg : Below w.heap.size w wg := (XWE.out.trans (XF.out.mono q1)).trans (XG.out.mono (by omega))
  exact ⟨wg.heap.size, rv2, rfl, heap_alloc_new _ _, (HPS.out.widen (by omega) (Nat.le_refl _)).chg ((Chg.refl (fun _ => False) wg).alloc _) (fun _ _ _ h => h), by omega, hbg.alloc (by omega) _⟩
end Go.Proofs.Ytaibminomehppaa
