import Derived.Test.YtaibminomehppaaLogC
import Derived.WalkKit
import Derived.ProofKit
import Derived.BigQuiet
import Derived.Deep.QuietTactic
import Derived.WalkSpells
import Derived.WalkLawsBesides
import Derived.Lib.Hide
import Derived.Deep.MidRow
import Derived.Deep.RegionLaw
import Derived.BigRegion
import Derived.Laws.AppendOwnNone
import Derived.Deep.DeepMust
import Derived.Deep.AppendLies
import Derived.RegionTactic
import Derived.Deep.WholeRow
import Derived.BigFrame
import Derived.Deep.RegionWith
import Derived.Deep.RegionHeld3
import Derived.Maps.RangeWalk
import Derived.Laws.CopyOwn
import Derived.StillTailTactics

namespace Go.Proofs.Ytaibminomehppaa
open Go.RowKit
set_option maxRecDepth 100000 in
theorem restart_nil (B D M : Nat) (nb rm : Int) (P : Nat) (fi sz : Int) (a b c : Nat) (sa : Option Addr) (sc : Nat) (s : DS) (lv : Value) (w : World) (hd : DkS w B D M nb rm s lv) (h : LgIs w P D fi sz a b c (.slice sa 0 sc)) (hP : ¬ Foot D M lv P) (hfi : 0 ≤ fi ∧ fi ≤ 4096)
    (ha : a < 1099511627776) (hb : b < 1099511627776) (hL : s.L.length ≤ 268435456) :
    Calls Try.prog 50 #[.pointer (some ⟨P, 0, none⟩)] w
      (TEnds B D M nb rm P fi sz a b c (.slice sa 0 sc) (s.wsy nb rm (mw fi (a + 1) (b + 1) 0)).1 (s.wsy nb rm (mw fi (a + 1) (b + 1) 0)).2 (a + 1) (b + 1) 0 lv w) := by
  have htt := turnTo_any B D M nb rm P fi sz a b c (b + 1) 0 (.slice sa 0 sc) s lv w hd h hP hfi (by omega) (by omega) (by omega) hL
  change Calls _ _ _ w (TEnds B D M nb rm P fi sz a b c _ (s.wsy nb rm (mw fi (a + 1) (b + 1) 0)).1 (s.wsy nb rm (mw fi (a + 1) (b + 1) 0)).2 _ _ _ lv w) at htt
  obtain ⟨r, hr⟩ : ∃ r, s.wsy nb rm (mw fi (a + 1) (b + 1) 0) = r := ⟨_, rfl⟩
  rw [hr] at htt ⊢
  obtain ⟨s2, E2⟩ := r
  dsimp only at htt ⊢
  rw [show ((b + 1 : Nat) : Int) = (b : Int) + 1 by omega, show ((0 : Nat) : Int) = 0 from rfl] at htt
  have HTT := Lib.hid htt
  have hbb : (b : Int) + 1 ≤ 1099511627777 := by omega
  have k0 := (cell_of_row _ (P) 0 _ _ _ h).trans (show (#[Value.pointer (some ⟨D, 0, none⟩), .int .i64 fi, .int .i64 sz, .int .u64 (a : Int), .int .u64 (b : Int), .int .u64 (c : Int), .slice sa 0 sc] : Array Value)[0]? = some (.pointer (some ⟨D, 0, none⟩)) from rfl)
  have k1 := (cell_of_row _ (P) 1 _ _ _ h).trans (show (#[Value.pointer (some ⟨D, 0, none⟩), .int .i64 fi, .int .i64 sz, .int .u64 (a : Int), .int .u64 (b : Int), .int .u64 (c : Int), .slice sa 0 sc] : Array Value)[1]? = some (.int .i64 fi) from rfl)
  have k2 := (cell_of_row _ (P) 2 _ _ _ h).trans (show (#[Value.pointer (some ⟨D, 0, none⟩), .int .i64 fi, .int .i64 sz, .int .u64 (a : Int), .int .u64 (b : Int), .int .u64 (c : Int), .slice sa 0 sc] : Array Value)[2]? = some (.int .i64 sz) from rfl)
  have k3 := (cell_of_row _ (P) 3 _ _ _ h).trans (show (#[Value.pointer (some ⟨D, 0, none⟩), .int .i64 fi, .int .i64 sz, .int .u64 (a : Int), .int .u64 (b : Int), .int .u64 (c : Int), .slice sa 0 sc] : Array Value)[3]? = some (.int .u64 (a : Int)) from rfl)
  have k4 := (cell_of_row _ (P) 4 _ _ _ h).trans (show (#[Value.pointer (some ⟨D, 0, none⟩), .int .i64 fi, .int .i64 sz, .int .u64 (a : Int), .int .u64 (b : Int), .int .u64 (c : Int), .slice sa 0 sc] : Array Value)[4]? = some (.int .u64 (b : Int)) from rfl)
  have k5 := (cell_of_row _ (P) 5 _ _ _ h).trans (show (#[Value.pointer (some ⟨D, 0, none⟩), .int .i64 fi, .int .i64 sz, .int .u64 (a : Int), .int .u64 (b : Int), .int .u64 (c : Int), .slice sa 0 sc] : Array Value)[5]? = some (.int .u64 (c : Int)) from rfl)
  have k6 := (cell_of_row _ (P) 6 _ _ _ h).trans (show (#[Value.pointer (some ⟨D, 0, none⟩), .int .i64 fi, .int .i64 sz, .int .u64 (a : Int), .int .u64 (b : Int), .int .u64 (c : Int), .slice sa 0 sc] : Array Value)[6]? = some (.slice sa 0 sc) from rfl)
  clear htt hd h hP hr ha hb hL
  go_enter Try.func50, Try.ntmps50
  go_wp2_with fail
  refine HTT.out.mono ?_
  intro e w2 ht
  have HT := Lib.hid ht
  have ht' := ht
  obtain ⟨rfl, _⟩ := ht'
  clear ht
  go_wp2_with fail
  go_ret
  exact HT.out
/-- what Format writes -/
def fw (fi : Int) : List (Int × List Int) := [(fi + 1, mb 1 1 0), (fi, zeros 256)]
set_option maxRecDepth 100000 in
set_option maxHeartbeats 4000000 in
theorem format_yes (B D M : Nat) (nb rm fi sz : Int) (s : DS) (lv : Value) (w : World) (hd : DkS w B D M nb rm s lv) (h1 : 0 ≤ fi) (h2 : 3 ≤ sz) (h3 : fi ≤ nb - sz) (hnb : nb ≤ 4096) (hL : s.L.length ≤ 268435400) :
    Calls Try.prog 8 #[.pointer (some ⟨D, 0, none⟩), .int .i64 fi, .int .i64 sz] w (LEnds B D M nb rm (s.wsy nb rm (fw fi)).1 (s.wsy nb rm (fw fi)).2 lv w) := by
  have hz := zero102
  have hW : s.wsy nb rm (fw fi) = if s.we nb rm (fi + 1) = 0 then (if (s.wr nb rm (fi + 1) (mb 1 1 0)).we nb rm fi = 0 then (((s.wr nb rm (fi + 1) (mb 1 1 0)).wr nb rm fi (zeros 256)).sy, ((s.wr nb rm (fi + 1) (mb 1 1 0)).wr nb rm fi (zeros 256)).se) else ((s.wr nb rm (fi + 1) (mb 1 1 0)).wr nb rm fi (zeros 256), (s.wr nb rm (fi + 1) (mb 1 1 0)).we nb rm fi)) else (s.wr nb rm (fi + 1) (mb 1 1 0), s.we nb rm (fi + 1)) := by
    rw [fw, wsy_cons]
    by_cases h : s.we nb rm (fi + 1) = 0
    · rw [if_pos h, if_pos h, wsy_cons]
      by_cases h' : (s.wr nb rm (fi + 1) (mb 1 1 0)).we nb rm fi = 0
      · rw [if_pos h', if_pos h', wsy_nil]
      · rw [if_neg h', if_neg h']
    · rw [if_neg h, if_neg h]
  have hd1 := fun u lv (h : DkS u B D M nb rm s lv) => dwrite_any B D M nb rm (fi + 1) s lv (mb 1 1 0) u h (mb_len 1 1 0) (by omega) fi sz 1 rfl ⟨h1, by omega⟩ (by omega)
  have hL1 := wr_L nb rm s (fi + 1) (mb 1 1 0)
  generalize s.wr nb rm (fi + 1) (mb 1 1 0) = s1 at *
  generalize s.we nb rm (fi + 1) = E1 at *
  have hd2 := fun u lv (h : DkS u B D M nb rm s1 lv) => dwrite_any B D M nb rm fi s1 lv (zeros 256) u h (zeros_len 256) (by omega) fi sz 0 (by omega) ⟨h1, by omega⟩ (by omega)
  generalize s1.wr nb rm fi (zeros 256) = s2 at *
  generalize s1.we nb rm fi = E2 at *
  have hd3 := fun u lv (h : DkS u B D M nb rm s2 lv) => dsync_any B D M nb rm s2 lv u h
  generalize s2.sy = s3 at *
  generalize s2.se = E3 at *
  generalize s.wsy nb rm (fw fi) = r at *
  have HD1 := Lib.hid hd1
  have HD2 := Lib.hid hd2
  have HD3 := Lib.hid hd3
  have HW := Lib.hid hW
  have HD := Lib.hid hd
  have HBO := Lib.hid (blocksOf_yes B D M nb rm s.fz fi sz s.dn s.f s.L lv w hd h1 h2 h3 hnb)
  have hbl : ∀ u : World, (Instr.build 83 #[(0, Value.int .u64 1), (1, Value.int .u64 1)]).run Try.prog u = .ok (.agg #[.int .u64 1, .int .u64 1, .int .u64 0]) u := fun u => by kernel_rfl
  have hbz : ∀ u : World, (Instr.build 52 #[]).run Try.prog u = .ok (.agg (ArrU8 (zeros 256))) u := fun u => by kernel_rfl
  clear hd1 hd2 hd3 hW hd hL1 hL
  go_enter Try.func8, Try.ntmps8
  go_wp2_with fail
  refine HBO.out.mono ?_
  rintro e wa ⟨rfl, hb⟩
  have XA := Lib.hid hb
  have HXA := Lib.hid (heap_alloc_new wa (.cells #[Value.pointer (some ⟨D, 0, none⟩), .int .i64 fi, .int .i64 sz] 79))
  have XB := Lib.hid (show Below w.heap.size w (wa.alloc (.cells #[Value.pointer (some ⟨D, 0, none⟩), .int .i64 fi, .int .i64 sz] 79)) from hb.alloc hb.size _)
  have HDB := Lib.hid (HD.out.chg (Chg.fresh (F := fun _ => False) XB.out) (fun _ _ h => h))
  have HFT := Lib.hid (show ∀ k, Foot D M lv k → k < w.heap.size from fun k hk => (HD.out.foot k hk).2)
  clear hb
  go_wp2_with fail
  generalize hwb : wa.alloc (.cells #[Value.pointer (some ⟨D, 0, none⟩), .int .i64 fi, .int .i64 sz] 79) = wb at *
  have HWB := Lib.hid hwb
  clear hwb
  have HSB := Lib.hid (show wb.drew.heap[wa.heap.size]? = some (.cells #[Value.pointer (some ⟨D, 0, none⟩), .int .i64 fi, .int .i64 sz] 79 (0, 0)) from HXA.out)
  have HLA := Lib.hid (show w.heap.size ≤ wa.heap.size ∧ wa.heap.size < wb.heap.size from ⟨XA.out.size, (Array.getElem?_eq_some_iff.1 HXA.out).1⟩)
  refine wp_region_held_drew (S := fun u => u.heap[wa.heap.size]? = some (.cells #[Value.pointer (some ⟨D, 0, none⟩), .int .i64 fi, .int .i64 sz] 79 (0, 0))) (by kernel_rfl) (HSB.out) (fun hHeld => ?_)
  refine wpAnyH_take (i := 0) (oi := ({ dst := some 21, op := Op.load 79 (Operand.tmp 7), type := 79, pos := "log.go:23", after := #[], guard := none } : Oper)) (v := ?_) rfl (by kernel_rfl) (by kernel_rfl) (by kernel_rfl) (fun _ _ _ h => h) (Or.inl ⟨by rfl, ?_⟩) (by assumption) ?_
  rotate_left 1
  · intro u hSw
    have p0 := (cell_of_row u (wa.heap.size) 0 _ _ _ hSw).trans (show (#[Value.pointer (some ⟨D, 0, none⟩), .int .i64 fi, .int .i64 sz] : Array Value)[0]? = some (.pointer (some ⟨D, 0, none⟩)) from rfl); have p1 := (cell_of_row u (wa.heap.size) 1 _ _ _ hSw).trans (show (#[Value.pointer (some ⟨D, 0, none⟩), .int .i64 fi, .int .i64 sz] : Array Value)[1]? = some (.int .i64 fi) from rfl); have p2 := (cell_of_row u (wa.heap.size) 2 _ _ _ hSw).trans (show (#[Value.pointer (some ⟨D, 0, none⟩), .int .i64 fi, .int .i64 sz] : Array Value)[2]? = some (.int .i64 sz) from rfl)
    go_simp
    try with_reducible rfl
  try simp only [Act.put, List.setIfInBounds_toArray, List.set_cons_zero, List.set_cons_succ]
  refine wpAnyH_take (i := 1) (oi := ({ dst := some 22, op := Op.build 83 #[(0, Operand.const (Value.int IntKind.u64 1)), (1, Operand.const (Value.int IntKind.u64 1))], type := 83, pos := "log.go:23", after := #[], guard := none } : Oper)) (v := ?_) rfl (by kernel_rfl) (by kernel_rfl) (by kernel_rfl) (fun _ _ _ h => h) (Or.inl ⟨by rfl, ?_⟩) (by assumption) ?_
  rotate_left 1
  · (intro u hSw; go_simp; try with_reducible rfl)
  try simp only [Act.put, List.setIfInBounds_toArray, List.set_cons_zero, List.set_cons_succ]
  refine wpAnyH_ready (rs := [2]) (by kernel_rfl) (by simp) ?_
  refine AllReadyH.cons (o := ({ dst := some 23, op := Op.call { callee := Callee.value (Operand.func 36), args := #[Operand.tmp 22], argTypes := #[83] }, type := 52, pos := "log.go:23", after := #[{ on := 1, ground := Ground.data }], guard := none } : Oper)) rfl (fun K hK => ?_) AllReadyH.nil
  go_simp
  go_at_call 36
  refine (mblock_any 1 1 0 _ (by decide) (by decide) (by decide)).mono ?_
  rintro e wc ⟨rfl, hb⟩
  have XC := Lib.hid (show Below wb.heap.size wb wc from ((Below.refl _ _).drew).trans hb)
  have HSC := Lib.hid ((XC.out.block _ HLA.out.2).trans HXA.out)
  clear hb
  go_wp2_with fail
  refine hK.out _ _ HSC.out (fun hHeld => ?_)
  clear hK K
  try simp only [Act.put, List.setIfInBounds_toArray, List.set_cons_zero, List.set_cons_succ]
  refine wpAnyH_ready (rs := [3]) (by kernel_rfl) (by simp) ?_
  refine AllReadyH.cons (o := ({ dst := some 24, op := Op.call { callee := Callee.value (Operand.func 35), args := #[Operand.tmp 21, Operand.const (Value.int IntKind.i64 1), Operand.tmp 23], argTypes := #[79, 3, 52] }, type := 33, pos := "log.go:23", after := #[{ on := 0, ground := Ground.data }, { on := 2, ground := Ground.data }, { on := 2, ground := Ground.chain }], guard := none } : Oper)) rfl (fun K hK => ?_) AllReadyH.nil
  go_simp
  go_at_call 35
  refine (HD1.out wc lv (HDB.out.chg (Chg.fresh (F := fun _ => False) XC.out) (fun _ _ h => h))).mono ?_
  rintro e wd ⟨rfl, lvd, hdk, hch, hft⟩
  have HDD := Lib.hid hdk
  have HCD := Lib.hid hch
  have HFD := Lib.hid hft
  have HSD := Lib.hid ((hch.block _ (by have := HLA.out; have := XC.out.size; omega) (fun e => by have := HFT.out _ e; have := HLA.out; omega)).trans HSC.out)
  clear hdk hch hft
  go_wp2_with fail
  refine hK.out _ _ HSD.out (fun hHeld => ?_)
  clear hK K
  try simp only [Act.put, List.setIfInBounds_toArray, List.set_cons_zero, List.set_cons_succ]
  refine wpAnyH_take (i := 4) (oi := ({ dst := some 9, op := Op.assign (Operand.tmp 24), type := 33, pos := "log.go:23", after := #[{ on := 3, ground := Ground.data }, { on := 3, ground := Ground.chain }, { on := 0, ground := Ground.phase }, { on := 1, ground := Ground.phase }, { on := 2, ground := Ground.phase }, { on := 3, ground := Ground.phase }], guard := none } : Oper)) (v := ?_) rfl (by kernel_rfl) (by kernel_rfl) (by kernel_rfl) (fun _ _ _ h => h) (Or.inl ⟨by rfl, ?_⟩) (by assumption) ?_
  rotate_left 1
  · (intro u hSw; go_simp; try with_reducible rfl)
  try simp only [Act.put, List.setIfInBounds_toArray, List.set_cons_zero, List.set_cons_succ]
  refine wpAnyH_done (by kernel_rfl) ?_ _
  have XWC := Lib.hid (XB.out.trans (XC.out.mono XB.out.size))
  by_cases hE1 : E1 = 0
  · have HW1 := Lib.hid (HW.out.trans (if_pos hE1))
    have z0 := (cell_of_row _ (wa.heap.size) 0 _ _ _ HSD.out).trans (show (#[Value.pointer (some ⟨D, 0, none⟩), .int .i64 fi, .int .i64 sz] : Array Value)[0]? = some (.pointer (some ⟨D, 0, none⟩)) from rfl)
    have z1 := (cell_of_row _ (wa.heap.size) 1 _ _ _ HSD.out).trans (show (#[Value.pointer (some ⟨D, 0, none⟩), .int .i64 fi, .int .i64 sz] : Array Value)[1]? = some (.int .i64 fi) from rfl)
    have z2 := (cell_of_row _ (wa.heap.size) 2 _ _ _ HSD.out).trans (show (#[Value.pointer (some ⟨D, 0, none⟩), .int .i64 fi, .int .i64 sz] : Array Value)[2]? = some (.int .i64 sz) from rfl)
    go_wp2_with fail
    refine (HD2.out wd lvd HDD.out).mono ?_
    rintro e we ⟨rfl, lve, hdk, hch, hft⟩
    have HDE := Lib.hid hdk
    have HCE := Lib.hid (show Chg (Foot D M lv) wc we from HCD.out.trans hch (fun k hk => (HFD.out k hk)))
    have HFE := Lib.hid (show ∀ k, Foot D M lve k → Foot D M lv k ∨ wc.heap.size ≤ k from fun k hk => (hft k hk).elim (fun h => HFD.out k h) (fun h => .inr (by have := HCD.out.size; omega)))
    clear hdk hch hft
    by_cases hE2 : E2 = 0
    · have HW2 := Lib.hid (HW1.out.trans (if_pos hE2))
      go_wp2_with fail
      refine (HD3.out we lve HDE.out).mono ?_
      intro e wf hl
      have HL := Lib.hid (LEnds.seq2 XWC.out HCE.out HFE.out (Below.refl _ _) hl)
      have hl' := hl
      obtain ⟨rfl, _⟩ := hl'
      clear hl
      go_wp2_with fail
      go_ret
      rw [HW2.out]
      exact HL.out
    · have HW2 := Lib.hid (HW1.out.trans (if_neg hE2))
      go_wp2_with fail
      go_ret
      rw [HW2.out]
      exact LEnds.pre XWC.out ⟨rfl, lve, HDE.out, HCE.out, HFE.out⟩
  · have HW1 := Lib.hid (HW.out.trans (if_neg hE1))
    go_wp2_with fail
    go_ret
    rw [HW1.out]
    exact LEnds.pre XWC.out ⟨rfl, lvd, HDD.out, HCD.out, HFD.out⟩
theorem format_no (B D M : Nat) (nb rm fz fi sz : Int) (dn : Bool) (f : Int → List Int) (L : List WR) (lv : Value) (w : World) (h : Dk w B D M nb rm fz dn f L lv) (h1 : fi < 0 ∨ sz < 3 ∨ nb - sz < fi) (hnb : nb ≤ 4096) (h0 : 0 ≤ nb) (hs : sz ≤ 9223372036854775807) :
    Calls Try.prog 8 #[.pointer (some ⟨D, 0, none⟩), .int .i64 fi, .int .i64 sz] w fun e w' => e = .returned (.int .i64 1) ∧ Below w.heap.size w w' := by
  have hz := zero102
  have HBO := Lib.hid (blocksOf_no B D M nb rm fz fi sz dn f L lv w h h1 hnb h0 hs)
  clear h h1 hnb h0 hs
  go_enter Try.func8, Try.ntmps8
  go_wp2_with fail
  refine HBO.out.mono ?_
  rintro e wa ⟨rfl, hb⟩
  have XA := Lib.hid hb
  clear hb
  go_wp2_with fail
  go_ret
  exact ⟨rfl, XA.out.alloc XA.out.size _⟩
end Go.Proofs.Ytaibminomehppaa
