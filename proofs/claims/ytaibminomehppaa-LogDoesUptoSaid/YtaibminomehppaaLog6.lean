import Derived.Test.YtaibminomehppaaLog5
import Derived.WalkKit
import Derived.ProofKit
import Derived.BigQuiet
import Derived.Deep.QuietTactic
import Derived.WalkSpells
import Derived.WalkLawsBesides
import Derived.Lib.Hide
import Derived.Deep.MidRow
import Derived.Deep.RegionLaw
import Derived.BigRegion
import Derived.Laws.AppendOwnNone
import Derived.Deep.DeepMust
import Derived.Deep.AppendLies
import Derived.RegionTactic
import Derived.Deep.WholeRow
import Derived.BigFrame
import Derived.Deep.RegionWith
import Derived.Deep.RegionHeld3
import Derived.Maps.RangeWalk
import Derived.Laws.CopyOwn
import Derived.StillTailTactics

namespace Go.Proofs.Ytaibminomehppaa
open Go.RowKit
theorem LEnds.seq2 {B D M : Nat} {nb rm : Int} {s' : DS} {E' : Int} {lv lv1 : Value} {w0 w w1 w2 w3 : World} {e' : Ending} (h0 : Below w0.heap.size w0 w) (hc1 : Chg (Foot D M lv) w w1) (hf1 : ∀ k, Foot D M lv1 k → Foot D M lv k ∨ w.heap.size ≤ k) (hb : Below w1.heap.size w1 w2) (k : LEnds B D M nb rm s' E' lv1 w2 e' w3) : LEnds B D M nb rm s' E' lv w0 e' w3 := by
  obtain ⟨he, lv2, hd2, hc2, hf2⟩ := k
  have s0 := h0.size
  have s1 := hc1.size
  have s2 := hb.size
  refine ⟨he, lv2, hd2, ?_, ?_⟩
  · refine (((Chg.fresh (F := Foot D M lv) h0).trans hc1 (fun _ h => .inl h)).trans (Chg.fresh (F := fun _ => False) hb) (fun _ h => h.elim)).trans hc2 (fun i hi => ?_)
    rcases hf1 i hi with h | h
    · exact .inl h
    · exact .inr (by omega)
  · intro i hi
    rcases hf2 i hi with h | h
    · rcases hf1 i h with h | h
      · exact .inl h
      · exact .inr (by omega)
    · exact .inr (by omega)
theorem LEnds.pre {B D M : Nat} {nb rm : Int} {s : DS} {E : Int} {lv : Value} {w0 w w1 : World} {e : Ending} (h0 : Below w0.heap.size w0 w) (k : LEnds B D M nb rm s E lv w e w1) : LEnds B D M nb rm s E lv w0 e w1 :=
  LEnds.seq2 h0 (Chg.refl _ _) (fun _ h => .inl h) (Below.refl _ _) k
theorem wsy_one (nb rm : Int) (s : DS) (n : Int) (b : List Int) : s.wsy nb rm [(n, b)] = if s.we nb rm n = 0 then ((s.wr nb rm n b).sy, (s.wr nb rm n b).se) else (s.wr nb rm n b, s.we nb rm n) := by
  unfold DS.wsy DS.ws
  by_cases h : s.we nb rm n = 0
  · simp only [if_pos h, DS.ws, if_true]
  · simp only [if_neg h]
set_option maxRecDepth 100000 in
set_option maxHeartbeats 2000000 in
theorem writeMark_any (B D M : Nat) (nb rm fi sz : Int) (s : DS) (lv : Value) (a b c : Nat) (w : World) (h : DkS w B D M nb rm s lv) (hfi : 0 ≤ fi ∧ fi ≤ 4096) (ha : a < 18446744073709551616) (hb : b < 18446744073709551616) (hc : c < 18446744073709551616) (hL : s.L.length ≤ 268435456) :
    Calls Try.prog 114 #[.agg #[Value.pointer (some ⟨D, 0, none⟩), .int .i64 fi, .int .i64 sz], .agg #[Value.int .u64 (a : Int), .int .u64 (b : Int), .int .u64 (c : Int)]] w (LEnds B D M nb rm (s.wsy nb rm [(fi + (a % 2 : Nat), mb a b c)]).1 (s.wsy nb rm [(fi + (a % 2 : Nat), mb a b c)]).2 lv w) := by
  have hw := wsy_one nb rm s (fi + (a % 2 : Nat)) (mb a b c)
  have hplc := fun u => place_any a b c u ha
  have hp2 : 0 ≤ ((a % 2 : Nat) : Int) ∧ ((a % 2 : Nat) : Int) ≤ 4096 := by omega
  generalize ((a % 2 : Nat) : Int) = p at *
  have HPLC := Lib.hid hplc
  clear hplc
  generalize s.wsy nb rm [(fi + p, mb a b c)] = r at *
  have HW := Lib.hid hw
  clear hw
  have hb1 : Below w.heap.size w (w.alloc (.cells #[Value.pointer (some ⟨D, 0, none⟩), .int .i64 fi, .int .i64 sz] 79)) := (Below.refl _ _).alloc (Nat.le_refl _) _
  have hb2 : Below w.heap.size w ((w.alloc (.cells #[Value.pointer (some ⟨D, 0, none⟩), .int .i64 fi, .int .i64 sz] 79)).alloc (.cells #[Value.int .u64 (a : Int), .int .u64 (b : Int), .int .u64 (c : Int)] 83)) := hb1.alloc (by simp) _
  have hx0 : ((w.alloc (.cells #[Value.pointer (some ⟨D, 0, none⟩), .int .i64 fi, .int .i64 sz] 79)).alloc (.cells #[Value.int .u64 (a : Int), .int .u64 (b : Int), .int .u64 (c : Int)] 83)).heap[w.heap.size]? = some (.cells #[Value.pointer (some ⟨D, 0, none⟩), .int .i64 fi, .int .i64 sz] 79 (0, 0)) := (heap_alloc_old _ _ (by simp)).trans (heap_alloc_new _ _)
  have hx1 : ((w.alloc (.cells #[Value.pointer (some ⟨D, 0, none⟩), .int .i64 fi, .int .i64 sz] 79)).alloc (.cells #[Value.int .u64 (a : Int), .int .u64 (b : Int), .int .u64 (c : Int)] 83)).heap[w.heap.size + 1]? = some (.cells #[Value.int .u64 (a : Int), .int .u64 (b : Int), .int .u64 (c : Int)] 83 (0, 0)) := by have h := heap_alloc_new (w.alloc (.cells #[Value.pointer (some ⟨D, 0, none⟩), .int .i64 fi, .int .i64 sz] 79)) (.cells #[Value.int .u64 (a : Int), .int .u64 (b : Int), .int .u64 (c : Int)] 83); rw [World.size_alloc] at h; exact h
  have HB2 := Lib.hid hb2
  have HX0 := Lib.hid hx0
  have HX1 := Lib.hid hx1
  have HD2 := Lib.hid (h.chg (Chg.fresh (F := fun _ => False) hb2) (fun _ _ h => h))
  have HFT := Lib.hid (show ∀ k, Foot D M lv k → k < w.heap.size from fun k hk => (h.foot k hk).2)
  clear hb1 hb2 hx0 hx1 h
  go_enter Try.func114, Try.ntmps114
  go_wp2_with fail
  generalize (w.alloc (.cells #[Value.pointer (some ⟨D, 0, none⟩), .int .i64 fi, .int .i64 sz] 79)).alloc (.cells #[Value.int .u64 (a : Int), .int .u64 (b : Int), .int .u64 (c : Int)] 83) = w2 at *
  have HLX := Lib.hid (show w.heap.size + 1 < w2.heap.size from (Array.getElem?_eq_some_iff.1 HX1.out).1)
  have HS2 := Lib.hid (show w2.drew.heap[w.heap.size]? = some (.cells #[Value.pointer (some ⟨D, 0, none⟩), .int .i64 fi, .int .i64 sz] 79 (0, 0)) ∧ w2.drew.heap[w.heap.size + 1]? = some (.cells #[Value.int .u64 (a : Int), .int .u64 (b : Int), .int .u64 (c : Int)] 83 (0, 0)) from ⟨HX0.out, HX1.out⟩)
  refine wp_region_held_drew (S := fun u => u.heap[w.heap.size]? = some (.cells #[Value.pointer (some ⟨D, 0, none⟩), .int .i64 fi, .int .i64 sz] 79 (0, 0)) ∧ u.heap[w.heap.size + 1]? = some (.cells #[Value.int .u64 (a : Int), .int .u64 (b : Int), .int .u64 (c : Int)] 83 (0, 0))) (by kernel_rfl) (HS2.out) (fun hHeld => ?_)
  refine wpAnyH_take (i := 0) (oi := ({ dst := some 6, op := Op.load 79 (Operand.tmp 2), type := 79, pos := "blocks.go:64", after := #[], guard := none } : Oper)) (v := ?_) rfl (by kernel_rfl) (by kernel_rfl) (by kernel_rfl) (fun _ _ _ h => h) (Or.inl ⟨by rfl, ?_⟩) (by assumption) ?_
  rotate_left 1
  · intro u hSw
    have b0 := (cell_of_row u (w.heap.size) 0 _ _ _ hSw.1).trans (show (#[Value.pointer (some ⟨D, 0, none⟩), .int .i64 fi, .int .i64 sz] : Array Value)[0]? = some (.pointer (some ⟨D, 0, none⟩)) from rfl); have b1 := (cell_of_row u (w.heap.size) 1 _ _ _ hSw.1).trans (show (#[Value.pointer (some ⟨D, 0, none⟩), .int .i64 fi, .int .i64 sz] : Array Value)[1]? = some (.int .i64 fi) from rfl); have b2 := (cell_of_row u (w.heap.size) 2 _ _ _ hSw.1).trans (show (#[Value.pointer (some ⟨D, 0, none⟩), .int .i64 fi, .int .i64 sz] : Array Value)[2]? = some (.int .i64 sz) from rfl)
    go_simp
    try with_reducible rfl
  try simp only [Act.put, List.setIfInBounds_toArray, List.set_cons_zero, List.set_cons_succ]
  refine wpAnyH_take (i := 1) (oi := ({ dst := some 7, op := Op.load 83 (Operand.tmp 3), type := 83, pos := "blocks.go:64", after := #[], guard := none } : Oper)) (v := ?_) rfl (by kernel_rfl) (by kernel_rfl) (by kernel_rfl) (fun _ _ _ h => h) (Or.inl ⟨by rfl, ?_⟩) (by assumption) ?_
  rotate_left 1
  · intro u hSw
    have m0 := (cell_of_row u (w.heap.size + 1) 0 _ _ _ hSw.2).trans (show (#[Value.int .u64 (a : Int), .int .u64 (b : Int), .int .u64 (c : Int)] : Array Value)[0]? = some (.int .u64 (a : Int)) from rfl); have m1 := (cell_of_row u (w.heap.size + 1) 1 _ _ _ hSw.2).trans (show (#[Value.int .u64 (a : Int), .int .u64 (b : Int), .int .u64 (c : Int)] : Array Value)[1]? = some (.int .u64 (b : Int)) from rfl); have m2 := (cell_of_row u (w.heap.size + 1) 2 _ _ _ hSw.2).trans (show (#[Value.int .u64 (a : Int), .int .u64 (b : Int), .int .u64 (c : Int)] : Array Value)[2]? = some (.int .u64 (c : Int)) from rfl)
    go_simp
    try with_reducible rfl
  try simp only [Act.put, List.setIfInBounds_toArray, List.set_cons_zero, List.set_cons_succ]
  refine wpAnyH_take (i := 3) (oi := ({ dst := some 9, op := Op.load 83 (Operand.tmp 3), type := 83, pos := "blocks.go:64", after := #[], guard := none } : Oper)) (v := ?_) rfl (by kernel_rfl) (by kernel_rfl) (by kernel_rfl) (fun _ _ _ h => h) (Or.inl ⟨by rfl, ?_⟩) (by assumption) ?_
  rotate_left 1
  · intro u hSw
    have m0 := (cell_of_row u (w.heap.size + 1) 0 _ _ _ hSw.2).trans (show (#[Value.int .u64 (a : Int), .int .u64 (b : Int), .int .u64 (c : Int)] : Array Value)[0]? = some (.int .u64 (a : Int)) from rfl); have m1 := (cell_of_row u (w.heap.size + 1) 1 _ _ _ hSw.2).trans (show (#[Value.int .u64 (a : Int), .int .u64 (b : Int), .int .u64 (c : Int)] : Array Value)[1]? = some (.int .u64 (b : Int)) from rfl); have m2 := (cell_of_row u (w.heap.size + 1) 2 _ _ _ hSw.2).trans (show (#[Value.int .u64 (a : Int), .int .u64 (b : Int), .int .u64 (c : Int)] : Array Value)[2]? = some (.int .u64 (c : Int)) from rfl)
    go_simp
    try with_reducible rfl
  try simp only [Act.put, List.setIfInBounds_toArray, List.set_cons_zero, List.set_cons_succ]
  refine wpAnyH_ready (rs := [2]) (by kernel_rfl) (by simp) ?_
  refine AllReadyH.cons (o := ({ dst := some 8, op := Op.call { callee := Callee.value (Operand.func 112), args := #[Operand.tmp 7], argTypes := #[83] }, type := 3, pos := "blocks.go:64", after := #[{ on := 1, ground := Ground.data }], guard := none } : Oper)) rfl (fun K hK => ?_) AllReadyH.nil
  go_simp
  go_at_call 112
  refine (HPLC.out _).mono ?_
  rintro e w3 ⟨rfl, hb3⟩
  have X3 := Lib.hid (show Below w2.heap.size w2 w3 from ((Below.refl _ _).drew).trans hb3)
  have S3 := Lib.hid (And.intro ((X3.out.block _ (by have := HLX.out; omega)).trans HX0.out) ((X3.out.block _ HLX.out).trans HX1.out))
  clear hb3
  go_wp2_with fail
  refine hK.out _ _ S3.out (fun hHeld => ?_)
  clear hK K
  try simp only [Act.put, List.setIfInBounds_toArray, List.set_cons_zero, List.set_cons_succ]
  refine wpAnyH_ready (rs := [4]) (by kernel_rfl) (by simp) ?_
  refine AllReadyH.cons (o := ({ dst := some 10, op := Op.call { callee := Callee.value (Operand.func 36), args := #[Operand.tmp 9], argTypes := #[83] }, type := 52, pos := "blocks.go:64", after := #[{ on := 3, ground := Ground.data }, { on := 2, ground := Ground.chain }], guard := none } : Oper)) rfl (fun K hK => ?_) AllReadyH.nil
  go_simp
  go_at_call 36
  refine (mblock_any a b c _ ha hb hc).mono ?_
  rintro e w4 ⟨rfl, hb4⟩
  have X4 := Lib.hid (X3.out.trans (hb4.mono X3.out.size))
  have S4 := Lib.hid (And.intro ((X4.out.block _ (by have := HLX.out; omega)).trans HX0.out) ((X4.out.block _ HLX.out).trans HX1.out))
  clear hb4
  go_wp2_with fail
  refine hK.out _ _ S4.out (fun hHeld => ?_)
  clear hK K
  try simp only [Act.put, List.setIfInBounds_toArray, List.set_cons_zero, List.set_cons_succ]
  refine wpAnyH_ready (rs := [5]) (by kernel_rfl) (by simp) ?_
  refine AllReadyH.cons (o := ({ dst := some 11, op := Op.call { callee := Callee.value (Operand.func 35), args := #[Operand.tmp 6, Operand.tmp 8, Operand.tmp 10], argTypes := #[79, 3, 52] }, type := 33, pos := "blocks.go:64", after := #[{ on := 0, ground := Ground.data }, { on := 2, ground := Ground.data }, { on := 4, ground := Ground.data }, { on := 4, ground := Ground.chain }], guard := none } : Oper)) rfl (fun K hK => ?_) AllReadyH.nil
  go_simp
  go_at_call 35
  refine (dwrite_any B D M nb rm (fi + p) s lv (mb a b c) w4 (HD2.out.chg (Chg.fresh (F := fun _ => False) X4.out) (fun _ _ h => h)) (mb_len a b c) hL fi sz _ rfl hfi hp2).mono ?_
  rintro e w5 ⟨rfl, lv5, hdk, hch, hft⟩
  have DK5 := Lib.hid hdk
  have CH5 := Lib.hid hch
  have FT5 := Lib.hid hft
  have S5 := Lib.hid (And.intro ((hch.block _ (by have := HLX.out; have := X4.out.size; omega) (fun e => by have := HFT.out _ e; omega)).trans S4.out.1) ((hch.block _ (by have := HLX.out; have := X4.out.size; omega) (fun e => by have := HFT.out _ e; omega)).trans S4.out.2))
  clear hdk hch hft
  go_wp2_with fail
  refine hK.out _ _ S5.out (fun hHeld => ?_)
  clear hK K
  try simp only [Act.put, List.setIfInBounds_toArray, List.set_cons_zero, List.set_cons_succ]
  refine wpAnyH_take (i := 6) (oi := ({ dst := some 5, op := Op.assign (Operand.tmp 11), type := 33, pos := "blocks.go:64", after := #[{ on := 5, ground := Ground.data }, { on := 5, ground := Ground.chain }, { on := 0, ground := Ground.phase }, { on := 1, ground := Ground.phase }, { on := 2, ground := Ground.phase }, { on := 3, ground := Ground.phase }, { on := 4, ground := Ground.phase }, { on := 5, ground := Ground.phase }], guard := none } : Oper)) (v := ?_) rfl (by kernel_rfl) (by kernel_rfl) (by kernel_rfl) (fun _ _ _ h => h) (Or.inl ⟨by rfl, ?_⟩) (by assumption) ?_
  rotate_left 1
  · (intro u hSw; go_simp; try with_reducible rfl)
  try simp only [Act.put, List.setIfInBounds_toArray, List.set_cons_zero, List.set_cons_succ]
  refine wpAnyH_done (by kernel_rfl) ?_ _
  have HP := Lib.hid (HB2.out.trans (X4.out.mono HB2.out.size))
  obtain ⟨E, hE⟩ : ∃ E, s.we nb rm (fi + p) = E := ⟨_, rfl⟩
  have HE := Lib.hid hE
  have HPB := S5.out.1
  have b0 := (cell_of_row _ (w.heap.size) 0 _ _ _ HPB).trans (show (#[Value.pointer (some ⟨D, 0, none⟩), .int .i64 fi, .int .i64 sz] : Array Value)[0]? = some (.pointer (some ⟨D, 0, none⟩)) from rfl)
  have b1 := (cell_of_row _ (w.heap.size) 1 _ _ _ HPB).trans (show (#[Value.pointer (some ⟨D, 0, none⟩), .int .i64 fi, .int .i64 sz] : Array Value)[1]? = some (.int .i64 fi) from rfl)
  have b2 := (cell_of_row _ (w.heap.size) 2 _ _ _ HPB).trans (show (#[Value.pointer (some ⟨D, 0, none⟩), .int .i64 fi, .int .i64 sz] : Array Value)[2]? = some (.int .i64 sz) from rfl)
  clear HPB
  rw [hE]
  clear hE
  by_cases h0 : E = 0
  · go_wp2_with fail
    refine (dsync_any B D M nb rm (s.wr nb rm (fi + p) (mb a b c)) lv5 w5 DK5.out).mono ?_
    intro e w6 hl
    have HL6 := Lib.hid (LEnds.seq2 HP.out CH5.out FT5.out (Below.refl _ _) hl)
    have hl' := hl
    obtain ⟨rfl, _⟩ := hl'
    clear hl
    have HR := Lib.hid (show r = ((s.wr nb rm (fi + p) (mb a b c)).sy, (s.wr nb rm (fi + p) (mb a b c)).se) by rw [HW.out, HE.out, if_pos h0])
    generalize (s.wr nb rm (fi + p) (mb a b c)).se = E6 at *
    go_wp2_with fail
    go_ret
    rw [HR.out]
    exact HL6.out
  · go_wp2_with fail
    go_ret
    have hr : r = (s.wr nb rm (fi + p) (mb a b c), E) := by rw [HW.out, HE.out, if_neg h0]
    rw [hr]
    exact LEnds.pre HP.out ⟨rfl, lv5, DK5.out, CH5.out, FT5.out⟩
end Go.Proofs.Ytaibminomehppaa
