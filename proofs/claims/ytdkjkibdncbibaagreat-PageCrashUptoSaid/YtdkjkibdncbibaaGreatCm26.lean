/- the reference's pager: Changed, Commit, Abort, Checkpoint -/
import Derived.Test.YtdkjkibdncbibaaGreatCm25
namespace Go.Proofs.YtdkjkibdncbibaaGreat
open Go.RowKit
open Go.Lib (hid)
/-- the reference's pager with both its lists of pages -/
structure RPw (w : World) (B P gn gw : Nat) (nv wv : Value) (ar us : Int) (now was : List (List Int)) : Prop where
 pg : RPg w B P gn nv wv ar us now
 ws : BkC w B gw wv was
 ng : gw ≠ gn
 gp : P ≠ gw
 ln : was.length = now.length
 rw : ∀ l ∈ was, Rng l
section
variable {w w' : World} {B P gn gw : Nat} {nv wv : Value} {ar us : Int} {now now' was : List (List Int)}
theorem RPw.step (h : RPw w B P gn gw nv wv ar us now was) (hp : RPg w' B P gn nv wv ar us now') (hl : now'.length = now.length) (hc : Chg (fun q => q = gn) w w') : RPw w' B P gn gw nv wv ar us now' was :=
 { pg := hp, ws := h.ws.of (hc.block gw h.ws.2.2.1 h.ng) (Nat.lt_of_lt_of_le h.ws.2.2.1 hc.size), ng := h.ng, gp := h.gp, ln := h.ln.trans hl.symm, rw := h.rw }
theorem RPw.fresh (h : RPw w B P gn gw nv wv ar us now was) (hb : Below w.heap.size w w') : RPw w' B P gn gw nv wv ar us now was :=
 h.step (h.pg.fresh hb) rfl (Chg.fresh hb)
theorem RPw.chg (h : RPw w B P gn gw nv wv ar us now was) {F : Nat → Prop} (hc : Chg F w w') (h1 : ¬ F P) (h2 : ¬ F gn) (h3 : ¬ F gw) : RPw w' B P gn gw nv wv ar us now was :=
 { pg := h.pg.chg hc h1 h2, ws := h.ws.of (hc.block gw h.ws.2.2.1 h3) (Nat.lt_of_lt_of_le h.ws.2.2.1 hc.size), ng := h.ng, gp := h.gp, ln := h.ln, rw := h.rw }
/-- a field of the pager's block is written -/
theorem RPw.used (h : RPw w B P gn gw nv wv ar us now was) (x : Int) : RPw (w.setCell ⟨P, 3, none⟩ (.int .i64 x)) B P gn gw nv wv ar x now was ∧ Chg (fun q => q = P) w (w.setCell ⟨P, 3, none⟩ (.int .i64 x)) := by
 have hc : Chg (fun q => q = P) w (w.setCell ⟨P, 3, none⟩ (.int .i64 x)) := (Chg.refl _ w).setCell ⟨P, 3, none⟩ _ (.inl rfl)
 exact ⟨{ pg := { box := heap_setCell_same w P 3 _ _ _ h.pg.box, nw := h.pg.nw.of (hc.block gn h.pg.nw.2.2.1 (fun e => h.pg.np e.symm)) (Nat.lt_of_lt_of_le h.pg.nw.2.2.1 hc.size), np := h.pg.np, bp := h.pg.bp, rg := h.pg.rg, ne := h.pg.ne }, ws := h.ws.of (hc.block gw h.ws.2.2.1 (fun e => h.gp e.symm)) (Nat.lt_of_lt_of_le h.ws.2.2.1 hc.size), ng := h.ng, gp := h.gp, ln := h.ln, rw := h.rw }, hc⟩
end
set_option maxRecDepth 100000 in
/-- a copy of a list of pages in a block of its own -/
theorem copy_bk (u : World) (ty : TypeId) (B g : Nat) (v : Value) (bs : List (List Int)) (h : BkC u B g v bs) (h0 : 0 < bs.length) (hl : bs.length ≤ 4096) (hB : B ≤ u.heap.size) (n : Nat) (hn : u.heap.size = n) :
  ∃ cap' g' w', (Builtin.append_ #[25, 25] ty #[.slice (some ⟨n, 0, none⟩) 0 0, v]).run Tryz.prog (u.alloc (.cells #[] 50)) = .ok (.slice (some ⟨g', 0, none⟩) bs.length cap') w' ∧ BkC w' B g' (.slice (some ⟨g', 0, none⟩) bs.length cap') bs ∧ Below u.heap.size u w' ∧ u.heap.size ≤ g' := by
 subst hn
 have hb : Below u.heap.size u (u.alloc (.cells #[] 50)) := (Below.refl _ _).alloc (Nat.le_refl _) _
 have h7 : BkC (u.alloc (.cells #[] 50)) B g v bs := h.of (hb.block g h.2.2.1) (Nat.lt_of_lt_of_le h.2.2.1 hb.size)
 obtain ⟨v', g', w8, happ, hb8, hg8, hge⟩ := run_append_blocks (u.alloc (.cells #[] 50)) ty B g v bs h7 h0 hl u.heap.size (heap_alloc_new _ _) B hB
 obtain ⟨⟨cap', rfl⟩, hr⟩ := id hb8
 have hc : Chg (fun q => q = u.heap.size) u w8 := (Chg.fresh hb).trans (G := fun q => q = u.heap.size) (Chg.grown hg8 (fun k hk => by injection hk with hk; exact hk.symm)) (fun i hi => .inl hi)
 exact ⟨cap', g', w8, happ, hb8, hc.below (fun k hk => Nat.le_of_eq hk.symm) (Nat.le_refl _), hge⟩
/-- how many of the first k pages are not what they were -/
def difL (now was : List (List Int)) (k : Nat) : Nat := ((List.range k).filter fun i => decide (now[i]?.getD [] ≠ was[i]?.getD [])).length
theorem difL_succ (now was : List (List Int)) (k : Nat) (l m : List Int) (hl : now[k]? = some l) (hm : was[k]? = some m) : difL now was (k + 1) = difL now was k + if l = m then 0 else 1 := by
 unfold difL
 rw [List.range_succ, List.filter_append, List.length_append]
 congr 1
 rw [List.filter_cons, hl, hm]
 by_cases h : l = m
 ·rw [if_pos h]; simp [h]
 ·rw [if_neg h]; simp [h]
theorem difL_le (now was : List (List Int)) (k : Nat) : difL now was k ≤ k := by
 unfold difL
 exact Nat.le_trans (List.length_filter_le _ _) (by rw [List.length_range]; exact Nat.le_refl _)
set_option maxRecDepth 100000 in
set_option maxHeartbeats 2000000 in
theorem rchanged_any (B P gn gw : Nat) (nv wv : Value) (ar us : Int) (now was : List (List Int)) (w : World) (h : RPw w B P gn gw nv wv ar us now was) (hl4 : now.length ≤ 4096) :
  Calls Tryz.prog 52 #[.pointer (some ⟨P, 0, none⟩)] w fun e w' => e = .returned (.int .i64 (difL now was now.length : Nat)) ∧ Below w.heap.size w w' := by
 have HI35 := hid (show (Tryz.prog.info? 50).map (·.size) = some 256 by kernel_rfl)
 have HH := hid h
 obtain ⟨cap, rfl⟩ := h.pg.nw.1
 obtain ⟨capw, rfl⟩ := h.ws.1
 have HLN := hid h.ln
 clear h
 go_enter Tryz.func52, Tryz.ntmps52
 go_wp2_with fail
 go_loopw [3, 4] (fun nv iv wr => ∃ i : Nat, nv = .int .i64 (difL now was i : Nat) ∧ iv = .int .i64 (i : Int) ∧ i ≤ now.length ∧ Below w.heap.size w wr) (fun _ iv _ => now.length - (intOf iv).toNat)
 case atStart => exact ⟨0, rfl, rfl, Nat.zero_le _, Below.refl _ _⟩
 case round =>
  obtain ⟨i, rfl, rfl, hi, hbw⟩ := hrel
  have HBW := hid hbw
  have HR := hid (HH.out.fresh hbw)
  have c0 := (cell_of_row _ P 0 _ _ _ HR.out.pg.box).trans (show (#[.slice (some ⟨gn, 0, none⟩) now.length cap, .slice (some ⟨gw, 0, none⟩) was.length capw, .int .i64 ar, .int .i64 us] : Array Value)[0]? = some (.slice (some ⟨gn, 0, none⟩) now.length cap) from rfl)
  have c1 := (cell_of_row _ P 1 _ _ _ HR.out.pg.box).trans (show (#[.slice (some ⟨gn, 0, none⟩) now.length cap, .slice (some ⟨gw, 0, none⟩) was.length capw, .int .i64 ar, .int .i64 us] : Array Value)[1]? = some (.slice (some ⟨gw, 0, none⟩) was.length capw) from rfl)
  by_cases hlt : i < now.length
  ·have hlt2 : (i : Int) < (now.length : Int) := by omega
   have hltw : (i : Int) < (was.length : Int) := by rw [HLN.out]; exact hlt2
   obtain ⟨l, hl⟩ : ∃ l, now[i]? = some l := ⟨_, List.getElem?_eq_getElem hlt⟩
   obtain ⟨m, hm⟩ : ∃ m, was[i]? = some m := ⟨_, List.getElem?_eq_getElem (by rw [HLN.out]; exact hlt)⟩
   have HDS := hid (difL_succ now was i l m hl hm)
   have HDL := hid (difL_le now was i)
   have hRd := HR.out.fresh ((Below.refl _ wr).drew)
   have HLL := hid (HR.out.pg.nw.2.2.2.1 i l hl).1
   have HML := hid (HR.out.ws.2.2.2.1 i m hm).1
   have HIM := hid (show (Tryz.prog.info? 50).map (·.size) = some (l.map (Value.int .u8)).length by rw [List.length_map, HLL.out]; exact HI35.out)
   have HIW := hid (show (Tryz.prog.info? 50).map (·.size) = some (m.map (Value.int .u8)).length by rw [List.length_map, HML.out]; exact HI35.out)
   have HS := hid (show wr.drew.heap[P]? = some (.cells #[.slice (some ⟨gn, 0, none⟩) now.length cap, .slice (some ⟨gw, 0, none⟩) was.length capw, .int .i64 ar, .int .i64 us] 44 (0, 0)) ∧ wr.drew.rangeAt gn (i * 256) (l.map (Value.int .u8)) ∧ wr.drew.rangeAt gw (i * 256) (m.map (Value.int .u8)) from ⟨hRd.pg.box, (bk_row hRd.pg.nw i l hl).1, (bk_row hRd.ws i m hm).1⟩)
   clear hbw hRd hl hm hlt
   have hdl := HDL.out
   by_cases hlm : l = m
   ·have HLM := hid hlm
    have HB := hid (show (!decide (l = m)) = false by rw [decide_eq_true hlm]; rfl)
    clear hlm
    go_wp2_with fail
    refine wp_region_held_drew (S := fun u => u.heap[P]? = some (.cells #[.slice (some ⟨gn, 0, none⟩) now.length cap, .slice (some ⟨gw, 0, none⟩) was.length capw, .int .i64 ar, .int .i64 us] 44 (0, 0)) ∧ u.rangeAt gn (i * 256) (l.map (Value.int .u8)) ∧ u.rangeAt gw (i * 256) (m.map (Value.int .u8))) (by kernel_rfl) (HS.out) (fun hHeld => ?_)
    refine tk (i := 0) (oi := ⟨some 14, .move (.tmp 0), 33, "ref.go:108", #[], none⟩) (v := ?_) (Or.inl ⟨by rfl, ?_⟩) ?_
    rotate_left 1
    ·(intro u hSw; go_simp; try with_reducible rfl)
    try simp only [Act.put, sA, sB, sC]
    refine tk (i := 1) (oi := ⟨some 15, .nilCheck (.tmp 14), 0, "ref.go:108", #[⟨0, .data⟩], none⟩) (v := ?_) (Or.inl ⟨by rfl, ?_⟩) ?_
    rotate_left 1
    ·(intro u hSw; go_simp; try with_reducible rfl)
    try simp only [Act.put, sA, sB, sC]
    refine tk (i := 2) (oi := ⟨some 16, .fieldAddr 44 (.tmp 15) 0, 0, "ref.go:108", #[⟨1, .data⟩], none⟩) (v := ?_) (Or.inl ⟨by rfl, ?_⟩) ?_
    rotate_left 1
    ·(intro u hSw; go_simp; try with_reducible rfl)
    try simp only [Act.put, sA, sB, sC]
    refine tk (i := 3) (oi := ⟨some 17, .load 25 (.tmp 16), 25, "ref.go:108", #[⟨2, .data⟩], none⟩) (v := ?_) (Or.inl ⟨by rfl, ?_⟩) ?_
    rotate_left 1
    ·(intro u hSw; have p0 := (cell_of_row u P 0 _ _ _ hSw.1).trans (show (#[.slice (some ⟨gn, 0, none⟩) now.length cap, .slice (some ⟨gw, 0, none⟩) was.length capw, .int .i64 ar, .int .i64 us] : Array Value)[0]? = some (.slice (some ⟨gn, 0, none⟩) now.length cap) from rfl); have p1 := (cell_of_row u P 1 _ _ _ hSw.1).trans (show (#[.slice (some ⟨gn, 0, none⟩) now.length cap, .slice (some ⟨gw, 0, none⟩) was.length capw, .int .i64 ar, .int .i64 us] : Array Value)[1]? = some (.slice (some ⟨gw, 0, none⟩) was.length capw) from rfl); go_simp; try with_reducible rfl)
    try simp only [Act.put, sA, sB, sC]
    refine tk (i := 4) (oi := ⟨some 18, .move (.tmp 4), 3, "ref.go:108", #[], none⟩) (v := ?_) (Or.inl ⟨by rfl, ?_⟩) ?_
    rotate_left 1
    ·(intro u hSw; go_simp; try with_reducible rfl)
    try simp only [Act.put, sA, sB, sC]
    refine tk (i := 5) (oi := ⟨some 19, .indexAddr 25 (.tmp 17) (.tmp 18), 0, "ref.go:108", #[⟨3, .data⟩, ⟨4, .data⟩], none⟩) (v := ?_) (Or.inl ⟨by rfl, ?_⟩) ?_
    rotate_left 1
    ·(intro u hSw; go_simp; try with_reducible rfl)
    try simp only [Act.put, sA, sB, sC]
    refine tk (i := 6) (oi := ⟨some 20, .load 50 (.tmp 19), 50, "ref.go:108", #[⟨5, .data⟩], none⟩) (v := ?_) (Or.inl ⟨by rfl, ?_⟩) ?_
    rotate_left 1
    ·intro u hSw
     refine exec_load_mid 50 (Operand.tmp 19) ?_ gn (i * 256) ?_ (l.map (Value.int .u8)) _ hSw.2.1 Tryz.underlying50 rfl HIM.out <;> rfl
    try simp only [Act.put, sA, sB, sC]
    refine tk (i := 7) (oi := ⟨some 21, .move (.tmp 0), 33, "ref.go:108", #[], none⟩) (v := ?_) (Or.inl ⟨by rfl, ?_⟩) ?_
    rotate_left 1
    ·(intro u hSw; go_simp; try with_reducible rfl)
    try simp only [Act.put, sA, sB, sC]
    refine tk (i := 8) (oi := ⟨some 22, .nilCheck (.tmp 21), 0, "ref.go:108", #[⟨7, .data⟩], none⟩) (v := ?_) (Or.inl ⟨by rfl, ?_⟩) ?_
    rotate_left 1
    ·(intro u hSw; go_simp; try with_reducible rfl)
    try simp only [Act.put, sA, sB, sC]
    refine tk (i := 9) (oi := ⟨some 23, .fieldAddr 44 (.tmp 22) 1, 0, "ref.go:108", #[⟨8, .data⟩], none⟩) (v := ?_) (Or.inl ⟨by rfl, ?_⟩) ?_
    rotate_left 1
    ·(intro u hSw; go_simp; try with_reducible rfl)
    try simp only [Act.put, sA, sB, sC]
    refine tk (i := 10) (oi := ⟨some 24, .load 25 (.tmp 23), 25, "ref.go:108", #[⟨9, .data⟩], none⟩) (v := ?_) (Or.inl ⟨by rfl, ?_⟩) ?_
    rotate_left 1
    ·(intro u hSw; have p0 := (cell_of_row u P 0 _ _ _ hSw.1).trans (show (#[.slice (some ⟨gn, 0, none⟩) now.length cap, .slice (some ⟨gw, 0, none⟩) was.length capw, .int .i64 ar, .int .i64 us] : Array Value)[0]? = some (.slice (some ⟨gn, 0, none⟩) now.length cap) from rfl); have p1 := (cell_of_row u P 1 _ _ _ hSw.1).trans (show (#[.slice (some ⟨gn, 0, none⟩) now.length cap, .slice (some ⟨gw, 0, none⟩) was.length capw, .int .i64 ar, .int .i64 us] : Array Value)[1]? = some (.slice (some ⟨gw, 0, none⟩) was.length capw) from rfl); go_simp; try with_reducible rfl)
    try simp only [Act.put, sA, sB, sC]
    refine tk (i := 11) (oi := ⟨some 25, .move (.tmp 4), 3, "ref.go:108", #[], none⟩) (v := ?_) (Or.inl ⟨by rfl, ?_⟩) ?_
    rotate_left 1
    ·(intro u hSw; go_simp; try with_reducible rfl)
    try simp only [Act.put, sA, sB, sC]
    refine tk (i := 12) (oi := ⟨some 26, .indexAddr 25 (.tmp 24) (.tmp 25), 0, "ref.go:108", #[⟨10, .data⟩, ⟨11, .data⟩], none⟩) (v := ?_) (Or.inl ⟨by rfl, ?_⟩) ?_
    rotate_left 1
    ·(intro u hSw; go_simp; try with_reducible rfl)
    try simp only [Act.put, sA, sB, sC]
    refine tk (i := 13) (oi := ⟨some 27, .load 50 (.tmp 26), 50, "ref.go:108", #[⟨12, .data⟩], none⟩) (v := ?_) (Or.inl ⟨by rfl, ?_⟩) ?_
    rotate_left 1
    ·intro u hSw
     refine exec_load_mid 50 (Operand.tmp 26) ?_ gw (i * 256) ?_ (m.map (Value.int .u8)) _ hSw.2.2 Tryz.underlying50 rfl HIW.out <;> rfl
    try simp only [Act.put, sA, sB, sC]
    refine tk (i := 14) (oi := ⟨some 28, .binOp BinOp.neq 50 (.tmp 20) (.tmp 27) 50, 4, "ref.go:108", #[⟨6, .data⟩, ⟨13, .data⟩], none⟩) (v := ?_) (Or.inl ⟨by rfl, ?_⟩) ?_
    rotate_left 1
    ·intro u hSw
     refine exec_neq_blk (Operand.tmp 20) (Operand.tmp 27) 50 ?_ l m ?_ ?_ HLL.out HML.out false HB.out <;> rfl
    try simp only [Act.put, sA, sB, sC]
    refine wpAnyH_done (by kernel_rfl) ?_ _
    go_wp2_with fail
    go_roundw
    case rel => exact ⟨i + 1, by rw [HDS.out, if_pos HLM.out, Nat.add_zero], by go_num, by go_num, HBW.out.drew⟩
    case measure => simp [intOf]; omega
   ·have HLM := hid hlm
    have HB := hid (show (!decide (l = m)) = true by rw [decide_eq_false hlm]; rfl)
    clear hlm
    go_wp2_with fail
    refine wp_region_held_drew (S := fun u => u.heap[P]? = some (.cells #[.slice (some ⟨gn, 0, none⟩) now.length cap, .slice (some ⟨gw, 0, none⟩) was.length capw, .int .i64 ar, .int .i64 us] 44 (0, 0)) ∧ u.rangeAt gn (i * 256) (l.map (Value.int .u8)) ∧ u.rangeAt gw (i * 256) (m.map (Value.int .u8))) (by kernel_rfl) (HS.out) (fun hHeld => ?_)
    refine tk (i := 0) (oi := ⟨some 14, .move (.tmp 0), 33, "ref.go:108", #[], none⟩) (v := ?_) (Or.inl ⟨by rfl, ?_⟩) ?_
    rotate_left 1
    ·(intro u hSw; go_simp; try with_reducible rfl)
    try simp only [Act.put, sA, sB, sC]
    refine tk (i := 1) (oi := ⟨some 15, .nilCheck (.tmp 14), 0, "ref.go:108", #[⟨0, .data⟩], none⟩) (v := ?_) (Or.inl ⟨by rfl, ?_⟩) ?_
    rotate_left 1
    ·(intro u hSw; go_simp; try with_reducible rfl)
    try simp only [Act.put, sA, sB, sC]
    refine tk (i := 2) (oi := ⟨some 16, .fieldAddr 44 (.tmp 15) 0, 0, "ref.go:108", #[⟨1, .data⟩], none⟩) (v := ?_) (Or.inl ⟨by rfl, ?_⟩) ?_
    rotate_left 1
    ·(intro u hSw; go_simp; try with_reducible rfl)
    try simp only [Act.put, sA, sB, sC]
    refine tk (i := 3) (oi := ⟨some 17, .load 25 (.tmp 16), 25, "ref.go:108", #[⟨2, .data⟩], none⟩) (v := ?_) (Or.inl ⟨by rfl, ?_⟩) ?_
    rotate_left 1
    ·(intro u hSw; have p0 := (cell_of_row u P 0 _ _ _ hSw.1).trans (show (#[.slice (some ⟨gn, 0, none⟩) now.length cap, .slice (some ⟨gw, 0, none⟩) was.length capw, .int .i64 ar, .int .i64 us] : Array Value)[0]? = some (.slice (some ⟨gn, 0, none⟩) now.length cap) from rfl); have p1 := (cell_of_row u P 1 _ _ _ hSw.1).trans (show (#[.slice (some ⟨gn, 0, none⟩) now.length cap, .slice (some ⟨gw, 0, none⟩) was.length capw, .int .i64 ar, .int .i64 us] : Array Value)[1]? = some (.slice (some ⟨gw, 0, none⟩) was.length capw) from rfl); go_simp; try with_reducible rfl)
    try simp only [Act.put, sA, sB, sC]
    refine tk (i := 4) (oi := ⟨some 18, .move (.tmp 4), 3, "ref.go:108", #[], none⟩) (v := ?_) (Or.inl ⟨by rfl, ?_⟩) ?_
    rotate_left 1
    ·(intro u hSw; go_simp; try with_reducible rfl)
    try simp only [Act.put, sA, sB, sC]
    refine tk (i := 5) (oi := ⟨some 19, .indexAddr 25 (.tmp 17) (.tmp 18), 0, "ref.go:108", #[⟨3, .data⟩, ⟨4, .data⟩], none⟩) (v := ?_) (Or.inl ⟨by rfl, ?_⟩) ?_
    rotate_left 1
    ·(intro u hSw; go_simp; try with_reducible rfl)
    try simp only [Act.put, sA, sB, sC]
    refine tk (i := 6) (oi := ⟨some 20, .load 50 (.tmp 19), 50, "ref.go:108", #[⟨5, .data⟩], none⟩) (v := ?_) (Or.inl ⟨by rfl, ?_⟩) ?_
    rotate_left 1
    ·intro u hSw
     refine exec_load_mid 50 (Operand.tmp 19) ?_ gn (i * 256) ?_ (l.map (Value.int .u8)) _ hSw.2.1 Tryz.underlying50 rfl HIM.out <;> rfl
    try simp only [Act.put, sA, sB, sC]
    refine tk (i := 7) (oi := ⟨some 21, .move (.tmp 0), 33, "ref.go:108", #[], none⟩) (v := ?_) (Or.inl ⟨by rfl, ?_⟩) ?_
    rotate_left 1
    ·(intro u hSw; go_simp; try with_reducible rfl)
    try simp only [Act.put, sA, sB, sC]
    refine tk (i := 8) (oi := ⟨some 22, .nilCheck (.tmp 21), 0, "ref.go:108", #[⟨7, .data⟩], none⟩) (v := ?_) (Or.inl ⟨by rfl, ?_⟩) ?_
    rotate_left 1
    ·(intro u hSw; go_simp; try with_reducible rfl)
    try simp only [Act.put, sA, sB, sC]
    refine tk (i := 9) (oi := ⟨some 23, .fieldAddr 44 (.tmp 22) 1, 0, "ref.go:108", #[⟨8, .data⟩], none⟩) (v := ?_) (Or.inl ⟨by rfl, ?_⟩) ?_
    rotate_left 1
    ·(intro u hSw; go_simp; try with_reducible rfl)
    try simp only [Act.put, sA, sB, sC]
    refine tk (i := 10) (oi := ⟨some 24, .load 25 (.tmp 23), 25, "ref.go:108", #[⟨9, .data⟩], none⟩) (v := ?_) (Or.inl ⟨by rfl, ?_⟩) ?_
    rotate_left 1
    ·(intro u hSw; have p0 := (cell_of_row u P 0 _ _ _ hSw.1).trans (show (#[.slice (some ⟨gn, 0, none⟩) now.length cap, .slice (some ⟨gw, 0, none⟩) was.length capw, .int .i64 ar, .int .i64 us] : Array Value)[0]? = some (.slice (some ⟨gn, 0, none⟩) now.length cap) from rfl); have p1 := (cell_of_row u P 1 _ _ _ hSw.1).trans (show (#[.slice (some ⟨gn, 0, none⟩) now.length cap, .slice (some ⟨gw, 0, none⟩) was.length capw, .int .i64 ar, .int .i64 us] : Array Value)[1]? = some (.slice (some ⟨gw, 0, none⟩) was.length capw) from rfl); go_simp; try with_reducible rfl)
    try simp only [Act.put, sA, sB, sC]
    refine tk (i := 11) (oi := ⟨some 25, .move (.tmp 4), 3, "ref.go:108", #[], none⟩) (v := ?_) (Or.inl ⟨by rfl, ?_⟩) ?_
    rotate_left 1
    ·(intro u hSw; go_simp; try with_reducible rfl)
    try simp only [Act.put, sA, sB, sC]
    refine tk (i := 12) (oi := ⟨some 26, .indexAddr 25 (.tmp 24) (.tmp 25), 0, "ref.go:108", #[⟨10, .data⟩, ⟨11, .data⟩], none⟩) (v := ?_) (Or.inl ⟨by rfl, ?_⟩) ?_
    rotate_left 1
    ·(intro u hSw; go_simp; try with_reducible rfl)
    try simp only [Act.put, sA, sB, sC]
    refine tk (i := 13) (oi := ⟨some 27, .load 50 (.tmp 26), 50, "ref.go:108", #[⟨12, .data⟩], none⟩) (v := ?_) (Or.inl ⟨by rfl, ?_⟩) ?_
    rotate_left 1
    ·intro u hSw
     refine exec_load_mid 50 (Operand.tmp 26) ?_ gw (i * 256) ?_ (m.map (Value.int .u8)) _ hSw.2.2 Tryz.underlying50 rfl HIW.out <;> rfl
    try simp only [Act.put, sA, sB, sC]
    refine tk (i := 14) (oi := ⟨some 28, .binOp BinOp.neq 50 (.tmp 20) (.tmp 27) 50, 4, "ref.go:108", #[⟨6, .data⟩, ⟨13, .data⟩], none⟩) (v := ?_) (Or.inl ⟨by rfl, ?_⟩) ?_
    rotate_left 1
    ·intro u hSw
     refine exec_neq_blk (Operand.tmp 20) (Operand.tmp 27) 50 ?_ l m ?_ ?_ HLL.out HML.out true HB.out <;> rfl
    try simp only [Act.put, sA, sB, sC]
    refine wpAnyH_done (by kernel_rfl) ?_ _
    go_wp2_with fail
    go_roundw
    case rel => exact ⟨i + 1, by rw [HDS.out, if_neg HLM.out]; go_num, by go_num, by go_num, HBW.out.drew⟩
    case measure => simp [intOf]; omega
  ·obtain rfl : i = now.length := by omega
   go_wp2_with fail
   go_ret
   exact ⟨rfl, HBW.out⟩
/-- the pager's list of pages is another, in a block of its own -/
theorem RPw.abort {w w' : World} {B P gn gw : Nat} {nv wv nv' : Value} {ar us : Int} {now was : List (List Int)} (h : RPw w B P gn gw nv wv ar us now was) (g' : Nat) (hb : Below w.heap.size w w') (hn : BkC w' B g' nv' was) (hg : w.heap.size ≤ g') :
  RPw (w'.setCell ⟨P, 0, none⟩ nv') B P g' gw nv' wv ar us was was ∧ Chg (fun q => q = P) w (w'.setCell ⟨P, 0, none⟩ nv') := by
 have hc1 : Chg (fun q => q = P) w w' := Chg.fresh hb
 have h1 := h.fresh hb
 have hc : Chg (fun q => q = P) w' (w'.setCell ⟨P, 0, none⟩ nv') := (Chg.refl _ w').setCell ⟨P, 0, none⟩ _ (.inl rfl)
 have hP := h.pg.lt.1
 have hW := h.ws.2.2.1
 exact ⟨{ pg := { box := heap_setCell_same w' P 0 _ _ _ h1.pg.box, nw := hn.of (hc.block g' hn.2.2.1 (by omega)) (Nat.lt_of_lt_of_le hn.2.2.1 hc.size), np := by omega, bp := h.pg.bp, rg := h.rw, ne := (by rw [h.ln]; exact h.pg.ne) }, ws := h1.ws.of (hc.block gw h1.ws.2.2.1 (fun e => h.gp e.symm)) (Nat.lt_of_lt_of_le h1.ws.2.2.1 hc.size), ng := by omega, gp := h.gp, ln := rfl, rw := h.rw }, hc1.trans hc (fun _ h => .inl h)⟩
theorem RPw.done {w w' : World} {B P gn gw : Nat} {nv wv wv' : Value} {ar us : Int} {now was : List (List Int)} (h : RPw w B P gn gw nv wv ar us now was) (g' : Nat) (hb : Below w.heap.size w w') (hn : BkC w' B g' wv' now) (hg : w.heap.size ≤ g') :
  RPw (w'.setCell ⟨P, 1, none⟩ wv') B P gn g' nv wv' ar us now now ∧ Chg (fun q => q = P) w (w'.setCell ⟨P, 1, none⟩ wv') := by
 have hc1 : Chg (fun q => q = P) w w' := Chg.fresh hb
 have h1 := h.fresh hb
 have hc : Chg (fun q => q = P) w' (w'.setCell ⟨P, 1, none⟩ wv') := (Chg.refl _ w').setCell ⟨P, 1, none⟩ _ (.inl rfl)
 have hP := h.pg.lt.1
 have hN := h.pg.lt.2
 exact ⟨{ pg := { box := heap_setCell_same w' P 1 _ _ _ h1.pg.box, nw := h1.pg.nw.of (hc.block gn h1.pg.nw.2.2.1 (fun e => h.pg.np e.symm)) (Nat.lt_of_lt_of_le h1.pg.nw.2.2.1 hc.size), np := h.pg.np, bp := h.pg.bp, rg := h.pg.rg, ne := h.pg.ne }, ws := hn.of (hc.block g' hn.2.2.1 (by omega)) (Nat.lt_of_lt_of_le hn.2.2.1 hc.size), ng := by omega, gp := by omega, ln := rfl, rw := h.pg.rg }, hc1.trans hc (fun _ h => .inl h)⟩
set_option maxRecDepth 100000 in
set_option maxHeartbeats 1000000 in
theorem rabort_any (B P gn gw : Nat) (nv wv : Value) (ar us : Int) (now was : List (List Int)) (w : World) (h : RPw w B P gn gw nv wv ar us now was) (hl4 : now.length ≤ 4096) :
  Calls Tryz.prog 11 #[.pointer (some ⟨P, 0, none⟩)] w fun e w' => e = .returned (.tuple #[]) ∧ (∃ g' nv', RPw w' B P g' gw nv' wv ar us was was ∧ w.heap.size ≤ g') ∧ Chg (fun q => q = P) w w' := by
 obtain ⟨cap', g', w8, happ, hb8, hbl, hge⟩ := copy_bk w 25 B gw wv was h.ws (by rw [h.ln]; exact h.pg.ne) (by rw [h.ln]; exact hl4) (Nat.le_of_lt (Nat.lt_of_le_of_lt h.pg.bp h.pg.lt.1)) w.heap.size rfl
 have HF := hid (h.abort g' hbl hb8 hge)
 have HG := hid hge
 have HAPP := hid happ
 obtain ⟨capw, rfl⟩ := h.ws.1
 have hb1 : Below w.heap.size w (w.alloc (.cells #[] 50)) := (Below.refl _ _).alloc (Nat.le_refl _) _
 have c1 := (cell_of_row _ P 1 _ _ _ h.pg.box).trans (show (#[nv, .slice (some ⟨gw, 0, none⟩) was.length capw, .int .i64 ar, .int .i64 us] : Array Value)[1]? = some (.slice (some ⟨gw, 0, none⟩) was.length capw) from rfl)
 have c1a := (cell_of_row _ P 1 _ _ _ (h.fresh hb1).pg.box).trans (show (#[nv, .slice (some ⟨gw, 0, none⟩) was.length capw, .int .i64 ar, .int .i64 us] : Array Value)[1]? = some (.slice (some ⟨gw, 0, none⟩) was.length capw) from rfl)
 have c0 := (cell_of_row _ P 0 _ _ _ (h.fresh hbl).pg.box).trans (show (#[nv, .slice (some ⟨gw, 0, none⟩) was.length capw, .int .i64 ar, .int .i64 us] : Array Value)[0]? = some nv from rfl)
 have f0 := frozen_of_row w8 P 0 _ _ (h.fresh hbl).pg.box
 clear h hge hb8 hbl happ hb1
 go_enter Tryz.func11, Tryz.ntmps11
 go_wp2_with (first
  | (refine wpList_of_run rfl (exec_bslice 25 0 #[] rfl #[] rfl _ (run_empty_blocks _)) ?_)
  | (at_builtin; refine wpList_of_run rfl (exec_append (Operand.tmp 3) (Operand.tmp 7) 25 rfl _ _ rfl rfl HAPP.out) ?_))
 all_goals go_end0
 all_goals exact ⟨rfl, ⟨g', _, HF.out.1, HG.out⟩, HF.out.2⟩
end Go.Proofs.YtdkjkibdncbibaaGreat
