/- play, on a disk without faults -/
import Derived.Test.YthdkmnagfjpjcaaGreatFm27
import Derived.Test.YthdkmnagfjpjcaaGreatFm29
namespace Go.Proofs.YthdkmnagfjpjcaaGreat
open Go.RowKit
theorem wpList_build_lit {P : Program} {w : World} {ops : Array Oper} {rest : List Oper} {o : Oper} {a : Act} {Q : Exit → Act → World → Prop} (hgd : o.guard = none) (t e : TypeId)
  (ho : o.op = .buildSlice t 0 #[]) (hrun : ∀ w : World, (Instr.buildSlice t 0 #[]).run P w = .ok (.slice (some ⟨w.heap.size, 0, none⟩) 0 0) (w.alloc (.cells #[] e)))
  (u : World) (hu : u = w) (n : Nat) (hn : u.heap.size = n)
  (h : wpList P ops Q rest (a.put o.dst (.slice (some ⟨n, 0, none⟩) 0 0)) (u.alloc (.cells #[] e))) : wpList P ops Q (o :: rest) a w := by
 subst hu hn
 refine wpList_plain hgd fun K hK => ?_
 unfold Oper.wp
 simp [execOp, ho, hrun, Result.andThen, Oper.upon]
 exact hK _ _ h
theorem three_new (w : World) (a b c : Obj) : (((w.alloc a).alloc b).alloc c).heap[w.heap.size]? = some a ∧ (((w.alloc a).alloc b).alloc c).heap[w.heap.size + 1]? = some b ∧ (((w.alloc a).alloc b).alloc c).heap[w.heap.size + 1 + 1]? = some c := by
 have e1 : (w.alloc a).heap.size = w.heap.size + 1 := by simp
 have e2 : ((w.alloc a).alloc b).heap.size = w.heap.size + 1 + 1 := by simp
 refine ⟨?_, ?_, ?_⟩
 ·exact (((Below.refl _ _).alloc (Nat.le_refl _) c).block _ (by omega)).trans ((((Below.refl _ _).alloc (Nat.le_refl _) b).block _ (by omega)).trans (heap_alloc_new _ _))
 ·exact (((Below.refl _ _).alloc (Nat.le_refl _) c).block _ (by omega)).trans (by rw [← e1]; exact heap_alloc_new _ _)
 ·rw [← e2, heap_alloc_new]
theorem pb_cells {u : World} {H : Nat} {v v' : Value} {a s : Int} (h : u.heap[H]? = some (PB v v' a s)) : u.cell? ⟨H, 0, none⟩ = some v ∧ u.cell? ⟨H, 1, none⟩ = some v' ∧ u.cell? ⟨H, 2, none⟩ = some (.int .i64 a) ∧ u.cell? ⟨H, 3, none⟩ = some (.int .i64 s) :=
 ⟨cell_of_row _ H 0 _ _ _ h, cell_of_row _ H 1 _ _ _ h, cell_of_row _ H 2 _ _ _ h, cell_of_row _ H 3 _ _ _ h⟩
theorem bl_al5 {a w : World} (h : Below a.heap.size a w) (o : Obj) : Below a.heap.size a (w.alloc o) := h.alloc h.size o
theorem u_get_p {k : PK} {Bx P : Nat} {t : TU} {w : World} (h : TwoU k Bx P t w) (n : Int) (hn : n ≤ 9223372036854775807) :
  Calls Tryz.prog 20 #[.pointer (some ⟨k.P, 0, none⟩), .int .i64 n] w fun e w1 => (∃ (l : List Int) (E : Int), l.length = 256 ∧ e = .returned (.tuple #[.agg (ArrU8 l), .int .i64 E])) ∧ ∃ t', UE k Bx P t w t' w1 ∧ Keep t t' := by
 refine (p1_get ⟨h.pg, h.pl, h.pj, h.pm, h.w0⟩ n hn).mono ?_
 rintro e w1 ⟨rfl, hl, v', hp, hnl, -⟩
 exact ⟨⟨_, _, hl, rfl⟩, _, h.both hp.2.1 (Below.refl _ _) (Chg.refl _ _) (h.prog hp.2.1).1 (.inl rfl) (.inl rfl) h.ur hp.1.pl hp.1.pj hp.1.pm h.w0 (by rw [hnl]; exact h.rn) h.rw (by have := hp.2.2.2.1; omega) (by have := hp.2.2.2.2; omega), hp.2.2.1, rfl, rfl, rfl, hp.2.2.2.1, hp.2.2.2.2⟩
set_option maxRecDepth 100000 in
set_option maxHeartbeats 12800000 in
theorem play_any (k : PK) (Bx P B0 : Nat) (w0 : World) (t : TU) (w : World) (v : Value) (xs : List S5) (h : TwoU k Bx P t w) (hcm : Calm2 k t.v) (hL : t.v.s.L = []) (ha : t.v.a ≤ 1) (hb : t.v.b ≤ 1)
  (hv : Steps5 w0 v xs) (hl : xs.length ≤ 1048576) (hbw : Below B0 w0 w) (hB0 : B0 ≤ w.heap.size) (hw0 : w0.heap.size ≤ B0) (hap : ∀ g, UF k P t g → B0 ≤ g) (hnw : t.now = t.was) :
  Calls Tryz.prog 16 #[.pointer (some ⟨k.D, 0, none⟩), .pointer (some ⟨k.P, 0, none⟩), .pointer (some ⟨P, 0, none⟩), v] w fun e w' =>
   ∃ t' gf cap a n c u1 u2, e = .returned (.tuple #[.agg #[.slice (some ⟨gf, 0, none⟩) t'.was.length cap, .slice a n c, .int .i64 u1, .int .i64 u2], .agg #[.slice (some ⟨gf, 0, none⟩) t'.was.length cap, .slice a n c, .int .i64 u1, .int .i64 u2]]) ∧
    BkC w' Bx gf (.slice (some ⟨gf, 0, none⟩) t'.was.length cap) t'.was ∧ TwoU k Bx P t' w' ∧ Calm2 k t'.v ∧ t'.v.s.L = [] ∧ t'.v.a ≤ 1 + 2 * xs.length ∧ t'.v.b ≤ 1 + xs.length ∧ Below B0 w0 w' ∧ (∀ g, UF k P t' g → B0 ≤ g ∧ g ≠ gf) ∧ B0 ≤ gf := by
 have hplt := h.rf.pg.lt.1
 have hBx : Bx ≤ w.heap.size := Nat.le_of_lt (Nat.lt_of_le_of_lt h.rf.pg.bp hplt)
 obtain ⟨u, hu⟩ : ∃ u, u = ((w.alloc (PB (.slice none 0 0) (.slice none 0 0) 0 0)).alloc (PB (.slice none 0 0) (.slice none 0 0) 0 0)).alloc (PB t.nv t.wv ((k.sz - 2) * 256) t.us) := ⟨_, rfl⟩
 have hbu : Below w.heap.size w u := by rw [hu]; exact bl_al5 (bl_al5 (bl_al5 (Below.refl _ _) _) _) _
 have hus : u.heap.size = w.heap.size + 1 + 1 + 1 := by rw [hu]; simp
 have htu : TwoU k Bx P t u := h.chg (Chg.fresh (F := fun _ => False) hbu) (fun _ _ e => e)
 have hlen : 0 < t.now.length := h.rf.pg.ne
 obtain ⟨capf, gf, w8, happ, hbk8, hbl8, hge8⟩ := copy_bk u 25 Bx t.gn t.nv t.now htu.rf.pg.nw hlen htu.len (by omega) (w.heap.size + 1 + 1 + 1) hus
 obtain ⟨capn, hnv⟩ := h.rf.pg.nw.1
 obtain ⟨capw, hwv⟩ := h.rf.ws.1
 have r0 := (cell_of_row _ P 0 _ _ _ htu.rf.pg.box).trans (show (#[t.nv, t.wv, .int .i64 ((k.sz - 2) * 256), .int .i64 t.us] : Array Value)[0]? = some t.nv from rfl)
 have q0 := (cell_of_row _ P 0 _ _ _ h.rf.pg.box).trans (show (#[t.nv, t.wv, .int .i64 ((k.sz - 2) * 256), .int .i64 t.us] : Array Value)[0]? = some t.nv from rfl)
 have q1 := (cell_of_row _ P 1 _ _ _ h.rf.pg.box).trans (show (#[t.nv, t.wv, .int .i64 ((k.sz - 2) * 256), .int .i64 t.us] : Array Value)[1]? = some t.wv from rfl)
 have q2 := (cell_of_row _ P 2 _ _ _ h.rf.pg.box).trans (show (#[t.nv, t.wv, .int .i64 ((k.sz - 2) * 256), .int .i64 t.us] : Array Value)[2]? = some (.int .i64 ((k.sz - 2) * 256)) from rfl)
 have q3 := (cell_of_row _ P 3 _ _ _ h.rf.pg.box).trans (show (#[t.nv, t.wv, .int .i64 ((k.sz - 2) * 256), .int .i64 t.us] : Array Value)[3]? = some (.int .i64 t.us) from rfl)
 rw [hnv] at r0 q0 happ hu
 rw [hwv] at q1 hu
 generalize (k.sz - 2) * 256 = arr at *
 have HAPP := Lib.hid happ
 have HU := Lib.hid hu
 have hpu : P < u.heap.size := htu.rf.pg.lt.1
 have hb1 : Below u.heap.size u (u.alloc (.cells #[] 50)) := (Below.refl _ _).alloc (Nat.le_refl _) _
 have r0c := (hb1.cell (p := ⟨P, 0, none⟩) hpu).trans r0
 have hp := three_new w (PB (.slice none 0 0) (.slice none 0 0) 0 0) (PB (.slice none 0 0) (.slice none 0 0) 0 0) (PB (.slice (some ⟨t.gn, 0, none⟩) t.now.length capn) (.slice (some ⟨t.gw, 0, none⟩) t.was.length capw) arr t.us)
 rw [← hu] at hp
 obtain ⟨hp8, hp9, hp10⟩ := hp
 replace hp8 := (hbl8.block _ (by omega)).trans hp8
 replace hp9 := (hbl8.block _ (by omega)).trans hp9
 replace hp10 := (hbl8.block _ (by omega)).trans hp10
 obtain ⟨d0, d1, d2, d3⟩ := pb_cells hp10
 have ff0 := frozen_of_row w8 (w.heap.size + 1 + 1) 0 _ _ hp10
 have hl10 := hlt5 hp10
 have HST := Lib.hid (pl_start (n := w.heap.size) htu hcm hL ha hb (hbw.trans (hbu.mono hB0)) hB0 hus hbl8 (fun g hg => ⟨hap g hg, h.lt g hg⟩) hp8 hp9 hp10 (by omega) (hnw ▸ hbk8))
 have HP8 := Lib.hid (And.intro hp8 (And.intro hp9 hp10))
 have HN8 := Lib.hid (And.intro hbk8 (And.intro hbl8 hge8))
 have HTU := Lib.hid htu
 have HUS := Lib.hid hus
 have hz44 : ∀ w : World, (zeroValue 44).run Tryz.prog w = .ok (.agg #[.slice none 0 0, .slice none 0 0, .int .i64 0, .int .i64 0]) w := fun w => by kernel_rfl
 clear happ hu r0 hb1 hbk8 hbl8 hge8 htu hus hbu hp8 hp9 hp10
 have HV := Lib.hid hv
 have HNW := Lib.hid hnw
 clear hnw h hcm hL ha hb hv hbw hap
 go_enter Tryz.func16, Tryz.ntmps16
 go_wp2_with (first
  | (refine wpList_build_lit (o := ⟨some 18, _, _, _, _, _⟩) rfl 25 50 rfl run_empty_blocks u HU.out (w.heap.size + 1 + 1 + 1) HUS.out ?_)
  | (at_builtin; refine wpList_of_run rfl (exec_append (Operand.tmp 18) (Operand.tmp 22) 25 rfl _ _ rfl rfl HAPP.out) ?_))
 generalize w8.heap.size = F11 at *
 generalize w.heap.size + 1 + 1 = F10 at *
 generalize w.heap.size + 1 = F9 at *
 generalize w.heap.size = F8 at *
 clear d0 d1 d2 d3 ff0 hl10 HP8 HN8 HTU HUS HU HAPP r0c q0 q1 q2 q3 hpu
 obtain ⟨va, vc, rfl, -⟩ := HV.out
 go_loopw [12] (fun iv wr => ∃ (i : Nat) (t1 : TU) (gf1 : Nat), iv = .int .i64 (i : Int) ∧ i ≤ xs.length ∧ PlI k Bx P F8 F9 F10 F11 B0 w0 i wr t1 gf1) (fun iv _ => xs.length - (intOf iv).toNat)
 case atStart => exact ⟨0, t, gf, rfl, Nat.zero_le _, by rw [HNW.out]; exact HST.out⟩
 case round =>
  obtain ⟨i, t1, gf1, rfl, hi, hI⟩ := hrel
  have hbwr := hI.bw
  have hvw := HV.out.below (hbwr.mono hw0)
  by_cases hlt : i < xs.length
  ·obtain ⟨a', cap', hv', hvc⟩ := hvw
   simp only [Value.slice.injEq, true_and] at hv'
   obtain ⟨rfl, rfl⟩ := hv'
   obtain ⟨vb, vo, hva, hvl, hvx⟩ := hvc (by omega)
   subst hva
   obtain ⟨x, hx⟩ : ∃ x, xs[i]? = some x := ⟨_, List.getElem?_eq_getElem hlt⟩
   obtain ⟨c0, c1, c2, hok⟩ := hvx i x hx
   obtain ⟨xk, xn, xb⟩ := x
   have HOK := Lib.hid hok
   simp only at c0 c1 c2
   have hci : (i : Int) < (xs.length : Int) := by omega
   have HX := Lib.hid (heap_alloc_new wr (.cells #[.int .i64 xk, .int .i64 xn, .int .u8 xb] 36))
   have HI := Lib.hid (hI.fresh (u := wr.alloc (.cells #[.int .i64 xk, .int .i64 xn, .int .u8 xb] 36)) ((Below.refl _ _).alloc (Nat.le_refl _) _))
   have HNB := Lib.hid (show ¬ UF k P t1 wr.heap.size from fun e => Nat.lt_irrefl _ (hI.tw.lt _ e))
   have d1 := (cell_of_row _ wr.heap.size 1 _ _ _ HX.out).trans (show (#[Value.int .i64 xk, .int .i64 xn, .int .u8 xb] : Array Value)[1]? = some (.int .i64 xn) from rfl)
   have d2 := (cell_of_row _ wr.heap.size 2 _ _ _ HX.out).trans (show (#[Value.int .i64 xk, .int .i64 xn, .int .u8 xb] : Array Value)[2]? = some (.int .u8 xb) from rfl)
   clear hI hbwr hvc hvx hx hok
   by_cases hk0 : xk = 0
   ·subst hk0
    have HBL := Lib.hid (fun u => block5_any xb u HOK.out.hb.1)
    clear d1 d2
    go_wp2_with fail
    refine wp_region_held_drew (S := fun u => u.heap[wr.heap.size]? = some (.cells #[.int .i64 0, .int .i64 xn, .int .u8 xb] 36 (0, 0))) (by kernel_rfl) (HX.out) (fun hHeld => ?_)
    refine wpAnyH_take (i := 0) (oi := ({ dst := some 44, op := .move (.tmp 1), type := 30, pos := "law.go:199", after := #[], guard := none } : Oper)) (v := ?_) rfl (by kernel_rfl) (by kernel_rfl) (by kernel_rfl) (fun _ _ _ h => h) (Or.inl ⟨by rfl, ?_⟩) (by assumption) ?_
    rotate_left 1
    ·(intro u hSw; go_simp; try with_reducible rfl)
    try simp only [Act.put, List.setIfInBounds_toArray, List.set_cons_zero, List.set_cons_succ]
    refine wpAnyH_take (i := 1) (oi := ({ dst := some 45, op := .fieldAddr 36 (.tmp 13) 1, type := 0, pos := "law.go:199", after := #[], guard := none } : Oper)) (v := ?_) rfl (by kernel_rfl) (by kernel_rfl) (by kernel_rfl) (fun _ _ _ h => h) (Or.inl ⟨by rfl, ?_⟩) (by assumption) ?_
    rotate_left 1
    ·(intro u hSw; go_simp; try with_reducible rfl)
    try simp only [Act.put, List.setIfInBounds_toArray, List.set_cons_zero, List.set_cons_succ]
    refine wpAnyH_take (i := 2) (oi := ({ dst := some 46, op := .load 3 (.tmp 45), type := 3, pos := "law.go:199", after := #[{ on := 1, ground := .data }], guard := none } : Oper)) (v := ?_) rfl (by kernel_rfl) (by kernel_rfl) (by kernel_rfl) (fun _ _ _ h => h) (Or.inl ⟨by rfl, ?_⟩) (by assumption) ?_
    rotate_left 1
    ·(intro u hSw; have p1 := (cell_of_row u wr.heap.size 1 _ _ _ hSw).trans (show (#[Value.int .i64 0, .int .i64 xn, .int .u8 xb] : Array Value)[1]? = some (.int .i64 xn) from rfl); have p2 := (cell_of_row u wr.heap.size 2 _ _ _ hSw).trans (show (#[Value.int .i64 0, .int .i64 xn, .int .u8 xb] : Array Value)[2]? = some (.int .u8 xb) from rfl); go_simp; try with_reducible rfl)
    try simp only [Act.put, List.setIfInBounds_toArray, List.set_cons_zero, List.set_cons_succ]
    refine wpAnyH_take (i := 3) (oi := ({ dst := some 47, op := .fieldAddr 36 (.tmp 13) 2, type := 0, pos := "law.go:199", after := #[], guard := none } : Oper)) (v := ?_) rfl (by kernel_rfl) (by kernel_rfl) (by kernel_rfl) (fun _ _ _ h => h) (Or.inl ⟨by rfl, ?_⟩) (by assumption) ?_
    rotate_left 1
    ·(intro u hSw; go_simp; try with_reducible rfl)
    try simp only [Act.put, List.setIfInBounds_toArray, List.set_cons_zero, List.set_cons_succ]
    refine wpAnyH_take (i := 4) (oi := ({ dst := some 48, op := .load 5 (.tmp 47), type := 5, pos := "law.go:199", after := #[{ on := 3, ground := .data }], guard := none } : Oper)) (v := ?_) rfl (by kernel_rfl) (by kernel_rfl) (by kernel_rfl) (fun _ _ _ h => h) (Or.inl ⟨by rfl, ?_⟩) (by assumption) ?_
    rotate_left 1
    ·(intro u hSw; have p1 := (cell_of_row u wr.heap.size 1 _ _ _ hSw).trans (show (#[Value.int .i64 0, .int .i64 xn, .int .u8 xb] : Array Value)[1]? = some (.int .i64 xn) from rfl); have p2 := (cell_of_row u wr.heap.size 2 _ _ _ hSw).trans (show (#[Value.int .i64 0, .int .i64 xn, .int .u8 xb] : Array Value)[2]? = some (.int .u8 xb) from rfl); go_simp; try with_reducible rfl)
    try simp only [Act.put, List.setIfInBounds_toArray, List.set_cons_zero, List.set_cons_succ]
    refine wpAnyH_ready (rs := [5]) (by kernel_rfl) (by simp) ?_
    refine AllReadyH.cons (o := ({ dst := some 49, op := .call { callee := Callee.value (Operand.func 24), args := #[.tmp 48], argTypes := #[5] }, type := 50, pos := "law.go:199", after := #[{ on := 4, ground := .data }], guard := none } : Oper)) rfl (fun K hK => ?_) AllReadyH.nil
    go_simp
    refine (HBL.out _).mono ?_
    rintro e w1 ⟨rfl, hb1⟩
    have HX1 := Lib.hid ((hb1.block wr.heap.size (hlt5 HX.out)).trans HX.out)
    have HI1 := Lib.hid (HI.out.fresh (u := w1) ((Below.refl _ _).drew.trans hb1))
    have HC := Lib.hid (u_put HI1.out.tw xn (blk5 xb) HOK.out.hn.2 (blk5_len xb) (blk5_rng xb HOK.out.hb.1))
    clear hb1
    go_wp2_with fail
    refine hK.out _ _ HX1.out (fun hHeld => ?_)
    clear hK K
    try simp only [Act.put, List.setIfInBounds_toArray, List.set_cons_zero, List.set_cons_succ]
    refine wpAnyH_ready (rs := [6]) (by kernel_rfl) (by simp) ?_
    refine AllReadyH.cons (o := ({ dst := some 50, op := .call { callee := Callee.value (Operand.func 23), args := #[.tmp 44, .tmp 46, .tmp 49], argTypes := #[30, 3, 50] }, type := 28, pos := "law.go:199", after := #[{ on := 0, ground := .data }, { on := 2, ground := .data }, { on := 5, ground := .data }, { on := 5, ground := .chain }], guard := none } : Oper)) rfl (fun K hK => ?_) AllReadyH.nil
    go_simp
    refine HC.out.mono ?_
    rintro e w2 ⟨E, rfl, hc, hnx⟩
    have HX2 := Lib.hid ((hc.block wr.heap.size (hlt5 HX1.out) HNB.out).trans HX1.out)
    have HNX := Lib.hid hnx
    clear hnx hc
    go_wp2_with fail
    refine hK.out _ _ HX2.out (fun hHeld => ?_)
    clear hK K
    try simp only [Act.put, List.setIfInBounds_toArray, List.set_cons_zero, List.set_cons_succ]
    refine wpAnyH_done (by kernel_rfl) ?_ _
    go_wp2_with fail
    refine wp_region_held_drew (S := fun u => u.heap[wr.heap.size]? = some (.cells #[.int .i64 0, .int .i64 xn, .int .u8 xb] 36 (0, 0))) (by kernel_rfl) (HX2.out) (fun hHeld => ?_)
    refine wpAnyH_take (i := 0) (oi := ({ dst := some 51, op := .move (.tmp 2), type := 33, pos := "law.go:200", after := #[], guard := none } : Oper)) (v := ?_) rfl (by kernel_rfl) (by kernel_rfl) (by kernel_rfl) (fun _ _ _ h => h) (Or.inl ⟨by rfl, ?_⟩) (by assumption) ?_
    rotate_left 1
    ·(intro u hSw; go_simp; try with_reducible rfl)
    try simp only [Act.put, List.setIfInBounds_toArray, List.set_cons_zero, List.set_cons_succ]
    refine wpAnyH_take (i := 1) (oi := ({ dst := some 52, op := .fieldAddr 36 (.tmp 13) 1, type := 0, pos := "law.go:200", after := #[], guard := none } : Oper)) (v := ?_) rfl (by kernel_rfl) (by kernel_rfl) (by kernel_rfl) (fun _ _ _ h => h) (Or.inl ⟨by rfl, ?_⟩) (by assumption) ?_
    rotate_left 1
    ·(intro u hSw; go_simp; try with_reducible rfl)
    try simp only [Act.put, List.setIfInBounds_toArray, List.set_cons_zero, List.set_cons_succ]
    refine wpAnyH_take (i := 2) (oi := ({ dst := some 53, op := .load 3 (.tmp 52), type := 3, pos := "law.go:200", after := #[{ on := 1, ground := .data }], guard := none } : Oper)) (v := ?_) rfl (by kernel_rfl) (by kernel_rfl) (by kernel_rfl) (fun _ _ _ h => h) (Or.inl ⟨by rfl, ?_⟩) (by assumption) ?_
    rotate_left 1
    ·(intro u hSw; have p1 := (cell_of_row u wr.heap.size 1 _ _ _ hSw).trans (show (#[Value.int .i64 0, .int .i64 xn, .int .u8 xb] : Array Value)[1]? = some (.int .i64 xn) from rfl); have p2 := (cell_of_row u wr.heap.size 2 _ _ _ hSw).trans (show (#[Value.int .i64 0, .int .i64 xn, .int .u8 xb] : Array Value)[2]? = some (.int .u8 xb) from rfl); go_simp; try with_reducible rfl)
    try simp only [Act.put, List.setIfInBounds_toArray, List.set_cons_zero, List.set_cons_succ]
    refine wpAnyH_take (i := 3) (oi := ({ dst := some 54, op := .fieldAddr 36 (.tmp 13) 2, type := 0, pos := "law.go:200", after := #[], guard := none } : Oper)) (v := ?_) rfl (by kernel_rfl) (by kernel_rfl) (by kernel_rfl) (fun _ _ _ h => h) (Or.inl ⟨by rfl, ?_⟩) (by assumption) ?_
    rotate_left 1
    ·(intro u hSw; go_simp; try with_reducible rfl)
    try simp only [Act.put, List.setIfInBounds_toArray, List.set_cons_zero, List.set_cons_succ]
    refine wpAnyH_take (i := 4) (oi := ({ dst := some 55, op := .load 5 (.tmp 54), type := 5, pos := "law.go:200", after := #[{ on := 3, ground := .data }], guard := none } : Oper)) (v := ?_) rfl (by kernel_rfl) (by kernel_rfl) (by kernel_rfl) (fun _ _ _ h => h) (Or.inl ⟨by rfl, ?_⟩) (by assumption) ?_
    rotate_left 1
    ·(intro u hSw; have p1 := (cell_of_row u wr.heap.size 1 _ _ _ hSw).trans (show (#[Value.int .i64 0, .int .i64 xn, .int .u8 xb] : Array Value)[1]? = some (.int .i64 xn) from rfl); have p2 := (cell_of_row u wr.heap.size 2 _ _ _ hSw).trans (show (#[Value.int .i64 0, .int .i64 xn, .int .u8 xb] : Array Value)[2]? = some (.int .u8 xb) from rfl); go_simp; try with_reducible rfl)
    try simp only [Act.put, List.setIfInBounds_toArray, List.set_cons_zero, List.set_cons_succ]
    refine wpAnyH_ready (rs := [5]) (by kernel_rfl) (by simp) ?_
    refine AllReadyH.cons (o := ({ dst := some 56, op := .call { callee := Callee.value (Operand.func 24), args := #[.tmp 55], argTypes := #[5] }, type := 50, pos := "law.go:200", after := #[{ on := 4, ground := .data }], guard := none } : Oper)) rfl (fun K hK => ?_) AllReadyH.nil
    go_simp
    refine (HBL.out _).mono ?_
    rintro e w3 ⟨rfl, hb3⟩
    have HX3 := Lib.hid ((hb3.block wr.heap.size (hlt5 HX2.out)).trans HX2.out)
    have HN3 := Lib.hid (HNX.out w3 ((Below.refl _ _).drew.trans hb3))
    clear hb3
    go_wp2_with fail
    refine hK.out _ _ HX3.out (fun hHeld => ?_)
    clear hK K
    try simp only [Act.put, List.setIfInBounds_toArray, List.set_cons_zero, List.set_cons_succ]
    refine wpAnyH_ready (rs := [6]) (by kernel_rfl) (by simp) ?_
    refine AllReadyH.cons (o := ({ dst := some 57, op := .call { callee := Callee.value (Operand.func 42), args := #[.tmp 51, .tmp 53, .tmp 56], argTypes := #[33, 3, 50] }, type := 28, pos := "law.go:200", after := #[{ on := 0, ground := .data }, { on := 2, ground := .data }, { on := 5, ground := .data }, { on := 5, ground := .chain }], guard := none } : Oper)) rfl (fun K hK => ?_) AllReadyH.nil
    go_simp
    refine HN3.out.mono ?_
    rintro e w2 ⟨rfl, t', hte, hk⟩
    have HX4 := Lib.hid ((hte.2.1.block wr.heap.size (hlt5 HX1.out) HNB.out).trans HX1.out)
    have hj := HI1.out.keep hte hk
    have hd := down_any k.D _ _ _ _ _ _ w2 hj.tw.pg.ls.dk.1
    rw [hj.tw.pl.dn] at hd
    have HD := Lib.hid hd
    have HJ := Lib.hid hj
    clear hte hk hj hd
    go_wp2_with fail
    refine hK.out _ _ HX4.out (fun hHeld => ?_)
    clear hK K
    try simp only [Act.put, List.setIfInBounds_toArray, List.set_cons_zero, List.set_cons_succ]
    refine wpAnyH_done (by kernel_rfl) ?_ _
    go_wp2_with (first
     | (go_at_call 54; refine HD.out.mono ?_; rintro e w9 ⟨rfl, rfl⟩))
    go_roundw
    case rel => exact ⟨i + 1, t', gf1, by go_num, by omega, HJ.out⟩
    case measure => simp [intOf]; omega
   by_cases hk2 : xk = 2
   ·subst hk2
    have HC := Lib.hid (u_alloc HI.out.tw)
    go_wp2_with (first
     | (go_at_call 18; refine HC.out.mono ?_; rintro e w1 ⟨A, E, rfl, hc, hnx⟩; have HX1 := Lib.hid ((hc.block wr.heap.size (hlt5 HX.out) HNB.out).trans HX.out); have e1 := (cell_of_row _ wr.heap.size 1 _ _ _ HX1.out).trans (show (#[Value.int .i64 2, .int .i64 xn, .int .u8 xb] : Array Value)[1]? = some (.int .i64 xn) from rfl); have e2 := (cell_of_row _ wr.heap.size 2 _ _ _ HX1.out).trans (show (#[Value.int .i64 2, .int .i64 xn, .int .u8 xb] : Array Value)[2]? = some (.int .u8 xb) from rfl); have HNX := Lib.hid (hnx w1 (Below.refl _ _)); clear hnx hc HC d1 d2)
     | (go_at_call 44; refine HNX.out.mono ?_; rintro e w2 ⟨rfl, t', hte, hk⟩; have hj := HI.out.keep hte hk; have hd := down_any k.D _ _ _ _ _ _ w2 hj.tw.pg.ls.dk.1; rw [hj.tw.pl.dn] at hd; have HD := Lib.hid hd; have HJ := Lib.hid hj; clear hte hk hj hd HNX)
     | (go_at_call 54; refine HD.out.mono ?_; rintro e w9 ⟨rfl, rfl⟩))
    go_roundw
    case rel => exact ⟨i + 1, t', gf1, by go_num, by omega, HJ.out⟩
    case measure => simp [intOf]; omega
   by_cases hk3 : xk = 3
   ·subst hk3
    have HC := Lib.hid (u_free HI.out.tw xn HOK.out.hn.2)
    go_wp2_with (first
     | (go_at_call 27; refine HC.out.mono ?_; rintro e w1 ⟨E, rfl, hc, hnx⟩; have HX1 := Lib.hid ((hc.block wr.heap.size (hlt5 HX.out) HNB.out).trans HX.out); have e1 := (cell_of_row _ wr.heap.size 1 _ _ _ HX1.out).trans (show (#[Value.int .i64 3, .int .i64 xn, .int .u8 xb] : Array Value)[1]? = some (.int .i64 xn) from rfl); have e2 := (cell_of_row _ wr.heap.size 2 _ _ _ HX1.out).trans (show (#[Value.int .i64 3, .int .i64 xn, .int .u8 xb] : Array Value)[2]? = some (.int .u8 xb) from rfl); have HNX := Lib.hid (hnx w1 (Below.refl _ _)); clear hnx hc HC d1 d2)
     | (go_at_call 45; refine HNX.out.mono ?_; rintro e w2 ⟨rfl, t', hte, hk⟩; have hj := HI.out.keep hte hk; have hd := down_any k.D _ _ _ _ _ _ w2 hj.tw.pg.ls.dk.1; rw [hj.tw.pl.dn] at hd; have HD := Lib.hid hd; have HJ := Lib.hid hj; clear hte hk hj hd HNX)
     | (go_at_call 54; refine HD.out.mono ?_; rintro e w9 ⟨rfl, rfl⟩))
    go_roundw
    case rel => exact ⟨i + 1, t', gf1, by go_num, by omega, HJ.out⟩
    case measure => simp [intOf]; omega
   by_cases hk4 : xk = 4
   ·subst hk4
    obtain ⟨m, hm⟩ : ∃ m : Nat, xb = (m : Int) := ⟨xb.toNat, by have := HOK.out.hb.1; simp only at this; omega⟩
    subst hm
    have hm2 : m < 256 := by have := HOK.out.hb.2; simp only at this; omega
    have hwm : IntKind.u64.wrap (m : Int) = (m : Int) := wrap_u64n _ (by omega) (by omega)
    have HC := Lib.hid (u_setroot HI.out.tw xn m (by omega))
    go_wp2_with (first
     | (go_at_call 46; refine HC.out.mono ?_; rintro e w1 ⟨E, rfl, hc, hnx⟩; have HX1 := Lib.hid ((hc.block wr.heap.size (hlt5 HX.out) HNB.out).trans HX.out); have e1 := (cell_of_row _ wr.heap.size 1 _ _ _ HX1.out).trans (show (#[Value.int .i64 4, .int .i64 xn, .int .u8 (m : Int)] : Array Value)[1]? = some (.int .i64 xn) from rfl); have e2 := (cell_of_row _ wr.heap.size 2 _ _ _ HX1.out).trans (show (#[Value.int .i64 4, .int .i64 xn, .int .u8 (m : Int)] : Array Value)[2]? = some (.int .u8 (m : Int)) from rfl); have HNX := Lib.hid (hnx w1 (Below.refl _ _)); clear hnx hc HC d1 d2)
     | (go_at_call 47; refine HNX.out.mono ?_; rintro e w2 ⟨rfl, t', hte, hk⟩; have hj := HI.out.keep hte hk; have hd := down_any k.D _ _ _ _ _ _ w2 hj.tw.pg.ls.dk.1; rw [hj.tw.pl.dn] at hd; have HD := Lib.hid hd; have HJ := Lib.hid hj; clear hte hk hj hd HNX)
     | (go_at_call 54; refine HD.out.mono ?_; rintro e w9 ⟨rfl, rfl⟩))
    go_roundw
    case rel => exact ⟨i + 1, t', gf1, by go_num, by omega, HJ.out⟩
    case measure => simp [intOf]; omega
   by_cases hk5 : xk = 5
   ·subst hk5
    obtain ⟨capg, hnv⟩ := HI.out.tw.rf.pg.nw.1
    have htu := HI.out.tw
    have hBx : Bx ≤ (wr.alloc (.cells #[.int .i64 5, .int .i64 xn, .int .u8 xb] 36)).heap.size := Nat.le_of_lt (Nat.lt_of_le_of_lt htu.rf.pg.bp htu.rf.pg.lt.1)
    have hsz5 : (wr.alloc (.cells #[.int .i64 5, .int .i64 xn, .int .u8 xb] 36)).heap.size = wr.heap.size + 1 := by simp
    obtain ⟨capf, g2, w8, happ, hbk8, hbl8, hge8⟩ := copy_bk (wr.alloc (.cells #[.int .i64 5, .int .i64 xn, .int .u8 xb] 36)) 25 Bx t1.gn t1.nv t1.now htu.rf.pg.nw htu.rf.pg.ne htu.len hBx (wr.heap.size + 1) hsz5
    have r0 := (cell_of_row _ P 0 _ _ _ htu.rf.pg.box).trans (show (#[t1.nv, t1.wv, .int .i64 ((k.sz - 2) * 256), .int .i64 t1.us] : Array Value)[0]? = some t1.nv from rfl)
    have hb1 : Below (wr.alloc (.cells #[.int .i64 5, .int .i64 xn, .int .u8 xb] 36)).heap.size (wr.alloc (.cells #[.int .i64 5, .int .i64 xn, .int .u8 xb] 36)) ((wr.alloc (.cells #[.int .i64 5, .int .i64 xn, .int .u8 xb] 36)).alloc (.cells #[] 50)) := (Below.refl _ _).alloc (Nat.le_refl _) _
    have r0c := (hb1.cell (p := ⟨P, 0, none⟩) htu.rf.pg.lt.1).trans r0
    rw [hnv] at r0c happ
    have hpu : P < wr.heap.size + 1 := by have := htu.rf.pg.lt.1; omega
    have HI8 := Lib.hid (HI.out.fresh hbl8)
    obtain ⟨-, -, -, ⟨a5, n5, c5, a6, n6, c6, v1, v2, h11⟩⟩ := HI8.out.fr
    obtain ⟨x0, x1, x2, x3⟩ := pb_cells h11
    have y0 := frozen_of_row _ F11 0 _ _ h11
    have yl := hlt5 h11
    have h11' := heap_setCell_same w8 F11 0 _ _ (.slice (some ⟨g2, 0, none⟩) t1.now.length capf) h11
    have hc11 : Chg (fun q => q = F11) w8 (w8.setCell ⟨F11, 0, none⟩ (.slice (some ⟨g2, 0, none⟩) t1.now.length capf)) := Chg.setCell (F := fun q => q = F11) (Chg.refl _ w8) ⟨F11, 0, none⟩ _ (.inl rfl)
    have HT9 := Lib.hid (HI8.out.tw.chg hc11 (fun g hg e => (HI8.out.ap g hg).2.2.2.2.1 e))
    have HB9 := Lib.hid (HI8.out.commit h11 hbk8 ⟨by have := HI.out.fr.lt; omega, fun g hg => by have := HI.out.tw.lt g hg; omega⟩)
    have HC := Lib.hid (u_commit2 HT9.out HI8.out.L0 HI8.out.cm (by have := HI8.out.a; omega) (by have := HI8.out.b; omega))
    have HAPP := Lib.hid happ
    have HS5 := Lib.hid hsz5
    clear happ r0 hb1 hbk8 hbl8 hge8 htu hBx hsz5 h11 h11' hc11 d1 d2
    go_wp2_with (first
     | (refine wpList_build_lit (o := ⟨some 92, _, _, _, _, _⟩) rfl 25 50 rfl run_empty_blocks _ rfl (wr.heap.size + 1) HS5.out ?_)
     | (at_builtin; refine wpList_of_run rfl (exec_append (Operand.tmp 92) (Operand.tmp 96) 25 rfl _ _ rfl rfl HAPP.out) ?_))
    refine HC.out.mono ?_
    rintro e w1 ⟨E, rfl, hc, hcom, hno⟩
    by_cases hE : E = 0
    ·subst hE
     have HNX := Lib.hid (hcom rfl w1 (Below.refl _ _))
     clear hcom hno hc HC x0 x1 x2 x3 y0 yl r0c
     go_wp2_with fail
     refine HNX.out.mono ?_
     rintro e w2 ⟨⟨E2, rfl⟩, t', hte, hw, hcm, hL⟩
     obtain ⟨k11, ⟨cp, o1, o2, o3, q1, q2, k10⟩⟩ := HB9.out.boxes hte.2.1
     obtain ⟨x0, x1, x2, x3⟩ := pb_cells k11
     obtain ⟨z0, z1, z2, z3⟩ := pb_cells k10
     have y0 := frozen_of_row _ F10 0 _ _ k10
     have y1 := frozen_of_row _ F10 1 _ _ k10
     have y2 := frozen_of_row _ F10 2 _ _ k10
     have y3 := frozen_of_row _ F10 3 _ _ k10
     have yl := hlt5 k10
     have hj := HB9.out.ok hte hw hcm hL
     have hd := down_any k.D _ _ _ _ _ _ _ hj.tw.pg.ls.dk.1
     rw [hj.tw.pl.dn] at hd
     have HD := Lib.hid hd
     have HJ := Lib.hid hj
     clear hte hw hcm hL hj hd HNX k11 k10
     go_wp2_with fail
     refine HD.out.mono ?_
     rintro e w9 ⟨rfl, rfl⟩
     go_wp2_with fail
     go_roundw
     case rel => exact ⟨i + 1, t', g2, by go_num, by omega, HJ.out⟩
     case measure => simp [intOf]; omega
    ·have gE : (E != 0) = true := bne_iff_ne.2 hE
     obtain ⟨t2, hf, hg, hw2, hcm, hL, ha2, hb2⟩ := hno hE
     obtain ⟨k11, ⟨cp, o1, o2, o3, q1, q2, k10⟩⟩ := HB9.out.boxes hc
     obtain ⟨x0', x1', x2', x3'⟩ := pb_cells k11
     have y1 := frozen_of_row _ F11 1 _ _ k11
     have yl1 := hlt5 k11
     have hbf := HB9.out.pl.bf
     have k11A := heap_setCell_same w1 F11 1 _ _ (.slice none 0 0) k11
     have hcA : Chg (fun q => q = F11) w1 (w1.setCell ⟨F11, 1, none⟩ (.slice none 0 0)) := Chg.setCell (F := fun q => q = F11) (Chg.refl _ w1) ⟨F11, 1, none⟩ _ (.inl rfl)
     have k10A := (hcA.block F10 (hlt5 k10) (by omega)).trans k10
     have hnu : ∀ g, UF k P t2 g → ¬ g = F11 := fun g hq => by
      rcases hg g hq with e | e
      ·exact (HB9.out.pl.ap g e).2.2.2.2.1
      ·have := HB9.out.pl.fr.lt; omega
     have hfA := hf.chg hcA hnu
     have hd := down_any k.D _ _ _ _ _ _ _ hfA.pg.ls.dk.1
     rw [hfA.pl.dn] at hd
     have HD := Lib.hid hd
     have HK := Lib.hid (And.intro k11A k10A)
     have HFA := Lib.hid hfA
     have HNO := Lib.hid (And.intro hc (And.intro hg (And.intro hw2 (And.intro hcm (And.intro hL (And.intro ha2 hb2))))))
     have HCA := Lib.hid hcA
     have HNU := Lib.hid hnu
     have HBF := Lib.hid hbf
     clear hcom hno hc HC x0 x1 x2 x3 y0 yl r0c hE hf hg hw2 hcm hL ha2 hb2 k11 k10 k11A k10A hcA hfA hd hnu hbf
     go_wp2_with fail
     refine HD.out.mono ?_
     rintro e wA ⟨hwA, rfl⟩
     have hk := HK.out
     have hfa := HFA.out
     have hca := HCA.out
     rw [hwA] at hk hfa hca
     obtain ⟨k11, k10⟩ := hk
     obtain ⟨a0, a1, a2, a3⟩ := pb_cells k11
     obtain ⟨b0, b1, b2, b3⟩ := pb_cells k10
     have y0 := frozen_of_row _ F11 0 _ _ k11
     have y1' := frozen_of_row _ F11 1 _ _ k11
     have y2 := frozen_of_row _ F11 2 _ _ k11
     have y3 := frozen_of_row _ F11 3 _ _ k11
     have yl := hlt5 k11
     have hcB := hca.trans (set4_chg (H := F11) wA (.slice (some ⟨gf1, 0, none⟩) t1.was.length cp) (.slice o1 o2 o3) q1 q2) (fun q e => .inl e)
     have k11B := set4 k11 (.slice (some ⟨gf1, 0, none⟩) t1.was.length cp) (.slice o1 o2 o3) q1 q2
     have hab := hf_abort (hfa.chg (set4_chg (H := F11) wA (.slice (some ⟨gf1, 0, none⟩) t1.was.length cp) (.slice o1 o2 o3) q1 q2) HNU.out)
     have HAB := Lib.hid hab
     have HKB := Lib.hid (And.intro hcB k11B)
     clear hwA hfa hca k11 k10 hcB k11B hab HK HFA HCA HD x0' x1' x2' x3' y1 yl1
     go_wp2_with fail
     refine HAB.out.mono ?_
     rintro e w2 ⟨rfl, t', tw, hc2, hg2, hvv, hwas⟩
     obtain ⟨n1, n2, n3, n4, n5, n6, n7⟩ := HNO.out
     have hj := HB9.out.pl.no n1 n2 HKB.out.1 HKB.out.2 ⟨_, _, _, _, _, _, rfl, rfl⟩ tw hc2 hg2 hvv hwas n3 n4 n5 n6 n7
     have hd := down_any k.D _ _ _ _ _ _ _ hj.tw.pg.ls.dk.1
     rw [hj.tw.pl.dn] at hd
     have HD2 := Lib.hid hd
     have HJ := Lib.hid hj
     clear tw hc2 hg2 hvv hwas n1 n2 n3 n4 n5 n6 n7 hj hd HAB a0 a1 a2 a3 b0 b1 b2 b3 y0 y1' y2 y3 yl
     go_wp2_with fail
     refine HD2.out.mono ?_
     rintro e w9 ⟨rfl, rfl⟩
     go_wp2_with fail
     go_roundw
     case rel => exact ⟨i + 1, t', gf1, by go_num, by omega, HJ.out⟩
     case measure => simp [intOf]; omega
   by_cases hk6 : xk = 6
   ·subst hk6
    have HC := Lib.hid (u_abort HI.out.tw)
    go_wp2_with (first
     | (go_at_call 21; refine HC.out.mono ?_; rintro e w1 ⟨rfl, hc, hnx⟩; have HX1 := Lib.hid ((hc.block wr.heap.size (hlt5 HX.out) HNB.out).trans HX.out); have e1 := (cell_of_row _ wr.heap.size 1 _ _ _ HX1.out).trans (show (#[Value.int .i64 6, .int .i64 xn, .int .u8 xb] : Array Value)[1]? = some (.int .i64 xn) from rfl); have e2 := (cell_of_row _ wr.heap.size 2 _ _ _ HX1.out).trans (show (#[Value.int .i64 6, .int .i64 xn, .int .u8 xb] : Array Value)[2]? = some (.int .u8 xb) from rfl); have HNX := Lib.hid (hnx w1 (Below.refl _ _)); clear hnx hc HC d1 d2)
     | (go_at_call 11; refine HNX.out.mono ?_; rintro e w2 ⟨rfl, t', hte, hk⟩; have hj := HI.out.keep hte hk; have hd := down_any k.D _ _ _ _ _ _ w2 hj.tw.pg.ls.dk.1; rw [hj.tw.pl.dn] at hd; have HD := Lib.hid hd; have HJ := Lib.hid hj; clear hte hk hj hd HNX)
     | (go_at_call 54; refine HD.out.mono ?_; rintro e w9 ⟨rfl, rfl⟩))
    go_roundw
    case rel => exact ⟨i + 1, t', gf1, by go_num, by omega, HJ.out⟩
    case measure => simp [intOf]; omega
   by_cases hk7 : xk = 7
   ·subst hk7
    have HC := Lib.hid (u_ckpt HI.out.tw HI.out.L0 HI.out.cm (by have := HI.out.a; omega) (by have := HI.out.b; omega))
    go_wp2_with (first
     | (go_at_call 50; refine HC.out.mono ?_; rintro e w2 ⟨rfl, t', hte, hw, hcm, hL⟩; have hj := HI.out.ue hte hw hcm hL; have hd := down_any k.D _ _ _ _ _ _ w2 hj.tw.pg.ls.dk.1; rw [hj.tw.pl.dn] at hd; have HD := Lib.hid hd; have HJ := Lib.hid hj; clear hte hw hcm hL hj hd HC)
     | (go_at_call 54; refine HD.out.mono ?_; rintro e w9 ⟨rfl, rfl⟩))
    go_roundw
    case rel => exact ⟨i + 1, t', gf1, by go_num, by omega, HJ.out⟩
    case measure => simp [intOf]; omega
   have k0 : (xk == 0) = false := beq_false_of_ne hk0
   have k2 : (xk == 2) = false := beq_false_of_ne hk2
   have k3 : (xk == 3) = false := beq_false_of_ne hk3
   have k4 : (xk == 4) = false := beq_false_of_ne hk4
   have k5 : (xk == 5) = false := beq_false_of_ne hk5
   have k6 : (xk == 6) = false := beq_false_of_ne hk6
   have k7 : (xk == 7) = false := beq_false_of_ne hk7
   clear hk0 hk2 hk3 hk4 hk5 hk6 hk7
   have HC := Lib.hid (u_get_p HI.out.tw xn HOK.out.hn.2)
   go_wp2_with (first
    | (go_at_call 20; refine HC.out.mono ?_; rintro e w2 ⟨⟨l, E, hl, rfl⟩, t', hte, hk⟩; have hj := HI.out.keep hte hk; have hd := down_any k.D _ _ _ _ _ _ w2 hj.tw.pg.ls.dk.1; rw [hj.tw.pl.dn] at hd; have HD := Lib.hid hd; have HJ := Lib.hid hj; clear hte hk hj hd hl HC)
    | (go_at_call 54; refine HD.out.mono ?_; rintro e w9 ⟨rfl, rfl⟩))
   go_roundw
   case rel => exact ⟨i + 1, t', gf1, by go_num, by omega, HJ.out⟩
   case measure => simp [intOf]; omega
  ·have hie : i = xs.length := by omega
   subst hie
   have hce : decide ((xs.length : Int) < (xs.length : Int)) = false := decide_eq_false (by omega)
   have HI := Lib.hid hI
   clear hbwr hvw hlt hI
   obtain ⟨h8, h9, ⟨cap, a, n, c, u1, u2, h10, hbk⟩, -⟩ := HI.out.fr
   have hbf := HI.out.bf
   have NE98 := Lib.hid (show F9 ≠ F8 by omega)
   have NE89 := Lib.hid (show F8 ≠ F9 by omega)
   have NE108 := Lib.hid (show F10 ≠ F8 by omega)
   have NE109 := Lib.hid (show F10 ≠ F9 by omega)
   have hcg : Chg (fun q => q = F8 ∨ q = F9) wr wr.drew := (Chg.refl _ _).drew
   have HBF := Lib.hid hbf
   have HBK := Lib.hid hbk
   clear hbf hbk
   go_wp2_with fail
   replace h8 : wr.drew.heap[F8]? = _ := h8
   replace h9 : wr.drew.heap[F9]? = _ := h9
   replace h10 : wr.drew.heap[F10]? = _ := h10
   refine wp_region_held_drew (S := fun u => u.heap[F10]? = some (PB (.slice (some ⟨gf1, 0, none⟩) t1.was.length cap) (.slice a n c) u1 u2)) (by kernel_rfl) (h10) (fun hHeld => ?_)
   refine wpAnyH_take (i := 0) (oi := ({ dst := some 131, op := .load 44 (.tmp 10), type := 44, pos := "law.go:238", after := #[], guard := none } : Oper)) (v := ?_) rfl (by kernel_rfl) (by kernel_rfl) (by kernel_rfl) (fun _ _ _ h => h) (Or.inl ⟨by rfl, ?_⟩) (by assumption) ?_
   rotate_left 1
   ·(intro u hSw; obtain ⟨t0, t1', t2, t3⟩ := pb_cells hSw; go_simp; try with_reducible rfl)
   try simp only [Act.put, List.setIfInBounds_toArray, List.set_cons_zero, List.set_cons_succ]
   refine wpAnyH_take (i := 1) (oi := ({ dst := some 132, op := .load 44 (.tmp 10), type := 44, pos := "law.go:238", after := #[{ on := 2, ground := .gcOnly Departure.lateStores }], guard := none } : Oper)) (v := ?_) rfl (by kernel_rfl) (by kernel_rfl) (by kernel_rfl) (fun _ _ _ h => h) (Or.inl ⟨by rfl, ?_⟩) (by assumption) ?_
   rotate_left 1
   ·(intro u hSw; obtain ⟨t0, t1', t2, t3⟩ := pb_cells hSw; go_simp; try with_reducible rfl)
   try simp only [Act.put, List.setIfInBounds_toArray, List.set_cons_zero, List.set_cons_succ]
   refine wpAnyH_ready (rs := [2]) (by kernel_rfl) (by simp) ?_
   refine (AllReadyH.cons (o := ({ dst := none, op := .store 44 (.tmp 8) (.tmp 131), type := 0, pos := "law.go:238", after := #[{ on := 0, ground := .data }, { on := 0, ground := .phase }, { on := 1, ground := .textOnly Departure.lateStores }], guard := none } : Oper)) rfl (fun K hK => ?_) AllReadyH.nil)
   try (generalize World.drew wr = ud at *)
   obtain ⟨x0, x1, x2, x3⟩ := pb_cells h8
   have y0 := frozen_of_row _ F8 0 _ _ h8
   have y1 := frozen_of_row _ F8 1 _ _ h8
   have y2 := frozen_of_row _ F8 2 _ _ h8
   have y3 := frozen_of_row _ F8 3 _ _ h8
   have yl := hlt5 h8
   replace h9 := (set4_other (.slice (some ⟨gf1, 0, none⟩) t1.was.length cap) (.slice a n c) u1 u2 NE98.out).trans h9
   replace h10 := (set4_other (.slice (some ⟨gf1, 0, none⟩) t1.was.length cap) (.slice a n c) u1 u2 NE108.out).trans h10
   replace hcg := hcg.trans (set4_chg (H := F8) _ (.slice (some ⟨gf1, 0, none⟩) t1.was.length cap) (.slice a n c) u1 u2) (fun q e => .inl (.inl e))
   replace h8 := set4 h8 (.slice (some ⟨gf1, 0, none⟩) t1.was.length cap) (.slice a n c) u1 u2
   go_simp
   refine hK.out _ _ h10 (fun hHeld => ?_)
   clear hK K
   try simp only [Act.put]
   refine wpAnyH_ready (rs := [3]) (by kernel_rfl) (by simp) ?_
   refine (AllReadyH.cons (o := ({ dst := none, op := .store 44 (.tmp 9) (.tmp 132), type := 0, pos := "law.go:238", after := #[{ on := 1, ground := .data }, { on := 2, ground := .chain }, { on := 0, ground := .phase }, { on := 1, ground := .phase }, { on := 2, ground := .phase }], guard := none } : Oper)) rfl (fun K hK => ?_) AllReadyH.nil)
   try (generalize World.drew wr = ud at *)
   obtain ⟨x0, x1, x2, x3⟩ := pb_cells h9
   have y0 := frozen_of_row _ F9 0 _ _ h9
   have y1 := frozen_of_row _ F9 1 _ _ h9
   have y2 := frozen_of_row _ F9 2 _ _ h9
   have y3 := frozen_of_row _ F9 3 _ _ h9
   have yl := hlt5 h9
   replace h8 := (set4_other (.slice (some ⟨gf1, 0, none⟩) t1.was.length cap) (.slice a n c) u1 u2 NE89.out).trans h8
   replace h10 := (set4_other (.slice (some ⟨gf1, 0, none⟩) t1.was.length cap) (.slice a n c) u1 u2 NE109.out).trans h10
   replace hcg := hcg.trans (set4_chg (H := F9) _ (.slice (some ⟨gf1, 0, none⟩) t1.was.length cap) (.slice a n c) u1 u2) (fun q e => .inl (.inr e))
   replace h9 := set4 h9 (.slice (some ⟨gf1, 0, none⟩) t1.was.length cap) (.slice a n c) u1 u2
   go_simp
   refine hK.out _ _ h10 (fun hHeld => ?_)
   clear hK K
   try simp only [Act.put]
   refine wpAnyH_done (by kernel_rfl) ?_ _
   have HC8 := Lib.hid (pb_cells h8)
   obtain ⟨x0, x1, x2, x3⟩ := pb_cells h8
   obtain ⟨y0, y1, y2, y3⟩ := pb_cells h9
   have HCG := Lib.hid hcg
   have H10 := Lib.hid h10
   generalize World.setCell (World.setCell (World.setCell (World.setCell _ _ _) _ _) _ _) _ _ = uz at *
   go_wp2_with fail
   refine bodyPost_ret (v := .tuple #[.agg #[(.slice (some ⟨gf1, 0, none⟩) t1.was.length cap), .slice a n c, .int .i64 u1, .int .i64 u2], .agg #[(.slice (some ⟨gf1, 0, none⟩) t1.was.length cap), .slice a n c, .int .i64 u1, .int .i64 u2]]) (by simp [results, Tryz.results16, go_sem, x0, x1, x2, x3, y0, y1, y2, y3]) rfl ?_
   have hq := HCG.out
   have hbq := HBF.out
   exact ⟨t1, gf1, cap, a, n, c, u1, u2, rfl, HBK.out.of (hq.block gf1 HBK.out.2.2.1 (by omega)) (Nat.lt_of_lt_of_le HBK.out.2.2.1 hq.size), HI.out.tw.chg hq (fun g hg e => by have h1 := (HI.out.ap g hg).2.1; have h2 := (HI.out.ap g hg).2.2.1; omega), HI.out.cm, HI.out.L0, HI.out.a, HI.out.b, HI.out.bw.trans (hq.below (B := B0) (fun q e => by omega) (by have := HI.out.fr.lt; omega)), fun g hg => ⟨(HI.out.ap g hg).1, (HI.out.ap g hg).2.2.2.2.2⟩, hbq.2.2.2.2.2.2.2.2⟩
end Go.Proofs.YthdkmnagfjpjcaaGreat
/- Room, Open beside another pager, the begin; for PageFull -/
namespace Go.Proofs.YthdkmnagfjpjcaaGreat
open Go.RowKit
section
variable {k kq : PK} {v vq : PV} {rs : List (List Int)} {W : Int → List Int} {w w1 w2 : World}
/-- the disk's blocks, and others that are none of this pager's, have changed -/
theorem pgs_swap (h : PgS k v w1) {r : Int} (hd : DkS w2 k.B k.D k.M k.nb r v.s v.lv) {F : Nat → Prop} (hc : Chg F w1 w2) (hF : ∀ g, PF k v g → ¬ Foot k.D k.M v.lv g → ¬ F g) : PgS { k with rm := r } v w2 := by
 obtain ⟨u, hu⟩ := h.ap
 have hn : ∀ g, PF k v g → u g ≠ 0 → ¬ F g := fun g hg h0 => hF g hg (fun e => h0 (hu.l g (.inl e)))
 have hls : LS w2 k.B k.D k.M k.nb r v.s v.lv k.Pl 0 k.sz v.a v.b v.c v.av v.pe :=
  { h.ls with dk := hd, box := h.ls.box.chg hc (hF _ (.inl (.inr (.inl rfl))) h.ls.nf), own := h.ls.own.chg hc (fun g hg => hF g (.inl (.inr (.inr hg))) (h.ls.af g hg)) }
 exact { ls := hls, box := (hc.block k.P h.ltP (hn _ (.inr (.inl rfl)) (by rw [hu.p]; decide))).trans h.box, lg := h.lg.of (hc.block _ h.lg.lt (hn _ (.inr (.inr (.inl rfl))) (by rw [hu.m]; decide))), ca := h.ca.of (hc.block _ h.ca.lt (hn _ (.inr (.inr (.inr (.inl rfl)))) (by rw [hu.c]; decide))), ch := h.ch.of (hc.block _ h.ch.lt (hn _ (.inr (.inr (.inr (.inr (.inl rfl))))) (by rw [hu.h]; decide))), ord := h.ord.chg hc (fun g hg => hn g (.inr (.inr (.inr (.inr (.inr hg))))) (by rw [hu.o g hg]; decide)), ap := ⟨u, hu.l, hu.p, hu.m, hu.c, hu.h, hu.o⟩, l0 := h.l0, l1 := h.l1, bp := h.bp, bm := h.bm, bc := h.bc, bh := h.bh }
theorem P1.swap (h : P1 k v rs W w1) {r : Int} (hd : DkS w2 k.B k.D k.M k.nb r v.s v.lv) {F : Nat → Prop} (hc : Chg F w1 w2) (hF : ∀ g, PF k v g → ¬ Foot k.D k.M v.lv g → ¬ F g) : P1 { k with rm := r } v rs W w2 :=
 { pg := pgs_swap h.pg hd hc hF, pl := { h.pl with g := h.pl.g.other r _ }, pj := { h.pj with }, pm := h.pm, w0 := h.w0 }
theorem p1_room (h : P1 k v rs W w) (n : Int) :
  Calls Tryz.prog 22 #[.pointer (some ⟨k.D, 0, none⟩), .int .i64 n] w fun e w' => e = .returned (.tuple #[]) ∧ P1 { k with rm := if 0 ≤ n then n else 0 } v rs W w' ∧ Chg (fun q => q = k.D) w w' := by
 refine (room_dk k.B k.D k.M k.nb k.rm v.s.fz n v.s.dn v.s.f v.s.L v.lv w h.pg.ls.dk).mono ?_
 rintro e w' ⟨rfl, hd, hc⟩
 exact ⟨rfl, h.swap hd hc (fun g hg h2 e => h2 (.inl e)), hc⟩
theorem p1_open (h : P1 k v rs W w) (hold : Int) :
  Calls Tryz.prog 9 #[.pointer (some ⟨k.D, 0, none⟩), .int .i64 k.sz, .int .i64 hold] w fun e w1 => ∃ kq vq, e = .returned (.tuple #[.pointer (some ⟨kq.P, 0, none⟩), .int .i64 0]) ∧ kq.B = k.B ∧ kq.D = k.D ∧ kq.M = k.M ∧ kq.nb = k.nb ∧ kq.rm = k.rm ∧ kq.sz = k.sz ∧ P1 kq vq rs W w1 ∧ vq.s = v.s ∧ vq.lv = v.lv ∧ (∀ n, NL vq W n = W n) ∧ P1 k v rs W w1 ∧ Chg (Foot k.D k.M v.lv) w w1 ∧ ∀ g, PF kq vq g → Foot k.D k.M v.lv g ∨ w.heap.size ≤ g := by
 have hdk : Dk w k.B k.D k.M k.nb k.rm v.s.fz v.s.dn v.s.f v.s.L v.lv := h.pg.ls.dk
 have hdn := h.pl.dn
 rw [hdn] at hdk
 have hz := h.pj.z2
 have e0 : stoF k.sz v.s.f (lgF rs [] 0) 0 = W 0 := by
  rw [← h.pl.lg]; exact h.pl.w 0 (Int.le_refl _) (by omega)
 have eh : hdr (stoF k.sz v.s.f (lgF rs [] 0) 0) = v.h0 := by rw [e0, h.pm.h0]
 have hu : 1 ≤ hN (hdr (stoF k.sz v.s.f (lgF rs [] 0) 0)) 0 ∧ (hN (hdr (stoF k.sz v.s.f (lgF rs [] 0) 0)) 0 : Int) ≤ k.nb - k.sz := by rw [eh]; exact h.pj.u0
 refine (popen_any k.B k.D k.M k.nb k.rm v.s.fz k.sz hold v.s.f v.s.L v.lv v.a v.b v.c rs w hdk ⟨h.pj.z1, hz⟩ h.pj.z3 h.pl.g.rng h.pl.g.mkf h.pl.fits h.pl.g.area h.pl.rk hu).mono ?_
 rintro e w1 ⟨Pl, P', Lm, C, Hm, rfl, hc, hk⟩
 obtain ⟨g1, g2⟩ := hk _ _ rfl rfl
 have hs : (⟨v.s.fz, false, v.s.f, v.s.L⟩ : DS) = v.s := by rw [← hdn]
 rw [eh, hs] at g1 g2
 have hmq : PM (⟨v.s, v.lv, v.a, v.b, v.c, .slice none 0 0, [], Lm, v.c, C, .slice none 0 0, v.h0, v.h0, Hm, lgF rs [] 0, [], [], []⟩ : PV) W := ⟨fun n x hx => by simp [gl] at hx, fun n x hx => by simp [gl] at hx, h.pm.h0⟩
 refine ⟨(⟨k.B, k.D, k.M, Pl, P', k.nb, k.rm, k.sz, max hold 0⟩ : PK), (⟨v.s, v.lv, v.a, v.b, v.c, .slice none 0 0, [], Lm, v.c, C, .slice none 0 0, v.h0, v.h0, Hm, lgF rs [] 0, [], [], []⟩ : PV), rfl, rfl, rfl, rfl, rfl, rfl, rfl, ⟨g1, { dn := hdn, g := h.pl.g, pe := rfl, en := rfl, lg := rfl, rk := h.pl.rk, w := fun n h0 h1 => by rw [← h.pl.lg]; exact h.pl.w n h0 h1 }, ?_, hmq, h.w0⟩, rfl, rfl, fun n => ?_, ?_, hc, g2⟩
 ·exact { z1 := h.pj.z1, z2 := h.pj.z2, z3 := h.pj.z3, m0 := by show 0 ≤ max hold 0; omega, lgr := by have := h.pj.lgr; rw [h.pl.lg] at this; exact this, ci := CI.nil (by show 0 ≤ max hold 0; omega), chl := fun n l hl => by simp [gl] at hl, chn := List.nodup_nil, chr := fun n hn => by simp [gk] at hn, fl := h.pj.fl, fr := h.pj.fr, b0 := h.pj.b0, b1 := h.pj.b0, u0 := h.pj.u0, u1 := h.pj.u0, l0 := h.pj.l0, l1 := h.pj.l0 }
 ·exact NL_clean hmq (h.w0 0) rfl rfl n
 ·have hd1 : DkS w1 k.B k.D k.M k.nb k.rm v.s v.lv := g1.ls.dk
  exact h.swap (r := k.rm) hd1 hc (fun g _ h2 => h2)
end
theorem two_u {k : PK} {Bx P : Nat} {t : TV} {w : World} (h : Two k Bx P t w) : TwoU k Bx P ⟨t.v, t.rs, t.W, t.gn, t.gw, t.nv, t.wv, t.now, t.was, (t.v.c : Nat)⟩ w :=
 ⟨h.pg, h.pl, h.pj, h.pm, h.w0, ⟨h.fits.1, h.fits.2.1⟩, h.rf, h.ap, h.rn, h.rw⟩
theorem two_start_n {B D M ga nb : Nat} {w : World} (h : LdI B D M ga nb nb w) (sz : Nat) (h3 : 3 ≤ sz) (hsz : sz < nb) (h4 : nb ≤ 4096) (hold : Int) (hBw : B ≤ w.heap.size) :
  Calls Tryz.prog 8 #[.pointer (some ⟨D, 0, none⟩), .int .i64 (sz : Int)] w fun e w1 => e = .returned (.int .i64 0) ∧ ∀ u, Below w1.heap.size w1 u →
   Calls Tryz.prog 9 #[.pointer (some ⟨D, 0, none⟩), .int .i64 (sz : Int), .int .i64 hold] u fun e2 w2 => ∃ k, k.D = D ∧ k.sz = (sz : Int) ∧ k.nb = (nb : Int) ∧ e2 = .returned (.tuple #[.pointer (some ⟨k.P, 0, none⟩), .int .i64 0]) ∧ ∀ u2, Below w2.heap.size w2 u2 →
    Calls Tryz.prog 10 #[.slice (some ⟨ga, 0, none⟩) nb nb, .int .i64 (sz : Int)] u2 fun e3 w3 => ∃ Bx P t, e3 = .returned (.pointer (some ⟨P, 0, none⟩)) ∧ Two k Bx P t w3 ∧ t.now = t.was ∧ t.v.a = 1 ∧ t.v.b = 1 ∧ Below B w w3 ∧ ∀ g, TF k P t g → B ≤ g := by
 obtain ⟨f, L, lv, bs, q1, q2, q3, q4, q5, q6, q7⟩ := h
 refine (pformat_any B D M (nb : Int) (nb : Int) (sz : Int) f L lv w q1 q3 ⟨by omega, by omega⟩ (by omega) (Int.le_refl _) (by omega)).mono ?_
 rintro e w1 ⟨rfl, lv', hlg, hc1, hft⟩
 refine ⟨rfl, fun u hu => ?_⟩
 obtain ⟨p1, p2, p3⟩ := pf_home f (sz : Int) (by omega)
 obtain ⟨F, hF⟩ : ∃ F, fputs (fput f (sz : Int) hdr0) (fw 0) = F := ⟨_, rfl⟩
 rw [hF] at hlg p1 p2 p3
 clear hF
 have hlgu : LgD u B D M (nb : Int) (nb : Int) F lv' 0 (sz : Int) 1 1 0 [] := { hlg with dk := hlg.dk.chg (Chg.fresh (F := fun _ => False) hu) (fun _ _ h => h) }
 have hfl : ∀ n, (F n).length = 256 := hlg.dk.2.2.2.2.2.2.1
 have hsto : ∀ n, stoF (sz : Int) F (lgF [] [] 0) n = F ((sz : Int) + n) := fun n => rfl
 have e0 : stoF (sz : Int) F (lgF [] [] 0) 0 = hdr0 := by rw [hsto, Int.add_zero, p1]
 have hhu : 1 ≤ hN (hdr (stoF (sz : Int) F (lgF [] [] 0) 0)) 0 ∧ (hN (hdr (stoF (sz : Int) F (lgF [] [] 0) 0)) 0 : Int) ≤ (nb : Int) - (sz : Int) := by
  rw [e0, hdr_hdr0]
  refine ⟨Nat.le_refl 1, ?_⟩
  show ((1 : Nat) : Int) ≤ _
  omega
 refine (popen_any B D M (nb : Int) (nb : Int) (-1) (sz : Int) hold F [] lv' 1 1 0 [] u hlgu.dk ⟨by omega, by omega⟩ (by omega) hlgu.rng hlgu.mkf hlgu.fits hlgu.area (fun r hr => by cases hr) hhu).mono ?_
 rintro e2 w2 ho
 obtain ⟨Pl, P', Lm, C, Hm, rfl, hc2, hk⟩ := opened_two ho hlgu (by omega) (Int.le_refl _) (fun r hr => by cases hr) hhu p3 (fun n => F ((sz : Int) + n)) (fun n _ _ => hsto n) ⟨hfl _, hlgu.rng _⟩
 refine ⟨⟨B, D, M, Pl, P', nb, nb, sz, max hold 0⟩, rfl, rfl, rfl, rfl, fun u2 hu2 => ?_⟩
 obtain ⟨g1, g2, g3, g4, g5, g6, g7, g8⟩ := hk _ _ rfl rfl
 have hga : ga < w.heap.size := q4.2.2.1
 have hnf : ¬ Foot D M lv' ga := fun e => by
  rcases hft ga e with e1 | e1
  ·exact q7 ga e1 rfl
  ·omega
 have hs1 := hc1.size
 have hs2 := hu.size
 have hs3 := hc2.size
 have b1 := q4.of (hc1.block ga hga (fun e => q7 ga e rfl)) (by omega)
 have b2 := b1.of (hu.block ga (by omega)) (by omega)
 have b3 := b2.of (hc2.block ga (by omega) hnf) (by omega)
 have b4 := b3.of (hu2.block ga (by omega)) (Nat.lt_of_lt_of_le b3.2.2.1 hu2.size)
 obtain ⟨m, hm⟩ : ∃ m, sz + m = nb := ⟨nb - sz, by omega⟩
 have hbr : ∀ l ∈ bs, Rng l := fun l hl => by
  obtain ⟨i, hi⟩ := List.mem_iff_getElem?.1 hl
  have hi2 : i < nb := by rw [← q5]; exact (List.getElem?_eq_some_iff.1 hi).1
  rw [q6 i hi2] at hi
  injection hi with hi
  rw [← hi]
  exact q3 _
 refine (rnew_any B ga sz m nb bs u2 hm b4 (by omega) h3 (by omega) (by omega) hbr).mono ?_
 rintro e3 w3 ⟨⟨P, gn, gw, nv, wv, rfl, hr⟩, hb3⟩
 have hnP : nP (⟨B, D, M, Pl, P', nb, nb, sz, max hold 0⟩ : PK) = m := by
  show ((nb : Int) - (sz : Int)).toNat = m
  omega
 have hrel : Rel m (fun n => F ((sz : Int) + n)) (rnewN bs sz) := by
  have hdl : (bs.drop sz).length = m := by rw [List.length_drop]; omega
  refine ⟨by unfold rnewN; rw [List.length_set, List.length_set, hdl], fun i hi => ?_⟩
  unfold rnewN
  by_cases hi0 : i = 0
  ·subst hi0
   rw [List.getElem?_set, if_pos rfl, if_pos (by rw [List.length_set]; omega)]
   show some _ = some (F ((sz : Int) + 0))
   rw [Int.add_zero, p1, hdr0_putL]
  ·rw [List.getElem?_set, if_neg (by omega), List.getElem?_set, if_neg (by omega), List.getElem?_drop, q6 (sz + i) (by omega)]
   show some (f ((sz + i : Nat) : Int)) = some (F ((sz : Int) + (i : Int)))
   rw [p2 i (by omega), Int.natCast_add]
 have har : 256 * ((sz : Int) - 2) = ((sz : Int) - 2) * 256 := Int.mul_comm _ _
 rw [har] at hr
 have hB2 : Below B w w3 := by
  have c1 : Below B w w1 := hc1.below (fun g hg => (q1.foot g hg).1) hBw
  have c2 : Below B w u := c1.trans (hu.mono (by have := c1.size; omega))
  have c3 : Below B w w2 := c2.trans (hc2.below (fun g hg => (hlgu.dk.foot g hg).1) (by omega))
  have c4 : Below B w u2 := c3.trans (hu2.mono (by omega))
  exact c4.trans (hb3.mono (by have := c4.size; omega))
 have hlt := fun g hg => g1.lt g hg
 have hs4 := hu2.size
 have hP := hr.pg.bp
 have hN := hr.pg.nw.2.1
 have hW := hr.ws.2.1
 refine ⟨u2.heap.size, P, ⟨_, [], fun n => F ((sz : Int) + n), gn, gw, nv, wv, _, _⟩, rfl, ⟨(g1.fresh hu2).fresh hb3, g3, g2, g4, fun n => ⟨hfl _, hlgu.rng _⟩, g5, g6, hr, fun g hg => ?_, ?_, ?_⟩, rfl, rfl, rfl, hB2, ?_⟩
 ·have := (hlt g hg).2
  exact ⟨by omega, by show g ≠ gn; omega, by show g ≠ gw; omega⟩
 ·rw [hnP]
  exact hrel.congr g7
 ·rw [hnP]
  exact hrel
 ·have hBs := hB2.size
  have hBu : B ≤ u2.heap.size := by omega
  rintro g (hg | hg | hg | hg)
  ·exact (hlt g hg).1
  ·omega
  ·have : g = gn := hg; omega
  ·have : g = gw := hg; omega
end Go.Proofs.YthdkmnagfjpjcaaGreat
