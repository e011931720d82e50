/- play, on a disk that may fail -/
import Derived.Test.YtdkjkibdncbibaaGreatCm30
namespace Go.Proofs.YtdkjkibdncbibaaGreat
open Go.RowKit
open Go.Lib (hid)
theorem wpList_build_lit {P : Program} {w : World} {ops : Array Oper} {rest : List Oper} {o : Oper} {a : Act} {Q : Exit → Act → World → Prop} (hgd : o.guard = none) (t e : TypeId)
  (ho : o.op = .buildSlice t 0 #[]) (hrun : ∀ w : World, (Instr.buildSlice t 0 #[]).run P w = .ok (.slice (some ⟨w.heap.size, 0, none⟩) 0 0) (w.alloc (.cells #[] e)))
  (u : World) (hu : u = w) (n : Nat) (hn : u.heap.size = n)
  (h : wpList P ops Q rest (a.put o.dst (.slice (some ⟨n, 0, none⟩) 0 0)) (u.alloc (.cells #[] e))) : wpList P ops Q (o :: rest) a w := by
 subst hu hn
 refine wpList_plain hgd fun K hK => ?_
 unfold Oper.wp
 simp [execOp, ho, hrun, Result.andThen, Oper.upon]
 exact hK _ _ h
theorem three_new (w : World) (a b c : Obj) : (((w.alloc a).alloc b).alloc c).heap[w.heap.size]? = some a ∧ (((w.alloc a).alloc b).alloc c).heap[w.heap.size + 1]? = some b ∧ (((w.alloc a).alloc b).alloc c).heap[w.heap.size + 1 + 1]? = some c := by
 have e1 : (w.alloc a).heap.size = w.heap.size + 1 := by simp
 have e2 : ((w.alloc a).alloc b).heap.size = w.heap.size + 1 + 1 := by simp
 refine ⟨?_, ?_, ?_⟩
 ·exact (((Below.refl _ _).alloc (Nat.le_refl _) c).block _ (by omega)).trans ((((Below.refl _ _).alloc (Nat.le_refl _) b).block _ (by omega)).trans (heap_alloc_new _ _))
 ·exact (((Below.refl _ _).alloc (Nat.le_refl _) c).block _ (by omega)).trans (by rw [← e1]; exact heap_alloc_new _ _)
 ·rw [← e2, heap_alloc_new]
theorem pb_cells {u : World} {H : Nat} {v v' : Value} {a s : Int} (h : u.heap[H]? = some (PB v v' a s)) : u.cell? ⟨H, 0, none⟩ = some v ∧ u.cell? ⟨H, 1, none⟩ = some v' ∧ u.cell? ⟨H, 2, none⟩ = some (.int .i64 a) ∧ u.cell? ⟨H, 3, none⟩ = some (.int .i64 s) :=
 ⟨cell_of_row _ H 0 _ _ _ h, cell_of_row _ H 1 _ _ _ h, cell_of_row _ H 2 _ _ _ h, cell_of_row _ H 3 _ _ _ h⟩
theorem bl_al5 {a w : World} (h : Below a.heap.size a w) (o : Obj) : Below a.heap.size a (w.alloc o) := h.alloc h.size o
theorem u_get_p {k : PK} {Bx P : Nat} {t : TU} {w : World} (h : TwoU k Bx P t w) (n : Int) (hn : n ≤ 9223372036854775807) :
  Calls Tryz.prog 20 #[.pointer (some ⟨k.P, 0, none⟩), .int .i64 n] w fun e w1 => (∃ (l : List Int) (E : Int), l.length = 256 ∧ e = .returned (.tuple #[.agg (ArrU8 l), .int .i64 E])) ∧ ∃ t', UE k Bx P t w t' w1 ∧ Keep t t' := by
 refine (p1_get ⟨h.pg, h.pl, h.pj, h.pm, h.w0⟩ n hn).mono ?_
 rintro e w1 ⟨rfl, hl, v', hp, hnl, -⟩
 exact ⟨⟨_, _, hl, rfl⟩, _, h.both hp.2.1 (Below.refl _ _) (Chg.refl _ _) (h.prog hp.2.1).1 (.inl rfl) (.inl rfl) h.ur hp.1.pl hp.1.pj hp.1.pm h.w0 (by rw [hnl]; exact h.rn) h.rw (by have := hp.2.2.2.1; omega) (by have := hp.2.2.2.2; omega), hp.2.2.1, rfl, rfl, rfl, hp.2.2.2.1, hp.2.2.2.2⟩
theorem TwoU.us {k : PK} {Bx P : Nat} {t : TU} {w : World} (h : TwoU k Bx P t w) : nAt (z0 t.was) 0 ≤ t.was.length := by
 have h1 := h.pj.u0
 have h2 := h.pj.nP.1
 rw [h.pm.h0] at h1
 rw [h.rw.z0 h.pj.nP.2.1, h.rw.1]
 have h3 : hN (hdr (t.W 0)) 0 = nAt (t.W 0) 0 := by simp [hN, hdr]
 show nAt (t.W 0) 0 ≤ _
 omega
theorem PfC.fell {k : PK} {Bx P F8 F9 F10 F11 gf : Nat} {t t2 : TU} {B0 i g2 capf g' : Nat} {w0 w9 w1 wA w2 : World} {nv' : Value} {a : Option Addr} {n c : Nat} {u1 u2 : Int}
  (h : PfC k Bx P F8 F9 F10 F11 B0 w0 i w9 t gf g2 capf a n c u1 u2) (hc : Chg (UF k P t) w9 w1) (hcA : Chg (fun q => q = F11) w1 wA) (hA : wA.heap[F11]? = some (PB (.slice (some ⟨g2, 0, none⟩) t.now.length capf) (.slice none 0 0) u1 u2))
  (hfa : Fd k Bx P t2 wA) (hg : ∀ g, UF k P t2 g → UF k P t g ∨ w9.heap.size ≤ g) (hr : RPw w2 Bx P g' t2.gw nv' t2.wv ((k.sz - 2) * 256) t2.us t2.was t2.was) (hg' : wA.heap.size ≤ g') (hc2 : Chg (fun q => q = P) wA w2) :
  Fd k Bx P { t2 with gn := g', nv := nv', now := t2.was } w2 ∧ w2.heap[F8]? = some (PB (.slice none 0 0) (.slice none 0 0) 0 0) ∧ w2.heap[F9]? = some (PB (.slice none 0 0) (.slice none 0 0) 0 0) ∧
  (∃ cap a n c q1 q2, w2.heap[F10]? = some (PB (.slice (some ⟨gf, 0, none⟩) t.was.length cap) (.slice a n c) q1 q2) ∧ BkC w2 Bx gf (.slice (some ⟨gf, 0, none⟩) t.was.length cap) t.was) ∧
  w2.heap[F11]? = some (PB (.slice (some ⟨g2, 0, none⟩) t.now.length capf) (.slice none 0 0) u1 u2) ∧ BkC w2 Bx g2 (.slice (some ⟨g2, 0, none⟩) t.now.length capf) t.now ∧ Below B0 w0 w2 ∧ (∀ g, UF k P { t2 with gn := g', nv := nv', now := t2.was } g → B0 ≤ g ∧ g ≠ F8 ∧ g ≠ F9 ∧ g ≠ gf ∧ g ≠ g2) ∧ (F8 < w2.heap.size ∧ F9 < w2.heap.size) ∧ F8 < g2 ∧ F9 < g2 := by
 obtain ⟨l1, l2, l3, l4, l5⟩ := h.pl.fr.lt
 have hb := h.pl.bf
 obtain ⟨f8, f9, ⟨cap, a', n', c', q1, q2, f10, fb⟩, -⟩ := h.pl.fr
 have lg := h.bk.2.2.1
 have hF := h.g2.2
 have s1 := hc.size
 have s2 := hcA.size
 have s3 := hc2.size
 have hap2 : ∀ g, UF k P t2 g → B0 ≤ g ∧ g ≠ F8 ∧ g ≠ F9 ∧ g ≠ F10 ∧ g ≠ F11 ∧ g ≠ gf ∧ g ≠ g2 := fun q hq => by
  rcases hg q hq with e | e
  ·have h1 := h.pl.ap q e; exact ⟨h1.1, h1.2.1, h1.2.2.1, h1.2.2.2.1, h1.2.2.2.2.1, h1.2.2.2.2.2, h.g2.1 q e⟩
  ·refine ⟨by omega, by omega, by omega, by omega, by omega, by omega, by omega⟩
 have hP := hap2 P (.inr (.inl rfl))
 have go : ∀ b, b < w9.heap.size → ¬ UF k P t b → b ≠ F11 → w2.heap[b]? = w9.heap[b]? := fun b h1 h2 h3 =>
  ((hc2.block b (by omega) (fun e => h2 (.inr (.inl e)))).trans (hcA.block b (by omega) h3)).trans (hc.block b h1 h2)
 have hn := hfa.rf.ln
 refine ⟨⟨hfa.pg.chg hc2 (fun g hg e => (hfa.ap g hg).1 e), hr, fun g hgg => ⟨(hfa.ap g hgg).1, ?_, (hfa.ap g hgg).2.2⟩, by have := hfa.ln; show t2.was.length ≤ 4096; omega⟩,
  (go F8 l1 (fun e => (h.pl.ap _ e).2.1 rfl) (by omega)).trans f8, (go F9 l2 (fun e => (h.pl.ap _ e).2.2.1 rfl) (by omega)).trans f9,
  ⟨cap, a', n', c', q1, q2, (go F10 l3 (fun e => (h.pl.ap _ e).2.2.2.1 rfl) (by omega)).trans f10, fb.of (go gf l5 (fun e => (h.pl.ap _ e).2.2.2.2.2 rfl) (by omega)) (by omega)⟩,
  (hc2.block F11 (hlt5 hA) (by omega)).trans hA, h.bk.of (go g2 lg (fun e => h.g2.1 _ e rfl) (by omega)) (by omega),
  ((h.pl.bw.trans (hc.below (fun q hq => (h.pl.ap q hq).1) (by omega))).trans (hcA.below (B := B0) (fun q e => by omega) (by omega))).trans (hc2.below (B := B0) (fun q e => by omega) (by omega)), ?_, ⟨by omega, by omega⟩, by omega, by omega⟩
 ·have h1 := (hfa.pg.lt g hgg).2
  show g ≠ g'
  omega
 ·rintro g (e | e | e | e)
  ·have := hap2 g (.inl e); exact ⟨this.1, this.2.1, this.2.2.1, this.2.2.2.2.2.1, this.2.2.2.2.2.2⟩
  ·have := hap2 g (.inr (.inl e)); exact ⟨this.1, this.2.1, this.2.2.1, this.2.2.2.2.2.1, this.2.2.2.2.2.2⟩
  ·have e' : g = g' := e
   refine ⟨by omega, by omega, by omega, by omega, by omega⟩
  ·have := hap2 g (.inr (.inr (.inr e))); exact ⟨this.1, this.2.1, this.2.2.1, this.2.2.2.2.2.1, this.2.2.2.2.2.2⟩
set_option maxRecDepth 100000 in
set_option maxHeartbeats 12800000 in
theorem play_f (k : PK) (Bx P B0 : Nat) (w0 : World) (t : TU) (w : World) (v : Value) (xs : List S5) (h : TwoU k Bx P t w) (hrm : k.nb ≤ k.rm) (hL : t.v.s.L = []) (ha : t.v.a ≤ 1) (hb : t.v.b ≤ 1)
  (hv : Steps5 w0 v xs) (hl : xs.length ≤ 1048576) (hbw : Below B0 w0 w) (hB0 : B0 ≤ w.heap.size) (hw0 : w0.heap.size ≤ B0) (hap : ∀ g, UF k P t g → B0 ≤ g) (hnw : t.now = t.was) :
  Calls Tryz.prog 16 #[.pointer (some ⟨k.D, 0, none⟩), .pointer (some ⟨k.P, 0, none⟩), .pointer (some ⟨P, 0, none⟩), v] w fun e w' =>
   ∃ t' gf cap a n c u1 u2 g2 cap2 l2 a2 n2 c2 u3 u4, e = .returned (.tuple #[.agg #[.slice (some ⟨gf, 0, none⟩) t'.was.length cap, .slice a n c, .int .i64 u1, .int .i64 u2], .agg #[.slice (some ⟨g2, 0, none⟩) (l2 : List (List Int)).length cap2, .slice a2 n2 c2, .int .i64 u3, .int .i64 u4]]) ∧
    BkC w' Bx gf (.slice (some ⟨gf, 0, none⟩) t'.was.length cap) t'.was ∧ BkC w' Bx g2 (.slice (some ⟨g2, 0, none⟩) l2.length cap2) l2 ∧ Below B0 w0 w' ∧ (∀ g, UF k P t' g → B0 ≤ g ∧ g ≠ gf ∧ g ≠ g2) ∧ B0 ≤ gf ∧ B0 ≤ g2 ∧
    ((TwoU k Bx P t' w' ∧ t'.v.s.L = [] ∧ l2 = t'.was ∧ t'.v.a ≤ 1 + 2 * xs.length ∧ t'.v.b ≤ 1 + xs.length) ∨
     (Fd k Bx P t' w' ∧ nAt (z0 t'.was) 0 ≤ t'.was.length ∧ Crash k t'.v.s fun g => OKR (6 + 3 * xs.length) k g t'.was ∨ OKR (6 + 3 * xs.length) k g l2)) := by
 have hplt := h.rf.pg.lt.1
 have hBx : Bx ≤ w.heap.size := Nat.le_of_lt (Nat.lt_of_le_of_lt h.rf.pg.bp hplt)
 obtain ⟨u, hu⟩ : ∃ u, u = ((w.alloc (PB (.slice none 0 0) (.slice none 0 0) 0 0)).alloc (PB (.slice none 0 0) (.slice none 0 0) 0 0)).alloc (PB t.nv t.wv ((k.sz - 2) * 256) t.us) := ⟨_, rfl⟩
 have hbu : Below w.heap.size w u := by rw [hu]; exact bl_al5 (bl_al5 (bl_al5 (Below.refl _ _) _) _) _
 have hus : u.heap.size = w.heap.size + 1 + 1 + 1 := by rw [hu]; simp
 have htu : TwoU k Bx P t u := h.chg (Chg.fresh (F := fun _ => False) hbu) (fun _ _ e => e)
 have hlen : 0 < t.now.length := h.rf.pg.ne
 obtain ⟨capf, gf, w8, happ, hbk8, hbl8, hge8⟩ := copy_bk u 25 Bx t.gn t.nv t.now htu.rf.pg.nw hlen htu.len (by omega) (w.heap.size + 1 + 1 + 1) hus
 obtain ⟨capn, hnv⟩ := h.rf.pg.nw.1
 obtain ⟨capw, hwv⟩ := h.rf.ws.1
 have r0 := (cell_of_row _ P 0 _ _ _ htu.rf.pg.box).trans (show (#[t.nv, t.wv, .int .i64 ((k.sz - 2) * 256), .int .i64 t.us] : Array Value)[0]? = some t.nv from rfl)
 have q0 := (cell_of_row _ P 0 _ _ _ h.rf.pg.box).trans (show (#[t.nv, t.wv, .int .i64 ((k.sz - 2) * 256), .int .i64 t.us] : Array Value)[0]? = some t.nv from rfl)
 have q1 := (cell_of_row _ P 1 _ _ _ h.rf.pg.box).trans (show (#[t.nv, t.wv, .int .i64 ((k.sz - 2) * 256), .int .i64 t.us] : Array Value)[1]? = some t.wv from rfl)
 have q2 := (cell_of_row _ P 2 _ _ _ h.rf.pg.box).trans (show (#[t.nv, t.wv, .int .i64 ((k.sz - 2) * 256), .int .i64 t.us] : Array Value)[2]? = some (.int .i64 ((k.sz - 2) * 256)) from rfl)
 have q3 := (cell_of_row _ P 3 _ _ _ h.rf.pg.box).trans (show (#[t.nv, t.wv, .int .i64 ((k.sz - 2) * 256), .int .i64 t.us] : Array Value)[3]? = some (.int .i64 t.us) from rfl)
 rw [hnv] at r0 q0 happ hu
 rw [hwv] at q1 hu
 generalize (k.sz - 2) * 256 = arr at *
 have HAPP := hid happ
 have HU := hid hu
 have hpu : P < u.heap.size := htu.rf.pg.lt.1
 have hb1 : Below u.heap.size u (u.alloc (.cells #[] 50)) := (Below.refl _ _).alloc (Nat.le_refl _) _
 have r0c := (hb1.cell (p := ⟨P, 0, none⟩) hpu).trans r0
 have hp := three_new w (PB (.slice none 0 0) (.slice none 0 0) 0 0) (PB (.slice none 0 0) (.slice none 0 0) 0 0) (PB (.slice (some ⟨t.gn, 0, none⟩) t.now.length capn) (.slice (some ⟨t.gw, 0, none⟩) t.was.length capw) arr t.us)
 rw [← hu] at hp
 obtain ⟨hp8, hp9, hp10⟩ := hp
 replace hp8 := (hbl8.block _ (by omega)).trans hp8
 replace hp9 := (hbl8.block _ (by omega)).trans hp9
 replace hp10 := (hbl8.block _ (by omega)).trans hp10
 obtain ⟨d0, d1, d2, d3⟩ := pb_cells hp10
 have ff0 := frozen_of_row w8 (w.heap.size + 1 + 1) 0 _ _ hp10
 have hl10 := hlt5 hp10
 have HST := hid (pf_start (n := w.heap.size) htu hrm hL ha hb (hbw.trans (hbu.mono hB0)) hB0 hus hbl8 (fun g hg => ⟨hap g hg, h.lt g hg⟩) hp8 hp9 hp10 (by omega) (hnw ▸ hbk8))
 have HP8 := hid (And.intro hp8 (And.intro hp9 hp10))
 have HN8 := hid (And.intro hbk8 (And.intro hbl8 hge8))
 have HTU := hid htu
 have HUS := hid hus
 have hz44 : ∀ w : World, (zeroValue 44).run Tryz.prog w = .ok (.agg #[.slice none 0 0, .slice none 0 0, .int .i64 0, .int .i64 0]) w := fun w => by kernel_rfl
 clear happ hu r0 hb1 hbk8 hbl8 hge8 htu hus hbu hp8 hp9 hp10
 have HV := hid hv
 have HNW := hid hnw
 clear hnw h hrm hL ha hb hv hbw hap
 go_enter Tryz.func16, Tryz.ntmps16
 go_wp2_with (first
  | (refine wpList_build_lit (o := ⟨some 18, _, _, _, _, _⟩) rfl 25 50 rfl run_empty_blocks u HU.out (w.heap.size + 1 + 1 + 1) HUS.out ?_)
  | (at_builtin; refine wpList_of_run rfl (exec_append (Operand.tmp 18) (Operand.tmp 22) 25 rfl _ _ rfl rfl HAPP.out) ?_))
 generalize w8.heap.size = F11 at *
 generalize w.heap.size + 1 + 1 = F10 at *
 generalize w.heap.size + 1 = F9 at *
 generalize w.heap.size = F8 at *
 clear d0 d1 d2 d3 ff0 hl10 HP8 HN8 HTU HUS HU HAPP r0c q0 q1 q2 q3 hpu
 obtain ⟨va, vc, rfl, -⟩ := HV.out
 go_loopw [12] (fun iv wr => ∃ (i : Nat) (t1 : TU) (gf1 : Nat), iv = .int .i64 (i : Int) ∧ i ≤ xs.length ∧ PfI k Bx P F8 F9 F10 F11 B0 w0 i wr t1 gf1) (fun iv _ => xs.length - (intOf iv).toNat)
 case atStart => exact ⟨0, t, gf, rfl, Nat.zero_le _, by rw [HNW.out]; exact HST.out⟩
 case round =>
  obtain ⟨i, t1, gf1, rfl, hi, hI⟩ := hrel
  have hbwr := hI.bw
  have hvw := HV.out.below (hbwr.mono hw0)
  by_cases hlt : i < xs.length
  ·obtain ⟨a', cap', hv', hvc⟩ := hvw
   simp only [Value.slice.injEq, true_and] at hv'
   obtain ⟨rfl, rfl⟩ := hv'
   obtain ⟨vb, vo, hva, hvl, hvx⟩ := hvc (by omega)
   subst hva
   obtain ⟨x, hx⟩ : ∃ x, xs[i]? = some x := ⟨_, List.getElem?_eq_getElem hlt⟩
   obtain ⟨c0, c1, c2, hok⟩ := hvx i x hx
   obtain ⟨xk, xn, xb⟩ := x
   have HOK := hid hok
   simp only at c0 c1 c2
   have hci : (i : Int) < (xs.length : Int) := by omega
   have HX := hid (heap_alloc_new wr (.cells #[.int .i64 xk, .int .i64 xn, .int .u8 xb] 36))
   have HI := hid (hI.fresh (u := wr.alloc (.cells #[.int .i64 xk, .int .i64 xn, .int .u8 xb] 36)) ((Below.refl _ _).alloc (Nat.le_refl _) _))
   have HNB := hid (show ¬ UF k P t1 wr.heap.size from fun e => Nat.lt_irrefl _ (hI.tw.lt _ e))
   have d1 := (cell_of_row _ wr.heap.size 1 _ _ _ HX.out).trans (show (#[Value.int .i64 xk, .int .i64 xn, .int .u8 xb] : Array Value)[1]? = some (.int .i64 xn) from rfl)
   have d2 := (cell_of_row _ wr.heap.size 2 _ _ _ HX.out).trans (show (#[Value.int .i64 xk, .int .i64 xn, .int .u8 xb] : Array Value)[2]? = some (.int .u8 xb) from rfl)
   clear hI hbwr hvc hvx hx hok
   by_cases hk0 : xk = 0
   ·subst hk0
    have HBL := hid (fun u => block5_any xb u HOK.out.hb.1)
    clear d1 d2
    go_wp2_with fail
    refine wp_region_held_drew (S := fun u => u.heap[wr.heap.size]? = some (.cells #[.int .i64 0, .int .i64 xn, .int .u8 xb] 36 (0, 0))) (by kernel_rfl) (HX.out) (fun hHeld => ?_)
    refine tk (i := 0) (oi := ⟨some 44, .move (.tmp 1), 30, "law.go:199", #[], none⟩) (v := ?_) (Or.inl ⟨by rfl, ?_⟩) ?_
    rotate_left 1
    ·(intro u hSw; go_simp; try with_reducible rfl)
    try simp only [Act.put, sA, sB, sC]
    refine tk (i := 1) (oi := ⟨some 45, .fieldAddr 36 (.tmp 13) 1, 0, "law.go:199", #[], none⟩) (v := ?_) (Or.inl ⟨by rfl, ?_⟩) ?_
    rotate_left 1
    ·(intro u hSw; go_simp; try with_reducible rfl)
    try simp only [Act.put, sA, sB, sC]
    refine tk (i := 2) (oi := ⟨some 46, .load 3 (.tmp 45), 3, "law.go:199", #[⟨1, .data⟩], none⟩) (v := ?_) (Or.inl ⟨by rfl, ?_⟩) ?_
    rotate_left 1
    ·(intro u hSw; have p1 := (cell_of_row u wr.heap.size 1 _ _ _ hSw).trans (show (#[Value.int .i64 0, .int .i64 xn, .int .u8 xb] : Array Value)[1]? = some (.int .i64 xn) from rfl); have p2 := (cell_of_row u wr.heap.size 2 _ _ _ hSw).trans (show (#[Value.int .i64 0, .int .i64 xn, .int .u8 xb] : Array Value)[2]? = some (.int .u8 xb) from rfl); go_simp; try with_reducible rfl)
    try simp only [Act.put, sA, sB, sC]
    refine tk (i := 3) (oi := ⟨some 47, .fieldAddr 36 (.tmp 13) 2, 0, "law.go:199", #[], none⟩) (v := ?_) (Or.inl ⟨by rfl, ?_⟩) ?_
    rotate_left 1
    ·(intro u hSw; go_simp; try with_reducible rfl)
    try simp only [Act.put, sA, sB, sC]
    refine tk (i := 4) (oi := ⟨some 48, .load 5 (.tmp 47), 5, "law.go:199", #[⟨3, .data⟩], none⟩) (v := ?_) (Or.inl ⟨by rfl, ?_⟩) ?_
    rotate_left 1
    ·(intro u hSw; have p1 := (cell_of_row u wr.heap.size 1 _ _ _ hSw).trans (show (#[Value.int .i64 0, .int .i64 xn, .int .u8 xb] : Array Value)[1]? = some (.int .i64 xn) from rfl); have p2 := (cell_of_row u wr.heap.size 2 _ _ _ hSw).trans (show (#[Value.int .i64 0, .int .i64 xn, .int .u8 xb] : Array Value)[2]? = some (.int .u8 xb) from rfl); go_simp; try with_reducible rfl)
    try simp only [Act.put, sA, sB, sC]
    refine wpAnyH_ready (rs := [5]) (by kernel_rfl) (by simp) ?_
    refine AllReadyH.cons (o := ⟨some 49, .call ⟨.value (.func 24), #[.tmp 48], #[5]⟩, 50, "law.go:199", #[⟨4, .data⟩], none⟩) rfl (fun K hK => ?_) AllReadyH.nil
    go_simp
    refine (HBL.out _).mono ?_
    rintro e w1 ⟨rfl, hb1⟩
    have HX1 := hid ((hb1.block wr.heap.size (hlt5 HX.out)).trans HX.out)
    have HI1 := hid (HI.out.fresh (u := w1) ((Below.refl _ _).drew.trans hb1))
    have HC := hid (u_put HI1.out.tw xn (blk5 xb) HOK.out.hn.2 (blk5_len xb) (blk5_rng xb HOK.out.hb.1))
    clear hb1
    go_wp2_with fail
    refine hK.out _ _ HX1.out (fun hHeld => ?_)
    clear hK K
    try simp only [Act.put, sA, sB, sC]
    refine wpAnyH_ready (rs := [6]) (by kernel_rfl) (by simp) ?_
    refine AllReadyH.cons (o := ⟨some 50, .call ⟨.value (.func 23), #[.tmp 44, .tmp 46, .tmp 49], #[30, 3, 50]⟩, 28, "law.go:199", #[⟨0, .data⟩, ⟨2, .data⟩, ⟨5, .data⟩, ⟨5, .chain⟩], none⟩) rfl (fun K hK => ?_) AllReadyH.nil
    go_simp
    refine HC.out.mono ?_
    rintro e w2 ⟨E, rfl, hc, hnx⟩
    have HX2 := hid ((hc.block wr.heap.size (hlt5 HX1.out) HNB.out).trans HX1.out)
    have HNX := hid hnx
    clear hnx hc
    go_wp2_with fail
    refine hK.out _ _ HX2.out (fun hHeld => ?_)
    clear hK K
    try simp only [Act.put, sA, sB, sC]
    refine wpAnyH_done (by kernel_rfl) ?_ _
    go_wp2_with fail
    refine wp_region_held_drew (S := fun u => u.heap[wr.heap.size]? = some (.cells #[.int .i64 0, .int .i64 xn, .int .u8 xb] 36 (0, 0))) (by kernel_rfl) (HX2.out) (fun hHeld => ?_)
    refine tk (i := 0) (oi := ⟨some 51, .move (.tmp 2), 33, "law.go:200", #[], none⟩) (v := ?_) (Or.inl ⟨by rfl, ?_⟩) ?_
    rotate_left 1
    ·(intro u hSw; go_simp; try with_reducible rfl)
    try simp only [Act.put, sA, sB, sC]
    refine tk (i := 1) (oi := ⟨some 52, .fieldAddr 36 (.tmp 13) 1, 0, "law.go:200", #[], none⟩) (v := ?_) (Or.inl ⟨by rfl, ?_⟩) ?_
    rotate_left 1
    ·(intro u hSw; go_simp; try with_reducible rfl)
    try simp only [Act.put, sA, sB, sC]
    refine tk (i := 2) (oi := ⟨some 53, .load 3 (.tmp 52), 3, "law.go:200", #[⟨1, .data⟩], none⟩) (v := ?_) (Or.inl ⟨by rfl, ?_⟩) ?_
    rotate_left 1
    ·(intro u hSw; have p1 := (cell_of_row u wr.heap.size 1 _ _ _ hSw).trans (show (#[Value.int .i64 0, .int .i64 xn, .int .u8 xb] : Array Value)[1]? = some (.int .i64 xn) from rfl); have p2 := (cell_of_row u wr.heap.size 2 _ _ _ hSw).trans (show (#[Value.int .i64 0, .int .i64 xn, .int .u8 xb] : Array Value)[2]? = some (.int .u8 xb) from rfl); go_simp; try with_reducible rfl)
    try simp only [Act.put, sA, sB, sC]
    refine tk (i := 3) (oi := ⟨some 54, .fieldAddr 36 (.tmp 13) 2, 0, "law.go:200", #[], none⟩) (v := ?_) (Or.inl ⟨by rfl, ?_⟩) ?_
    rotate_left 1
    ·(intro u hSw; go_simp; try with_reducible rfl)
    try simp only [Act.put, sA, sB, sC]
    refine tk (i := 4) (oi := ⟨some 55, .load 5 (.tmp 54), 5, "law.go:200", #[⟨3, .data⟩], none⟩) (v := ?_) (Or.inl ⟨by rfl, ?_⟩) ?_
    rotate_left 1
    ·(intro u hSw; have p1 := (cell_of_row u wr.heap.size 1 _ _ _ hSw).trans (show (#[Value.int .i64 0, .int .i64 xn, .int .u8 xb] : Array Value)[1]? = some (.int .i64 xn) from rfl); have p2 := (cell_of_row u wr.heap.size 2 _ _ _ hSw).trans (show (#[Value.int .i64 0, .int .i64 xn, .int .u8 xb] : Array Value)[2]? = some (.int .u8 xb) from rfl); go_simp; try with_reducible rfl)
    try simp only [Act.put, sA, sB, sC]
    refine wpAnyH_ready (rs := [5]) (by kernel_rfl) (by simp) ?_
    refine AllReadyH.cons (o := ⟨some 56, .call ⟨.value (.func 24), #[.tmp 55], #[5]⟩, 50, "law.go:200", #[⟨4, .data⟩], none⟩) rfl (fun K hK => ?_) AllReadyH.nil
    go_simp
    refine (HBL.out _).mono ?_
    rintro e w3 ⟨rfl, hb3⟩
    have HX3 := hid ((hb3.block wr.heap.size (hlt5 HX2.out)).trans HX2.out)
    have HN3 := hid (HNX.out w3 ((Below.refl _ _).drew.trans hb3))
    clear hb3
    go_wp2_with fail
    refine hK.out _ _ HX3.out (fun hHeld => ?_)
    clear hK K
    try simp only [Act.put, sA, sB, sC]
    refine wpAnyH_ready (rs := [6]) (by kernel_rfl) (by simp) ?_
    refine AllReadyH.cons (o := ⟨some 57, .call ⟨.value (.func 42), #[.tmp 51, .tmp 53, .tmp 56], #[33, 3, 50]⟩, 28, "law.go:200", #[⟨0, .data⟩, ⟨2, .data⟩, ⟨5, .data⟩, ⟨5, .chain⟩], none⟩) rfl (fun K hK => ?_) AllReadyH.nil
    go_simp
    refine HN3.out.mono ?_
    rintro e w2 ⟨rfl, t', hte, hk⟩
    have HX4 := hid ((hte.2.1.block wr.heap.size (hlt5 HX1.out) HNB.out).trans HX1.out)
    have hj := HI1.out.keep hte hk
    have hd := down_any k.D _ _ _ _ _ _ w2 hj.tw.pg.ls.dk.1
    rw [hj.tw.pl.dn] at hd
    have HD := hid hd
    have HJ := hid hj
    clear hte hk hj hd
    go_wp2_with fail
    refine hK.out _ _ HX4.out (fun hHeld => ?_)
    clear hK K
    try simp only [Act.put, sA, sB, sC]
    refine wpAnyH_done (by kernel_rfl) ?_ _
    go_wp2_with (first
     | (go_at_call 54; refine HD.out.mono ?_; rintro e w9 ⟨rfl, rfl⟩))
    go_roundw
    case rel => exact ⟨i + 1, t', gf1, by go_num, by omega, HJ.out⟩
    case measure => simp [intOf]; omega
   by_cases hk2 : xk = 2
   ·subst hk2
    have HC := hid (u_alloc HI.out.tw)
    go_wp2_with (first
     | (go_at_call 18; refine HC.out.mono ?_; rintro e w1 ⟨A, E, rfl, hc, hnx⟩; have HX1 := hid ((hc.block wr.heap.size (hlt5 HX.out) HNB.out).trans HX.out); have e1 := (cell_of_row _ wr.heap.size 1 _ _ _ HX1.out).trans (show (#[Value.int .i64 2, .int .i64 xn, .int .u8 xb] : Array Value)[1]? = some (.int .i64 xn) from rfl); have e2 := (cell_of_row _ wr.heap.size 2 _ _ _ HX1.out).trans (show (#[Value.int .i64 2, .int .i64 xn, .int .u8 xb] : Array Value)[2]? = some (.int .u8 xb) from rfl); have HNX := hid (hnx w1 (Below.refl _ _)); clear hnx hc HC d1 d2)
     | (go_at_call 44; refine HNX.out.mono ?_; rintro e w2 ⟨rfl, t', hte, hk⟩; have hj := HI.out.keep hte hk; have hd := down_any k.D _ _ _ _ _ _ w2 hj.tw.pg.ls.dk.1; rw [hj.tw.pl.dn] at hd; have HD := hid hd; have HJ := hid hj; clear hte hk hj hd HNX)
     | (go_at_call 54; refine HD.out.mono ?_; rintro e w9 ⟨rfl, rfl⟩))
    go_roundw
    case rel => exact ⟨i + 1, t', gf1, by go_num, by omega, HJ.out⟩
    case measure => simp [intOf]; omega
   by_cases hk3 : xk = 3
   ·subst hk3
    have HC := hid (u_free HI.out.tw xn HOK.out.hn.2)
    go_wp2_with (first
     | (go_at_call 27; refine HC.out.mono ?_; rintro e w1 ⟨E, rfl, hc, hnx⟩; have HX1 := hid ((hc.block wr.heap.size (hlt5 HX.out) HNB.out).trans HX.out); have e1 := (cell_of_row _ wr.heap.size 1 _ _ _ HX1.out).trans (show (#[Value.int .i64 3, .int .i64 xn, .int .u8 xb] : Array Value)[1]? = some (.int .i64 xn) from rfl); have e2 := (cell_of_row _ wr.heap.size 2 _ _ _ HX1.out).trans (show (#[Value.int .i64 3, .int .i64 xn, .int .u8 xb] : Array Value)[2]? = some (.int .u8 xb) from rfl); have HNX := hid (hnx w1 (Below.refl _ _)); clear hnx hc HC d1 d2)
     | (go_at_call 45; refine HNX.out.mono ?_; rintro e w2 ⟨rfl, t', hte, hk⟩; have hj := HI.out.keep hte hk; have hd := down_any k.D _ _ _ _ _ _ w2 hj.tw.pg.ls.dk.1; rw [hj.tw.pl.dn] at hd; have HD := hid hd; have HJ := hid hj; clear hte hk hj hd HNX)
     | (go_at_call 54; refine HD.out.mono ?_; rintro e w9 ⟨rfl, rfl⟩))
    go_roundw
    case rel => exact ⟨i + 1, t', gf1, by go_num, by omega, HJ.out⟩
    case measure => simp [intOf]; omega
   by_cases hk4 : xk = 4
   ·subst hk4
    obtain ⟨m, hm⟩ : ∃ m : Nat, xb = (m : Int) := ⟨xb.toNat, by have := HOK.out.hb.1; simp only at this; omega⟩
    subst hm
    have hm2 : m < 256 := by have := HOK.out.hb.2; simp only at this; omega
    have hwm : IntKind.u64.wrap (m : Int) = (m : Int) := wrap_u64n _ (by omega) (by omega)
    have HC := hid (u_setroot HI.out.tw xn m (by omega))
    go_wp2_with (first
     | (go_at_call 46; refine HC.out.mono ?_; rintro e w1 ⟨E, rfl, hc, hnx⟩; have HX1 := hid ((hc.block wr.heap.size (hlt5 HX.out) HNB.out).trans HX.out); have e1 := (cell_of_row _ wr.heap.size 1 _ _ _ HX1.out).trans (show (#[Value.int .i64 4, .int .i64 xn, .int .u8 (m : Int)] : Array Value)[1]? = some (.int .i64 xn) from rfl); have e2 := (cell_of_row _ wr.heap.size 2 _ _ _ HX1.out).trans (show (#[Value.int .i64 4, .int .i64 xn, .int .u8 (m : Int)] : Array Value)[2]? = some (.int .u8 (m : Int)) from rfl); have HNX := hid (hnx w1 (Below.refl _ _)); clear hnx hc HC d1 d2)
     | (go_at_call 47; refine HNX.out.mono ?_; rintro e w2 ⟨rfl, t', hte, hk⟩; have hj := HI.out.keep hte hk; have hd := down_any k.D _ _ _ _ _ _ w2 hj.tw.pg.ls.dk.1; rw [hj.tw.pl.dn] at hd; have HD := hid hd; have HJ := hid hj; clear hte hk hj hd HNX)
     | (go_at_call 54; refine HD.out.mono ?_; rintro e w9 ⟨rfl, rfl⟩))
    go_roundw
    case rel => exact ⟨i + 1, t', gf1, by go_num, by omega, HJ.out⟩
    case measure => simp [intOf]; omega
   by_cases hk5 : xk = 5
   ·subst hk5
    obtain ⟨capg, hnv⟩ := HI.out.tw.rf.pg.nw.1
    have htu := HI.out.tw
    have hBx : Bx ≤ (wr.alloc (.cells #[.int .i64 5, .int .i64 xn, .int .u8 xb] 36)).heap.size := Nat.le_of_lt (Nat.lt_of_le_of_lt htu.rf.pg.bp htu.rf.pg.lt.1)
    have hsz5 : (wr.alloc (.cells #[.int .i64 5, .int .i64 xn, .int .u8 xb] 36)).heap.size = wr.heap.size + 1 := by simp
    obtain ⟨capf, g2, w8, happ, hbk8, hbl8, hge8⟩ := copy_bk (wr.alloc (.cells #[.int .i64 5, .int .i64 xn, .int .u8 xb] 36)) 25 Bx t1.gn t1.nv t1.now htu.rf.pg.nw htu.rf.pg.ne htu.len hBx (wr.heap.size + 1) hsz5
    have r0 := (cell_of_row _ P 0 _ _ _ htu.rf.pg.box).trans (show (#[t1.nv, t1.wv, .int .i64 ((k.sz - 2) * 256), .int .i64 t1.us] : Array Value)[0]? = some t1.nv from rfl)
    have hb1 : Below (wr.alloc (.cells #[.int .i64 5, .int .i64 xn, .int .u8 xb] 36)).heap.size (wr.alloc (.cells #[.int .i64 5, .int .i64 xn, .int .u8 xb] 36)) ((wr.alloc (.cells #[.int .i64 5, .int .i64 xn, .int .u8 xb] 36)).alloc (.cells #[] 50)) := (Below.refl _ _).alloc (Nat.le_refl _) _
    have r0c := (hb1.cell (p := ⟨P, 0, none⟩) htu.rf.pg.lt.1).trans r0
    rw [hnv] at r0c happ
    have hpu : P < wr.heap.size + 1 := by have := htu.rf.pg.lt.1; omega
    have HI8 := hid (HI.out.fresh hbl8)
    obtain ⟨-, -, -, ⟨a5, n5, c5, a6, n6, c6, v1, v2, h11⟩⟩ := HI8.out.fr
    obtain ⟨x0, x1, x2, x3⟩ := pb_cells h11
    have y0 := frozen_of_row _ F11 0 _ _ h11
    have yl := hlt5 h11
    have h11' := heap_setCell_same w8 F11 0 _ _ (.slice (some ⟨g2, 0, none⟩) t1.now.length capf) h11
    have hc11 : Chg (fun q => q = F11) w8 (w8.setCell ⟨F11, 0, none⟩ (.slice (some ⟨g2, 0, none⟩) t1.now.length capf)) := Chg.setCell (F := fun q => q = F11) (Chg.refl _ w8) ⟨F11, 0, none⟩ _ (.inl rfl)
    have HT9 := hid (HI8.out.tw.chg hc11 (fun g hg e => (HI8.out.ap g hg).2.2.2.2.1 e))
    have HB9 := hid (HI8.out.commit h11 hbk8 ⟨by have := HI.out.fr.lt; omega, fun g hg => by have := HI.out.tw.lt g hg; omega⟩)
    have HC := hid (u_commit_f HT9.out HI8.out.L0 HI8.out.cm (by have := HI8.out.a; omega) (by have := HI8.out.b; omega))
    have HAPP := hid happ
    have HS5 := hid hsz5
    clear happ r0 hb1 hbk8 hbl8 hge8 htu hBx hsz5 h11 h11' hc11 d1 d2
    go_wp2_with (first
     | (refine wpList_build_lit (o := ⟨some 92, _, _, _, _, _⟩) rfl 25 50 rfl run_empty_blocks _ rfl (wr.heap.size + 1) HS5.out ?_)
     | (at_builtin; refine wpList_of_run rfl (exec_append (Operand.tmp 92) (Operand.tmp 96) 25 rfl _ _ rfl rfl HAPP.out) ?_))
    refine HC.out.mono ?_
    rintro e w1 ⟨E, rfl, hc, hcom, hno⟩
    by_cases hE : E = 0
    ·subst hE
     have HNX := hid (hcom rfl w1 (Below.refl _ _))
     clear hcom hno hc HC x0 x1 x2 x3 y0 yl r0c
     go_wp2_with fail
     refine HNX.out.mono ?_
     rintro e w2 ⟨⟨E2, rfl⟩, t', hte, hw, hL⟩
     obtain ⟨k11, ⟨cp, o1, o2, o3, q1, q2, k10⟩⟩ := HB9.out.boxes hte.2.1
     obtain ⟨x0, x1, x2, x3⟩ := pb_cells k11
     obtain ⟨z0, z1, z2, z3⟩ := pb_cells k10
     have y0 := frozen_of_row _ F10 0 _ _ k10
     have y1 := frozen_of_row _ F10 1 _ _ k10
     have y2 := frozen_of_row _ F10 2 _ _ k10
     have y3 := frozen_of_row _ F10 3 _ _ k10
     have yl := hlt5 k10
     have hj := HB9.out.ok hte hw HI8.out.cm hL
     have hd := down_any k.D _ _ _ _ _ _ _ hj.tw.pg.ls.dk.1
     rw [hj.tw.pl.dn] at hd
     have HD := hid hd
     have HJ := hid hj
     clear hte hw hL hj hd HNX k11 k10
     go_wp2_with fail
     refine HD.out.mono ?_
     rintro e w9 ⟨rfl, rfl⟩
     go_wp2_with fail
     go_roundw
     case rel => exact ⟨i + 1, t', g2, by go_num, by omega, HJ.out⟩
     case measure => simp [intOf]; omega
    ·have gE : (E != 0) = true := bne_iff_ne.2 hE
     rcases hno hE with ⟨t2, hf, hg, hw2, hL, ha2, hb2⟩ | hfall
     rotate_left
     ·obtain ⟨t2, hfd, hg, hw2, hn2, hcr⟩ := hfall
      have gE' : (E != 0) = true := gE
      obtain ⟨k11, ⟨cp, o1, o2, o3, q1, q2, k10⟩⟩ := HB9.out.boxes hc
      obtain ⟨x0', x1', x2', x3'⟩ := pb_cells k11
      have y1 := frozen_of_row _ F11 1 _ _ k11
      have yl1 := hlt5 k11
      have hbf := HB9.out.pl.bf
      have k11A := heap_setCell_same w1 F11 1 _ _ (.slice none 0 0) k11
      have hcA : Chg (fun q => q = F11) w1 (w1.setCell ⟨F11, 1, none⟩ (.slice none 0 0)) := Chg.setCell (F := fun q => q = F11) (Chg.refl _ w1) ⟨F11, 1, none⟩ _ (.inl rfl)
      have hnu : ∀ g, UF k P t2 g → ¬ g = F11 := fun g hq => by
       rcases hg g hq with e | e
       ·exact (HB9.out.pl.ap g e).2.2.2.2.1
       ·have := HB9.out.pl.fr.lt; omega
      have hfA := hfd.chg hcA hnu
      have hd := down_any k.D _ _ _ _ _ _ _ hfA.pg.ls.dk.1
      rw [hcr.1] at hd
      have HD := hid hd
      have HFA := hid (And.intro hfA (And.intro hcA k11A))
      have HFL := hid (And.intro hc (And.intro hg (And.intro hw2 (And.intro hn2 hcr))))
      have HBF := hid hbf
      clear hcom hno hc HC x0 x1 x2 x3 y0 yl r0c hE hg hw2 hn2 hcr k11 k10 k11A hcA hfA hd hnu hbf hfd
      go_wp2_with fail
      refine HD.out.mono ?_
      rintro e wA ⟨hwA, rfl⟩
      have hfa := HFA.out
      rw [hwA] at hfa
      obtain ⟨hfA, hcA, k11A⟩ := hfa
      have HAB := hid (rabort_any _ _ _ _ _ _ _ _ _ _ wA hfA.rf hfA.ln)
      have HFB := hid (And.intro hfA (And.intro hcA k11A))
      clear hwA hfA hcA k11A HFA HD x0' x1' x2' x3' y1 yl1
      go_wp2_with fail
      refine HAB.out.mono ?_
      rintro e w2 ⟨rfl, ⟨g', nv', hr, hg'⟩, hc2⟩
      obtain ⟨hfA, hcA, k11A⟩ := HFB.out
      obtain ⟨m1, m2, m3, m4, m5⟩ := HFL.out
      have hfe := HB9.out.fell m1 hcA k11A hfA m2 hr hg' hc2
      have hd := down_any k.D _ _ _ _ _ _ _ hfe.1.pg.ls.dk.1
      rw [m5.1] at hd
      have HD2 := hid hd
      have HFE := hid hfe
      clear hfA hcA k11A m1 m2 m3 m4 m5 hfe hd hr hg' hc2 HAB HFB
      go_wp2_with fail
      refine HD2.out.mono ?_
      rintro e w9 ⟨rfl, rfl⟩
      go_wp2_with fail
      obtain ⟨hfd, h8, h9, ⟨cap, a, n, c, u1, u2, h10, hbk⟩, h11, hb2, -, -, -, l1, l2⟩ := HFE.out
      have hbf := HBF.out
      have NE98 := hid (show F9 ≠ F8 by omega)
      have NE89 := hid (show F8 ≠ F9 by omega)
      have NE108 := hid (show F10 ≠ F8 by omega)
      have NE109 := hid (show F10 ≠ F9 by omega)
      have NE118 := hid (show F11 ≠ F8 by omega)
      have NE119 := hid (show F11 ≠ F9 by omega)
      have hcg : Chg (fun q => q = F8 ∨ q = F9) w2 w2.drew := (Chg.refl _ _).drew
      have HBK := hid (And.intro hbk hb2)
      clear hbf hbk hb2 hfd l1 l2
      replace h8 : w2.drew.heap[F8]? = _ := h8
      replace h9 : w2.drew.heap[F9]? = _ := h9
      replace h10 : w2.drew.heap[F10]? = _ := h10
      replace h11 : w2.drew.heap[F11]? = _ := h11
      refine wp_region_held_drew (S := fun u => u.heap[F10]? = some (PB (.slice (some ⟨gf1, 0, none⟩) t1.was.length cap) (.slice a n c) u1 u2) ∧ u.heap[F11]? = some (PB (.slice (some ⟨g2, 0, none⟩) t1.now.length capf) (.slice none 0 0) v1 v2)) (by kernel_rfl) (And.intro h10 h11) (fun hHeld => ?_)
      refine tk (i := 0) (oi := ⟨some 112, .load 44 (.tmp 10), 44, "law.go:220", #[], none⟩) (v := ?_) (Or.inl ⟨by rfl, ?_⟩) ?_
      rotate_left 1
      ·(intro u hSw; obtain ⟨t0, t1', t2', t3⟩ := pb_cells hSw.1; obtain ⟨s0, s1, s2, s3⟩ := pb_cells hSw.2; go_simp; try with_reducible rfl)
      try simp only [Act.put, sA, sB, sC]
      refine tk (i := 1) (oi := ⟨some 113, .load 44 (.tmp 11), 44, "law.go:220", #[⟨2, .gcOnly Departure.lateStores⟩], none⟩) (v := ?_) (Or.inl ⟨by rfl, ?_⟩) ?_
      rotate_left 1
      ·(intro u hSw; obtain ⟨t0, t1', t2', t3⟩ := pb_cells hSw.1; obtain ⟨s0, s1, s2, s3⟩ := pb_cells hSw.2; go_simp; try with_reducible rfl)
      try simp only [Act.put, sA, sB, sC]
      refine wpAnyH_ready (rs := [2]) (by kernel_rfl) (by simp) ?_
      refine (AllReadyH.cons (o := ⟨none, .store 44 (.tmp 8) (.tmp 112), 0, "law.go:220", #[⟨0, .data⟩, ⟨0, .phase⟩, ⟨1, .textOnly Departure.lateStores⟩], none⟩) rfl (fun K hK => ?_) AllReadyH.nil)
      try (generalize World.drew w2 = ud at *)
      obtain ⟨x0, x1, x2, x3⟩ := pb_cells h8
      have y0 := frozen_of_row _ F8 0 _ _ h8
      have y1 := frozen_of_row _ F8 1 _ _ h8
      have y2 := frozen_of_row _ F8 2 _ _ h8
      have y3 := frozen_of_row _ F8 3 _ _ h8
      have yl := hlt5 h8
      replace h9 := (set4_other (.slice (some ⟨gf1, 0, none⟩) t1.was.length cap) (.slice a n c) u1 u2 NE98.out).trans h9
      replace h10 := (set4_other (.slice (some ⟨gf1, 0, none⟩) t1.was.length cap) (.slice a n c) u1 u2 NE108.out).trans h10
      replace h11 := (set4_other (.slice (some ⟨gf1, 0, none⟩) t1.was.length cap) (.slice a n c) u1 u2 NE118.out).trans h11
      replace hcg := hcg.trans (set4_chg (H := F8) _ (.slice (some ⟨gf1, 0, none⟩) t1.was.length cap) (.slice a n c) u1 u2) (fun q e => .inl (.inl e))
      replace h8 := set4 h8 (.slice (some ⟨gf1, 0, none⟩) t1.was.length cap) (.slice a n c) u1 u2
      go_simp
      refine hK.out _ _ (And.intro h10 h11) (fun hHeld => ?_)
      clear hK K
      try simp only [Act.put]
      refine wpAnyH_ready (rs := [3]) (by kernel_rfl) (by simp) ?_
      refine (AllReadyH.cons (o := ⟨none, .store 44 (.tmp 9) (.tmp 113), 0, "law.go:220", #[⟨1, .data⟩, ⟨2, .chain⟩, ⟨0, .phase⟩, ⟨1, .phase⟩, ⟨2, .phase⟩], none⟩) rfl (fun K hK => ?_) AllReadyH.nil)
      try (generalize World.drew w2 = ud at *)
      obtain ⟨x0, x1, x2, x3⟩ := pb_cells h9
      have y0 := frozen_of_row _ F9 0 _ _ h9
      have y1 := frozen_of_row _ F9 1 _ _ h9
      have y2 := frozen_of_row _ F9 2 _ _ h9
      have y3 := frozen_of_row _ F9 3 _ _ h9
      have yl := hlt5 h9
      replace h8 := (set4_other (.slice (some ⟨g2, 0, none⟩) t1.now.length capf) (.slice none 0 0) v1 v2 NE89.out).trans h8
      replace h10 := (set4_other (.slice (some ⟨g2, 0, none⟩) t1.now.length capf) (.slice none 0 0) v1 v2 NE109.out).trans h10
      replace h11 := (set4_other (.slice (some ⟨g2, 0, none⟩) t1.now.length capf) (.slice none 0 0) v1 v2 NE119.out).trans h11
      replace hcg := hcg.trans (set4_chg (H := F9) _ (.slice (some ⟨g2, 0, none⟩) t1.now.length capf) (.slice none 0 0) v1 v2) (fun q e => .inl (.inr e))
      replace h9 := set4 h9 (.slice (some ⟨g2, 0, none⟩) t1.now.length capf) (.slice none 0 0) v1 v2
      go_simp
      refine hK.out _ _ (And.intro h10 h11) (fun hHeld => ?_)
      clear hK K
      try simp only [Act.put]
      refine wpAnyH_done (by kernel_rfl) ?_ _
      obtain ⟨x0, x1, x2, x3⟩ := pb_cells h8
      obtain ⟨y0, y1, y2, y3⟩ := pb_cells h9
      have HCG := hid hcg
      generalize World.setCell (World.setCell (World.setCell (World.setCell _ _ _) _ _) _ _) _ _ = uz at *
      go_wp2_with fail
      refine bodyPost_ret (v := .tuple #[.agg #[.slice (some ⟨gf1, 0, none⟩) t1.was.length cap, .slice a n c, .int .i64 u1, .int .i64 u2], .agg #[.slice (some ⟨g2, 0, none⟩) t1.now.length capf, .slice none 0 0, .int .i64 v1, .int .i64 v2]]) (by simp [results, Tryz.results16, go_sem, x0, x1, x2, x3, y0, y1, y2, y3]) rfl ?_
      have hq := HCG.out
      obtain ⟨hfd, -, -, -, -, -, hbw, hap, hlt, l1, l2⟩ := HFE.out
      obtain ⟨m1, m2, m3, m4, m5⟩ := HFL.out
      have hbf := HBF.out
      have hus := HB9.out.pl.tw.us
      rw [← m3] at hus
      have hia := HB9.out.pl.a
      have hib := HB9.out.pl.b
      have hfx := HB9.out.g2.2
      have k1 := HBK.out.1.of (hq.block gf1 HBK.out.1.2.2.1 (by omega)) (Nat.lt_of_lt_of_le HBK.out.1.2.2.1 hq.size)
      have k2 := HBK.out.2.of (hq.block g2 HBK.out.2.2.2.1 (by omega)) (Nat.lt_of_lt_of_le HBK.out.2.2.2.1 hq.size)
      rw [← m3] at k1
      rw [← m3]
      exact ⟨{ t2 with gn := g', nv := nv', now := t2.was }, gf1, cap, a, n, c, u1, u2, g2, capf, t1.now, none, 0, 0, v1, v2, rfl, k1, k2, hbw.trans (hq.below (B := B0) (fun q e => by omega) (by have := hbw.size; omega)), fun g hg1 => ⟨(hap g hg1).1, (hap g hg1).2.2.2.1, (hap g hg1).2.2.2.2⟩, hbf.2.2.2.2.2.2.2.2, by omega, .inr ⟨hfd.chg hq (fun g hg1 e => by have := hap g hg1; omega), hus, m5.1, m5.2.1, fun ks tt => (m5.2.2 ks tt).imp (fun h => (m3 ▸ h.mono (by omega))) (fun h => h.mono (by omega))⟩⟩
     obtain ⟨k11, ⟨cp, o1, o2, o3, q1, q2, k10⟩⟩ := HB9.out.boxes hc
     obtain ⟨x0', x1', x2', x3'⟩ := pb_cells k11
     have y1 := frozen_of_row _ F11 1 _ _ k11
     have yl1 := hlt5 k11
     have hbf := HB9.out.pl.bf
     have k11A := heap_setCell_same w1 F11 1 _ _ (.slice none 0 0) k11
     have hcA : Chg (fun q => q = F11) w1 (w1.setCell ⟨F11, 1, none⟩ (.slice none 0 0)) := Chg.setCell (F := fun q => q = F11) (Chg.refl _ w1) ⟨F11, 1, none⟩ _ (.inl rfl)
     have k10A := (hcA.block F10 (hlt5 k10) (by omega)).trans k10
     have hnu : ∀ g, UF k P t2 g → ¬ g = F11 := fun g hq => by
      rcases hg g hq with e | e
      ·exact (HB9.out.pl.ap g e).2.2.2.2.1
      ·have := HB9.out.pl.fr.lt; omega
     have hfA := hf.chg hcA hnu
     have hd := down_any k.D _ _ _ _ _ _ _ hfA.pg.ls.dk.1
     rw [hfA.pl.dn] at hd
     have HD := hid hd
     have HK := hid (And.intro k11A k10A)
     have HFA := hid hfA
     have HNO := hid (And.intro hc (And.intro hg (And.intro hw2 (And.intro HI8.out.cm (And.intro hL (And.intro ha2 hb2))))))
     have HCA := hid hcA
     have HNU := hid hnu
     have HBF := hid hbf
     clear hcom hno hc HC x0 x1 x2 x3 y0 yl r0c hE hf hg hw2 hL ha2 hb2 k11 k10 k11A k10A hcA hfA hd hnu hbf
     go_wp2_with fail
     refine HD.out.mono ?_
     rintro e wA ⟨hwA, rfl⟩
     have hk := HK.out
     have hfa := HFA.out
     have hca := HCA.out
     rw [hwA] at hk hfa hca
     obtain ⟨k11, k10⟩ := hk
     obtain ⟨a0, a1, a2, a3⟩ := pb_cells k11
     obtain ⟨b0, b1, b2, b3⟩ := pb_cells k10
     have y0 := frozen_of_row _ F11 0 _ _ k11
     have y1' := frozen_of_row _ F11 1 _ _ k11
     have y2 := frozen_of_row _ F11 2 _ _ k11
     have y3 := frozen_of_row _ F11 3 _ _ k11
     have yl := hlt5 k11
     have hcB := hca.trans (set4_chg (H := F11) wA (.slice (some ⟨gf1, 0, none⟩) t1.was.length cp) (.slice o1 o2 o3) q1 q2) (fun q e => .inl e)
     have k11B := set4 k11 (.slice (some ⟨gf1, 0, none⟩) t1.was.length cp) (.slice o1 o2 o3) q1 q2
     have hab := hf_abort (hfa.chg (set4_chg (H := F11) wA (.slice (some ⟨gf1, 0, none⟩) t1.was.length cp) (.slice o1 o2 o3) q1 q2) HNU.out)
     have HAB := hid hab
     have HKB := hid (And.intro hcB k11B)
     clear hwA hfa hca k11 k10 hcB k11B hab HK HFA HCA HD x0' x1' x2' x3' y1 yl1
     go_wp2_with fail
     refine HAB.out.mono ?_
     rintro e w2 ⟨rfl, t', tw, hc2, hg2, hvv, hwas⟩
     obtain ⟨n1, n2, n3, n4, n5, n6, n7⟩ := HNO.out
     have hj := HB9.out.pl.no n1 n2 HKB.out.1 HKB.out.2 ⟨_, _, _, _, _, _, rfl, rfl⟩ tw hc2 hg2 hvv hwas n3 n4 n5 n6 n7
     have hd := down_any k.D _ _ _ _ _ _ _ hj.tw.pg.ls.dk.1
     rw [hj.tw.pl.dn] at hd
     have HD2 := hid hd
     have HJ := hid hj
     clear tw hc2 hg2 hvv hwas n1 n2 n3 n4 n5 n6 n7 hj hd HAB a0 a1 a2 a3 b0 b1 b2 b3 y0 y1' y2 y3 yl
     go_wp2_with fail
     refine HD2.out.mono ?_
     rintro e w9 ⟨rfl, rfl⟩
     go_wp2_with fail
     go_roundw
     case rel => exact ⟨i + 1, t', gf1, by go_num, by omega, HJ.out⟩
     case measure => simp [intOf]; omega
   by_cases hk6 : xk = 6
   ·subst hk6
    have HC := hid (u_abort HI.out.tw)
    go_wp2_with (first
     | (go_at_call 21; refine HC.out.mono ?_; rintro e w1 ⟨rfl, hc, hnx⟩; have HX1 := hid ((hc.block wr.heap.size (hlt5 HX.out) HNB.out).trans HX.out); have e1 := (cell_of_row _ wr.heap.size 1 _ _ _ HX1.out).trans (show (#[Value.int .i64 6, .int .i64 xn, .int .u8 xb] : Array Value)[1]? = some (.int .i64 xn) from rfl); have e2 := (cell_of_row _ wr.heap.size 2 _ _ _ HX1.out).trans (show (#[Value.int .i64 6, .int .i64 xn, .int .u8 xb] : Array Value)[2]? = some (.int .u8 xb) from rfl); have HNX := hid (hnx w1 (Below.refl _ _)); clear hnx hc HC d1 d2)
     | (go_at_call 11; refine HNX.out.mono ?_; rintro e w2 ⟨rfl, t', hte, hk⟩; have hj := HI.out.keep hte hk; have hd := down_any k.D _ _ _ _ _ _ w2 hj.tw.pg.ls.dk.1; rw [hj.tw.pl.dn] at hd; have HD := hid hd; have HJ := hid hj; clear hte hk hj hd HNX)
     | (go_at_call 54; refine HD.out.mono ?_; rintro e w9 ⟨rfl, rfl⟩))
    go_roundw
    case rel => exact ⟨i + 1, t', gf1, by go_num, by omega, HJ.out⟩
    case measure => simp [intOf]; omega
   by_cases hk7 : xk = 7
   ·subst hk7
    have HC := hid (u_ckpt_f HI.out.tw HI.out.L0 HI.out.cm (by have := HI.out.a; omega) (by have := HI.out.b; omega))
    clear d1 d2
    go_wp2_with fail
    refine HC.out.mono ?_
    rintro e w2 ⟨E, rfl, ⟨t', hte, hw, hL⟩ | ⟨t', hfd, hc, hg, hw, hn, hcr⟩⟩
    ·have hj := HI.out.ue hte hw HI.out.cm hL
     have hd := down_any k.D _ _ _ _ _ _ w2 hj.tw.pg.ls.dk.1
     rw [hj.tw.pl.dn] at hd
     have HD := hid hd
     have HJ := hid hj
     clear hte hw hL hj hd HC
     go_wp2_with (first
      | (go_at_call 54; refine HD.out.mono ?_; rintro e w9 ⟨rfl, rfl⟩))
     go_roundw
     case rel => exact ⟨i + 1, t', gf1, by go_num, by omega, HJ.out⟩
     case measure => simp [intOf]; omega
 
    ·have hd := down_any k.D _ _ _ _ _ _ w2 hfd.pg.ls.dk.1
     rw [hcr.1] at hd
     have HD := hid hd
     have HFD := hid (And.intro hfd (And.intro hc (And.intro hg (And.intro hw (And.intro hn hcr)))))
     clear hfd hc hg hw hn hcr hd HC
     go_wp2_with fail
     refine HD.out.mono ?_
     rintro e w9 ⟨rfl, rfl⟩
     go_wp2_with fail
     obtain ⟨hfd, hc, hg, hw, hn, hcr⟩ := HFD.out
     obtain ⟨h8, h9, ⟨cap, a, n, c, u1, u2, h10, hbk⟩, -⟩ := HI.out.fr.chg hc (fun e => (HI.out.ap _ e).2.1 rfl) (fun e => (HI.out.ap _ e).2.2.1 rfl) (fun e => (HI.out.ap _ e).2.2.2.1 rfl) (fun e => (HI.out.ap _ e).2.2.2.2.1 rfl) (fun e => (HI.out.ap _ e).2.2.2.2.2 rfl)
     have hltw := HI.out.fr.lt
     have HLW := hid (show F8 < w2.heap.size ∧ F9 < w2.heap.size by have := hc.size; omega)
     clear hfd hc hg hw hn hcr hltw
     have hbf := HI.out.bf
     have NE98 := hid (show F9 ≠ F8 by omega)
     have NE89 := hid (show F8 ≠ F9 by omega)
     have NE108 := hid (show F10 ≠ F8 by omega)
     have NE109 := hid (show F10 ≠ F9 by omega)
     have hcg : Chg (fun q => q = F8 ∨ q = F9) w2 w2.drew := (Chg.refl _ _).drew
     have HBF := hid hbf
     have HBK := hid hbk
     clear hbf hbk
     go_wp2_with fail
     replace h8 : w2.drew.heap[F8]? = _ := h8
     replace h9 : w2.drew.heap[F9]? = _ := h9
     replace h10 : w2.drew.heap[F10]? = _ := h10
     refine wp_region_held_drew (S := fun u => u.heap[F10]? = some (PB (.slice (some ⟨gf1, 0, none⟩) t1.was.length cap) (.slice a n c) u1 u2)) (by kernel_rfl) (h10) (fun hHeld => ?_)
     refine tk (i := 0) (oi := ⟨some 129, .load 44 (.tmp 10), 44, "law.go:235", #[], none⟩) (v := ?_) (Or.inl ⟨by rfl, ?_⟩) ?_
     rotate_left 1
     ·(intro u hSw; obtain ⟨t0, t1', t2, t3⟩ := pb_cells hSw; go_simp; try with_reducible rfl)
     try simp only [Act.put, sA, sB, sC]
     refine tk (i := 1) (oi := ⟨some 130, .load 44 (.tmp 10), 44, "law.go:235", #[⟨2, .gcOnly Departure.lateStores⟩], none⟩) (v := ?_) (Or.inl ⟨by rfl, ?_⟩) ?_
     rotate_left 1
     ·(intro u hSw; obtain ⟨t0, t1', t2, t3⟩ := pb_cells hSw; go_simp; try with_reducible rfl)
     try simp only [Act.put, sA, sB, sC]
     refine wpAnyH_ready (rs := [2]) (by kernel_rfl) (by simp) ?_
     refine (AllReadyH.cons (o := ⟨none, .store 44 (.tmp 8) (.tmp 129), 0, "law.go:235", #[⟨0, .data⟩, ⟨0, .phase⟩, ⟨1, .textOnly Departure.lateStores⟩], none⟩) rfl (fun K hK => ?_) AllReadyH.nil)
     try (generalize World.drew w2 = ud at *)
     obtain ⟨x0, x1, x2, x3⟩ := pb_cells h8
     have y0 := frozen_of_row _ F8 0 _ _ h8
     have y1 := frozen_of_row _ F8 1 _ _ h8
     have y2 := frozen_of_row _ F8 2 _ _ h8
     have y3 := frozen_of_row _ F8 3 _ _ h8
     have yl := hlt5 h8
     replace h9 := (set4_other (.slice (some ⟨gf1, 0, none⟩) t1.was.length cap) (.slice a n c) u1 u2 NE98.out).trans h9
     replace h10 := (set4_other (.slice (some ⟨gf1, 0, none⟩) t1.was.length cap) (.slice a n c) u1 u2 NE108.out).trans h10
     replace hcg := hcg.trans (set4_chg (H := F8) _ (.slice (some ⟨gf1, 0, none⟩) t1.was.length cap) (.slice a n c) u1 u2) (fun q e => .inl (.inl e))
     replace h8 := set4 h8 (.slice (some ⟨gf1, 0, none⟩) t1.was.length cap) (.slice a n c) u1 u2
     go_simp
     refine hK.out _ _ h10 (fun hHeld => ?_)
     clear hK K
     try simp only [Act.put]
     refine wpAnyH_ready (rs := [3]) (by kernel_rfl) (by simp) ?_
     refine (AllReadyH.cons (o := ⟨none, .store 44 (.tmp 9) (.tmp 130), 0, "law.go:235", #[⟨1, .data⟩, ⟨2, .chain⟩, ⟨0, .phase⟩, ⟨1, .phase⟩, ⟨2, .phase⟩], none⟩) rfl (fun K hK => ?_) AllReadyH.nil)
     try (generalize World.drew w2 = ud at *)
     obtain ⟨x0, x1, x2, x3⟩ := pb_cells h9
     have y0 := frozen_of_row _ F9 0 _ _ h9
     have y1 := frozen_of_row _ F9 1 _ _ h9
     have y2 := frozen_of_row _ F9 2 _ _ h9
     have y3 := frozen_of_row _ F9 3 _ _ h9
     have yl := hlt5 h9
     replace h8 := (set4_other (.slice (some ⟨gf1, 0, none⟩) t1.was.length cap) (.slice a n c) u1 u2 NE89.out).trans h8
     replace h10 := (set4_other (.slice (some ⟨gf1, 0, none⟩) t1.was.length cap) (.slice a n c) u1 u2 NE109.out).trans h10
     replace hcg := hcg.trans (set4_chg (H := F9) _ (.slice (some ⟨gf1, 0, none⟩) t1.was.length cap) (.slice a n c) u1 u2) (fun q e => .inl (.inr e))
     replace h9 := set4 h9 (.slice (some ⟨gf1, 0, none⟩) t1.was.length cap) (.slice a n c) u1 u2
     go_simp
     refine hK.out _ _ h10 (fun hHeld => ?_)
     clear hK K
     try simp only [Act.put]
     refine wpAnyH_done (by kernel_rfl) ?_ _
     have HC8 := hid (pb_cells h8)
     obtain ⟨x0, x1, x2, x3⟩ := pb_cells h8
     obtain ⟨y0, y1, y2, y3⟩ := pb_cells h9
     have HCG := hid hcg
     have H10 := hid h10
     generalize World.setCell (World.setCell (World.setCell (World.setCell _ _ _) _ _) _ _) _ _ = uz at *
     go_wp2_with fail
     refine bodyPost_ret (v := .tuple #[.agg #[(.slice (some ⟨gf1, 0, none⟩) t1.was.length cap), .slice a n c, .int .i64 u1, .int .i64 u2], .agg #[(.slice (some ⟨gf1, 0, none⟩) t1.was.length cap), .slice a n c, .int .i64 u1, .int .i64 u2]]) (by simp [results, Tryz.results16, go_sem, x0, x1, x2, x3, y0, y1, y2, y3]) rfl ?_
     have hq := HCG.out
     have hbq := HBF.out
     obtain ⟨hfd, hc, hg, hw, hn, hcr⟩ := HFD.out
     have hus := HI.out.tw.us
     rw [← hw] at hus
     have hbk' := HBK.out.of (hq.block gf1 HBK.out.2.2.1 (by omega)) (Nat.lt_of_lt_of_le HBK.out.2.2.1 hq.size)
     have hug : ∀ g, UF k P t' g → B0 ≤ g ∧ g ≠ F8 ∧ g ≠ F9 ∧ g ≠ gf1 := fun g hg1 => by
      rcases hg g hg1 with e | e
      ·have h1 := HI.out.ap g e; exact ⟨h1.1, h1.2.1, h1.2.2.1, h1.2.2.2.2.2⟩
      ·have h1 := HI.out.fr.lt; have h2 := HI.out.fr.2.2.1; obtain ⟨_, _, _, _, _, _, _, h3⟩ := h2; have h4 := h3.2.2.1; refine ⟨by omega, by omega, by omega, by omega⟩
     have hia := HI.out.a
     have hib := HI.out.b
     exact ⟨t', gf1, cap, a, n, c, u1, u2, gf1, cap, t1.was, a, n, c, u1, u2, by rw [hw], by rw [hw]; exact hbk', hbk', (HI.out.bw.trans (hc.below (B := B0) (fun q e => (HI.out.ap q e).1) (by have := HI.out.fr.lt; omega))).trans (hq.below (B := B0) (fun q e => by omega) (by have := HI.out.fr.lt; have := hc.size; omega)), fun g hg1 => ⟨(hug g hg1).1, (hug g hg1).2.2.2, (hug g hg1).2.2.2⟩, hbq.2.2.2.2.2.2.2.2, hbq.2.2.2.2.2.2.2.2, .inr ⟨hfd.chg hq (fun g hg1 e => by have := hug g hg1; omega), hus, hcr.1, hcr.2.1, fun ks tt => .inr ((hcr.2.2 ks tt).mono (by omega))⟩⟩
   have k0 : (xk == 0) = false := beq_false_of_ne hk0
   have k2 : (xk == 2) = false := beq_false_of_ne hk2
   have k3 : (xk == 3) = false := beq_false_of_ne hk3
   have k4 : (xk == 4) = false := beq_false_of_ne hk4
   have k5 : (xk == 5) = false := beq_false_of_ne hk5
   have k6 : (xk == 6) = false := beq_false_of_ne hk6
   have k7 : (xk == 7) = false := beq_false_of_ne hk7
   clear hk0 hk2 hk3 hk4 hk5 hk6 hk7
   have HC := hid (u_get_p HI.out.tw xn HOK.out.hn.2)
   go_wp2_with (first
    | (go_at_call 20; refine HC.out.mono ?_; rintro e w2 ⟨⟨l, E, hl, rfl⟩, t', hte, hk⟩; have hj := HI.out.keep hte hk; have hd := down_any k.D _ _ _ _ _ _ w2 hj.tw.pg.ls.dk.1; rw [hj.tw.pl.dn] at hd; have HD := hid hd; have HJ := hid hj; clear hte hk hj hd hl HC)
    | (go_at_call 54; refine HD.out.mono ?_; rintro e w9 ⟨rfl, rfl⟩))
   go_roundw
   case rel => exact ⟨i + 1, t', gf1, by go_num, by omega, HJ.out⟩
   case measure => simp [intOf]; omega
  ·have hie : i = xs.length := by omega
   subst hie
   have hce : decide ((xs.length : Int) < (xs.length : Int)) = false := decide_eq_false (by omega)
   have HI := hid hI
   clear hbwr hvw hlt hI
   obtain ⟨h8, h9, ⟨cap, a, n, c, u1, u2, h10, hbk⟩, -⟩ := HI.out.fr
   have hbf := HI.out.bf
   have NE98 := hid (show F9 ≠ F8 by omega)
   have NE89 := hid (show F8 ≠ F9 by omega)
   have NE108 := hid (show F10 ≠ F8 by omega)
   have NE109 := hid (show F10 ≠ F9 by omega)
   have hcg : Chg (fun q => q = F8 ∨ q = F9) wr wr.drew := (Chg.refl _ _).drew
   have HBF := hid hbf
   have HBK := hid hbk
   clear hbf hbk
   go_wp2_with fail
   replace h8 : wr.drew.heap[F8]? = _ := h8
   replace h9 : wr.drew.heap[F9]? = _ := h9
   replace h10 : wr.drew.heap[F10]? = _ := h10
   refine wp_region_held_drew (S := fun u => u.heap[F10]? = some (PB (.slice (some ⟨gf1, 0, none⟩) t1.was.length cap) (.slice a n c) u1 u2)) (by kernel_rfl) (h10) (fun hHeld => ?_)
   refine tk (i := 0) (oi := ⟨some 131, .load 44 (.tmp 10), 44, "law.go:238", #[], none⟩) (v := ?_) (Or.inl ⟨by rfl, ?_⟩) ?_
   rotate_left 1
   ·(intro u hSw; obtain ⟨t0, t1', t2, t3⟩ := pb_cells hSw; go_simp; try with_reducible rfl)
   try simp only [Act.put, sA, sB, sC]
   refine tk (i := 1) (oi := ⟨some 132, .load 44 (.tmp 10), 44, "law.go:238", #[⟨2, .gcOnly Departure.lateStores⟩], none⟩) (v := ?_) (Or.inl ⟨by rfl, ?_⟩) ?_
   rotate_left 1
   ·(intro u hSw; obtain ⟨t0, t1', t2, t3⟩ := pb_cells hSw; go_simp; try with_reducible rfl)
   try simp only [Act.put, sA, sB, sC]
   refine wpAnyH_ready (rs := [2]) (by kernel_rfl) (by simp) ?_
   refine (AllReadyH.cons (o := ⟨none, .store 44 (.tmp 8) (.tmp 131), 0, "law.go:238", #[⟨0, .data⟩, ⟨0, .phase⟩, ⟨1, .textOnly Departure.lateStores⟩], none⟩) rfl (fun K hK => ?_) AllReadyH.nil)
   try (generalize World.drew wr = ud at *)
   obtain ⟨x0, x1, x2, x3⟩ := pb_cells h8
   have y0 := frozen_of_row _ F8 0 _ _ h8
   have y1 := frozen_of_row _ F8 1 _ _ h8
   have y2 := frozen_of_row _ F8 2 _ _ h8
   have y3 := frozen_of_row _ F8 3 _ _ h8
   have yl := hlt5 h8
   replace h9 := (set4_other (.slice (some ⟨gf1, 0, none⟩) t1.was.length cap) (.slice a n c) u1 u2 NE98.out).trans h9
   replace h10 := (set4_other (.slice (some ⟨gf1, 0, none⟩) t1.was.length cap) (.slice a n c) u1 u2 NE108.out).trans h10
   replace hcg := hcg.trans (set4_chg (H := F8) _ (.slice (some ⟨gf1, 0, none⟩) t1.was.length cap) (.slice a n c) u1 u2) (fun q e => .inl (.inl e))
   replace h8 := set4 h8 (.slice (some ⟨gf1, 0, none⟩) t1.was.length cap) (.slice a n c) u1 u2
   go_simp
   refine hK.out _ _ h10 (fun hHeld => ?_)
   clear hK K
   try simp only [Act.put]
   refine wpAnyH_ready (rs := [3]) (by kernel_rfl) (by simp) ?_
   refine (AllReadyH.cons (o := ⟨none, .store 44 (.tmp 9) (.tmp 132), 0, "law.go:238", #[⟨1, .data⟩, ⟨2, .chain⟩, ⟨0, .phase⟩, ⟨1, .phase⟩, ⟨2, .phase⟩], none⟩) rfl (fun K hK => ?_) AllReadyH.nil)
   try (generalize World.drew wr = ud at *)
   obtain ⟨x0, x1, x2, x3⟩ := pb_cells h9
   have y0 := frozen_of_row _ F9 0 _ _ h9
   have y1 := frozen_of_row _ F9 1 _ _ h9
   have y2 := frozen_of_row _ F9 2 _ _ h9
   have y3 := frozen_of_row _ F9 3 _ _ h9
   have yl := hlt5 h9
   replace h8 := (set4_other (.slice (some ⟨gf1, 0, none⟩) t1.was.length cap) (.slice a n c) u1 u2 NE89.out).trans h8
   replace h10 := (set4_other (.slice (some ⟨gf1, 0, none⟩) t1.was.length cap) (.slice a n c) u1 u2 NE109.out).trans h10
   replace hcg := hcg.trans (set4_chg (H := F9) _ (.slice (some ⟨gf1, 0, none⟩) t1.was.length cap) (.slice a n c) u1 u2) (fun q e => .inl (.inr e))
   replace h9 := set4 h9 (.slice (some ⟨gf1, 0, none⟩) t1.was.length cap) (.slice a n c) u1 u2
   go_simp
   refine hK.out _ _ h10 (fun hHeld => ?_)
   clear hK K
   try simp only [Act.put]
   refine wpAnyH_done (by kernel_rfl) ?_ _
   have HC8 := hid (pb_cells h8)
   obtain ⟨x0, x1, x2, x3⟩ := pb_cells h8
   obtain ⟨y0, y1, y2, y3⟩ := pb_cells h9
   have HCG := hid hcg
   have H10 := hid h10
   generalize World.setCell (World.setCell (World.setCell (World.setCell _ _ _) _ _) _ _) _ _ = uz at *
   go_wp2_with fail
   refine bodyPost_ret (v := .tuple #[.agg #[(.slice (some ⟨gf1, 0, none⟩) t1.was.length cap), .slice a n c, .int .i64 u1, .int .i64 u2], .agg #[(.slice (some ⟨gf1, 0, none⟩) t1.was.length cap), .slice a n c, .int .i64 u1, .int .i64 u2]]) (by simp [results, Tryz.results16, go_sem, x0, x1, x2, x3, y0, y1, y2, y3]) rfl ?_
   have hq := HCG.out
   have hbq := HBF.out
   have hbk' := HBK.out.of (hq.block gf1 HBK.out.2.2.1 (by omega)) (Nat.lt_of_lt_of_le HBK.out.2.2.1 hq.size)
   exact ⟨t1, gf1, cap, a, n, c, u1, u2, gf1, cap, t1.was, a, n, c, u1, u2, rfl, hbk', hbk', HI.out.bw.trans (hq.below (B := B0) (fun q e => by omega) (by have := HI.out.fr.lt; omega)), fun g hg => ⟨(HI.out.ap g hg).1, (HI.out.ap g hg).2.2.2.2.2, (HI.out.ap g hg).2.2.2.2.2⟩, hbq.2.2.2.2.2.2.2.2, hbq.2.2.2.2.2.2.2.2, .inl ⟨HI.out.tw.chg hq (fun g hg e => by have h1 := (HI.out.ap g hg).2.1; have h2 := (HI.out.ap g hg).2.2.1; omega), HI.out.L0, rfl, HI.out.a, HI.out.b⟩⟩
end Go.Proofs.YtdkjkibdncbibaaGreat
