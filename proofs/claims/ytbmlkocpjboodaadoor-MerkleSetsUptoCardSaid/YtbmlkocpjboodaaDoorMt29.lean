/- stage 7: MerkleSets, the walk -/
import Derived.Test.YtbmlkocpjboodaaDoorMt28
namespace Go.Proofs.YtbmlkocpjboodaaDoor
open Go.RowKit
open Go.Lib (hid)
theorem MIs.bound2 {w : World} {S : Nat → Prop} : ∀ {t : MT} {p : Value}, MIs w S p t → MIs w (fun b => S b ∧ b < w.heap.size) p t
 | .nil, _, h => h
 | .cut _, _, ⟨b, e, h, hl, hx⟩ => ⟨b, e, ⟨h, blk_lt hx⟩, hl, hx⟩
 | .nd .., _, ⟨b, kv, lp, rp, e, h, h1, h2, hx, hk, hl, hr⟩ => ⟨b, kv, lp, rp, e, ⟨h, blk_lt hx⟩, h1, h2, hx, hk.bound, MIs.bound2 hl, MIs.bound2 hr⟩
theorem RfO.cg {w w' : World} {B : Nat} {F : Nat → Prop} {v : Value} {l : List (List Int × Nat)} (h : RfO w B v l) (hc : Chg F w w') (hn : ∀ g, v.ownBlock = some g → ¬ F g) : RfO w' B v l := by
 have hlt := h.lt
 refine ⟨h.1, h.2.imp id ?_⟩
 rintro ⟨g, cap, cur, rfl, q1, q2, q3⟩
 exact ⟨g, cap, cur, rfl, q1, (hc.block g (hlt g rfl).2 (hn g rfl)).trans q2, q3⟩
/-- the law's tree and list under way, behind j entries; the tree lies in blocks S -/
def TV3 (w : World) (X B : Nat) (l : List (List Int × Int)) (j : Nat) (wv : Value) (u : World) : Prop :=
 ∃ (S : Nat → Prop) (x : Value) (t : MT), t = putsE (l.take j) .nil ∧ TIs u X x ∧ MIs u S x t ∧ ¬ S X ∧ (∀ q, S q → q < u.heap.size) ∧ Wh3 t j ∧ RfO u B wv t.ino ∧ KC u ∧ B ≤ u.heap.size ∧ Below w.heap.size w u
theorem ents_all (t : MT) : t.ents [] [] false = t.ino := by
 rw [ents_ino]
 refine List.filter_eq_self.2 (fun x _ => ?_)
 unfold hasQ endsQ
 cases x.1 <;> simp [cmpI]
theorem spoil_get {D : Array Value} {L n : Nat} {v : Int} (h : ∀ i, i < L → ∃ v : Int, D[i]? = some (.int .u8 v)) (i : Nat) (hi : i < L) : ∃ u : Int, (D.setIfInBounds n (.int .u8 v))[i]? = some (.int .u8 u) := by
 obtain ⟨u, hu⟩ := h i hi
 by_cases e : n = i
 ·subst e
  exact ⟨v, by rw [Array.getElem?_setIfInBounds, if_pos rfl, if_pos (Array.getElem?_eq_some_iff.1 hu).1]⟩
 ·exact ⟨u, by rw [Array.getElem?_setIfInBounds, if_neg e]; exact hu⟩
set_option maxRecDepth 100000 in
set_option maxHeartbeats 8000000 in
theorem sets_walk (w : World) (vl : Value) (l : List (List Int × Int)) (hl : RfS w vl l) (gl : ∀ x ∈ l, EOk x) (hK : KC w) :
  Calls Tryd.prog 4 #[vl] w fun d w' => d = .returned (.bool true) ∧ Below w.heap.size w w' := by
 have hlb := hl
 obtain ⟨al, cl, rfl, -⟩ := hlb
 have HFX := hid (fixed_any w hK)
 have H0 := hid (And.intro hl hK)
 have HG := hid gl
 clear hl hK gl
 go_enter Tryd.func4, Tryd.ntmps4
 go_wp2_with fail
 refine HFX.out.mono ?_
 rintro d w1 ⟨rfl, hb1⟩
 have HK0 := hid H0.out.2
 have HK3 := hid (And.intro hb1 (H0.out.2.below hb1 H0.out.2.1))
 have HBN := hid (build_nil w1)
 clear hb1 HFX
 go_wp2_with fail
 refine HBN.out.mono ?_
 rintro d w4 ⟨X, rfl, hx4, hX, hb4⟩
 have hXw : w.heap.size ≤ X := Nat.le_trans HK3.out.1.size hX
 have hKX : 1 < X := Nat.lt_of_lt_of_le HK0.out.1 hXw
 have hXB : X < w4.heap.size := blk_lt hx4
 have h4 : Below w.heap.size w w4 := HK3.out.1.trans (hb4.mono HK3.out.1.size)
 have hb5 : Below w4.heap.size w4 (w4.alloc (.cells #[] 45)) := (Below.refl _ _).alloc (Nat.le_refl _) _
 have HT0 := hid (show TV3 w X w4.heap.size l 0 (.slice (some ⟨w4.heap.size, 0, none⟩) 0 0) (w4.alloc (.cells #[] 45)) from ⟨fun _ => False, .pointer none, .nil, rfl, (hb5.block _ hXB).trans hx4, rfl, id, fun q h => h.elim, wh3_nil, ⟨rfl, .inr ⟨w4.heap.size, 0, #[], rfl, Nat.le_refl _, heap_alloc_new _ _, Nat.le_refl _, Nat.zero_le _, rfl, rfl⟩⟩, ((HK3.out.2.below hb4 HK3.out.2.1).below hb5 (Nat.lt_of_lt_of_le HK0.out.1 h4.size)), hb5.size, h4.trans (hb5.mono h4.size)⟩)
 have hBw : w.heap.size ≤ w4.heap.size := h4.size
 clear hx4 hX hb4 HBN HK3 h4 hb5
 go_wp2_with fail
 go_loopw [4, 5] (fun wv iv wr => ∃ j : Nat, j ≤ l.length ∧ j ≤ 200 ∧ iv = .int .i64 (j : Int) ∧ TV3 w X w4.heap.size l j wv wr) (fun _ iv _ => l.length - (intOf iv).toNat)
 case atStart => exact ⟨0, Nat.zero_le _, Nat.zero_le _, rfl, HT0.out⟩
 case round =>
  obtain ⟨j, hj, hj100, rfl, htu⟩ := hrel
  generalize hBB : w4.heap.size = B at *
  clear hBB HT0
  obtain ⟨S, px, t, htd, ht, hm, hSX, hSb, hwh, hro, hkc, hBs, hb⟩ := htu
  obtain ⟨aw, cw, rfl⟩ := hro.slc
  by_cases hjl : j < l.length ∧ j < 200
  ·obtain ⟨hjl, hjc⟩ := hjl
   have hx : l[j]? = some (l[j]'hjl) := List.getElem?_eq_getElem hjl
   generalize l[j]'hjl = x at hx
   have hxo := HG.out x (List.mem_of_getElem? hx)
   obtain ⟨a', c', he, hall⟩ := H0.out.1
   injection he with e1 e0 e2
   clear e0
   subst e1 e2
   obtain ⟨g, o, hag, hgl, hc0, hc1⟩ := hall j x hx
   subst hag
   have HC := hid (fun u (hu : Below w.heap.size w u) => (show u.cell? ⟨g, o + j * 2, none⟩ = some (.string (str x.1)) ∧ u.cell? ⟨g, o + j * 2 + 1, none⟩ = some (.int .i64 x.2) from ⟨(World.cell?_of_block (a := ⟨g, o + j * 2, none⟩) (hu.block g hgl)).trans hc0, (World.cell?_of_block (a := ⟨g, o + j * 2 + 1, none⟩) (hu.block g hgl)).trans hc1⟩))
   have hj0 : (0 : Int) ≤ (j : Int) := by omega
   have hj1 : (j : Int) < (l.length : Int) := by omega
   have hj2 : (j : Int) < 200 := by omega
   have HXX := hid (And.intro hx (And.intro hxo (And.intro hwh htd)))
   have HNX := hid (And.intro hjl hjc)
   obtain ⟨W1, ck, C, m, q1, b1, s1, k1, hcap, hkb, hkm, hC⟩ := conv_blk wr x.1 hxo.1
   have c0 := (HC.out wr hb).1
   have hb1 := hb.trans (b1.mono hb.size)
   have c1 := (HC.out W1 hb1).2
   have ht1 : TIs W1 X px := (b1.block X (blk_lt ht)).trans ht
   have hm1 : MIs W1 (fun q => S q ∨ W1.heap.size ≤ q) px t := (hm.below b1).mono (fun q h => .inl h)
   have hkc1 := hkc.below b1 hkc.1
   have hro1 := hro.below b1
   have hXk : X < wr.heap.size := blk_lt ht
   have hwk : w.heap.size ≤ wr.heap.size := hb.size
   have HLT := hid hro.lt
   have HTS := hid (treeSet_two X t x _ W1 px (fun _ h => .inr h) ht1 hm1 hwh.g hwh.f hkc1 k1.1 hxo hKX (fun h => h.elim hSX (fun h => by omega)))
   have HW1 := hid (And.intro hro1 (And.intro hkc1 (And.intro hb1 (And.intro hkb (And.intro hC (And.intro s1 (And.intro hSb k1)))))))
   have Q1 := hid q1
   clear q1 b1 hb1 ht1 hm1 hkc1 hro1 hx hxo hwh htd hgl hc0 hc1 hall hjl hjc hkb hC k1 hm hkc hb ht hro hcap
   go_wp2_with (first | (refine wpList_of_run (o := ⟨some 29, _, _, _, _, _⟩) rfl (exec_conv (Operand.tmp 28) rfl _ rfl _ Q1.out) ?_) | fail)
   have hts := HTS.out
   generalize hqb : decide (x.1.length ≤ 65535 ∧ 0 ≤ x.2) = qb at hts
   have HQB := hid hqb
   clear hqb HTS
   refine hts.mono ?_
   rintro e w5 ⟨rfl, p5, ht5, hm5, hc5⟩
   have hw1 := HW1.out
   have hb5 : Below w.heap.size w w5 := hw1.2.2.1.trans (hc5.below (fun q e => by omega) hw1.2.2.1.size)
   have hkc5 := hw1.2.1.chg hc5 (by omega)
   have hro5 := hw1.1.cgX hc5 hXB
   have hkb5 := (hc5.block wr.heap.size (blk_lt hw1.2.2.2.1) (by omega)).trans hw1.2.2.2.1
   have hk5 : KIs w5 (fun b => b = wr.heap.size) (.slice (some ⟨wr.heap.size, 0, none⟩) x.1.length ck) x.1 := hw1.2.2.2.2.2.2.2.cg hc5 (fun q _ hq e => by omega)
   have H5 := hid (And.intro ht5 (And.intro hm5 (And.intro hkc5 (And.intro hro5 hkb5))))
   clear hc5 hw1 ht5 hm5 hkc5 hro5 hkb5 hts
   by_cases z1 : 0 ≤ x.2
   ·by_cases z2 : (x.1.length : Int) ≤ 65535
    ·obtain rfl : qb = true := by rw [← HQB.out]; exact decide_eq_true ⟨by omega, z1⟩
     have hX5 := And.intro hb5 (Below.refl w5.heap.size w5).drew
     clear hX5
     have hSS : Below w.heap.size w w5.drew ∧ Below w5.heap.size w5 w5.drew := ⟨hb5.drew, (Below.refl _ _).drew⟩
     go_wp2_with fail
     refine wp_region_held_drew (S := fun u => Below w.heap.size w u ∧ Below w5.heap.size w5 u) (by kernel_rfl) (hSS) (fun hHeld => ?_)
     refine tk (i := 0) (oi := ⟨some 38, .move (.tmp 7), 4, "law.go:96", #[], none⟩) (v := ?_) (Or.inl ⟨by rfl, ?_⟩) ?_
     rotate_left 1
     ·(intro u hSw; go_simp; try with_reducible rfl)
     try simp only [Act.put, sA, sB, sC]
     refine tk (i := 1) (oi := ⟨some 39, .move (.tmp 0), 22, "law.go:96", #[], none⟩) (v := ?_) (Or.inl ⟨by rfl, ?_⟩) ?_
     rotate_left 1
     ·(intro u hSw; go_simp; try with_reducible rfl)
     try simp only [Act.put, sA, sB, sC]
     refine tk (i := 2) (oi := ⟨some 40, .move (.tmp 5), 3, "law.go:96", #[], none⟩) (v := ?_) (Or.inl ⟨by rfl, ?_⟩) ?_
     rotate_left 1
     ·(intro u hSw; go_simp; try with_reducible rfl)
     try simp only [Act.put, sA, sB, sC]
     refine tk (i := 3) (oi := ⟨some 41, .indexAddr 22 (.tmp 39) (.tmp 40), 0, "law.go:96", #[⟨1, .data⟩, ⟨2, .data⟩], none⟩) (v := ?_) (Or.inl ⟨by rfl, ?_⟩) ?_
     rotate_left 1
     ·(intro u hSw; go_simp; try with_reducible rfl)
     try simp only [Act.put, sA, sB, sC]
     refine tk (i := 4) (oi := ⟨some 42, .fieldAddr 45 (.tmp 41) 1, 0, "law.go:96", #[⟨3, .data⟩], none⟩) (v := ?_) (Or.inl ⟨by rfl, ?_⟩) ?_
     rotate_left 1
     ·(intro u hSw; go_simp; try with_reducible rfl)
     try simp only [Act.put, sA, sB, sC]
     refine tk (i := 5) (oi := ⟨some 43, .load 2 (.tmp 42), 2, "law.go:96", #[⟨4, .data⟩], none⟩) (v := ?_) (Or.inl ⟨by rfl, ?_⟩) ?_
     rotate_left 1
     ·(intro u hSw; have y0 := (HC.out _ hSw.1).1; have y1 := (HC.out _ hSw.1).2; go_simp; try with_reducible rfl)
     try simp only [Act.put, sA, sB, sC]
     refine tk (i := 6) (oi := ⟨some 44, .binOp BinOp.geq 2 (.tmp 43) (.const (Value.int IntKind.i64 0)) 2, 4, "law.go:96", #[⟨5, .data⟩], none⟩) (v := .bool true) (Or.inl ⟨by rfl, ?_⟩) ?_
     ·intro u hSw
      go_simp; try omega
     try simp only [Act.put, sA, sB, sC]
     refine tk (i := 7) (oi := ⟨some 45, .move (.tmp 44), 4, "law.go:96", #[⟨6, .data⟩], none⟩) (v := ?_) (Or.inl ⟨by rfl, ?_⟩) ?_
     rotate_left 1
     ·(intro u hSw; go_simp; try with_reducible rfl)
     try simp only [Act.put, sA, sB, sC]
     refine tk (i := 8) (oi := ⟨some 46, .move (.tmp 6), 31, "law.go:96", #[⟨7, .guard⟩], some (7, true)⟩) (v := ?_) (Or.inl ⟨by rfl, ?_⟩) ?_
     rotate_left 1
     ·(intro u hSw; go_simp; try with_reducible rfl)
     try simp only [Act.put, sA, sB, sC]
     refine tk (i := 9) (oi := ⟨some 47, .call ⟨.builtin .len, #[.tmp 46], #[31]⟩, 3, "law.go:96", #[⟨8, .data⟩, ⟨7, .guard⟩], some (7, true)⟩) (v := ?_) (Or.inl ⟨by rfl, ?_⟩) ?_
     rotate_left 1
     ·(intro u hSw; go_simp; try with_reducible rfl)
     try simp only [Act.put, sA, sB, sC]
     refine tk (i := 10) (oi := ⟨some 48, .binOp BinOp.leq 3 (.tmp 47) (.const (Value.int IntKind.i64 65535)) 3, 4, "law.go:96", #[⟨9, .data⟩, ⟨7, .guard⟩], some (7, true)⟩) (v := .bool true) (Or.inl ⟨by rfl, ?_⟩) ?_
     ·intro u hSw
      go_simp; try omega
     try simp only [Act.put, sA, sB, sC]
     refine tk (i := 11) (oi := ⟨some 49, .pick (.tmp 45) (.tmp 48) (.const (Value.bool false)), 4, "law.go:96", #[⟨7, .data⟩, ⟨10, .data⟩], none⟩) (v := ?_) (Or.inl ⟨by rfl, ?_⟩) ?_
     rotate_left 1
     ·(intro u hSw; go_simp; try with_reducible rfl)
     try simp only [Act.put, sA, sB, sC]
     refine tk (i := 12) (oi := ⟨some 50, .binOp BinOp.neq 4 (.tmp 38) (.tmp 49) 4, 4, "law.go:96", #[⟨0, .data⟩, ⟨11, .data⟩], none⟩) (v := .bool false) (Or.inl ⟨by rfl, ?_⟩) ?_
     ·(intro u hSw; go_simp; try with_reducible rfl)
     try simp only [Act.put, sA, sB, sC]
     refine tk (i := 13) (oi := ⟨some 51, .move (.tmp 50), 4, "law.go:96", #[⟨12, .data⟩, ⟨7, .chain⟩], none⟩) (v := ?_) (Or.inl ⟨by rfl, ?_⟩) ?_
     rotate_left 1
     ·(intro u hSw; go_simp; try with_reducible rfl)
     try simp only [Act.put, sA, sB, sC]
     refine tk (i := 14) (oi := ⟨some 52, .move (.tmp 6), 31, "law.go:96", #[⟨13, .guard⟩], some (13, false)⟩) (v := ?_) (Or.inl ⟨by rfl, ?_⟩) ?_
     rotate_left 1
     ·(intro u hSw; go_simp; try with_reducible rfl)
     try simp only [Act.put, sA, sB, sC]
     refine tk (i := 15) (oi := ⟨some 53, .convert 31 9 (.tmp 52), 9, "law.go:96", #[⟨14, .data⟩, ⟨13, .guard⟩], some (13, false)⟩) (v := .string (str x.1)) (Or.inl ⟨by rfl, ?_⟩) ?_
     ·intro u hSw
      exact exec_convP 31 9 (Operand.tmp 52) rfl _ rfl _ (conv_bs u _ x.1.length ck x.1 (hk5.1.below hSw.2))
     try simp only [Act.put, sA, sB, sC]
     refine tk (i := 16) (oi := ⟨some 54, .move (.tmp 0), 22, "law.go:96", #[⟨13, .guard⟩], some (13, false)⟩) (v := ?_) (Or.inl ⟨by rfl, ?_⟩) ?_
     rotate_left 1
     ·(intro u hSw; go_simp; try with_reducible rfl)
     try simp only [Act.put, sA, sB, sC]
     refine tk (i := 17) (oi := ⟨some 55, .move (.tmp 5), 3, "law.go:96", #[⟨13, .guard⟩], some (13, false)⟩) (v := ?_) (Or.inl ⟨by rfl, ?_⟩) ?_
     rotate_left 1
     ·(intro u hSw; go_simp; try with_reducible rfl)
     try simp only [Act.put, sA, sB, sC]
     refine tk (i := 18) (oi := ⟨some 56, .indexAddr 22 (.tmp 54) (.tmp 55), 0, "law.go:96", #[⟨16, .data⟩, ⟨17, .data⟩, ⟨13, .guard⟩], some (13, false)⟩) (v := ?_) (Or.inl ⟨by rfl, ?_⟩) ?_
     rotate_left 1
     ·(intro u hSw; go_simp; try with_reducible rfl)
     try simp only [Act.put, sA, sB, sC]
     refine tk (i := 19) (oi := ⟨some 57, .fieldAddr 45 (.tmp 56) 0, 0, "law.go:96", #[⟨18, .data⟩, ⟨13, .guard⟩], some (13, false)⟩) (v := ?_) (Or.inl ⟨by rfl, ?_⟩) ?_
     rotate_left 1
     ·(intro u hSw; go_simp; try with_reducible rfl)
     try simp only [Act.put, sA, sB, sC]
     refine tk (i := 20) (oi := ⟨some 58, .load 9 (.tmp 57), 9, "law.go:96", #[⟨19, .data⟩, ⟨13, .guard⟩], some (13, false)⟩) (v := ?_) (Or.inl ⟨by rfl, ?_⟩) ?_
     rotate_left 1
     ·(intro u hSw; have y0 := (HC.out _ hSw.1).1; have y1 := (HC.out _ hSw.1).2; go_simp; try with_reducible rfl)
     try simp only [Act.put, sA, sB, sC]
     refine tk (i := 21) (oi := ⟨some 59, .binOp BinOp.neq 9 (.tmp 53) (.tmp 58) 9, 4, "law.go:96", #[⟨15, .data⟩, ⟨20, .data⟩, ⟨13, .guard⟩], some (13, false)⟩) (v := .bool false) (Or.inl ⟨by rfl, ?_⟩) ?_
     ·(intro u hSw; go_simp; try with_reducible rfl)
     try simp only [Act.put, sA, sB, sC]
     refine tk (i := 22) (oi := ⟨some 60, .pick (.tmp 51) (.const (Value.bool true)) (.tmp 59), 4, "law.go:96", #[⟨13, .data⟩, ⟨21, .data⟩], none⟩) (v := ?_) (Or.inl ⟨by rfl, ?_⟩) ?_
     rotate_left 1
     ·(intro u hSw; go_simp; try with_reducible rfl)
     try simp only [Act.put, sA, sB, sC]
     refine wpAnyH_done (by kernel_rfl) ?_ _
     have hl0 : (0 : Int) ≤ (x.1.length : Int) := by omega
     have HL5 := hid hb5
     have HK5 := hid hk5
     clear hb5 hk5 hSS
     go_wp2_with fail
     generalize hkbn : wr.heap.size = kb at *
     go_loopw [63] (fun nv wk => ∃ (n : Nat) (D : Array Value), n ≤ x.1.length ∧ nv = .int .i64 (n : Int) ∧ wk.heap[kb]? = some (.cells D 5 (m, m + 1)) ∧ (∀ i, i < x.1.length → ∃ v : Int, D[i]? = some (.int .u8 v)) ∧ Chg (fun q => q = kb) w5.drew wk) (fun nv _ => x.1.length - (intOf nv).toNat)
     case atStart => exact ⟨0, C, Nat.zero_le _, rfl, H5.out.2.2.2.2, fun i hi => ⟨_, HW1.out.2.2.2.2.1 i hi⟩, (Chg.refl _ _)⟩
     case round =>
      obtain ⟨n, D, hn, rfl, hD, hDv, hch⟩ := hrel
      by_cases hnl : n < x.1.length
      ·obtain ⟨vb, hvb⟩ := hDv n hnl
       have d0 : wr.cell? ⟨kb, n, none⟩ = some (.int .u8 vb) := (cell_of_row wr kb n _ _ _ hD).trans hvb
       have f0 := frozen_low hD (n := n) (by omega)
       have hn0 : (0 : Int) ≤ (n : Int) := by omega
       have hn1 : (n : Int) < (x.1.length : Int) := by omega
       have HD := hid (And.intro hD (And.intro hDv (And.intro hch hnl)))
       clear hD hDv hch hvb hnl hn
       have hl2 := HXX.out.2.1.2.1
       go_wp2_with fail
       go_roundw
       case rel => exact ⟨n + 1, D.setIfInBounds n (.int .u8 ((vb + 1) % 256)), HD.out.2.2.2, by go_num, (by rw [setCell_eq_setRow wr kb n D 5 (m, m + 1) _ HD.out.1]; exact setRow_heap _ _ _ _ _ _ HD.out.1), fun i hi => spoil_get HD.out.2.1 i hi, (HD.out.2.2.1).setCell ⟨kb, n, none⟩ _ (.inl rfl)⟩
       case measure => have := HD.out.2.2.2; simp [intOf]; omega
      ·obtain ⟨hkq1, hkq2⟩ : B ≤ kb ∧ kb < w5.heap.size := ⟨hBs, blk_lt H5.out.2.2.2.2⟩
       have hb6 : Below w.heap.size w wr := HL5.out.drew.trans (hch.below (B := w.heap.size) (fun q e => by omega) HL5.out.size)
       have ht6 : TIs wr X p5 := (hch.block X (blk_lt H5.out.1) (by omega)).trans H5.out.1
       have hm6 : MIs wr (fun q => (S q ∨ W1.heap.size ≤ q) ∧ q < w5.heap.size) p5 (putE t x) := ((H5.out.2.1.bound2).below ((Below.refl _ _).drew)).chg hch.size (fun q hq1 hq2 => hch.block q hq1 (fun e => by
        rcases hq2.1 with h | h
        ·have := hSb q h; omega
        ·have := HW1.out.2.2.2.2.2.1; omega))
       have hkc6 : KC wr := (show KC w5.drew from ⟨H5.out.2.2.1.1, H5.out.2.2.1.2⟩).chg hch (by omega)
       have hro6 : RfO wr B (.slice aw t.ino.length cw) t.ino := (show RfO w5.drew B _ _ from H5.out.2.2.2.1).cg hch (fun g hg e => by have := HLT.out g hg; omega)
       have hsz6 : w5.heap.size ≤ wr.heap.size := hch.size
       have hr := putsE_step (HXX.out.1)
       rw [← HXX.out.2.2.2] at hr
       have hwx := putE_wh3 HXX.out.2.2.1 HXX.out.2.1
       have hS6 : ¬ ((S X ∨ W1.heap.size ≤ X) ∧ X < w5.heap.size) := fun h => h.1.elim hSX (fun h => by have := HW1.out.2.2.2.2.2.1; omega)
       have hc := of_decide_eq_true HQB.out
       obtain ⟨nn, hnn⟩ : ∃ n : Nat, x.2 = (n : Int) := ⟨x.2.toNat, by omega⟩
       have hse : (putE t x).ino = rSet x.1 nn t.ino false := by
        rw [hwx.2, rSet_eq _ _ _ HXX.out.2.2.1.a]
        unfold setE
        rw [if_pos hc, hnn, Int.toNat_natCast]
       have HRS := hid (refSet_any wr.drew (.slice aw t.ino.length cw) t.ino x.1 nn (show RfO wr.drew B (.slice aw t.ino.length cw) t.ino from hro6).rfs (ino_rng t HXX.out.2.2.1.g) HXX.out.2.1.1 (by have h1 := ino_len t; have h2 := HXX.out.2.2.1.s; omega))
       rw [← hse] at HRS
       have HSS := hid (And.intro ht6 (And.intro hm6 (And.intro hwx.1 (And.intro hkc6 (And.intro hb6 (And.intro hr (And.intro hS6 hsz6)))))))
       have hb := hb6.drew
       have HCN := hid hnn
       have hBs6 : B ≤ wr.heap.size := by omega
       have hl2 := HXX.out.2.1.2.1
       clear ht6 hm6 hwx hkc6 hro6 hse hc hnn hb6 hr hS6 hch hD hDv hsz6
       go_wp2_with fail
       refine wp_region_held_drew (S := fun u => Below w.heap.size w u) (by kernel_rfl) (hb) (fun hHeld => ?_)
       refine tk (i := 0) (oi := ⟨some 74, .move (.tmp 4), 22, "law.go:103", #[], none⟩) (v := ?_) (Or.inl ⟨by rfl, ?_⟩) ?_
       rotate_left 1
       ·(intro u hSw; go_simp; try with_reducible rfl)
       try simp only [Act.put, sA, sB, sC]
       refine tk (i := 1) (oi := ⟨some 75, .move (.tmp 0), 22, "law.go:103", #[], none⟩) (v := ?_) (Or.inl ⟨by rfl, ?_⟩) ?_
       rotate_left 1
       ·(intro u hSw; go_simp; try with_reducible rfl)
       try simp only [Act.put, sA, sB, sC]
       refine tk (i := 2) (oi := ⟨some 76, .move (.tmp 5), 3, "law.go:103", #[], none⟩) (v := ?_) (Or.inl ⟨by rfl, ?_⟩) ?_
       rotate_left 1
       ·(intro u hSw; go_simp; try with_reducible rfl)
       try simp only [Act.put, sA, sB, sC]
       refine tk (i := 3) (oi := ⟨some 77, .indexAddr 22 (.tmp 75) (.tmp 76), 0, "law.go:103", #[⟨1, .data⟩, ⟨2, .data⟩], none⟩) (v := ?_) (Or.inl ⟨by rfl, ?_⟩) ?_
       rotate_left 1
       ·(intro u hSw; go_simp; try with_reducible rfl)
       try simp only [Act.put, sA, sB, sC]
       refine tk (i := 4) (oi := ⟨some 78, .fieldAddr 45 (.tmp 77) 0, 0, "law.go:103", #[⟨3, .data⟩], none⟩) (v := ?_) (Or.inl ⟨by rfl, ?_⟩) ?_
       rotate_left 1
       ·(intro u hSw; go_simp; try with_reducible rfl)
       try simp only [Act.put, sA, sB, sC]
       refine tk (i := 5) (oi := ⟨some 79, .load 9 (.tmp 78), 9, "law.go:103", #[⟨4, .data⟩], none⟩) (v := ?_) (Or.inl ⟨by rfl, ?_⟩) ?_
       rotate_left 1
       ·(intro u hSw; have y0 := (HC.out _ hSw).1; have y1 := (HC.out _ hSw).2; go_simp; try with_reducible rfl)
       try simp only [Act.put, sA, sB, sC]
       refine tk (i := 6) (oi := ⟨some 80, .move (.tmp 0), 22, "law.go:103", #[], none⟩) (v := ?_) (Or.inl ⟨by rfl, ?_⟩) ?_
       rotate_left 1
       ·(intro u hSw; go_simp; try with_reducible rfl)
       try simp only [Act.put, sA, sB, sC]
       refine tk (i := 7) (oi := ⟨some 81, .move (.tmp 5), 3, "law.go:103", #[], none⟩) (v := ?_) (Or.inl ⟨by rfl, ?_⟩) ?_
       rotate_left 1
       ·(intro u hSw; go_simp; try with_reducible rfl)
       try simp only [Act.put, sA, sB, sC]
       refine tk (i := 8) (oi := ⟨some 82, .indexAddr 22 (.tmp 80) (.tmp 81), 0, "law.go:103", #[⟨6, .data⟩, ⟨7, .data⟩], none⟩) (v := ?_) (Or.inl ⟨by rfl, ?_⟩) ?_
       rotate_left 1
       ·(intro u hSw; go_simp; try with_reducible rfl)
       try simp only [Act.put, sA, sB, sC]
       refine tk (i := 9) (oi := ⟨some 83, .fieldAddr 45 (.tmp 82) 1, 0, "law.go:103", #[⟨8, .data⟩], none⟩) (v := ?_) (Or.inl ⟨by rfl, ?_⟩) ?_
       rotate_left 1
       ·(intro u hSw; go_simp; try with_reducible rfl)
       try simp only [Act.put, sA, sB, sC]
       refine tk (i := 10) (oi := ⟨some 84, .load 2 (.tmp 83), 2, "law.go:103", #[⟨9, .data⟩], none⟩) (v := ?_) (Or.inl ⟨by rfl, ?_⟩) ?_
       rotate_left 1
       ·(intro u hSw; have y0 := (HC.out _ hSw).1; have y1 := (HC.out _ hSw).2; go_simp; try with_reducible rfl)
       try simp only [Act.put, sA, sB, sC]
       refine wpAnyH_ready (rs := [11]) (by kernel_rfl) (by simp) ?_
       refine (AllReadyH.cons (o := ⟨some 85, .call ⟨.value (.func 21), #[.tmp 74, .tmp 79, .tmp 84], #[22, 9, 2]⟩, 22, "law.go:103", #[⟨0, .data⟩, ⟨5, .data⟩, ⟨10, .data⟩], none⟩) rfl (fun K hK => ?_) AllReadyH.nil)
       rw [HCN.out]
       go_simp
       refine HRS.out.mono ?_
       rintro d6 w6 ⟨v6, rfl, ho6, hb6⟩
       obtain ⟨a6, c6, rfl⟩ := ho6.slc
       have hb := hb.trans (hb6.mono hb.size)
       have HZ := hid (show TV3 w X B l (j + 1) (.slice a6 (putE t x).ino.length c6) w6 from ⟨_, p5, putE t x, HSS.out.2.2.2.2.2.1.symm, (hb6.block X (blk_lt HSS.out.1)).trans HSS.out.1, (show MIs wr.drew _ p5 (putE t x) from HSS.out.2.1.below ((Below.refl _ _).drew)).below hb6, HSS.out.2.2.2.2.2.2.1, fun q h => Nat.lt_of_lt_of_le (Nat.lt_of_lt_of_le h.2 HSS.out.2.2.2.2.2.2.2) hb6.size, HSS.out.2.2.1, ho6.base hBs6, (show KC wr.drew from ⟨HSS.out.2.2.2.1.1, HSS.out.2.2.2.1.2⟩).below hb6 HSS.out.2.2.2.1.1, Nat.le_trans hBs6 hb6.size, hb⟩)
       clear hb6 ho6
       go_wp2_with fail
       refine hK.out _ _ hb (fun hHeld => ?_)
       clear hK K
       try simp only [Act.put, sA, sB, sC]
       refine tk (i := 12) (oi := ⟨some 4, .assign (.tmp 85), 22, "law.go:103", #[⟨11, .data⟩, ⟨11, .chain⟩, ⟨0, .phase⟩, ⟨1, .phase⟩, ⟨2, .phase⟩, ⟨3, .phase⟩, ⟨4, .phase⟩, ⟨5, .phase⟩, ⟨6, .phase⟩, ⟨7, .phase⟩, ⟨8, .phase⟩, ⟨9, .phase⟩, ⟨10, .phase⟩, ⟨11, .phase⟩], none⟩) (v := ?_) (Or.inl ⟨by rfl, ?_⟩) ?_
       rotate_left 1
       ·(intro u hSw; go_simp; try with_reducible rfl)
       try simp only [Act.put, sA, sB, sC]
       refine wpAnyH_done (by kernel_rfl) ?_ _
       clear hb hHeld
       go_wp2_with fail
       go_roundw
       case rel => exact ⟨j + 1, HNX.out.1, HNX.out.2, by go_num, HZ.out⟩
       case measure => have := HNX.out.1; simp [intOf]; omega
    ·obtain rfl : qb = false := by rw [← HQB.out]; exact decide_eq_false (fun h => by omega)
     have hX5 := And.intro hb5 (Below.refl w5.heap.size w5).drew
     clear hX5
     have hSS : Below w.heap.size w w5.drew ∧ Below w5.heap.size w5 w5.drew := ⟨hb5.drew, (Below.refl _ _).drew⟩
     go_wp2_with fail
     refine wp_region_held_drew (S := fun u => Below w.heap.size w u ∧ Below w5.heap.size w5 u) (by kernel_rfl) (hSS) (fun hHeld => ?_)
     refine tk (i := 0) (oi := ⟨some 38, .move (.tmp 7), 4, "law.go:96", #[], none⟩) (v := ?_) (Or.inl ⟨by rfl, ?_⟩) ?_
     rotate_left 1
     ·(intro u hSw; go_simp; try with_reducible rfl)
     try simp only [Act.put, sA, sB, sC]
     refine tk (i := 1) (oi := ⟨some 39, .move (.tmp 0), 22, "law.go:96", #[], none⟩) (v := ?_) (Or.inl ⟨by rfl, ?_⟩) ?_
     rotate_left 1
     ·(intro u hSw; go_simp; try with_reducible rfl)
     try simp only [Act.put, sA, sB, sC]
     refine tk (i := 2) (oi := ⟨some 40, .move (.tmp 5), 3, "law.go:96", #[], none⟩) (v := ?_) (Or.inl ⟨by rfl, ?_⟩) ?_
     rotate_left 1
     ·(intro u hSw; go_simp; try with_reducible rfl)
     try simp only [Act.put, sA, sB, sC]
     refine tk (i := 3) (oi := ⟨some 41, .indexAddr 22 (.tmp 39) (.tmp 40), 0, "law.go:96", #[⟨1, .data⟩, ⟨2, .data⟩], none⟩) (v := ?_) (Or.inl ⟨by rfl, ?_⟩) ?_
     rotate_left 1
     ·(intro u hSw; go_simp; try with_reducible rfl)
     try simp only [Act.put, sA, sB, sC]
     refine tk (i := 4) (oi := ⟨some 42, .fieldAddr 45 (.tmp 41) 1, 0, "law.go:96", #[⟨3, .data⟩], none⟩) (v := ?_) (Or.inl ⟨by rfl, ?_⟩) ?_
     rotate_left 1
     ·(intro u hSw; go_simp; try with_reducible rfl)
     try simp only [Act.put, sA, sB, sC]
     refine tk (i := 5) (oi := ⟨some 43, .load 2 (.tmp 42), 2, "law.go:96", #[⟨4, .data⟩], none⟩) (v := ?_) (Or.inl ⟨by rfl, ?_⟩) ?_
     rotate_left 1
     ·(intro u hSw; have y0 := (HC.out _ hSw.1).1; have y1 := (HC.out _ hSw.1).2; go_simp; try with_reducible rfl)
     try simp only [Act.put, sA, sB, sC]
     refine tk (i := 6) (oi := ⟨some 44, .binOp BinOp.geq 2 (.tmp 43) (.const (Value.int IntKind.i64 0)) 2, 4, "law.go:96", #[⟨5, .data⟩], none⟩) (v := .bool true) (Or.inl ⟨by rfl, ?_⟩) ?_
     ·intro u hSw
      go_simp; try omega
     try simp only [Act.put, sA, sB, sC]
     refine tk (i := 7) (oi := ⟨some 45, .move (.tmp 44), 4, "law.go:96", #[⟨6, .data⟩], none⟩) (v := ?_) (Or.inl ⟨by rfl, ?_⟩) ?_
     rotate_left 1
     ·(intro u hSw; go_simp; try with_reducible rfl)
     try simp only [Act.put, sA, sB, sC]
     refine tk (i := 8) (oi := ⟨some 46, .move (.tmp 6), 31, "law.go:96", #[⟨7, .guard⟩], some (7, true)⟩) (v := ?_) (Or.inl ⟨by rfl, ?_⟩) ?_
     rotate_left 1
     ·(intro u hSw; go_simp; try with_reducible rfl)
     try simp only [Act.put, sA, sB, sC]
     refine tk (i := 9) (oi := ⟨some 47, .call ⟨.builtin .len, #[.tmp 46], #[31]⟩, 3, "law.go:96", #[⟨8, .data⟩, ⟨7, .guard⟩], some (7, true)⟩) (v := ?_) (Or.inl ⟨by rfl, ?_⟩) ?_
     rotate_left 1
     ·(intro u hSw; go_simp; try with_reducible rfl)
     try simp only [Act.put, sA, sB, sC]
     refine tk (i := 10) (oi := ⟨some 48, .binOp BinOp.leq 3 (.tmp 47) (.const (Value.int IntKind.i64 65535)) 3, 4, "law.go:96", #[⟨9, .data⟩, ⟨7, .guard⟩], some (7, true)⟩) (v := .bool false) (Or.inl ⟨by rfl, ?_⟩) ?_
     ·intro u hSw
      go_simp; try omega
     try simp only [Act.put, sA, sB, sC]
     refine tk (i := 11) (oi := ⟨some 49, .pick (.tmp 45) (.tmp 48) (.const (Value.bool false)), 4, "law.go:96", #[⟨7, .data⟩, ⟨10, .data⟩], none⟩) (v := ?_) (Or.inl ⟨by rfl, ?_⟩) ?_
     rotate_left 1
     ·(intro u hSw; go_simp; try with_reducible rfl)
     try simp only [Act.put, sA, sB, sC]
     refine tk (i := 12) (oi := ⟨some 50, .binOp BinOp.neq 4 (.tmp 38) (.tmp 49) 4, 4, "law.go:96", #[⟨0, .data⟩, ⟨11, .data⟩], none⟩) (v := .bool false) (Or.inl ⟨by rfl, ?_⟩) ?_
     ·(intro u hSw; go_simp; try with_reducible rfl)
     try simp only [Act.put, sA, sB, sC]
     refine tk (i := 13) (oi := ⟨some 51, .move (.tmp 50), 4, "law.go:96", #[⟨12, .data⟩, ⟨7, .chain⟩], none⟩) (v := ?_) (Or.inl ⟨by rfl, ?_⟩) ?_
     rotate_left 1
     ·(intro u hSw; go_simp; try with_reducible rfl)
     try simp only [Act.put, sA, sB, sC]
     refine tk (i := 14) (oi := ⟨some 52, .move (.tmp 6), 31, "law.go:96", #[⟨13, .guard⟩], some (13, false)⟩) (v := ?_) (Or.inl ⟨by rfl, ?_⟩) ?_
     rotate_left 1
     ·(intro u hSw; go_simp; try with_reducible rfl)
     try simp only [Act.put, sA, sB, sC]
     refine tk (i := 15) (oi := ⟨some 53, .convert 31 9 (.tmp 52), 9, "law.go:96", #[⟨14, .data⟩, ⟨13, .guard⟩], some (13, false)⟩) (v := .string (str x.1)) (Or.inl ⟨by rfl, ?_⟩) ?_
     ·intro u hSw
      exact exec_convP 31 9 (Operand.tmp 52) rfl _ rfl _ (conv_bs u _ x.1.length ck x.1 (hk5.1.below hSw.2))
     try simp only [Act.put, sA, sB, sC]
     refine tk (i := 16) (oi := ⟨some 54, .move (.tmp 0), 22, "law.go:96", #[⟨13, .guard⟩], some (13, false)⟩) (v := ?_) (Or.inl ⟨by rfl, ?_⟩) ?_
     rotate_left 1
     ·(intro u hSw; go_simp; try with_reducible rfl)
     try simp only [Act.put, sA, sB, sC]
     refine tk (i := 17) (oi := ⟨some 55, .move (.tmp 5), 3, "law.go:96", #[⟨13, .guard⟩], some (13, false)⟩) (v := ?_) (Or.inl ⟨by rfl, ?_⟩) ?_
     rotate_left 1
     ·(intro u hSw; go_simp; try with_reducible rfl)
     try simp only [Act.put, sA, sB, sC]
     refine tk (i := 18) (oi := ⟨some 56, .indexAddr 22 (.tmp 54) (.tmp 55), 0, "law.go:96", #[⟨16, .data⟩, ⟨17, .data⟩, ⟨13, .guard⟩], some (13, false)⟩) (v := ?_) (Or.inl ⟨by rfl, ?_⟩) ?_
     rotate_left 1
     ·(intro u hSw; go_simp; try with_reducible rfl)
     try simp only [Act.put, sA, sB, sC]
     refine tk (i := 19) (oi := ⟨some 57, .fieldAddr 45 (.tmp 56) 0, 0, "law.go:96", #[⟨18, .data⟩, ⟨13, .guard⟩], some (13, false)⟩) (v := ?_) (Or.inl ⟨by rfl, ?_⟩) ?_
     rotate_left 1
     ·(intro u hSw; go_simp; try with_reducible rfl)
     try simp only [Act.put, sA, sB, sC]
     refine tk (i := 20) (oi := ⟨some 58, .load 9 (.tmp 57), 9, "law.go:96", #[⟨19, .data⟩, ⟨13, .guard⟩], some (13, false)⟩) (v := ?_) (Or.inl ⟨by rfl, ?_⟩) ?_
     rotate_left 1
     ·(intro u hSw; have y0 := (HC.out _ hSw.1).1; have y1 := (HC.out _ hSw.1).2; go_simp; try with_reducible rfl)
     try simp only [Act.put, sA, sB, sC]
     refine tk (i := 21) (oi := ⟨some 59, .binOp BinOp.neq 9 (.tmp 53) (.tmp 58) 9, 4, "law.go:96", #[⟨15, .data⟩, ⟨20, .data⟩, ⟨13, .guard⟩], some (13, false)⟩) (v := .bool false) (Or.inl ⟨by rfl, ?_⟩) ?_
     ·(intro u hSw; go_simp; try with_reducible rfl)
     try simp only [Act.put, sA, sB, sC]
     refine tk (i := 22) (oi := ⟨some 60, .pick (.tmp 51) (.const (Value.bool true)) (.tmp 59), 4, "law.go:96", #[⟨13, .data⟩, ⟨21, .data⟩], none⟩) (v := ?_) (Or.inl ⟨by rfl, ?_⟩) ?_
     rotate_left 1
     ·(intro u hSw; go_simp; try with_reducible rfl)
     try simp only [Act.put, sA, sB, sC]
     refine wpAnyH_done (by kernel_rfl) ?_ _
     have hl0 : (0 : Int) ≤ (x.1.length : Int) := by omega
     have HL5 := hid hb5
     have HK5 := hid hk5
     clear hb5 hk5 hSS
     go_wp2_with fail
     generalize hkbn : wr.heap.size = kb at *
     go_loopw [63] (fun nv wk => ∃ (n : Nat) (D : Array Value), n ≤ x.1.length ∧ nv = .int .i64 (n : Int) ∧ wk.heap[kb]? = some (.cells D 5 (m, m + 1)) ∧ (∀ i, i < x.1.length → ∃ v : Int, D[i]? = some (.int .u8 v)) ∧ Chg (fun q => q = kb) w5.drew wk) (fun nv _ => x.1.length - (intOf nv).toNat)
     case atStart => exact ⟨0, C, Nat.zero_le _, rfl, H5.out.2.2.2.2, fun i hi => ⟨_, HW1.out.2.2.2.2.1 i hi⟩, (Chg.refl _ _)⟩
     case round =>
      obtain ⟨n, D, hn, rfl, hD, hDv, hch⟩ := hrel
      by_cases hnl : n < x.1.length
      ·obtain ⟨vb, hvb⟩ := hDv n hnl
       have d0 : wr.cell? ⟨kb, n, none⟩ = some (.int .u8 vb) := (cell_of_row wr kb n _ _ _ hD).trans hvb
       have f0 := frozen_low hD (n := n) (by omega)
       have hn0 : (0 : Int) ≤ (n : Int) := by omega
       have hn1 : (n : Int) < (x.1.length : Int) := by omega
       have HD := hid (And.intro hD (And.intro hDv (And.intro hch hnl)))
       clear hD hDv hch hvb hnl hn
       have hl2 := HXX.out.2.1.2.1
       go_wp2_with fail
       go_roundw
       case rel => exact ⟨n + 1, D.setIfInBounds n (.int .u8 ((vb + 1) % 256)), HD.out.2.2.2, by go_num, (by rw [setCell_eq_setRow wr kb n D 5 (m, m + 1) _ HD.out.1]; exact setRow_heap _ _ _ _ _ _ HD.out.1), fun i hi => spoil_get HD.out.2.1 i hi, (HD.out.2.2.1).setCell ⟨kb, n, none⟩ _ (.inl rfl)⟩
       case measure => have := HD.out.2.2.2; simp [intOf]; omega
      ·obtain ⟨hkq1, hkq2⟩ : B ≤ kb ∧ kb < w5.heap.size := ⟨hBs, blk_lt H5.out.2.2.2.2⟩
       have hb6 : Below w.heap.size w wr := HL5.out.drew.trans (hch.below (B := w.heap.size) (fun q e => by omega) HL5.out.size)
       have ht6 : TIs wr X p5 := (hch.block X (blk_lt H5.out.1) (by omega)).trans H5.out.1
       have hm6 : MIs wr (fun q => (S q ∨ W1.heap.size ≤ q) ∧ q < w5.heap.size) p5 (putE t x) := ((H5.out.2.1.bound2).below ((Below.refl _ _).drew)).chg hch.size (fun q hq1 hq2 => hch.block q hq1 (fun e => by
        rcases hq2.1 with h | h
        ·have := hSb q h; omega
        ·have := HW1.out.2.2.2.2.2.1; omega))
       have hkc6 : KC wr := (show KC w5.drew from ⟨H5.out.2.2.1.1, H5.out.2.2.1.2⟩).chg hch (by omega)
       have hro6 : RfO wr B (.slice aw t.ino.length cw) t.ino := (show RfO w5.drew B _ _ from H5.out.2.2.2.1).cg hch (fun g hg e => by have := HLT.out g hg; omega)
       have hsz6 : w5.heap.size ≤ wr.heap.size := hch.size
       have hr := putsE_step (HXX.out.1)
       rw [← HXX.out.2.2.2] at hr
       have hwx := putE_wh3 HXX.out.2.2.1 HXX.out.2.1
       have hS6 : ¬ ((S X ∨ W1.heap.size ≤ X) ∧ X < w5.heap.size) := fun h => h.1.elim hSX (fun h => by have := HW1.out.2.2.2.2.2.1; omega)
       have hpe : putE t x = t := by unfold putE; rw [if_neg (of_decide_eq_false HQB.out)]
       rw [hpe] at hm6 hwx
       have HZ := hid (show TV3 w X B l (j + 1) (.slice aw t.ino.length cw) wr from ⟨_, p5, t, by rw [hr, hpe], ht6, hm6, hS6, fun q h => Nat.lt_of_lt_of_le h.2 hsz6, hwx.1, hro6, hkc6, by omega, hb6⟩)
       clear hb6 ht6 hm6 hkc6 hro6 hr hwx hS6 hpe hch hD hDv
       have hl2 := HXX.out.2.1.2.1
       go_wp2_with fail
       go_roundw
       case rel => exact ⟨j + 1, HNX.out.1, HNX.out.2, by go_num, HZ.out⟩
       case measure => have := HNX.out.1; simp [intOf]; omega
   ·obtain rfl : qb = false := by rw [← HQB.out]; exact decide_eq_false (fun h => z1 h.2)
    have hX5 := And.intro hb5 (Below.refl w5.heap.size w5).drew
    clear hX5
    have hSS : Below w.heap.size w w5.drew ∧ Below w5.heap.size w5 w5.drew := ⟨hb5.drew, (Below.refl _ _).drew⟩
    go_wp2_with fail
    refine wp_region_held_drew (S := fun u => Below w.heap.size w u ∧ Below w5.heap.size w5 u) (by kernel_rfl) (hSS) (fun hHeld => ?_)
    refine tk (i := 0) (oi := ⟨some 38, .move (.tmp 7), 4, "law.go:96", #[], none⟩) (v := ?_) (Or.inl ⟨by rfl, ?_⟩) ?_
    rotate_left 1
    ·(intro u hSw; go_simp; try with_reducible rfl)
    try simp only [Act.put, sA, sB, sC]
    refine tk (i := 1) (oi := ⟨some 39, .move (.tmp 0), 22, "law.go:96", #[], none⟩) (v := ?_) (Or.inl ⟨by rfl, ?_⟩) ?_
    rotate_left 1
    ·(intro u hSw; go_simp; try with_reducible rfl)
    try simp only [Act.put, sA, sB, sC]
    refine tk (i := 2) (oi := ⟨some 40, .move (.tmp 5), 3, "law.go:96", #[], none⟩) (v := ?_) (Or.inl ⟨by rfl, ?_⟩) ?_
    rotate_left 1
    ·(intro u hSw; go_simp; try with_reducible rfl)
    try simp only [Act.put, sA, sB, sC]
    refine tk (i := 3) (oi := ⟨some 41, .indexAddr 22 (.tmp 39) (.tmp 40), 0, "law.go:96", #[⟨1, .data⟩, ⟨2, .data⟩], none⟩) (v := ?_) (Or.inl ⟨by rfl, ?_⟩) ?_
    rotate_left 1
    ·(intro u hSw; go_simp; try with_reducible rfl)
    try simp only [Act.put, sA, sB, sC]
    refine tk (i := 4) (oi := ⟨some 42, .fieldAddr 45 (.tmp 41) 1, 0, "law.go:96", #[⟨3, .data⟩], none⟩) (v := ?_) (Or.inl ⟨by rfl, ?_⟩) ?_
    rotate_left 1
    ·(intro u hSw; go_simp; try with_reducible rfl)
    try simp only [Act.put, sA, sB, sC]
    refine tk (i := 5) (oi := ⟨some 43, .load 2 (.tmp 42), 2, "law.go:96", #[⟨4, .data⟩], none⟩) (v := ?_) (Or.inl ⟨by rfl, ?_⟩) ?_
    rotate_left 1
    ·(intro u hSw; have y0 := (HC.out _ hSw.1).1; have y1 := (HC.out _ hSw.1).2; go_simp; try with_reducible rfl)
    try simp only [Act.put, sA, sB, sC]
    refine tk (i := 6) (oi := ⟨some 44, .binOp BinOp.geq 2 (.tmp 43) (.const (Value.int IntKind.i64 0)) 2, 4, "law.go:96", #[⟨5, .data⟩], none⟩) (v := .bool false) (Or.inl ⟨by rfl, ?_⟩) ?_
    ·intro u hSw
     go_simp; try omega
    try simp only [Act.put, sA, sB, sC]
    refine tk (i := 7) (oi := ⟨some 45, .move (.tmp 44), 4, "law.go:96", #[⟨6, .data⟩], none⟩) (v := ?_) (Or.inl ⟨by rfl, ?_⟩) ?_
    rotate_left 1
    ·(intro u hSw; go_simp; try with_reducible rfl)
    try simp only [Act.put, sA, sB, sC]
    refine tk (i := 8) (oi := ⟨some 46, .move (.tmp 6), 31, "law.go:96", #[⟨7, .guard⟩], some (7, true)⟩) (v := undef) (by exact .inr ⟨by rfl, rfl⟩) ?_
    try simp only [Act.put, sA, sB, sC]
    refine tk (i := 9) (oi := ⟨some 47, .call ⟨.builtin .len, #[.tmp 46], #[31]⟩, 3, "law.go:96", #[⟨8, .data⟩, ⟨7, .guard⟩], some (7, true)⟩) (v := undef) (by exact .inr ⟨by rfl, rfl⟩) ?_
    try simp only [Act.put, sA, sB, sC]
    refine tk (i := 10) (oi := ⟨some 48, .binOp BinOp.leq 3 (.tmp 47) (.const (Value.int IntKind.i64 65535)) 3, 4, "law.go:96", #[⟨9, .data⟩, ⟨7, .guard⟩], some (7, true)⟩) (v := undef) (by exact .inr ⟨by rfl, rfl⟩) ?_
    try simp only [Act.put, sA, sB, sC]
    refine tk (i := 11) (oi := ⟨some 49, .pick (.tmp 45) (.tmp 48) (.const (Value.bool false)), 4, "law.go:96", #[⟨7, .data⟩, ⟨10, .data⟩], none⟩) (v := ?_) (Or.inl ⟨by rfl, ?_⟩) ?_
    rotate_left 1
    ·(intro u hSw; go_simp; try with_reducible rfl)
    try simp only [Act.put, sA, sB, sC]
    refine tk (i := 12) (oi := ⟨some 50, .binOp BinOp.neq 4 (.tmp 38) (.tmp 49) 4, 4, "law.go:96", #[⟨0, .data⟩, ⟨11, .data⟩], none⟩) (v := .bool false) (Or.inl ⟨by rfl, ?_⟩) ?_
    ·(intro u hSw; go_simp; try with_reducible rfl)
    try simp only [Act.put, sA, sB, sC]
    refine tk (i := 13) (oi := ⟨some 51, .move (.tmp 50), 4, "law.go:96", #[⟨12, .data⟩, ⟨7, .chain⟩], none⟩) (v := ?_) (Or.inl ⟨by rfl, ?_⟩) ?_
    rotate_left 1
    ·(intro u hSw; go_simp; try with_reducible rfl)
    try simp only [Act.put, sA, sB, sC]
    refine tk (i := 14) (oi := ⟨some 52, .move (.tmp 6), 31, "law.go:96", #[⟨13, .guard⟩], some (13, false)⟩) (v := ?_) (Or.inl ⟨by rfl, ?_⟩) ?_
    rotate_left 1
    ·(intro u hSw; go_simp; try with_reducible rfl)
    try simp only [Act.put, sA, sB, sC]
    refine tk (i := 15) (oi := ⟨some 53, .convert 31 9 (.tmp 52), 9, "law.go:96", #[⟨14, .data⟩, ⟨13, .guard⟩], some (13, false)⟩) (v := .string (str x.1)) (Or.inl ⟨by rfl, ?_⟩) ?_
    ·intro u hSw
     exact exec_convP 31 9 (Operand.tmp 52) rfl _ rfl _ (conv_bs u _ x.1.length ck x.1 (hk5.1.below hSw.2))
    try simp only [Act.put, sA, sB, sC]
    refine tk (i := 16) (oi := ⟨some 54, .move (.tmp 0), 22, "law.go:96", #[⟨13, .guard⟩], some (13, false)⟩) (v := ?_) (Or.inl ⟨by rfl, ?_⟩) ?_
    rotate_left 1
    ·(intro u hSw; go_simp; try with_reducible rfl)
    try simp only [Act.put, sA, sB, sC]
    refine tk (i := 17) (oi := ⟨some 55, .move (.tmp 5), 3, "law.go:96", #[⟨13, .guard⟩], some (13, false)⟩) (v := ?_) (Or.inl ⟨by rfl, ?_⟩) ?_
    rotate_left 1
    ·(intro u hSw; go_simp; try with_reducible rfl)
    try simp only [Act.put, sA, sB, sC]
    refine tk (i := 18) (oi := ⟨some 56, .indexAddr 22 (.tmp 54) (.tmp 55), 0, "law.go:96", #[⟨16, .data⟩, ⟨17, .data⟩, ⟨13, .guard⟩], some (13, false)⟩) (v := ?_) (Or.inl ⟨by rfl, ?_⟩) ?_
    rotate_left 1
    ·(intro u hSw; go_simp; try with_reducible rfl)
    try simp only [Act.put, sA, sB, sC]
    refine tk (i := 19) (oi := ⟨some 57, .fieldAddr 45 (.tmp 56) 0, 0, "law.go:96", #[⟨18, .data⟩, ⟨13, .guard⟩], some (13, false)⟩) (v := ?_) (Or.inl ⟨by rfl, ?_⟩) ?_
    rotate_left 1
    ·(intro u hSw; go_simp; try with_reducible rfl)
    try simp only [Act.put, sA, sB, sC]
    refine tk (i := 20) (oi := ⟨some 58, .load 9 (.tmp 57), 9, "law.go:96", #[⟨19, .data⟩, ⟨13, .guard⟩], some (13, false)⟩) (v := ?_) (Or.inl ⟨by rfl, ?_⟩) ?_
    rotate_left 1
    ·(intro u hSw; have y0 := (HC.out _ hSw.1).1; have y1 := (HC.out _ hSw.1).2; go_simp; try with_reducible rfl)
    try simp only [Act.put, sA, sB, sC]
    refine tk (i := 21) (oi := ⟨some 59, .binOp BinOp.neq 9 (.tmp 53) (.tmp 58) 9, 4, "law.go:96", #[⟨15, .data⟩, ⟨20, .data⟩, ⟨13, .guard⟩], some (13, false)⟩) (v := .bool false) (Or.inl ⟨by rfl, ?_⟩) ?_
    ·(intro u hSw; go_simp; try with_reducible rfl)
    try simp only [Act.put, sA, sB, sC]
    refine tk (i := 22) (oi := ⟨some 60, .pick (.tmp 51) (.const (Value.bool true)) (.tmp 59), 4, "law.go:96", #[⟨13, .data⟩, ⟨21, .data⟩], none⟩) (v := ?_) (Or.inl ⟨by rfl, ?_⟩) ?_
    rotate_left 1
    ·(intro u hSw; go_simp; try with_reducible rfl)
    try simp only [Act.put, sA, sB, sC]
    refine wpAnyH_done (by kernel_rfl) ?_ _
    have hl0 : (0 : Int) ≤ (x.1.length : Int) := by omega
    have HL5 := hid hb5
    have HK5 := hid hk5
    clear hb5 hk5 hSS
    go_wp2_with fail
    generalize hkbn : wr.heap.size = kb at *
    go_loopw [63] (fun nv wk => ∃ (n : Nat) (D : Array Value), n ≤ x.1.length ∧ nv = .int .i64 (n : Int) ∧ wk.heap[kb]? = some (.cells D 5 (m, m + 1)) ∧ (∀ i, i < x.1.length → ∃ v : Int, D[i]? = some (.int .u8 v)) ∧ Chg (fun q => q = kb) w5.drew wk) (fun nv _ => x.1.length - (intOf nv).toNat)
    case atStart => exact ⟨0, C, Nat.zero_le _, rfl, H5.out.2.2.2.2, fun i hi => ⟨_, HW1.out.2.2.2.2.1 i hi⟩, (Chg.refl _ _)⟩
    case round =>
     obtain ⟨n, D, hn, rfl, hD, hDv, hch⟩ := hrel
     by_cases hnl : n < x.1.length
     ·obtain ⟨vb, hvb⟩ := hDv n hnl
      have d0 : wr.cell? ⟨kb, n, none⟩ = some (.int .u8 vb) := (cell_of_row wr kb n _ _ _ hD).trans hvb
      have f0 := frozen_low hD (n := n) (by omega)
      have hn0 : (0 : Int) ≤ (n : Int) := by omega
      have hn1 : (n : Int) < (x.1.length : Int) := by omega
      have HD := hid (And.intro hD (And.intro hDv (And.intro hch hnl)))
      clear hD hDv hch hvb hnl hn
      have hl2 := HXX.out.2.1.2.1
      go_wp2_with fail
      go_roundw
      case rel => exact ⟨n + 1, D.setIfInBounds n (.int .u8 ((vb + 1) % 256)), HD.out.2.2.2, by go_num, (by rw [setCell_eq_setRow wr kb n D 5 (m, m + 1) _ HD.out.1]; exact setRow_heap _ _ _ _ _ _ HD.out.1), fun i hi => spoil_get HD.out.2.1 i hi, (HD.out.2.2.1).setCell ⟨kb, n, none⟩ _ (.inl rfl)⟩
      case measure => have := HD.out.2.2.2; simp [intOf]; omega
     ·obtain ⟨hkq1, hkq2⟩ : B ≤ kb ∧ kb < w5.heap.size := ⟨hBs, blk_lt H5.out.2.2.2.2⟩
      have hb6 : Below w.heap.size w wr := HL5.out.drew.trans (hch.below (B := w.heap.size) (fun q e => by omega) HL5.out.size)
      have ht6 : TIs wr X p5 := (hch.block X (blk_lt H5.out.1) (by omega)).trans H5.out.1
      have hm6 : MIs wr (fun q => (S q ∨ W1.heap.size ≤ q) ∧ q < w5.heap.size) p5 (putE t x) := ((H5.out.2.1.bound2).below ((Below.refl _ _).drew)).chg hch.size (fun q hq1 hq2 => hch.block q hq1 (fun e => by
       rcases hq2.1 with h | h
       ·have := hSb q h; omega
       ·have := HW1.out.2.2.2.2.2.1; omega))
      have hkc6 : KC wr := (show KC w5.drew from ⟨H5.out.2.2.1.1, H5.out.2.2.1.2⟩).chg hch (by omega)
      have hro6 : RfO wr B (.slice aw t.ino.length cw) t.ino := (show RfO w5.drew B _ _ from H5.out.2.2.2.1).cg hch (fun g hg e => by have := HLT.out g hg; omega)
      have hsz6 : w5.heap.size ≤ wr.heap.size := hch.size
      have hr := putsE_step (HXX.out.1)
      rw [← HXX.out.2.2.2] at hr
      have hwx := putE_wh3 HXX.out.2.2.1 HXX.out.2.1
      have hS6 : ¬ ((S X ∨ W1.heap.size ≤ X) ∧ X < w5.heap.size) := fun h => h.1.elim hSX (fun h => by have := HW1.out.2.2.2.2.2.1; omega)
      have hpe : putE t x = t := by unfold putE; rw [if_neg (of_decide_eq_false HQB.out)]
      rw [hpe] at hm6 hwx
      have HZ := hid (show TV3 w X B l (j + 1) (.slice aw t.ino.length cw) wr from ⟨_, p5, t, by rw [hr, hpe], ht6, hm6, hS6, fun q h => Nat.lt_of_lt_of_le h.2 hsz6, hwx.1, hro6, hkc6, by omega, hb6⟩)
      clear hb6 ht6 hm6 hkc6 hro6 hr hwx hS6 hpe hch hD hDv
      have hl2 := HXX.out.2.1.2.1
      go_wp2_with fail
      go_roundw
      case rel => exact ⟨j + 1, HNX.out.1, HNX.out.2, by go_num, HZ.out⟩
      case measure => have := HNX.out.1; simp [intOf]; omega
  ·have hwh0 := hwh.toWh2
   have hil := ino_len t
   have hsz := hwh.s
   have HLL := hid (fun u (hu : Below wr.heap.size wr u) => lawList_any u (.slice aw t.ino.length cw) t.ino (hro.below hu).rfs (fun x hx => (ino_ok t hwh.g hwh.p x hx).2.1) (by omega))
   have HOK := hid (ino_ok t hwh.g hwh.p)
   have HIL := hid (show t.ino.length ≤ 1048576 by omega)
   have HW := hid hwh
   have HMM := hid (And.intro ht (And.intro hm (And.intro hro (And.intro hkc hb))))
   have hcond : ¬ ((j : Int) < (l.length : Int)) ∨ ¬ ((j : Int) < 200) := by omega
   have hgo : ∀ (K : Prop), ((¬ ((j : Int) < (l.length : Int)) → K) ∧ ((j : Int) < (l.length : Int) → ¬ ((j : Int) < 200) → K)) → K := fun K h => by
    by_cases h1 : (j : Int) < (l.length : Int)
    ·exact h.2 h1 (hcond.resolve_left (fun h => h h1))
    ·exact h.1 h1
   clear hcond hjl hj hj100 hwh hwh0 hsz hil htd hBs ht hm hro hkc hb hSb
   refine hgo _ ⟨fun hj1 => ?_, fun hj1 hj2 => ?_⟩
   all_goals
    clear hgo
    go_wp2_with fail
    refine (HLL.out wr (Below.refl _ _)).mono ?_
    rintro d w6 ⟨v6, rfl, hen, hb6⟩
    have hens := hen.ens
    have hkc6 := HMM.out.2.2.2.1.below hb6 HMM.out.2.2.2.1.1
    have HBO := hid (build_ok w6 v6 t.ino hens (valid_asc w6 v6 t.ino hens HW.out.a HOK.out HIL.out) HIL.out (fun x hx => ⟨(HOK.out x hx).1, (HOK.out x hx).2.1, (HOK.out x hx).2.2.2⟩) hkc6)
    obtain ⟨a6, c6, rfl⟩ := hen.slc
    have HB6 := hid hb6
    clear hen hens hkc6 hb6
    go_wp2_with fail
    refine HBO.out.mono ?_
    rintro d w7 ⟨X2, p2, rfl, ht2, hm2, hg2, hX2, hb7⟩
    have hone := of_one t HW.out.g HW.out.f HW.out.k HW.out.h HW.out.a hg2
    rw [hone] at hm2
    have hb8 := HB6.out.trans (hb7.mono HB6.out.size)
    have HF := hid (show TIs w7 X px ∧ MIs w7 S px t ∧ RfO w7 B (.slice aw t.ino.length cw) t.ino ∧ KC w7 ∧ Below w.heap.size w w7 from ⟨(hb8.block X (blk_lt HMM.out.1)).trans HMM.out.1, HMM.out.2.1.below hb8, HMM.out.2.2.1.below hb8, HMM.out.2.2.2.1.below hb8 HMM.out.2.2.2.1.1, HMM.out.2.2.2.2.trans (hb8.mono HMM.out.2.2.2.2.size)⟩)
    have HF2 := hid (And.intro ht2 hm2)
    clear ht2 hm2 hg2 hX2 hb7 hb8 hone HBO
    go_wp2_with fail
    refine (treeRoot_any X t w7 px HF.out.1 HF.out.2.1 HW.out.g HF.out.2.2.2.1).mono ?_
    rintro d w8 ⟨rfl, hb9⟩
    have HF8 := hid (show TIs w8 X px ∧ MIs w8 S px t ∧ RfO w8 B (.slice aw t.ino.length cw) t.ino ∧ KC w8 ∧ Below w.heap.size w w8 from ⟨(hb9.block X (blk_lt HF.out.1)).trans HF.out.1, HF.out.2.1.below hb9, HF.out.2.2.1.below hb9, HF.out.2.2.2.1.below hb9 HF.out.2.2.2.1.1, HF.out.2.2.2.2.trans (hb9.mono HF.out.2.2.2.2.size)⟩)
    have HR2 := hid (treeRoot_any X2 t w8 p2 ((hb9.block X2 (blk_lt HF2.out.1)).trans HF2.out.1) (HF2.out.2.below hb9) HW.out.g HF8.out.2.2.2.1)
    clear hb9 HF HF2
    have HDL := hid (show t.dg.length = 32 by rw [dg_root t HW.out.g HW.out.f HW.out.k HW.out.a HW.out.h]; exact rRoot_len _)
    have HDR := hid (dg_root t HW.out.g HW.out.f HW.out.k HW.out.a HW.out.h)
    generalize hdg : t.dg = dg at *
    have HDG := hid hdg
    clear hdg
    go_wp2_with fail
    refine HR2.out.mono ?_
    rintro d w9 ⟨rfl, hb10⟩
    have HF9 := hid (show TIs w9 X px ∧ MIs w9 S px t ∧ RfO w9 B (.slice aw t.ino.length cw) t.ino ∧ KC w9 ∧ Below w.heap.size w w9 from ⟨(hb10.block X (blk_lt HF8.out.1)).trans HF8.out.1, HF8.out.2.1.below hb10, HF8.out.2.2.1.below hb10, HF8.out.2.2.2.1.below hb10 HF8.out.2.2.2.1.1, HF8.out.2.2.2.2.trans (hb10.mono HF8.out.2.2.2.2.size)⟩)
    clear hb10 HF8 HR2
    have HR3 := hid (treeRoot_any X t w9 px HF9.out.1 HF9.out.2.1 HW.out.g HF9.out.2.2.2.1)
    rw [HDG.out] at HR3
    go_wp2_with (first | (refine wpList_of_runG (o := ⟨some 96, _, _, _, _, _⟩) (by rfl) (exec_eql_dg (Operand.tmp 93) (Operand.tmp 95) _ rfl dg dg rfl rfl HDL.out HDL.out true (decide_eq_true rfl)) ?_) | fail)
    refine HR3.out.mono ?_
    rintro d w10 ⟨rfl, hb11⟩
    have HF10 := hid (show TIs w10 X px ∧ MIs w10 S px t ∧ RfO w10 B (.slice aw t.ino.length cw) t.ino ∧ KC w10 ∧ Below w.heap.size w w10 from ⟨(hb11.block X (blk_lt HF9.out.1)).trans HF9.out.1, HF9.out.2.1.below hb11, HF9.out.2.2.1.below hb11, HF9.out.2.2.2.1.below hb11 HF9.out.2.2.2.1.1, HF9.out.2.2.2.2.trans (hb11.mono HF9.out.2.2.2.2.size)⟩)
    clear hb11 HF9 HR3
    have HRR := hid (refRoot_any t.ino.length w10 _ t.ino (Nat.le_refl _) HF10.out.2.2.1.rfc (fun x hx => ⟨(HOK.out x hx).2.1, (HOK.out x hx).1, (HOK.out x hx).2.2.2⟩) HIL.out)
    rw [← HDR.out] at HRR
    go_wp2_with fail
    refine HRR.out.mono ?_
    rintro d w11 ⟨rfl, hb12⟩
    have HF11 := hid (show TIs w11 X px ∧ MIs w11 S px t ∧ RfO w11 B (.slice aw t.ino.length cw) t.ino ∧ Below w.heap.size w w11 from ⟨(hb12.block X (blk_lt HF10.out.1)).trans HF10.out.1, HF10.out.2.1.below hb12, HF10.out.2.2.1.below hb12, HF10.out.2.2.2.2.trans (hb12.mono HF10.out.2.2.2.2.size)⟩)
    clear hb12 HF10 HRR
    have HAL := hid (treeAll_any X w11 px t HF11.out.1 HF11.out.2.1 HW.out.g (by rw [ents_all]; have := HIL.out; omega))
    rw [ents_all] at HAL
    go_wp2_with (first | (refine wpList_of_runG (o := ⟨some 103, _, _, _, _, _⟩) (by rfl) (exec_eql_dg (Operand.tmp 100) (Operand.tmp 102) _ rfl dg dg rfl rfl HDL.out HDL.out true (decide_eq_true rfl)) ?_) | fail)
    refine HAL.out.mono ?_
    rintro d w12 ⟨v12, rfl, hen, hb13⟩
    have HBK := hid (back_any w12 v12 t.ino hen.ens HIL.out)
    obtain ⟨a12, c12, rfl⟩ := hen.slc
    have HF12 := hid (And.intro (HF11.out.2.2.1.below hb13) (HF11.out.2.2.2.trans (hb13.mono HF11.out.2.2.2.size)))
    clear hb13 hen HAL HF11
    go_wp2_with fail
    refine HBK.out.mono ?_
    rintro d w13 ⟨v13, rfl, ho13, hb14⟩
    have hro14 := HF12.out.1.below hb14
    have hb15 := HF12.out.2.trans (hb14.mono HF12.out.2.size)
    have HSM := hid (refSame_any w13 v13 _ (t.ino.map toI) (t.ino.map toI) ho13.rfs hro14.rfs (toI_rng (fun x hx => (HOK.out x hx).2.1)) (toI_rng (fun x hx => (HOK.out x hx).2.1)) (by rw [List.length_map]; have := HIL.out; omega))
    rw [decide_eq_true (rfl : t.ino.map toI = t.ino.map toI)] at HSM
    obtain ⟨a13, c13, rfl⟩ := ho13.slc
    have HB15 := hid hb15
    clear ho13 hb14 hb15 hro14 HBK HF12
    go_wp2_with fail
    refine HSM.out.mono ?_
    rintro d w14 ⟨rfl, hb16⟩
    have HB16 := hid (HB15.out.trans (hb16.mono HB15.out.size))
    clear hb16
    go_wp2_with fail
    go_ret
    exact ⟨rfl, HB16.out⟩
end Go.Proofs.YtbmlkocpjboodaaDoor
