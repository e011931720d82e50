/-
 MerkleComplete: for any entries and range (of bulk at most 1048576): what a tree proves is taken, with just its entries in the range. Conditions: the second form's bound; the table sha.constants as the program's text lays it (the card ties it).
-/
import Derived.Test.YtmejjjkbbkgioaaDoorMp21
import Derived.Test.YtmejjjkbbkgioaaDoorMp23
import Derived.Test.YtmejjjkbbkgioaaDoorCards
import Derived.Test.YtmejjjkbbkgioaaDoorTie
namespace Go.Proofs.YtmejjjkbbkgioaaDoor
open Go.RowKit
theorem ino_len : ∀ t : MT, t.ino.length ≤ t.size
 | .nil => Nat.le_refl _
 | .cut _ => Nat.le_refl _
 | .nd k n rk d l r => by
  have h1 := ino_len l
  have h2 := ino_len r
  simp only [MT.ino, MT.size, List.length_append, List.length_cons]
  omega
theorem ino_rng : ∀ t : MT, t.Good → ∀ x ∈ t.ino, Rng x.1
 | .nil, _, x, h => by cases h
 | .cut _, _, x, h => by cases h
 | .nd k n rk d l r, g, x, h => by
  obtain ⟨-, gl, gr, -, hk, -⟩ := g
  unfold MT.ino at h
  rcases List.mem_append.1 h with h | h
  ·exact ino_rng l gl x h
  ·rcases List.mem_cons.1 h with rfl | h
   ·exact hk
   ·exact ino_rng r gr x h
theorem RfO.cgX {w w' : World} {B X : Nat} {v : Value} {l : List (List Int × Nat)} (h : RfO w B v l) (hc : Chg (fun q => q = X) w w') (hX : X < B) : RfO w' B v l := by
 have hlt := h.lt
 refine ⟨h.1, h.2.imp id ?_⟩
 rintro ⟨g, cap, cur, rfl, q1, q2, q3⟩
 exact ⟨g, cap, cur, rfl, q1, (hc.block g (hlt g rfl).2 (by omega)).trans q2, q3⟩
theorem pr_size (fr to : List Int) (e : Bool) : ∀ (t : MT) (lo hi : Option (List Int)), (t.pr fr to e lo hi).size ≤ t.size
 | .nil, _, _ => Nat.le_refl _
 | .cut _, _, _ => Nat.le_refl _
 | .nd k n rk d l r, lo, hi => by
  have h1 := pr_size fr to e l lo (some k)
  have h2 := pr_size fr to e r (some k) hi
  unfold MT.pr
  split
  ·exact Nat.zero_le _
  ·simp only [mkN, MT.size]; omega
theorem toI_rng {l : List (List Int × Nat)} (h : ∀ x ∈ l, Rng x.1) : ∀ x ∈ l.map toI, Rng x.1 := fun x hx => by
 obtain ⟨y, hy, rfl⟩ := List.mem_map.1 hx
 exact h y hy
/-- the law's tree and list under way, behind j entries; the list lies from block B on -/
def TV2 (w : World) (X B : Nat) (l : List (List Int × Int)) (j : Nat) (wv : Value) (u : World) : Prop :=
 ∃ x t, t = putsE (l.take j) .nil ∧ TIs u X x ∧ MIs u (fun q => q ≠ X) x t ∧ Wh2 t j ∧ RfO u B wv t.ino ∧ KC u ∧ B ≤ u.heap.size ∧ Below w.heap.size w u
set_option maxRecDepth 100000 in
set_option maxHeartbeats 8000000 in
theorem complete_walk (w : World) (vl : Value) (l : List (List Int × Int)) (fr to : List Int) (e : Bool) (hl : RfS w vl l) (gl : ∀ x ∈ l, EOk x) (g1 : Rng fr) (g2 : Rng to) (hK : KC w) :
  Calls Tryd.prog 6 #[vl, .agg #[.string (str fr), .string (str to), .bool e]] w fun d w' => d = .returned (.bool true) ∧ Below w.heap.size w w' := by
 have hlb := hl
 obtain ⟨al, cl, rfl, -⟩ := hlb
 have hw0 : Below w.heap.size w (w.alloc (.cells #[.string (str fr), .string (str to), .bool e] 24)) := (Below.refl _ _).alloc (Nat.le_refl _) _
 have hx0 : (w.alloc (.cells #[.string (str fr), .string (str to), .bool e] 24)).heap[w.heap.size]? = some (.cells #[.string (str fr), .string (str to), .bool e] 24 (0, 0)) := heap_alloc_new _ _
 generalize hWW : w.alloc (.cells #[.string (str fr), .string (str to), .bool e] 24) = w0 at *
 have HFX := Lib.hid (fixed_any w0 (hK.below hw0 hK.1))
 have H0 := Lib.hid (And.intro hw0 (And.intro hx0 (And.intro hl hK)))
 have HG := Lib.hid (And.intro gl (And.intro g1 g2))
 clear hw0 hx0 hl hK gl g1 g2
 go_enter Tryd.func6, Tryd.ntmps6
 go_wp2_with fail
 clear hWW
 refine HFX.out.mono ?_
 rintro d w1 ⟨rfl, hb1⟩
 have hK0 : KC w0 := H0.out.2.2.2.below H0.out.1 H0.out.2.2.2.1
 have HK0 := Lib.hid hK0
 have HK3 := Lib.hid (And.intro hb1 (hK0.below hb1 hK0.1))
 have HBN := Lib.hid (build_nil w1)
 clear hb1 hK0 HFX
 go_wp2_with fail
 refine HBN.out.mono ?_
 rintro d w4 ⟨X, rfl, hx4, hX, hb4⟩
 have hXw : w0.heap.size ≤ X := Nat.le_trans HK3.out.1.size hX
 have hKX : 1 < X := Nat.lt_of_lt_of_le HK0.out.1 hXw
 have hXB : X < w4.heap.size := blk_lt hx4
 have h4 : Below w0.heap.size w0 w4 := HK3.out.1.trans (hb4.mono HK3.out.1.size)
 have hb5 : Below w4.heap.size w4 (w4.alloc (.cells #[] 45)) := (Below.refl _ _).alloc (Nat.le_refl _) _
 have HT0 := Lib.hid (show TV2 w0 X w4.heap.size l 0 (.slice (some ⟨w4.heap.size, 0, none⟩) 0 0) (w4.alloc (.cells #[] 45)) from ⟨.pointer none, .nil, rfl, (hb5.block _ hXB).trans hx4, rfl, wh2_nil, ⟨rfl, .inr ⟨w4.heap.size, 0, #[], rfl, Nat.le_refl _, heap_alloc_new _ _, Nat.le_refl _, Nat.zero_le _, rfl, rfl⟩⟩, ((HK3.out.2.below hb4 HK3.out.2.1).below hb5 (Nat.lt_of_lt_of_le HK0.out.1 h4.size)), hb5.size, h4.trans (hb5.mono h4.size)⟩)
 have hBw : w0.heap.size ≤ w4.heap.size := h4.size
 clear hx4 hX hb4 HBN HK3 h4 hb5
 go_wp2_with fail
 go_loopw [6, 7] (fun wv iv wr => ∃ j : Nat, j ≤ l.length ∧ j ≤ 200 ∧ iv = .int .i64 (j : Int) ∧ TV2 w0 X w4.heap.size l j wv wr) (fun _ iv _ => l.length - (intOf iv).toNat)
 case atStart => exact ⟨0, Nat.zero_le _, Nat.zero_le _, rfl, HT0.out⟩
 case round =>
  obtain ⟨j, hj, hj100, rfl, htu⟩ := hrel
  generalize hBB : w4.heap.size = B at *
  clear hBB HT0
  obtain ⟨px, t, htd, ht, hm, hwh, hro, hkc, hBs, hb⟩ := htu
  obtain ⟨aw, cw, rfl⟩ := hro.slc
  by_cases hjl : j < l.length ∧ j < 200
  ·obtain ⟨hjl, hjc⟩ := hjl
   have hx : l[j]? = some (l[j]'hjl) := List.getElem?_eq_getElem hjl
   generalize l[j]'hjl = x at hx
   have hxo := HG.out.1 x (List.mem_of_getElem? hx)
   obtain ⟨a', c', he, hall⟩ := H0.out.2.2.1
   injection he with e1 e0 e2
   clear e0
   subst e1 e2
   obtain ⟨g, o, hag, hgl, hc0, hc1⟩ := hall j x hx
   subst hag
   have hgl0 : g < w0.heap.size := Nat.lt_of_lt_of_le hgl H0.out.1.size
   have HC0 := Lib.hid (fun u (hu : Below w0.heap.size w0 u) => (show u.cell? ⟨g, o + j * 2, none⟩ = some (.string (str x.1)) from (World.cell?_of_block (a := ⟨g, o + j * 2, none⟩) (hu.block g hgl0)).trans ((World.cell?_of_block (a := ⟨g, o + j * 2, none⟩) (H0.out.1.block g hgl)).trans hc0)))
   have HC1 := Lib.hid (fun u (hu : Below w0.heap.size w0 u) => (show u.cell? ⟨g, o + j * 2 + 1, none⟩ = some (.int .i64 x.2) from (World.cell?_of_block (a := ⟨g, o + j * 2 + 1, none⟩) (hu.block g hgl0)).trans ((World.cell?_of_block (a := ⟨g, o + j * 2 + 1, none⟩) (H0.out.1.block g hgl)).trans hc1)))
   have hj0 : (0 : Int) ≤ (j : Int) := by omega
   have hj1 : (j : Int) < (l.length : Int) := by omega
   have hj2 : (j : Int) < 200 := by omega
   have HXX := Lib.hid (And.intro hx (And.intro hxo (And.intro hwh htd)))
   have HNX := Lib.hid (And.intro hjl hjc)
   have hb := hb.drew
   have hkc : KC wr.drew := ⟨hkc.1, hkc.2⟩
   have ht : TIs wr.drew X px := ht
   have hm : MIs wr.drew (fun q => q ≠ X) px t := hm.below ((Below.refl _ _).drew)
   have hro : RfO wr.drew B (.slice aw t.ino.length cw) t.ino := hro
   have hBs : B ≤ wr.drew.heap.size := hBs
   clear hx hxo hwh htd hgl hc0 hc1 hall hjl hjc
   go_wp2_with fail
   refine wp_region_held_drew (S := fun u => Below w0.heap.size w0 u) (by kernel_rfl) (hb) (fun hHeld => ?_)
   refine wpAnyH_take (i := 0) (oi := ({ dst := some 24, op := .move (.tmp 5), type := 28, pos := "law.go:149", after := #[], guard := none } : Oper)) (v := ?_) rfl (by kernel_rfl) (by kernel_rfl) (by kernel_rfl) (fun _ _ _ h => h) (Or.inl ⟨by rfl, ?_⟩) (by assumption) ?_
   rotate_left 1
   ·(intro u hSw; go_simp; try with_reducible rfl)
   try simp only [Act.put, List.setIfInBounds_toArray, List.set_cons_zero, List.set_cons_succ]
   refine wpAnyH_take (i := 1) (oi := ({ dst := some 25, op := .move (.tmp 0), type := 22, pos := "law.go:149", after := #[], guard := none } : Oper)) (v := ?_) rfl (by kernel_rfl) (by kernel_rfl) (by kernel_rfl) (fun _ _ _ h => h) (Or.inl ⟨by rfl, ?_⟩) (by assumption) ?_
   rotate_left 1
   ·(intro u hSw; go_simp; try with_reducible rfl)
   try simp only [Act.put, List.setIfInBounds_toArray, List.set_cons_zero, List.set_cons_succ]
   refine wpAnyH_take (i := 2) (oi := ({ dst := some 26, op := .move (.tmp 7), type := 3, pos := "law.go:149", after := #[], guard := none } : Oper)) (v := ?_) rfl (by kernel_rfl) (by kernel_rfl) (by kernel_rfl) (fun _ _ _ h => h) (Or.inl ⟨by rfl, ?_⟩) (by assumption) ?_
   rotate_left 1
   ·(intro u hSw; go_simp; try with_reducible rfl)
   try simp only [Act.put, List.setIfInBounds_toArray, List.set_cons_zero, List.set_cons_succ]
   refine wpAnyH_take (i := 3) (oi := ({ dst := some 27, op := .indexAddr 22 (.tmp 25) (.tmp 26), type := 0, pos := "law.go:149", after := #[{ on := 1, ground := .data }, { on := 2, ground := .data }], guard := none } : Oper)) (v := ?_) rfl (by kernel_rfl) (by kernel_rfl) (by kernel_rfl) (fun _ _ _ h => h) (Or.inl ⟨by rfl, ?_⟩) (by assumption) ?_
   rotate_left 1
   ·(intro u hSw; go_simp; try with_reducible rfl)
   try simp only [Act.put, List.setIfInBounds_toArray, List.set_cons_zero, List.set_cons_succ]
   refine wpAnyH_take (i := 4) (oi := ({ dst := some 28, op := .fieldAddr 45 (.tmp 27) 0, type := 0, pos := "law.go:149", after := #[{ on := 3, ground := .data }], guard := none } : Oper)) (v := ?_) rfl (by kernel_rfl) (by kernel_rfl) (by kernel_rfl) (fun _ _ _ h => h) (Or.inl ⟨by rfl, ?_⟩) (by assumption) ?_
   rotate_left 1
   ·(intro u hSw; go_simp; try with_reducible rfl)
   try simp only [Act.put, List.setIfInBounds_toArray, List.set_cons_zero, List.set_cons_succ]
   refine wpAnyH_take (i := 5) (oi := ({ dst := some 29, op := .load 9 (.tmp 28), type := 9, pos := "law.go:149", after := #[{ on := 4, ground := .data }], guard := none } : Oper)) (v := ?_) rfl (by kernel_rfl) (by kernel_rfl) (by kernel_rfl) (fun _ _ _ h => h) (Or.inl ⟨by rfl, ?_⟩) (by assumption) ?_
   rotate_left 1
   ·(intro u hSw; have y0 := HC0.out _ hSw; have y1 := HC1.out _ hSw; go_simp; try with_reducible rfl)
   try simp only [Act.put, List.setIfInBounds_toArray, List.set_cons_zero, List.set_cons_succ]
   refine wpAnyH_take (i := 7) (oi := ({ dst := some 31, op := .move (.tmp 0), type := 22, pos := "law.go:149", after := #[], guard := none } : Oper)) (v := ?_) rfl (by kernel_rfl) (by kernel_rfl) (by kernel_rfl) (fun _ _ _ h => h) (Or.inl ⟨by rfl, ?_⟩) (by assumption) ?_
   rotate_left 1
   ·(intro u hSw; go_simp; try with_reducible rfl)
   try simp only [Act.put, List.setIfInBounds_toArray, List.set_cons_zero, List.set_cons_succ]
   refine wpAnyH_take (i := 8) (oi := ({ dst := some 32, op := .move (.tmp 7), type := 3, pos := "law.go:149", after := #[], guard := none } : Oper)) (v := ?_) rfl (by kernel_rfl) (by kernel_rfl) (by kernel_rfl) (fun _ _ _ h => h) (Or.inl ⟨by rfl, ?_⟩) (by assumption) ?_
   rotate_left 1
   ·(intro u hSw; go_simp; try with_reducible rfl)
   try simp only [Act.put, List.setIfInBounds_toArray, List.set_cons_zero, List.set_cons_succ]
   refine wpAnyH_take (i := 9) (oi := ({ dst := some 33, op := .indexAddr 22 (.tmp 31) (.tmp 32), type := 0, pos := "law.go:149", after := #[{ on := 7, ground := .data }, { on := 8, ground := .data }], guard := none } : Oper)) (v := ?_) rfl (by kernel_rfl) (by kernel_rfl) (by kernel_rfl) (fun _ _ _ h => h) (Or.inl ⟨by rfl, ?_⟩) (by assumption) ?_
   rotate_left 1
   ·(intro u hSw; go_simp; try with_reducible rfl)
   try simp only [Act.put, List.setIfInBounds_toArray, List.set_cons_zero, List.set_cons_succ]
   refine wpAnyH_take (i := 10) (oi := ({ dst := some 34, op := .fieldAddr 45 (.tmp 33) 1, type := 0, pos := "law.go:149", after := #[{ on := 9, ground := .data }], guard := none } : Oper)) (v := ?_) rfl (by kernel_rfl) (by kernel_rfl) (by kernel_rfl) (fun _ _ _ h => h) (Or.inl ⟨by rfl, ?_⟩) (by assumption) ?_
   rotate_left 1
   ·(intro u hSw; go_simp; try with_reducible rfl)
   try simp only [Act.put, List.setIfInBounds_toArray, List.set_cons_zero, List.set_cons_succ]
   refine wpAnyH_take (i := 11) (oi := ({ dst := some 35, op := .load 2 (.tmp 34), type := 2, pos := "law.go:149", after := #[{ on := 10, ground := .data }], guard := none } : Oper)) (v := ?_) rfl (by kernel_rfl) (by kernel_rfl) (by kernel_rfl) (fun _ _ _ h => h) (Or.inl ⟨by rfl, ?_⟩) (by assumption) ?_
   rotate_left 1
   ·(intro u hSw; have y0 := HC0.out _ hSw; have y1 := HC1.out _ hSw; go_simp; try with_reducible rfl)
   try simp only [Act.put, List.setIfInBounds_toArray, List.set_cons_zero, List.set_cons_succ]
   refine wpAnyH_ready (rs := [6]) (by kernel_rfl) (by simp) ?_
   refine (AllReadyH.cons (o := ({ dst := some 30, op := .convert 9 31 (.tmp 29), type := 31, pos := "law.go:149", after := #[{ on := 5, ground := .data }], guard := none } : Oper)) rfl (fun K hK => ?_) AllReadyH.nil)
   try (generalize World.drew wr = ud at *)
   obtain ⟨W1, a1, c1, q1, b1, k1⟩ := conv_str ud x.1 HXX.out.2.1.1
   refine step_of_runP (by rfl) (exec_convP 9 31 (Operand.tmp 29) (by rfl) _ (by rfl) _ q1) ?_
   have hb := hb.trans (b1.mono hb.size)
   have ht := (b1.block X (blk_lt ht)).trans ht
   have hm := hm.below b1
   have hro := hro.below b1
   have hkc := hkc.below b1 hkc.1
   have hBs : B ≤ W1.heap.size := Nat.le_trans hBs b1.size
   clear q1 b1
   refine hK.out _ _ hb (fun hHeld => ?_)
   clear hK K
   try simp only [Act.put, List.setIfInBounds_toArray, List.set_cons_zero, List.set_cons_succ]
   refine wpAnyH_ready (rs := [12]) (by kernel_rfl) (by simp) ?_
   refine (AllReadyH.cons (o := ({ dst := some 36, op := .call { callee := Callee.value (Operand.func 20), args := #[.tmp 24, .tmp 30, .tmp 35], argTypes := #[28, 31, 2] }, type := 4, pos := "law.go:149", after := #[{ on := 0, ground := .data }, { on := 6, ground := .data }, { on := 11, ground := .data }], guard := none } : Oper)) rfl (fun K hK => ?_) AllReadyH.nil)
   go_simp
   have hts := treeSet_both X _ x _ W1 px (fun _ => id) ht hm HXX.out.2.2.1.g HXX.out.2.2.1.f hkc k1 HXX.out.2.1 hKX (fun h => h rfl)
   generalize hqb : decide (x.1.length ≤ 65535 ∧ 0 ≤ x.2) = qb at hts
   have HQB := Lib.hid hqb
   clear hqb
   refine hts.mono ?_
   rintro e w5 ⟨rfl, p5, ht5, hm5, hc5⟩
   have hb := hb.trans (hc5.below (fun q e => by omega) hb.size)
   have hkc := hkc.chg hc5 (by omega)
   have hro := hro.cgX hc5 hXB
   have hBs : B ≤ w5.heap.size := Nat.le_trans hBs hc5.size
   clear ht hm hc5 k1 hts
   go_wp2_with fail
   refine hK.out _ _ hb (fun hHeld => ?_)
   clear hK K
   try simp only [Act.put, List.setIfInBounds_toArray, List.set_cons_zero, List.set_cons_succ]
   refine wpAnyH_done (by kernel_rfl) ?_ _
   have hr := putsE_step (HXX.out.1)
   rw [← HXX.out.2.2.2] at hr
   have HR := Lib.hid hr
   have hwx := putE_wh2 HXX.out.2.2.1 HXX.out.2.1
   clear hr hHeld
   cases qb with
   | true =>
    have hc := of_decide_eq_true HQB.out
    obtain ⟨n, hn⟩ : ∃ n : Nat, x.2 = (n : Int) := ⟨x.2.toNat, by omega⟩
    have hse : (putE t x).ino = rSet x.1 n t.ino false := by
     rw [hwx.2, rSet_eq _ _ _ HXX.out.2.2.1.a]
     unfold setE
     rw [if_pos hc, hn, Int.toNat_natCast]
    have HRS := Lib.hid (refSet_any w5.drew (.slice aw t.ino.length cw) t.ino x.1 n (show RfO w5.drew B (.slice aw t.ino.length cw) t.ino from hro).rfs (ino_rng t HXX.out.2.2.1.g) HXX.out.2.1.1 (by have h1 := ino_len t; have h2 := HXX.out.2.2.1.s; omega))
    rw [← hse] at HRS
    have HSS := Lib.hid (And.intro ht5 (And.intro hm5 (And.intro hwx.1 (And.intro hkc hb))))
    have hb := hb.drew
    have HCN := Lib.hid hn
    clear ht5 hm5 hwx hkc hro hse hc hn
    go_wp2_with fail
    refine wp_region_held_drew (S := fun u => Below w0.heap.size w0 u) (by kernel_rfl) (hb) (fun hHeld => ?_)
    refine wpAnyH_take (i := 0) (oi := ({ dst := some 37, op := .move (.tmp 6), type := 22, pos := "law.go:150", after := #[], guard := none } : Oper)) (v := ?_) rfl (by kernel_rfl) (by kernel_rfl) (by kernel_rfl) (fun _ _ _ h => h) (Or.inl ⟨by rfl, ?_⟩) (by assumption) ?_
    rotate_left 1
    ·(intro u hSw; go_simp; try with_reducible rfl)
    try simp only [Act.put, List.setIfInBounds_toArray, List.set_cons_zero, List.set_cons_succ]
    refine wpAnyH_take (i := 1) (oi := ({ dst := some 38, op := .move (.tmp 0), type := 22, pos := "law.go:150", after := #[], guard := none } : Oper)) (v := ?_) rfl (by kernel_rfl) (by kernel_rfl) (by kernel_rfl) (fun _ _ _ h => h) (Or.inl ⟨by rfl, ?_⟩) (by assumption) ?_
    rotate_left 1
    ·(intro u hSw; go_simp; try with_reducible rfl)
    try simp only [Act.put, List.setIfInBounds_toArray, List.set_cons_zero, List.set_cons_succ]
    refine wpAnyH_take (i := 2) (oi := ({ dst := some 39, op := .move (.tmp 7), type := 3, pos := "law.go:150", after := #[], guard := none } : Oper)) (v := ?_) rfl (by kernel_rfl) (by kernel_rfl) (by kernel_rfl) (fun _ _ _ h => h) (Or.inl ⟨by rfl, ?_⟩) (by assumption) ?_
    rotate_left 1
    ·(intro u hSw; go_simp; try with_reducible rfl)
    try simp only [Act.put, List.setIfInBounds_toArray, List.set_cons_zero, List.set_cons_succ]
    refine wpAnyH_take (i := 3) (oi := ({ dst := some 40, op := .indexAddr 22 (.tmp 38) (.tmp 39), type := 0, pos := "law.go:150", after := #[{ on := 1, ground := .data }, { on := 2, ground := .data }], guard := none } : Oper)) (v := ?_) rfl (by kernel_rfl) (by kernel_rfl) (by kernel_rfl) (fun _ _ _ h => h) (Or.inl ⟨by rfl, ?_⟩) (by assumption) ?_
    rotate_left 1
    ·(intro u hSw; go_simp; try with_reducible rfl)
    try simp only [Act.put, List.setIfInBounds_toArray, List.set_cons_zero, List.set_cons_succ]
    refine wpAnyH_take (i := 4) (oi := ({ dst := some 41, op := .fieldAddr 45 (.tmp 40) 0, type := 0, pos := "law.go:150", after := #[{ on := 3, ground := .data }], guard := none } : Oper)) (v := ?_) rfl (by kernel_rfl) (by kernel_rfl) (by kernel_rfl) (fun _ _ _ h => h) (Or.inl ⟨by rfl, ?_⟩) (by assumption) ?_
    rotate_left 1
    ·(intro u hSw; go_simp; try with_reducible rfl)
    try simp only [Act.put, List.setIfInBounds_toArray, List.set_cons_zero, List.set_cons_succ]
    refine wpAnyH_take (i := 5) (oi := ({ dst := some 42, op := .load 9 (.tmp 41), type := 9, pos := "law.go:150", after := #[{ on := 4, ground := .data }], guard := none } : Oper)) (v := ?_) rfl (by kernel_rfl) (by kernel_rfl) (by kernel_rfl) (fun _ _ _ h => h) (Or.inl ⟨by rfl, ?_⟩) (by assumption) ?_
    rotate_left 1
    ·(intro u hSw; have y0 := HC0.out _ hSw; have y1 := HC1.out _ hSw; go_simp; try with_reducible rfl)
    try simp only [Act.put, List.setIfInBounds_toArray, List.set_cons_zero, List.set_cons_succ]
    refine wpAnyH_take (i := 6) (oi := ({ dst := some 43, op := .move (.tmp 0), type := 22, pos := "law.go:150", after := #[], guard := none } : Oper)) (v := ?_) rfl (by kernel_rfl) (by kernel_rfl) (by kernel_rfl) (fun _ _ _ h => h) (Or.inl ⟨by rfl, ?_⟩) (by assumption) ?_
    rotate_left 1
    ·(intro u hSw; go_simp; try with_reducible rfl)
    try simp only [Act.put, List.setIfInBounds_toArray, List.set_cons_zero, List.set_cons_succ]
    refine wpAnyH_take (i := 7) (oi := ({ dst := some 44, op := .move (.tmp 7), type := 3, pos := "law.go:150", after := #[], guard := none } : Oper)) (v := ?_) rfl (by kernel_rfl) (by kernel_rfl) (by kernel_rfl) (fun _ _ _ h => h) (Or.inl ⟨by rfl, ?_⟩) (by assumption) ?_
    rotate_left 1
    ·(intro u hSw; go_simp; try with_reducible rfl)
    try simp only [Act.put, List.setIfInBounds_toArray, List.set_cons_zero, List.set_cons_succ]
    refine wpAnyH_take (i := 8) (oi := ({ dst := some 45, op := .indexAddr 22 (.tmp 43) (.tmp 44), type := 0, pos := "law.go:150", after := #[{ on := 6, ground := .data }, { on := 7, ground := .data }], guard := none } : Oper)) (v := ?_) rfl (by kernel_rfl) (by kernel_rfl) (by kernel_rfl) (fun _ _ _ h => h) (Or.inl ⟨by rfl, ?_⟩) (by assumption) ?_
    rotate_left 1
    ·(intro u hSw; go_simp; try with_reducible rfl)
    try simp only [Act.put, List.setIfInBounds_toArray, List.set_cons_zero, List.set_cons_succ]
    refine wpAnyH_take (i := 9) (oi := ({ dst := some 46, op := .fieldAddr 45 (.tmp 45) 1, type := 0, pos := "law.go:150", after := #[{ on := 8, ground := .data }], guard := none } : Oper)) (v := ?_) rfl (by kernel_rfl) (by kernel_rfl) (by kernel_rfl) (fun _ _ _ h => h) (Or.inl ⟨by rfl, ?_⟩) (by assumption) ?_
    rotate_left 1
    ·(intro u hSw; go_simp; try with_reducible rfl)
    try simp only [Act.put, List.setIfInBounds_toArray, List.set_cons_zero, List.set_cons_succ]
    refine wpAnyH_take (i := 10) (oi := ({ dst := some 47, op := .load 2 (.tmp 46), type := 2, pos := "law.go:150", after := #[{ on := 9, ground := .data }], guard := none } : Oper)) (v := ?_) rfl (by kernel_rfl) (by kernel_rfl) (by kernel_rfl) (fun _ _ _ h => h) (Or.inl ⟨by rfl, ?_⟩) (by assumption) ?_
    rotate_left 1
    ·(intro u hSw; have y0 := HC0.out _ hSw; have y1 := HC1.out _ hSw; go_simp; try with_reducible rfl)
    try simp only [Act.put, List.setIfInBounds_toArray, List.set_cons_zero, List.set_cons_succ]
    refine wpAnyH_ready (rs := [11]) (by kernel_rfl) (by simp) ?_
    refine (AllReadyH.cons (o := ({ dst := some 48, op := .call { callee := Callee.value (Operand.func 21), args := #[.tmp 37, .tmp 42, .tmp 47], argTypes := #[22, 9, 2] }, type := 22, pos := "law.go:150", after := #[{ on := 0, ground := .data }, { on := 5, ground := .data }, { on := 10, ground := .data }], guard := none } : Oper)) rfl (fun K hK => ?_) AllReadyH.nil)
    rw [HCN.out]
    go_simp
    refine HRS.out.mono ?_
    rintro d6 w6 ⟨v6, rfl, ho6, hb6⟩
    obtain ⟨a6, c6, rfl⟩ := ho6.slc
    have hb := hb.trans (hb6.mono hb.size)
    have ht6 := (hb6.block X (blk_lt HSS.out.1)).trans HSS.out.1
    have hm6 := (show MIs w5.drew (fun q => q ≠ X) p5 (putE t x) from HSS.out.2.1.below ((Below.refl _ _).drew)).below hb6
    have hkc := (show KC w5.drew from ⟨HSS.out.2.2.2.1.1, HSS.out.2.2.2.1.2⟩).below hb6 HSS.out.2.2.2.1.1
    have hBs6 : B ≤ w6.heap.size := Nat.le_trans hBs hb6.size
    clear hb6
    go_wp2_with fail
    refine hK.out _ _ hb (fun hHeld => ?_)
    clear hK K
    try simp only [Act.put, List.setIfInBounds_toArray, List.set_cons_zero, List.set_cons_succ]
    refine wpAnyH_take (i := 12) (oi := ({ dst := some 6, op := .assign (.tmp 48), type := 22, pos := "law.go:150", after := #[{ on := 11, ground := .data }, { on := 11, ground := .chain }, { on := 0, ground := .phase }, { on := 1, ground := .phase }, { on := 2, ground := .phase }, { on := 3, ground := .phase }, { on := 4, ground := .phase }, { on := 5, ground := .phase }, { on := 6, ground := .phase }, { on := 7, ground := .phase }, { on := 8, ground := .phase }, { on := 9, ground := .phase }, { on := 10, ground := .phase }, { on := 11, ground := .phase }], guard := none } : Oper)) (v := ?_) rfl (by kernel_rfl) (by kernel_rfl) (by kernel_rfl) (fun _ _ _ h => h) (Or.inl ⟨by rfl, ?_⟩) (by assumption) ?_
    rotate_left 1
    ·(intro u hSw; go_simp; try with_reducible rfl)
    try simp only [Act.put, List.setIfInBounds_toArray, List.set_cons_zero, List.set_cons_succ]
    refine wpAnyH_done (by kernel_rfl) ?_ _
    have HZ := Lib.hid (show TV2 w0 X B l (j + 1) (.slice a6 (putE t x).ino.length c6) w6 from ⟨p5, putE t x, HR.out.symm, ht6, hm6, HSS.out.2.2.1, ho6.base hBs, hkc, hBs6, hb⟩)
    clear ht6 hm6 ho6 hkc hb hHeld hBs6
    go_wp2_with fail
    go_roundw
    case rel => exact ⟨j + 1, HNX.out.1, HNX.out.2, by go_num, HZ.out⟩
    case measure => have := HNX.out.1; simp [intOf]; omega
   | false =>
    have hc := of_decide_eq_false HQB.out
    have hpe : putE t x = t := by unfold putE; rw [if_neg hc]
    rw [hpe] at hm5 hwx
    have HZ := Lib.hid (show TV2 w0 X B l (j + 1) (.slice aw t.ino.length cw) w5 from ⟨p5, t, by rw [HR.out, hpe], ht5, hm5, hwx.1, hro, hkc, hBs, hb⟩)
    clear ht5 hm5 hwx hkc hro hb hc hpe
    go_wp2_with fail
    go_roundw
    case rel => exact ⟨j + 1, HNX.out.1, HNX.out.2, by go_num, HZ.out⟩
    case measure => have := HNX.out.1; simp [intOf]; omega
  ·have hdp := MT.depth_le t
   have hsz := hwh.s
   have hil := ino_len t
   have hpl := prove_len fr to e t hwh.g
   have HPL := Lib.hid (show (t.prove fr to e).length ≤ 1099511627776 by omega)
   have HVC := Lib.hid (ver_complete fr to e t hwh.g hwh.f hwh.p (by omega) hwh.a)
   have HEB := Lib.hid (show ∀ y, rdAll (t.prove fr to e) = .inr y → (y.ents fr to e).length ≤ 1099511627776 from fun y hy => by
    rw [rdAll_pr fr to e t hwh.g hwh.f hwh.p (by omega)] at hy
    injection hy with hy
    subst hy
    have h1 := MT.ents_le fr to e (t.pr fr to e none none)
    have h2 := pr_size fr to e t none none
    omega)
   have HIL := Lib.hid (show t.ino.length ≤ 1048576 by omega)
   have HW := Lib.hid hwh
   have HZZ := Lib.hid (fun u (hu : Below w0.heap.size w0 u) => (show u.heap[w.heap.size]? = some (.cells #[.string (str fr), .string (str to), .bool e] 24 (0, 0)) from (hu.block _ (blk_lt H0.out.2.1)).trans H0.out.2.1))
   have hb := hb.drew
   have ht : TIs wr.drew X px := ht
   have hm : MIs wr.drew (fun q => q ≠ X) px t := hm.below ((Below.refl _ _).drew)
   have hro : RfO wr.drew B (.slice aw t.ino.length cw) t.ino := hro
   have hkc : KC wr.drew := ⟨hkc.1, hkc.2⟩
   have hcond : ¬ ((j : Int) < (l.length : Int)) ∨ ¬ ((j : Int) < 200) := by omega
   have hgo : ∀ (K : Prop), ((¬ ((j : Int) < (l.length : Int)) → K) ∧ ((j : Int) < (l.length : Int) → ¬ ((j : Int) < 200) → K)) → K := fun K h => by
    by_cases h1 : (j : Int) < (l.length : Int)
    ·exact h.2 h1 (hcond.resolve_left (fun h => h h1))
    ·exact h.1 h1
   clear hcond hjl hj hj100 hwh hdp hsz hil hpl htd hBs
   refine hgo _ ⟨fun hj1 => ?_, fun hj1 hj2 => ?_⟩
   all_goals
    clear hgo
    go_wp2_with fail
    refine wp_region_held_drew (S := fun u => Below w0.heap.size w0 u) (by kernel_rfl) (hb) (fun hHeld => ?_)
    refine wpAnyH_take (i := 0) (oi := ({ dst := some 50, op := .move (.tmp 5), type := 28, pos := "law.go:153", after := #[], guard := none } : Oper)) (v := ?_) rfl (by kernel_rfl) (by kernel_rfl) (by kernel_rfl) (fun _ _ _ h => h) (Or.inl ⟨by rfl, ?_⟩) (by assumption) ?_
    rotate_left 1
    ·(intro u hSw; go_simp; try with_reducible rfl)
    try simp only [Act.put, List.setIfInBounds_toArray, List.set_cons_zero, List.set_cons_succ]
    refine wpAnyH_take (i := 2) (oi := ({ dst := some 52, op := .load 24 (.tmp 3), type := 24, pos := "law.go:153", after := #[], guard := none } : Oper)) (v := ?_) rfl (by kernel_rfl) (by kernel_rfl) (by kernel_rfl) (fun _ _ _ h => h) (Or.inl ⟨by rfl, ?_⟩) (by assumption) ?_
    rotate_left 1
    ·(intro u hSw; have y0 := cell_of_row u w.heap.size 0 _ _ _ (HZZ.out _ hSw); have y1 := cell_of_row u w.heap.size 1 _ _ _ (HZZ.out _ hSw); have y2 := cell_of_row u w.heap.size 2 _ _ _ (HZZ.out _ hSw); go_simp; try with_reducible rfl)
    try simp only [Act.put, List.setIfInBounds_toArray, List.set_cons_zero, List.set_cons_succ]
    refine wpAnyH_take (i := 3) (oi := ({ dst := some 53, op := .move (.tmp 5), type := 28, pos := "law.go:153", after := #[], guard := none } : Oper)) (v := ?_) rfl (by kernel_rfl) (by kernel_rfl) (by kernel_rfl) (fun _ _ _ h => h) (Or.inl ⟨by rfl, ?_⟩) (by assumption) ?_
    rotate_left 1
    ·(intro u hSw; go_simp; try with_reducible rfl)
    try simp only [Act.put, List.setIfInBounds_toArray, List.set_cons_zero, List.set_cons_succ]
    refine wpAnyH_take (i := 4) (oi := ({ dst := some 54, op := .load 24 (.tmp 3), type := 24, pos := "law.go:153", after := #[], guard := none } : Oper)) (v := ?_) rfl (by kernel_rfl) (by kernel_rfl) (by kernel_rfl) (fun _ _ _ h => h) (Or.inl ⟨by rfl, ?_⟩) (by assumption) ?_
    rotate_left 1
    ·(intro u hSw; have y0 := cell_of_row u w.heap.size 0 _ _ _ (HZZ.out _ hSw); have y1 := cell_of_row u w.heap.size 1 _ _ _ (HZZ.out _ hSw); have y2 := cell_of_row u w.heap.size 2 _ _ _ (HZZ.out _ hSw); go_simp; try with_reducible rfl)
    try simp only [Act.put, List.setIfInBounds_toArray, List.set_cons_zero, List.set_cons_succ]
    refine wpAnyH_ready (rs := [1]) (by kernel_rfl) (by simp) ?_
    refine (AllReadyH.cons (o := ({ dst := some 51, op := .call { callee := Callee.value (Operand.func 14), args := #[.tmp 50], argTypes := #[28] }, type := 36, pos := "law.go:153", after := #[{ on := 0, ground := .data }], guard := none } : Oper)) rfl (fun K hK => ?_) AllReadyH.nil)
    try (generalize World.drew wr = ud at *)
    have hrt := treeRoot_any X t ud px ht hm HW.out.g hkc
    go_simp
    refine hrt.mono ?_
    rintro d5 w5 ⟨rfl, hb5⟩
    have hb := hb.trans (hb5.mono hb.size)
    have ht := (hb5.block X (blk_lt ht)).trans ht
    have hm := hm.below hb5
    have hro := hro.below hb5
    have hkc := hkc.below hb5 hkc.1
    clear hb5 hrt
    go_wp2_with fail
    refine hK.out _ _ hb (fun hHeld => ?_)
    clear hK K
    try simp only [Act.put, List.setIfInBounds_toArray, List.set_cons_zero, List.set_cons_succ]
    refine wpAnyH_ready (rs := [5]) (by kernel_rfl) (by simp) ?_
    refine (AllReadyH.cons (o := ({ dst := some 55, op := .call { callee := Callee.value (Operand.func 15), args := #[.tmp 53, .tmp 54], argTypes := #[28, 24] }, type := 31, pos := "law.go:153", after := #[{ on := 3, ground := .data }, { on := 4, ground := .data }, { on := 1, ground := .chain }], guard := none } : Oper)) rfl (fun K hK => ?_) AllReadyH.nil)
    go_simp
    refine (lawProve_any X _ px fr to e t ht hm HW.out.g HG.out.2.1 HG.out.2.2 HPL.out).mono ?_
    rintro d6 w6 ⟨v6, rfl, ho6, hb6⟩
    obtain ⟨a6, n6, c6, rfl⟩ := ho6.slc
    have hb := hb.trans (hb6.mono hb.size)
    have hro := hro.below hb6
    have hkc := hkc.below hb6 hkc.1
    have k6 := ho6.bs
    clear hb6 ho6
    go_wp2_with fail
    refine hK.out _ _ hb (fun hHeld => ?_)
    clear hK K
    try simp only [Act.put, List.setIfInBounds_toArray, List.set_cons_zero, List.set_cons_succ]
    refine wpAnyH_ready (rs := [6]) (by kernel_rfl) (by simp) ?_
    refine (AllReadyH.cons (o := ({ dst := some 56, op := .call { callee := Callee.value (Operand.func 22), args := #[.tmp 51, .tmp 52, .tmp 55], argTypes := #[36, 24, 31] }, type := 49, pos := "law.go:153", after := #[{ on := 1, ground := .data }, { on := 2, ground := .data }, { on := 5, ground := .data }, { on := 5, ground := .chain }], guard := none } : Oper)) rfl (fun K hK => ?_) AllReadyH.nil)
    have hcl := lawVerify_any _ t.dg fr to e _ _ HW.out.g.dlen k6 HG.out.2.1 HG.out.2.2 (prove_rng fr to e t HW.out.g) hkc HEB.out
    rw [HVC.out] at hcl
    go_simp
    refine hcl.mono ?_
    rintro d7 w7 ⟨v7, rfl, hen7, hb7⟩
    obtain ⟨a7, c7, rfl⟩ := hen7.slc
    have hb := hb.trans (hb7.mono hb.size)
    have hro := hro.below hb7
    have hen := hen7.ens
    clear hb7 hcl k6 hkc ht hm hen7
    go_wp2_with fail
    refine hK.out _ _ hb (fun hHeld => ?_)
    clear hK K
    try simp only [Act.put, List.setIfInBounds_toArray, List.set_cons_zero, List.set_cons_succ]
    refine wpAnyH_take (i := 7) (oi := ({ dst := some 49, op := .move (.tmp 56), type := 49, pos := "law.go:153", after := #[{ on := 6, ground := .data }], guard := none } : Oper)) (v := ?_) rfl (by kernel_rfl) (by kernel_rfl) (by kernel_rfl) (fun _ _ _ h => h) (Or.inl ⟨by rfl, ?_⟩) (by assumption) ?_
    rotate_left 1
    ·(intro u hSw; go_simp; try with_reducible rfl)
    try simp only [Act.put, List.setIfInBounds_toArray, List.set_cons_zero, List.set_cons_succ]
    refine wpAnyH_take (i := 8) (oi := ({ dst := some 57, op := .extract (.tmp 49) 0, type := 26, pos := "law.go:153", after := #[{ on := 7, ground := .data }], guard := none } : Oper)) (v := ?_) rfl (by kernel_rfl) (by kernel_rfl) (by kernel_rfl) (fun _ _ _ h => h) (Or.inl ⟨by rfl, ?_⟩) (by assumption) ?_
    rotate_left 1
    ·(intro u hSw; go_simp; try with_reducible rfl)
    try simp only [Act.put, List.setIfInBounds_toArray, List.set_cons_zero, List.set_cons_succ]
    refine wpAnyH_take (i := 9) (oi := ({ dst := some 58, op := .extract (.tmp 49) 1, type := 48, pos := "law.go:153", after := #[{ on := 7, ground := .data }, { on := 10, ground := .gcOnly Departure.lateStores }], guard := none } : Oper)) (v := ?_) rfl (by kernel_rfl) (by kernel_rfl) (by kernel_rfl) (fun _ _ _ h => h) (Or.inl ⟨by rfl, ?_⟩) (by assumption) ?_
    rotate_left 1
    ·(intro u hSw; go_simp; try with_reducible rfl)
    try simp only [Act.put, List.setIfInBounds_toArray, List.set_cons_zero, List.set_cons_succ]
    refine wpAnyH_take (i := 10) (oi := ({ dst := some 8, op := .assign (.tmp 57), type := 26, pos := "law.go:153", after := #[{ on := 8, ground := .data }, { on := 6, ground := .chain }, { on := 0, ground := .phase }, { on := 1, ground := .phase }, { on := 2, ground := .phase }, { on := 3, ground := .phase }, { on := 4, ground := .phase }, { on := 5, ground := .phase }, { on := 6, ground := .phase }, { on := 7, ground := .phase }, { on := 8, ground := .phase }, { on := 9, ground := .textOnly Departure.lateStores }], guard := none } : Oper)) (v := ?_) rfl (by kernel_rfl) (by kernel_rfl) (by kernel_rfl) (fun _ _ _ h => h) (Or.inl ⟨by rfl, ?_⟩) (by assumption) ?_
    rotate_left 1
    ·(intro u hSw; go_simp; try with_reducible rfl)
    try simp only [Act.put, List.setIfInBounds_toArray, List.set_cons_zero, List.set_cons_succ]
    refine wpAnyH_take (i := 11) (oi := ({ dst := some 9, op := .assign (.tmp 58), type := 48, pos := "law.go:153", after := #[{ on := 9, ground := .data }, { on := 10, ground := .chain }, { on := 0, ground := .phase }, { on := 1, ground := .phase }, { on := 2, ground := .phase }, { on := 3, ground := .phase }, { on := 4, ground := .phase }, { on := 5, ground := .phase }, { on := 6, ground := .phase }, { on := 7, ground := .phase }, { on := 8, ground := .phase }, { on := 9, ground := .phase }, { on := 10, ground := .phase }], guard := none } : Oper)) (v := ?_) rfl (by kernel_rfl) (by kernel_rfl) (by kernel_rfl) (fun _ _ _ h => h) (Or.inl ⟨by rfl, ?_⟩) (by assumption) ?_
    rotate_left 1
    ·(intro u hSw; go_simp; try with_reducible rfl)
    try simp only [Act.put, List.setIfInBounds_toArray, List.set_cons_zero, List.set_cons_succ]
    refine wpAnyH_done (by kernel_rfl) ?_ _
    have HRO := Lib.hid hro
    have HEN := Lib.hid hen
    have hb := hb.drew
    have HLF := Lib.hid (show (t.ino.filter (fun x => hasQ fr to e x.1)).length ≤ 1048576 from Nat.le_trans (List.length_filter_le _ _) HIL.out)
    have HBK := Lib.hid (back_any w7.drew _ _ (show EnS w7.drew _ (t.ino.filter (fun x => hasQ fr to e x.1)) from hen) HLF.out)
    clear hro hen hHeld
    go_wp2_with fail
    refine wp_region_held_drew (S := fun u => Below w0.heap.size w0 u) (by kernel_rfl) (hb) (fun hHeld => ?_)
    refine wpAnyH_take (i := 0) (oi := ({ dst := some 59, op := .move (.tmp 9), type := 48, pos := "law.go:154", after := #[], guard := none } : Oper)) (v := ?_) rfl (by kernel_rfl) (by kernel_rfl) (by kernel_rfl) (fun _ _ _ h => h) (Or.inl ⟨by rfl, ?_⟩) (by assumption) ?_
    rotate_left 1
    ·(intro u hSw; go_simp; try with_reducible rfl)
    try simp only [Act.put, List.setIfInBounds_toArray, List.set_cons_zero, List.set_cons_succ]
    refine wpAnyH_take (i := 1) (oi := ({ dst := some 60, op := .binOp BinOp.eql 48 (.tmp 59) (.const (Value.int IntKind.i64 0)) 48, type := 4, pos := "law.go:154", after := #[{ on := 0, ground := .data }], guard := none } : Oper)) (v := ?_) rfl (by kernel_rfl) (by kernel_rfl) (by kernel_rfl) (fun _ _ _ h => h) (Or.inl ⟨by rfl, ?_⟩) (by assumption) ?_
    rotate_left 1
    ·(intro u hSw; go_simp; try with_reducible rfl)
    try simp only [Act.put, List.setIfInBounds_toArray, List.set_cons_zero, List.set_cons_succ]
    refine wpAnyH_take (i := 2) (oi := ({ dst := some 61, op := .move (.tmp 60), type := 4, pos := "law.go:154", after := #[{ on := 1, ground := .data }], guard := none } : Oper)) (v := ?_) rfl (by kernel_rfl) (by kernel_rfl) (by kernel_rfl) (fun _ _ _ h => h) (Or.inl ⟨by rfl, ?_⟩) (by assumption) ?_
    rotate_left 1
    ·(intro u hSw; go_simp; try with_reducible rfl)
    try simp only [Act.put, List.setIfInBounds_toArray, List.set_cons_zero, List.set_cons_succ]
    refine wpAnyH_take (i := 3) (oi := ({ dst := some 62, op := .move (.tmp 8), type := 26, pos := "law.go:154", after := #[{ on := 2, ground := .guard }], guard := some (2, true) } : Oper)) (v := ?_) rfl (by kernel_rfl) (by kernel_rfl) (by kernel_rfl) (fun _ _ _ h => h) (Or.inl ⟨by rfl, ?_⟩) (by assumption) ?_
    rotate_left 1
    ·(intro u hSw; go_simp; try with_reducible rfl)
    try simp only [Act.put, List.setIfInBounds_toArray, List.set_cons_zero, List.set_cons_succ]
    refine wpAnyH_take (i := 5) (oi := ({ dst := some 64, op := .move (.tmp 6), type := 22, pos := "law.go:154", after := #[{ on := 2, ground := .guard }], guard := some (2, true) } : Oper)) (v := ?_) rfl (by kernel_rfl) (by kernel_rfl) (by kernel_rfl) (fun _ _ _ h => h) (Or.inl ⟨by rfl, ?_⟩) (by assumption) ?_
    rotate_left 1
    ·(intro u hSw; go_simp; try with_reducible rfl)
    try simp only [Act.put, List.setIfInBounds_toArray, List.set_cons_zero, List.set_cons_succ]
    refine wpAnyH_take (i := 6) (oi := ({ dst := some 65, op := .load 24 (.tmp 3), type := 24, pos := "law.go:154", after := #[{ on := 2, ground := .guard }], guard := some (2, true) } : Oper)) (v := ?_) rfl (by kernel_rfl) (by kernel_rfl) (by kernel_rfl) (fun _ _ _ h => h) (Or.inl ⟨by rfl, ?_⟩) (by assumption) ?_
    rotate_left 1
    ·(intro u hSw; have y0 := cell_of_row u w.heap.size 0 _ _ _ (HZZ.out _ hSw); have y1 := cell_of_row u w.heap.size 1 _ _ _ (HZZ.out _ hSw); have y2 := cell_of_row u w.heap.size 2 _ _ _ (HZZ.out _ hSw); go_simp; try with_reducible rfl)
    try simp only [Act.put, List.setIfInBounds_toArray, List.set_cons_zero, List.set_cons_succ]
    refine wpAnyH_ready (rs := [4]) (by kernel_rfl) (by simp) ?_
    refine (AllReadyH.cons (o := ({ dst := some 63, op := .call { callee := Callee.value (Operand.func 18), args := #[.tmp 62], argTypes := #[26] }, type := 22, pos := "law.go:154", after := #[{ on := 3, ground := .data }, { on := 2, ground := .chain }, { on := 2, ground := .guard }], guard := some (2, true) } : Oper)) rfl (fun K hK => ?_) AllReadyH.nil)
    go_simp
    refine HBK.out.mono ?_
    rintro d8 w8 ⟨v8, rfl, ho8, hb8⟩
    obtain ⟨a8, c8, rfl⟩ := ho8.slc
    have hb := hb.trans (hb8.mono hb.size)
    have hro := (show RfO w7.drew B (.slice aw t.ino.length cw) t.ino from HRO.out).below hb8
    clear hb8
    go_wp2_with fail
    refine hK.out _ _ hb (fun hHeld => ?_)
    clear hK K
    try simp only [Act.put, List.setIfInBounds_toArray, List.set_cons_zero, List.set_cons_succ]
    refine wpAnyH_ready (rs := [7]) (by kernel_rfl) (by simp) ?_
    refine (AllReadyH.cons (o := ({ dst := some 66, op := .call { callee := Callee.value (Operand.func 24), args := #[.tmp 64, .tmp 65], argTypes := #[22, 24] }, type := 22, pos := "law.go:154", after := #[{ on := 5, ground := .data }, { on := 6, ground := .data }, { on := 4, ground := .chain }, { on := 2, ground := .guard }], guard := some (2, true) } : Oper)) rfl (fun K hK => ?_) AllReadyH.nil)
    have hin := lawIn_any _ _ t.ino fr to e hro.rfs (ino_rng t HW.out.g) HG.out.2.1 HG.out.2.2 HIL.out
    go_simp
    refine hin.mono ?_
    rintro d9 w9 ⟨v9, rfl, ho9, hb9⟩
    obtain ⟨a9, c9, rfl⟩ := ho9.slc
    have hb := hb.trans (hb9.mono hb.size)
    have ho8 := ho8.below hb9
    clear hb9 hin hro
    go_wp2_with fail
    refine hK.out _ _ hb (fun hHeld => ?_)
    clear hK K
    try simp only [Act.put, List.setIfInBounds_toArray, List.set_cons_zero, List.set_cons_succ]
    refine wpAnyH_ready (rs := [8]) (by kernel_rfl) (by simp) ?_
    refine (AllReadyH.cons (o := ({ dst := some 67, op := .call { callee := Callee.value (Operand.func 17), args := #[.tmp 63, .tmp 66], argTypes := #[22, 22] }, type := 4, pos := "law.go:154", after := #[{ on := 4, ground := .data }, { on := 7, ground := .data }, { on := 7, ground := .chain }, { on := 2, ground := .guard }], guard := some (2, true) } : Oper)) rfl (fun K hK => ?_) AllReadyH.nil)
    have hsm := refSame_any _ _ _ _ _ ho8.rfs ho9.rfs (toI_rng (fun x hx => ino_rng t HW.out.g x (List.mem_filter.1 hx).1)) (toI_rng (fun x hx => ino_rng t HW.out.g x (List.mem_filter.1 hx).1)) (by rw [List.length_map]; have := HLF.out; omega)
    rw [decide_eq_true rfl] at hsm
    go_simp
    refine hsm.mono ?_
    rintro d10 w10 ⟨rfl, hb10⟩
    have hb := hb.trans (hb10.mono hb.size)
    clear hb10 hsm ho8 ho9
    go_wp2_with fail
    refine hK.out _ _ hb (fun hHeld => ?_)
    clear hK K
    try simp only [Act.put, List.setIfInBounds_toArray, List.set_cons_zero, List.set_cons_succ]
    refine wpAnyH_take (i := 9) (oi := ({ dst := some 68, op := .pick (.tmp 61) (.tmp 67) (.const (Value.bool false)), type := 4, pos := "law.go:154", after := #[{ on := 2, ground := .data }, { on := 8, ground := .data }], guard := none } : Oper)) (v := ?_) rfl (by kernel_rfl) (by kernel_rfl) (by kernel_rfl) (fun _ _ _ h => h) (Or.inl ⟨by rfl, ?_⟩) (by assumption) ?_
    rotate_left 1
    ·(intro u hSw; go_simp; try with_reducible rfl)
    try simp only [Act.put, List.setIfInBounds_toArray, List.set_cons_zero, List.set_cons_succ]
    refine wpAnyH_take (i := 10) (oi := ({ dst := some 4, op := .assign (.tmp 68), type := 4, pos := "law.go:154", after := #[{ on := 9, ground := .data }, { on := 8, ground := .chain }, { on := 0, ground := .phase }, { on := 1, ground := .phase }, { on := 2, ground := .phase }, { on := 3, ground := .phase }, { on := 4, ground := .phase }, { on := 5, ground := .phase }, { on := 6, ground := .phase }, { on := 7, ground := .phase }, { on := 8, ground := .phase }, { on := 9, ground := .phase }], guard := none } : Oper)) (v := ?_) rfl (by kernel_rfl) (by kernel_rfl) (by kernel_rfl) (fun _ _ _ h => h) (Or.inl ⟨by rfl, ?_⟩) (by assumption) ?_
    rotate_left 1
    ·(intro u hSw; go_simp; try with_reducible rfl)
    try simp only [Act.put, List.setIfInBounds_toArray, List.set_cons_zero, List.set_cons_succ]
    refine wpAnyH_done (by kernel_rfl) ?_ _
    have HBE := Lib.hid (H0.out.1.trans (hb.mono H0.out.1.size))
    clear hb
    go_wp2_with fail
    go_ret
    exact ⟨rfl, HBE.out⟩
end Go.Proofs.YtmejjjkbbkgioaaDoor
namespace Go.Proofs.YtmejjjkbbkgioaaDoor
open Go.ChangeShapes Go.WideShapes Go.ChangeAt Go.RowKit Go.Deep
namespace lawComplete
theorem laidIt {W : World} (h : laidMetH Tryd.prog Rows.merkleCompleteUptoRow.laid W) : KC W := by
  have h1 : Lib.TabIs Tryd.prog W "touchmark/sha.constants" .u32 Kt := Lib.tabIs_of_head (rest := []) gTab gTabType Tryd.underlying160 Tryd.underlying97 cells49 cells65 h
  have hc : ∀ t, t < 64 → W.cell? ⟨1, t, none⟩ = some (.int .u32 (Kt[t]?.getD 0)) := fun t ht => by
    have := h1.cell gTab t (by simpa [Kt] using ht)
    rw [this]
    simp [List.getD]
  exact ⟨World.block_lt_of_cell? _ _ (hc 0 (by omega)), hc⟩
set_option maxRecDepth 100000 in
theorem contract (H : Type) (enc : TypeId × Value → H) (W : World) (base : Nat) (args : Array Value) (ds gs : List (DataW H)) (before : List MemPlace)
  (hval : ∀ (j : Nat) t v, Tryd.f6.params[j]? = some t → args[j]? = some v → Value.okWide Tryd.prog W .any base t v)
  (hW : DataW.Whole enc Tryd.prog Tryd.f6.params.toList Rows.merkleCompleteSpec.vars false W args.toList ds gs before) (hL : laidMetH Tryd.prog Rows.merkleCompleteUptoRow.laid W) (hk : Rows.uptoSmall H (ds ++ gs) = true) :
  Calls Tryd.prog 6 args W fun e W' => ∃ v, e = .returned v ∧ Rows.merkleCompleteSpec.post enc Tryd.prog Tryd.f6 false true false false W args v W' := by
 have hW' := hW
 obtain ⟨p, q, hA0, hV, rfl, hfz, hnd⟩ := hW
 have hA : DataW.TrodAll enc Tryd.prog W 0 (fun _ => true) true Tryd.f6.params.toList args.toList ds p := hA0
 rw [Tryd.params6] at hA hval
 obtain ⟨v0, vs0, d0, ds0, p0, q0, hargs, rfl, rfl, h0, r0⟩ := trodAll_cons hA
 obtain ⟨v1, vs1, d1, ds1, p1, q1, rfl, rfl, rfl, h1, r1⟩ := trodAll_cons r0
 obtain ⟨rfl, rfl, rfl⟩ := trodAll_nil r1
 obtain rfl : args = #[v0, v1] := by cases args; simp_all
 obtain ⟨rfl, rfl⟩ := trodVars_none hV
 have hbulk : Rows.uptoBulkAll ([d0, d1] ++ []) ≤ 1048576 := of_decide_eq_true hk
 simp only [List.append_nil, Rows.uptoBulkAll] at hbulk
 obtain ⟨a0, b0, g0, -⟩ := ents_of_trod (hval 0 22 v0 rfl rfl) h0 (by omega)
 obtain ⟨f1, t1, e1, rfl, g1, k1, -, -⟩ := rng_of_trod (hval 1 24 v1 rfl rfl) h1 (by omega)
 refine (complete_walk W v0 a0 f1 t1 e1 b0 g0 g1 k1 (laidIt hL)).mono fun e W' ⟨he, hb⟩ => ⟨_, he, ?_⟩
 exact law_post (T := 4) laidOut (by rw [Tryd.params6]; decide +kernel) rfl rfl Tryd.underlying4 (fun gs h => by subst h; rfl) hW' hb
theorem laid_met (os : Os) : laidMet Tryd.prog Rows.merkleCompleteUptoRow.laid ((laidWorld os).forCall (fun _ _ => 0) ⟨#[], #[.slice none 0 0, .agg #[.string ⟨#[]⟩, .string ⟨#[]⟩, .bool false]], []⟩).memory :=
 laidMet_of_run' 8 (by kernel_rfl) (by kernel_rfl)
theorem reads (os : Os) {H : Type} (enc : TypeId × Value → H) : ∃ places, DataW.whole enc Tryd.prog ((laidWorld os).forCall (fun _ _ => 0) ⟨#[], #[.slice none 0 0, .agg #[.string ⟨#[]⟩, .string ⟨#[]⟩, .bool false]], []⟩).memory Tryd.f6.params.toList Rows.merkleCompleteSpec.vars false #[Value.slice none 0 0, Value.agg #[.string ⟨#[]⟩, .string ⟨#[]⟩, .bool false]].toList 8 = some ([.nil, .agg [.lit (.string []), .lit (.string []), .lit (.bool false)]], [], places) :=
 ⟨[], by kernel_rfl⟩
set_option maxRecDepth 100000 in
theorem liftedUpto (os : Os) (started : os.Started) (H : Type) (enc : TypeId × Value → H) (F : Stop.Interp) :
  ReturnsInHanded {} Tryd.checked os 6 .any ((Rows.OpenSpec.upto Rows.merkleCompleteSpec).preRow enc Tryd.prog Tryd.f6 Rows.merkleCompleteUptoRow.domain false Rows.merkleCompleteUptoRow.laid) (((Rows.OpenSpec.upto Rows.merkleCompleteSpec).at F).post enc Tryd.prog Tryd.f6 false true false false) := by
 obtain ⟨places, hx⟩ := reads os enc
 refine returnsInHanded_of_row (C := Tryd.checked) (s := Rows.OpenSpec.upto Rows.merkleCompleteSpec) own started (by kernel_rfl) Tryd.func6
  (witness_row_at (enc := enc) (C := Tryd.checked) false (laidWorld os) #[.slice none 0 0, .agg #[.string ⟨#[]⟩, .string ⟨#[]⟩, .bool false]] rfl (by kernel_rfl) (by kernel_rfl) (by kernel_rfl)
   (OpenSpec.preRow_of_cond 8 hx (by kernel_rfl) (fun k hk => by cases hk; kernel_rfl) (by kernel_rfl) (laid_met os))) ?_
 intro W base args ds gs before hval hW _ hcond _ hL _ _
 exact contract H enc W base args ds gs before hval hW hL (hcond _ rfl)
theorem saidUpto : Rows.MerkleCompleteUptoSaid :=
 OpenClaim.holds_of_cond 6 Tryd.f6 rfl rfl rfl rfl rfl rfl rfl ⟨rfl, rfl, rfl, rfl, rfl⟩ rfl rfl rfl rfl rfl (by kernel_rfl) Tryd.func6 (by kernel_rfl)
  (of_decide_eq_true (by kernel_rfl)) (by unfold Func.isWrapper; first | (rw [if_pos (by decide +kernel)]; kernel_rfl) | (rw [if_neg (by decide +kernel)]; exact ⟨rfl, rfl⟩))
  (fun os started H enc _ F => by rw [OpenClaim.pre_eq_preRow]; exact liftedUpto os started H enc F)
theorem plain (f : FuncId) (fn : Func) (hf : Tryd.pinned.checked.prog.funcNamed "touchmark/touchmarklaw07.MerkleComplete" = some f) (hfn : Tryd.pinned.checked.prog.funcs[f]? = some fn) :
  false = Tryd.pinned.checked.prog.looks [] ∧ ∀ (j : Nat) t, fn.params[j]? = some t → Tryd.pinned.checked.prog.wantsStandIn t = false := by
 obtain rfl : f = 6 := Option.some.inj ((show Tryd.prog.funcNamed "touchmark/touchmarklaw07.MerkleComplete" = some 6 by kernel_rfl).symm.trans hf) |>.symm
 obtain rfl : fn = Tryd.f6 := (Option.some.inj (Tryd.func6.symm.trans hfn)).symm
 refine ⟨by kernel_rfl, fun j t ht => ?_⟩
 have hm := Array.mem_of_getElem? ht
 rw [Tryd.params6] at hm
 have w0 : Tryd.prog.wantsStandIn 22 = false := by kernel_rfl
 have w1 : Tryd.prog.wantsStandIn 24 = false := by kernel_rfl
 simp at hm
 rcases hm with rfl | rfl
 ·exact w0
 ·exact w1
/-- the card of the second form -/
theorem cardUpto : Rows.MerkleCompleteUptoCardSaid :=
 Claim7.holds_tied_plain_at .later [] _ _ _ _ saidUpto (fun _ h => by cases h) (by kernel_rfl) (fun _ h => by cases h) merkleCompleteUpto_row_tie rfl ⟨rfl, rfl⟩ (by kernel_rfl) rfl plain (by kernel_rfl)
end lawComplete
end Go.Proofs.YtmejjjkbbkgioaaDoor
