/-
 MerkleSound: for any entries, range and bytes (of bulk at most 1048576): what is taken as a proof of a tree's root proves just what the tree has in that range, or two unlike texts with one digest are told. Conditions: the second form's bound; the table sha.constants as the program's text lays it (the card ties it).
-/
import Derived.Test.YtmejjjkbbkgioaaDoorMs23
import Derived.Test.YtmejjjkbbkgioaaDoorMs25
import Derived.Test.YtmejjjkbbkgioaaDoorCards
import Derived.Test.YtmejjjkbbkgioaaDoorTie
namespace Go.Proofs.YtmejjjkbbkgioaaDoor
open Go.RowKit
set_option maxRecDepth 100000 in
theorem exec_eql_32 {ρ : Operand → Value} {o : Oper} {w : World} (x y : Operand) (U : TypeId) (ho : o.op = .binOp .eql 35 x y U) (xs ys : List Int) (hx : ρ x = .agg (ArrU8 xs)) (hy : ρ y = .agg (ArrU8 ys)) (lx : xs.length = 32) (ly : ys.length = 32) (b : Bool) (hb : decide (xs = ys) = b) :
  (execOp ρ o).run Tryd.prog w = .ok (.value (.bool b)) w := by
 obtain ⟨i, hi⟩ := info_u8
 have h := run_eql_bytes w 35 5 32 i Tryd.underlying35 hi Tryd.underlying5 (by kernel_rfl) (by kernel_rfl) xs ys lx ly
 unfold execOp
 rw [ho]
 simp only [hx, hy]
 show ((binOp .eql 35 (.agg (ArrU8 xs)) (.agg (ArrU8 ys))) >>= fun v => pure (Next.value v) : Sem Next).run Tryd.prog w = _
 simp only [Sem.run_bind, h, Result.andThen_ok, hb, Sem.run_pure]
set_option maxRecDepth 100000 in
set_option maxHeartbeats 8000000 in
theorem sound_walk (w : World) (vl vp : Value) (l : List (List Int × Int)) (fr to : List Int) (e : Bool) (pf : List Int) (hl : RfS w vl l) (hp : Bs w vp pf) (gp : Rng pf) (hpl : pf.length ≤ 1048576) (gl : ∀ x ∈ l, EOk x) (g1 : Rng fr) (g2 : Rng to) (hK : KC w) :
  Calls Tryd.prog 7 #[vl, .agg #[.string (str fr), .string (str to), .bool e], vp] w fun d w' => d = .returned (.bool true) ∧ Below w.heap.size w w' := by
 have hlb := hl
 obtain ⟨al, cl, rfl, -⟩ := hlb
 have hpb := hp
 obtain ⟨ap, cp, rfl, -, -⟩ := hpb
 have HPF := Lib.hid (And.intro hp (And.intro gp hpl))
 clear hp gp hpl
 have hw0 : Below w.heap.size w (w.alloc (.cells #[.string (str fr), .string (str to), .bool e] 24)) := (Below.refl _ _).alloc (Nat.le_refl _) _
 have hx0 : (w.alloc (.cells #[.string (str fr), .string (str to), .bool e] 24)).heap[w.heap.size]? = some (.cells #[.string (str fr), .string (str to), .bool e] 24 (0, 0)) := heap_alloc_new _ _
 generalize hWW : w.alloc (.cells #[.string (str fr), .string (str to), .bool e] 24) = w0 at *
 have HFX := Lib.hid (fixed_any w0 (hK.below hw0 hK.1))
 have H0 := Lib.hid (And.intro hw0 (And.intro hx0 (And.intro hl hK)))
 have HG := Lib.hid (And.intro gl (And.intro g1 g2))
 clear hw0 hx0 hl hK gl g1 g2
 go_enter Tryd.func7, Tryd.ntmps7
 go_wp2_with fail
 clear hWW
 refine HFX.out.mono ?_
 rintro d w1 ⟨rfl, hb1⟩
 have hK0 : KC w0 := H0.out.2.2.2.below H0.out.1 H0.out.2.2.2.1
 have HK0 := Lib.hid hK0
 have HK3 := Lib.hid (And.intro hb1 (hK0.below hb1 hK0.1))
 have HBN := Lib.hid (build_nil w1)
 clear hb1 hK0 HFX
 go_wp2_with fail
 refine HBN.out.mono ?_
 rintro d w4 ⟨X, rfl, hx4, hX, hb4⟩
 have hXw : w0.heap.size ≤ X := Nat.le_trans HK3.out.1.size hX
 have hKX : 1 < X := Nat.lt_of_lt_of_le HK0.out.1 hXw
 have hXB : X < w4.heap.size := blk_lt hx4
 have h4 : Below w0.heap.size w0 w4 := HK3.out.1.trans (hb4.mono HK3.out.1.size)
 have hb5 : Below w4.heap.size w4 (w4.alloc (.cells #[] 45)) := (Below.refl _ _).alloc (Nat.le_refl _) _
 have HT0 := Lib.hid (show TV2 w0 X w4.heap.size l 0 (.slice (some ⟨w4.heap.size, 0, none⟩) 0 0) (w4.alloc (.cells #[] 45)) from ⟨.pointer none, .nil, rfl, (hb5.block _ hXB).trans hx4, rfl, wh2_nil, ⟨rfl, .inr ⟨w4.heap.size, 0, #[], rfl, Nat.le_refl _, heap_alloc_new _ _, Nat.le_refl _, Nat.zero_le _, rfl, rfl⟩⟩, ((HK3.out.2.below hb4 HK3.out.2.1).below hb5 (Nat.lt_of_lt_of_le HK0.out.1 h4.size)), hb5.size, h4.trans (hb5.mono h4.size)⟩)
 have hBw : w0.heap.size ≤ w4.heap.size := h4.size
 clear hx4 hX hb4 HBN HK3 h4 hb5
 go_wp2_with fail
 go_loopw [8, 9] (fun wv iv wr => ∃ j : Nat, j ≤ l.length ∧ j ≤ 100 ∧ iv = .int .i64 (j : Int) ∧ TV2 w0 X w4.heap.size l j wv wr) (fun _ iv _ => l.length - (intOf iv).toNat)
 case atStart => exact ⟨0, Nat.zero_le _, Nat.zero_le _, rfl, HT0.out⟩
 case round =>
  obtain ⟨j, hj, hj100, rfl, htu⟩ := hrel
  generalize hBB : w4.heap.size = B at *
  clear hBB HT0
  obtain ⟨px, t, htd, ht, hm, hwh, hro, hkc, hBs, hb⟩ := htu
  obtain ⟨aw, cw, rfl⟩ := hro.slc
  by_cases hjl : j < l.length ∧ j < 100
  ·obtain ⟨hjl, hjc⟩ := hjl
   have hx : l[j]? = some (l[j]'hjl) := List.getElem?_eq_getElem hjl
   generalize l[j]'hjl = x at hx
   have hxo := HG.out.1 x (List.mem_of_getElem? hx)
   obtain ⟨a', c', he, hall⟩ := H0.out.2.2.1
   injection he with e1 e0 e2
   clear e0
   subst e1 e2
   obtain ⟨g, o, hag, hgl, hc0, hc1⟩ := hall j x hx
   subst hag
   have hgl0 : g < w0.heap.size := Nat.lt_of_lt_of_le hgl H0.out.1.size
   have HC0 := Lib.hid (fun u (hu : Below w0.heap.size w0 u) => (show u.cell? ⟨g, o + j * 2, none⟩ = some (.string (str x.1)) from (World.cell?_of_block (a := ⟨g, o + j * 2, none⟩) (hu.block g hgl0)).trans ((World.cell?_of_block (a := ⟨g, o + j * 2, none⟩) (H0.out.1.block g hgl)).trans hc0)))
   have HC1 := Lib.hid (fun u (hu : Below w0.heap.size w0 u) => (show u.cell? ⟨g, o + j * 2 + 1, none⟩ = some (.int .i64 x.2) from (World.cell?_of_block (a := ⟨g, o + j * 2 + 1, none⟩) (hu.block g hgl0)).trans ((World.cell?_of_block (a := ⟨g, o + j * 2 + 1, none⟩) (H0.out.1.block g hgl)).trans hc1)))
   have hj0 : (0 : Int) ≤ (j : Int) := by omega
   have hj1 : (j : Int) < (l.length : Int) := by omega
   have hj2 : (j : Int) < 100 := by omega
   have HXX := Lib.hid (And.intro hx (And.intro hxo (And.intro hwh htd)))
   have HNX := Lib.hid (And.intro hjl hjc)
   have hb := hb.drew
   have hkc : KC wr.drew := ⟨hkc.1, hkc.2⟩
   have ht : TIs wr.drew X px := ht
   have hm : MIs wr.drew (fun q => q ≠ X) px t := hm.below ((Below.refl _ _).drew)
   have hro : RfO wr.drew B (.slice aw t.ino.length cw) t.ino := hro
   have hBs : B ≤ wr.drew.heap.size := hBs
   clear hx hxo hwh htd hgl hc0 hc1 hall hjl hjc
   go_wp2_with fail
   refine wp_region_held_drew (S := fun u => Below w0.heap.size w0 u) (by kernel_rfl) (hb) (fun hHeld => ?_)
   refine wpAnyH_take (i := 0) (oi := ({ dst := some 29, op := .move (.tmp 7), type := 28, pos := "law.go:165", after := #[], guard := none } : Oper)) (v := ?_) rfl (by kernel_rfl) (by kernel_rfl) (by kernel_rfl) (fun _ _ _ h => h) (Or.inl ⟨by rfl, ?_⟩) (by assumption) ?_
   rotate_left 1
   ·(intro u hSw; go_simp; try with_reducible rfl)
   try simp only [Act.put, List.setIfInBounds_toArray, List.set_cons_zero, List.set_cons_succ]
   refine wpAnyH_take (i := 1) (oi := ({ dst := some 30, op := .move (.tmp 0), type := 22, pos := "law.go:165", after := #[], guard := none } : Oper)) (v := ?_) rfl (by kernel_rfl) (by kernel_rfl) (by kernel_rfl) (fun _ _ _ h => h) (Or.inl ⟨by rfl, ?_⟩) (by assumption) ?_
   rotate_left 1
   ·(intro u hSw; go_simp; try with_reducible rfl)
   try simp only [Act.put, List.setIfInBounds_toArray, List.set_cons_zero, List.set_cons_succ]
   refine wpAnyH_take (i := 2) (oi := ({ dst := some 31, op := .move (.tmp 9), type := 3, pos := "law.go:165", after := #[], guard := none } : Oper)) (v := ?_) rfl (by kernel_rfl) (by kernel_rfl) (by kernel_rfl) (fun _ _ _ h => h) (Or.inl ⟨by rfl, ?_⟩) (by assumption) ?_
   rotate_left 1
   ·(intro u hSw; go_simp; try with_reducible rfl)
   try simp only [Act.put, List.setIfInBounds_toArray, List.set_cons_zero, List.set_cons_succ]
   refine wpAnyH_take (i := 3) (oi := ({ dst := some 32, op := .indexAddr 22 (.tmp 30) (.tmp 31), type := 0, pos := "law.go:165", after := #[{ on := 1, ground := .data }, { on := 2, ground := .data }], guard := none } : Oper)) (v := ?_) rfl (by kernel_rfl) (by kernel_rfl) (by kernel_rfl) (fun _ _ _ h => h) (Or.inl ⟨by rfl, ?_⟩) (by assumption) ?_
   rotate_left 1
   ·(intro u hSw; go_simp; try with_reducible rfl)
   try simp only [Act.put, List.setIfInBounds_toArray, List.set_cons_zero, List.set_cons_succ]
   refine wpAnyH_take (i := 4) (oi := ({ dst := some 33, op := .fieldAddr 45 (.tmp 32) 0, type := 0, pos := "law.go:165", after := #[{ on := 3, ground := .data }], guard := none } : Oper)) (v := ?_) rfl (by kernel_rfl) (by kernel_rfl) (by kernel_rfl) (fun _ _ _ h => h) (Or.inl ⟨by rfl, ?_⟩) (by assumption) ?_
   rotate_left 1
   ·(intro u hSw; go_simp; try with_reducible rfl)
   try simp only [Act.put, List.setIfInBounds_toArray, List.set_cons_zero, List.set_cons_succ]
   refine wpAnyH_take (i := 5) (oi := ({ dst := some 34, op := .load 9 (.tmp 33), type := 9, pos := "law.go:165", after := #[{ on := 4, ground := .data }], guard := none } : Oper)) (v := ?_) rfl (by kernel_rfl) (by kernel_rfl) (by kernel_rfl) (fun _ _ _ h => h) (Or.inl ⟨by rfl, ?_⟩) (by assumption) ?_
   rotate_left 1
   ·(intro u hSw; have y0 := HC0.out _ hSw; have y1 := HC1.out _ hSw; go_simp; try with_reducible rfl)
   try simp only [Act.put, List.setIfInBounds_toArray, List.set_cons_zero, List.set_cons_succ]
   refine wpAnyH_take (i := 7) (oi := ({ dst := some 36, op := .move (.tmp 0), type := 22, pos := "law.go:165", after := #[], guard := none } : Oper)) (v := ?_) rfl (by kernel_rfl) (by kernel_rfl) (by kernel_rfl) (fun _ _ _ h => h) (Or.inl ⟨by rfl, ?_⟩) (by assumption) ?_
   rotate_left 1
   ·(intro u hSw; go_simp; try with_reducible rfl)
   try simp only [Act.put, List.setIfInBounds_toArray, List.set_cons_zero, List.set_cons_succ]
   refine wpAnyH_take (i := 8) (oi := ({ dst := some 37, op := .move (.tmp 9), type := 3, pos := "law.go:165", after := #[], guard := none } : Oper)) (v := ?_) rfl (by kernel_rfl) (by kernel_rfl) (by kernel_rfl) (fun _ _ _ h => h) (Or.inl ⟨by rfl, ?_⟩) (by assumption) ?_
   rotate_left 1
   ·(intro u hSw; go_simp; try with_reducible rfl)
   try simp only [Act.put, List.setIfInBounds_toArray, List.set_cons_zero, List.set_cons_succ]
   refine wpAnyH_take (i := 9) (oi := ({ dst := some 38, op := .indexAddr 22 (.tmp 36) (.tmp 37), type := 0, pos := "law.go:165", after := #[{ on := 7, ground := .data }, { on := 8, ground := .data }], guard := none } : Oper)) (v := ?_) rfl (by kernel_rfl) (by kernel_rfl) (by kernel_rfl) (fun _ _ _ h => h) (Or.inl ⟨by rfl, ?_⟩) (by assumption) ?_
   rotate_left 1
   ·(intro u hSw; go_simp; try with_reducible rfl)
   try simp only [Act.put, List.setIfInBounds_toArray, List.set_cons_zero, List.set_cons_succ]
   refine wpAnyH_take (i := 10) (oi := ({ dst := some 39, op := .fieldAddr 45 (.tmp 38) 1, type := 0, pos := "law.go:165", after := #[{ on := 9, ground := .data }], guard := none } : Oper)) (v := ?_) rfl (by kernel_rfl) (by kernel_rfl) (by kernel_rfl) (fun _ _ _ h => h) (Or.inl ⟨by rfl, ?_⟩) (by assumption) ?_
   rotate_left 1
   ·(intro u hSw; go_simp; try with_reducible rfl)
   try simp only [Act.put, List.setIfInBounds_toArray, List.set_cons_zero, List.set_cons_succ]
   refine wpAnyH_take (i := 11) (oi := ({ dst := some 40, op := .load 2 (.tmp 39), type := 2, pos := "law.go:165", after := #[{ on := 10, ground := .data }], guard := none } : Oper)) (v := ?_) rfl (by kernel_rfl) (by kernel_rfl) (by kernel_rfl) (fun _ _ _ h => h) (Or.inl ⟨by rfl, ?_⟩) (by assumption) ?_
   rotate_left 1
   ·(intro u hSw; have y0 := HC0.out _ hSw; have y1 := HC1.out _ hSw; go_simp; try with_reducible rfl)
   try simp only [Act.put, List.setIfInBounds_toArray, List.set_cons_zero, List.set_cons_succ]
   refine wpAnyH_ready (rs := [6]) (by kernel_rfl) (by simp) ?_
   refine (AllReadyH.cons (o := ({ dst := some 35, op := .convert 9 31 (.tmp 34), type := 31, pos := "law.go:165", after := #[{ on := 5, ground := .data }], guard := none } : Oper)) rfl (fun K hK => ?_) AllReadyH.nil)
   try (generalize World.drew wr = ud at *)
   obtain ⟨W1, a1, c1, q1, b1, k1⟩ := conv_str ud x.1 HXX.out.2.1.1
   refine step_of_runP (by rfl) (exec_convP 9 31 (Operand.tmp 34) (by rfl) _ (by rfl) _ q1) ?_
   have hb := hb.trans (b1.mono hb.size)
   have ht := (b1.block X (blk_lt ht)).trans ht
   have hm := hm.below b1
   have hro := hro.below b1
   have hkc := hkc.below b1 hkc.1
   have hBs : B ≤ W1.heap.size := Nat.le_trans hBs b1.size
   clear q1 b1
   refine hK.out _ _ hb (fun hHeld => ?_)
   clear hK K
   try simp only [Act.put, List.setIfInBounds_toArray, List.set_cons_zero, List.set_cons_succ]
   refine wpAnyH_ready (rs := [12]) (by kernel_rfl) (by simp) ?_
   refine (AllReadyH.cons (o := ({ dst := some 41, op := .call { callee := Callee.value (Operand.func 20), args := #[.tmp 29, .tmp 35, .tmp 40], argTypes := #[28, 31, 2] }, type := 4, pos := "law.go:165", after := #[{ on := 0, ground := .data }, { on := 6, ground := .data }, { on := 11, ground := .data }], guard := none } : Oper)) rfl (fun K hK => ?_) AllReadyH.nil)
   go_simp
   have hts := treeSet_both X _ x _ W1 px (fun _ => id) ht hm HXX.out.2.2.1.g HXX.out.2.2.1.f hkc k1 HXX.out.2.1 hKX (fun h => h rfl)
   generalize hqb : decide (x.1.length ≤ 65535 ∧ 0 ≤ x.2) = qb at hts
   have HQB := Lib.hid hqb
   clear hqb
   refine hts.mono ?_
   rintro e w5 ⟨rfl, p5, ht5, hm5, hc5⟩
   have hb := hb.trans (hc5.below (fun q e => by omega) hb.size)
   have hkc := hkc.chg hc5 (by omega)
   have hro := hro.cgX hc5 hXB
   have hBs : B ≤ w5.heap.size := Nat.le_trans hBs hc5.size
   clear ht hm hc5 k1 hts
   go_wp2_with fail
   refine hK.out _ _ hb (fun hHeld => ?_)
   clear hK K
   try simp only [Act.put, List.setIfInBounds_toArray, List.set_cons_zero, List.set_cons_succ]
   refine wpAnyH_done (by kernel_rfl) ?_ _
   have hr := putsE_step (HXX.out.1)
   rw [← HXX.out.2.2.2] at hr
   have HR := Lib.hid hr
   have hwx := putE_wh2 HXX.out.2.2.1 HXX.out.2.1
   clear hr hHeld
   cases qb with
   | true =>
    have hc := of_decide_eq_true HQB.out
    obtain ⟨n, hn⟩ : ∃ n : Nat, x.2 = (n : Int) := ⟨x.2.toNat, by omega⟩
    have hse : (putE t x).ino = rSet x.1 n t.ino false := by
     rw [hwx.2, rSet_eq _ _ _ HXX.out.2.2.1.a]
     unfold setE
     rw [if_pos hc, hn, Int.toNat_natCast]
    have HRS := Lib.hid (refSet_any w5.drew (.slice aw t.ino.length cw) t.ino x.1 n (show RfO w5.drew B (.slice aw t.ino.length cw) t.ino from hro).rfs (ino_rng t HXX.out.2.2.1.g) HXX.out.2.1.1 (by have h1 := ino_len t; have h2 := HXX.out.2.2.1.s; omega))
    rw [← hse] at HRS
    have HSS := Lib.hid (And.intro ht5 (And.intro hm5 (And.intro hwx.1 (And.intro hkc hb))))
    have hb := hb.drew
    have HCN := Lib.hid hn
    clear ht5 hm5 hwx hkc hro hse hc hn
    go_wp2_with fail
    refine wp_region_held_drew (S := fun u => Below w0.heap.size w0 u) (by kernel_rfl) (hb) (fun hHeld => ?_)
    refine wpAnyH_take (i := 0) (oi := ({ dst := some 42, op := .move (.tmp 8), type := 22, pos := "law.go:166", after := #[], guard := none } : Oper)) (v := ?_) rfl (by kernel_rfl) (by kernel_rfl) (by kernel_rfl) (fun _ _ _ h => h) (Or.inl ⟨by rfl, ?_⟩) (by assumption) ?_
    rotate_left 1
    ·(intro u hSw; go_simp; try with_reducible rfl)
    try simp only [Act.put, List.setIfInBounds_toArray, List.set_cons_zero, List.set_cons_succ]
    refine wpAnyH_take (i := 1) (oi := ({ dst := some 43, op := .move (.tmp 0), type := 22, pos := "law.go:166", after := #[], guard := none } : Oper)) (v := ?_) rfl (by kernel_rfl) (by kernel_rfl) (by kernel_rfl) (fun _ _ _ h => h) (Or.inl ⟨by rfl, ?_⟩) (by assumption) ?_
    rotate_left 1
    ·(intro u hSw; go_simp; try with_reducible rfl)
    try simp only [Act.put, List.setIfInBounds_toArray, List.set_cons_zero, List.set_cons_succ]
    refine wpAnyH_take (i := 2) (oi := ({ dst := some 44, op := .move (.tmp 9), type := 3, pos := "law.go:166", after := #[], guard := none } : Oper)) (v := ?_) rfl (by kernel_rfl) (by kernel_rfl) (by kernel_rfl) (fun _ _ _ h => h) (Or.inl ⟨by rfl, ?_⟩) (by assumption) ?_
    rotate_left 1
    ·(intro u hSw; go_simp; try with_reducible rfl)
    try simp only [Act.put, List.setIfInBounds_toArray, List.set_cons_zero, List.set_cons_succ]
    refine wpAnyH_take (i := 3) (oi := ({ dst := some 45, op := .indexAddr 22 (.tmp 43) (.tmp 44), type := 0, pos := "law.go:166", after := #[{ on := 1, ground := .data }, { on := 2, ground := .data }], guard := none } : Oper)) (v := ?_) rfl (by kernel_rfl) (by kernel_rfl) (by kernel_rfl) (fun _ _ _ h => h) (Or.inl ⟨by rfl, ?_⟩) (by assumption) ?_
    rotate_left 1
    ·(intro u hSw; go_simp; try with_reducible rfl)
    try simp only [Act.put, List.setIfInBounds_toArray, List.set_cons_zero, List.set_cons_succ]
    refine wpAnyH_take (i := 4) (oi := ({ dst := some 46, op := .fieldAddr 45 (.tmp 45) 0, type := 0, pos := "law.go:166", after := #[{ on := 3, ground := .data }], guard := none } : Oper)) (v := ?_) rfl (by kernel_rfl) (by kernel_rfl) (by kernel_rfl) (fun _ _ _ h => h) (Or.inl ⟨by rfl, ?_⟩) (by assumption) ?_
    rotate_left 1
    ·(intro u hSw; go_simp; try with_reducible rfl)
    try simp only [Act.put, List.setIfInBounds_toArray, List.set_cons_zero, List.set_cons_succ]
    refine wpAnyH_take (i := 5) (oi := ({ dst := some 47, op := .load 9 (.tmp 46), type := 9, pos := "law.go:166", after := #[{ on := 4, ground := .data }], guard := none } : Oper)) (v := ?_) rfl (by kernel_rfl) (by kernel_rfl) (by kernel_rfl) (fun _ _ _ h => h) (Or.inl ⟨by rfl, ?_⟩) (by assumption) ?_
    rotate_left 1
    ·(intro u hSw; have y0 := HC0.out _ hSw; have y1 := HC1.out _ hSw; go_simp; try with_reducible rfl)
    try simp only [Act.put, List.setIfInBounds_toArray, List.set_cons_zero, List.set_cons_succ]
    refine wpAnyH_take (i := 6) (oi := ({ dst := some 48, op := .move (.tmp 0), type := 22, pos := "law.go:166", after := #[], guard := none } : Oper)) (v := ?_) rfl (by kernel_rfl) (by kernel_rfl) (by kernel_rfl) (fun _ _ _ h => h) (Or.inl ⟨by rfl, ?_⟩) (by assumption) ?_
    rotate_left 1
    ·(intro u hSw; go_simp; try with_reducible rfl)
    try simp only [Act.put, List.setIfInBounds_toArray, List.set_cons_zero, List.set_cons_succ]
    refine wpAnyH_take (i := 7) (oi := ({ dst := some 49, op := .move (.tmp 9), type := 3, pos := "law.go:166", after := #[], guard := none } : Oper)) (v := ?_) rfl (by kernel_rfl) (by kernel_rfl) (by kernel_rfl) (fun _ _ _ h => h) (Or.inl ⟨by rfl, ?_⟩) (by assumption) ?_
    rotate_left 1
    ·(intro u hSw; go_simp; try with_reducible rfl)
    try simp only [Act.put, List.setIfInBounds_toArray, List.set_cons_zero, List.set_cons_succ]
    refine wpAnyH_take (i := 8) (oi := ({ dst := some 50, op := .indexAddr 22 (.tmp 48) (.tmp 49), type := 0, pos := "law.go:166", after := #[{ on := 6, ground := .data }, { on := 7, ground := .data }], guard := none } : Oper)) (v := ?_) rfl (by kernel_rfl) (by kernel_rfl) (by kernel_rfl) (fun _ _ _ h => h) (Or.inl ⟨by rfl, ?_⟩) (by assumption) ?_
    rotate_left 1
    ·(intro u hSw; go_simp; try with_reducible rfl)
    try simp only [Act.put, List.setIfInBounds_toArray, List.set_cons_zero, List.set_cons_succ]
    refine wpAnyH_take (i := 9) (oi := ({ dst := some 51, op := .fieldAddr 45 (.tmp 50) 1, type := 0, pos := "law.go:166", after := #[{ on := 8, ground := .data }], guard := none } : Oper)) (v := ?_) rfl (by kernel_rfl) (by kernel_rfl) (by kernel_rfl) (fun _ _ _ h => h) (Or.inl ⟨by rfl, ?_⟩) (by assumption) ?_
    rotate_left 1
    ·(intro u hSw; go_simp; try with_reducible rfl)
    try simp only [Act.put, List.setIfInBounds_toArray, List.set_cons_zero, List.set_cons_succ]
    refine wpAnyH_take (i := 10) (oi := ({ dst := some 52, op := .load 2 (.tmp 51), type := 2, pos := "law.go:166", after := #[{ on := 9, ground := .data }], guard := none } : Oper)) (v := ?_) rfl (by kernel_rfl) (by kernel_rfl) (by kernel_rfl) (fun _ _ _ h => h) (Or.inl ⟨by rfl, ?_⟩) (by assumption) ?_
    rotate_left 1
    ·(intro u hSw; have y0 := HC0.out _ hSw; have y1 := HC1.out _ hSw; go_simp; try with_reducible rfl)
    try simp only [Act.put, List.setIfInBounds_toArray, List.set_cons_zero, List.set_cons_succ]
    refine wpAnyH_ready (rs := [11]) (by kernel_rfl) (by simp) ?_
    refine (AllReadyH.cons (o := ({ dst := some 53, op := .call { callee := Callee.value (Operand.func 21), args := #[.tmp 42, .tmp 47, .tmp 52], argTypes := #[22, 9, 2] }, type := 22, pos := "law.go:166", after := #[{ on := 0, ground := .data }, { on := 5, ground := .data }, { on := 10, ground := .data }], guard := none } : Oper)) rfl (fun K hK => ?_) AllReadyH.nil)
    rw [HCN.out]
    go_simp
    refine HRS.out.mono ?_
    rintro d6 w6 ⟨v6, rfl, ho6, hb6⟩
    obtain ⟨a6, c6, rfl⟩ := ho6.slc
    have hb := hb.trans (hb6.mono hb.size)
    have ht6 := (hb6.block X (blk_lt HSS.out.1)).trans HSS.out.1
    have hm6 := (show MIs w5.drew (fun q => q ≠ X) p5 (putE t x) from HSS.out.2.1.below ((Below.refl _ _).drew)).below hb6
    have hkc := (show KC w5.drew from ⟨HSS.out.2.2.2.1.1, HSS.out.2.2.2.1.2⟩).below hb6 HSS.out.2.2.2.1.1
    have hBs6 : B ≤ w6.heap.size := Nat.le_trans hBs hb6.size
    clear hb6
    go_wp2_with fail
    refine hK.out _ _ hb (fun hHeld => ?_)
    clear hK K
    try simp only [Act.put, List.setIfInBounds_toArray, List.set_cons_zero, List.set_cons_succ]
    refine wpAnyH_take (i := 12) (oi := ({ dst := some 8, op := .assign (.tmp 53), type := 22, pos := "law.go:166", after := #[{ on := 11, ground := .data }, { on := 11, ground := .chain }, { on := 0, ground := .phase }, { on := 1, ground := .phase }, { on := 2, ground := .phase }, { on := 3, ground := .phase }, { on := 4, ground := .phase }, { on := 5, ground := .phase }, { on := 6, ground := .phase }, { on := 7, ground := .phase }, { on := 8, ground := .phase }, { on := 9, ground := .phase }, { on := 10, ground := .phase }, { on := 11, ground := .phase }], guard := none } : Oper)) (v := ?_) rfl (by kernel_rfl) (by kernel_rfl) (by kernel_rfl) (fun _ _ _ h => h) (Or.inl ⟨by rfl, ?_⟩) (by assumption) ?_
    rotate_left 1
    ·(intro u hSw; go_simp; try with_reducible rfl)
    try simp only [Act.put, List.setIfInBounds_toArray, List.set_cons_zero, List.set_cons_succ]
    refine wpAnyH_done (by kernel_rfl) ?_ _
    have HZ := Lib.hid (show TV2 w0 X B l (j + 1) (.slice a6 (putE t x).ino.length c6) w6 from ⟨p5, putE t x, HR.out.symm, ht6, hm6, HSS.out.2.2.1, ho6.base hBs, hkc, hBs6, hb⟩)
    clear ht6 hm6 ho6 hkc hb hHeld hBs6
    go_wp2_with fail
    go_roundw
    case rel => exact ⟨j + 1, HNX.out.1, HNX.out.2, by go_num, HZ.out⟩
    case measure => have := HNX.out.1; simp [intOf]; omega
   | false =>
    have hc := of_decide_eq_false HQB.out
    have hpe : putE t x = t := by unfold putE; rw [if_neg hc]
    rw [hpe] at hm5 hwx
    have HZ := Lib.hid (show TV2 w0 X B l (j + 1) (.slice aw t.ino.length cw) w5 from ⟨p5, t, by rw [HR.out, hpe], ht5, hm5, hwx.1, hro, hkc, hBs, hb⟩)
    clear ht5 hm5 hwx hkc hro hb hc hpe
    go_wp2_with fail
    go_roundw
    case rel => exact ⟨j + 1, HNX.out.1, HNX.out.2, by go_num, HZ.out⟩
    case measure => have := HNX.out.1; simp [intOf]; omega
  ·have hdp := MT.depth_le t
   have hsz := hwh.s
   have hil := ino_len t
   have hpl := prove_len fr to e t hwh.g
   have HPL := Lib.hid (show (t.prove fr to e).length ≤ 1099511627776 by omega)
   have HVS := Lib.hid (fun es hv hc => ver_sound fr to e t hwh.g hwh.f hwh.p (by omega) hwh.a pf HPF.out.2.1 es hv hc)
   have HEB := Lib.hid (show ∀ y, rdAll pf = .inr y → (y.ents fr to e).length ≤ 1099511627776 from fun y hy => by
    have h1 := MT.ents_le fr to e y
    have h2 := rdAll_len hy
    have h3 := HPF.out.2.2
    omega)
   have HIL := Lib.hid (show t.ino.length ≤ 1048576 by omega)
   have HW := Lib.hid hwh
   have HZZ := Lib.hid (fun u (hu : Below w0.heap.size w0 u) => (show u.heap[w.heap.size]? = some (.cells #[.string (str fr), .string (str to), .bool e] 24 (0, 0)) from (hu.block _ (blk_lt H0.out.2.1)).trans H0.out.2.1))
   have HPB := Lib.hid (fun u (hu : Below w0.heap.size w0 u) => (show Bs u (.slice ap pf.length cp) pf from (HPF.out.1.below H0.out.1).below hu))
   have hb := hb.drew
   have ht : TIs wr.drew X px := ht
   have hm : MIs wr.drew (fun q => q ≠ X) px t := hm.below ((Below.refl _ _).drew)
   have hro : RfO wr.drew B (.slice aw t.ino.length cw) t.ino := hro
   have hkc : KC wr.drew := ⟨hkc.1, hkc.2⟩
   have hcond : ¬ ((j : Int) < (l.length : Int)) ∨ ¬ ((j : Int) < 100) := by omega
   have hgo : ∀ (K : Prop), ((¬ ((j : Int) < (l.length : Int)) → K) ∧ ((j : Int) < (l.length : Int) → ¬ ((j : Int) < 100) → K)) → K := fun K h => by
    by_cases h1 : (j : Int) < (l.length : Int)
    ·exact h.2 h1 (hcond.resolve_left (fun h => h h1))
    ·exact h.1 h1
   clear hcond hjl hj hj100 hwh hdp hsz hil hpl htd hBs
   refine hgo _ ⟨fun hj1 => ?_, fun hj1 hj2 => ?_⟩
   all_goals
    clear hgo
    go_wp2_with fail
    refine wp_region_held_drew (S := fun u => Below w0.heap.size w0 u) (by kernel_rfl) (hb) (fun hHeld => ?_)
    refine wpAnyH_take (i := 0) (oi := ({ dst := some 55, op := .move (.tmp 7), type := 28, pos := "law.go:169", after := #[], guard := none } : Oper)) (v := ?_) rfl (by kernel_rfl) (by kernel_rfl) (by kernel_rfl) (fun _ _ _ h => h) (Or.inl ⟨by rfl, ?_⟩) (by assumption) ?_
    rotate_left 1
    ·(intro u hSw; go_simp; try with_reducible rfl)
    try simp only [Act.put, List.setIfInBounds_toArray, List.set_cons_zero, List.set_cons_succ]
    refine wpAnyH_take (i := 2) (oi := ({ dst := some 57, op := .load 24 (.tmp 4), type := 24, pos := "law.go:169", after := #[], guard := none } : Oper)) (v := ?_) rfl (by kernel_rfl) (by kernel_rfl) (by kernel_rfl) (fun _ _ _ h => h) (Or.inl ⟨by rfl, ?_⟩) (by assumption) ?_
    rotate_left 1
    ·(intro u hSw; have y0 := cell_of_row u w.heap.size 0 _ _ _ (HZZ.out _ hSw); have y1 := cell_of_row u w.heap.size 1 _ _ _ (HZZ.out _ hSw); have y2 := cell_of_row u w.heap.size 2 _ _ _ (HZZ.out _ hSw); go_simp; try with_reducible rfl)
    try simp only [Act.put, List.setIfInBounds_toArray, List.set_cons_zero, List.set_cons_succ]
    refine wpAnyH_take (i := 3) (oi := ({ dst := some 58, op := .move (.tmp 2), type := 31, pos := "law.go:169", after := #[], guard := none } : Oper)) (v := ?_) rfl (by kernel_rfl) (by kernel_rfl) (by kernel_rfl) (fun _ _ _ h => h) (Or.inl ⟨by rfl, ?_⟩) (by assumption) ?_
    rotate_left 1
    ·(intro u hSw; go_simp; try with_reducible rfl)
    try simp only [Act.put, List.setIfInBounds_toArray, List.set_cons_zero, List.set_cons_succ]
    refine wpAnyH_ready (rs := [1]) (by kernel_rfl) (by simp) ?_
    refine (AllReadyH.cons (o := ({ dst := some 56, op := .call { callee := Callee.value (Operand.func 14), args := #[.tmp 55], argTypes := #[28] }, type := 36, pos := "law.go:169", after := #[{ on := 0, ground := .data }], guard := none } : Oper)) rfl (fun K hK => ?_) AllReadyH.nil)
    try (generalize World.drew wr = ud at *)
    have hrt := treeRoot_any X t ud px ht hm HW.out.g hkc
    go_simp
    refine hrt.mono ?_
    rintro d5 w5 ⟨rfl, hb5⟩
    have hb := hb.trans (hb5.mono hb.size)
    have ht := (hb5.block X (blk_lt ht)).trans ht
    have hm := hm.below hb5
    have hro := hro.below hb5
    have hkc := hkc.below hb5 hkc.1
    clear hb5 hrt
    go_wp2_with fail
    refine hK.out _ _ hb (fun hHeld => ?_)
    clear hK K
    try simp only [Act.put, List.setIfInBounds_toArray, List.set_cons_zero, List.set_cons_succ]
    refine wpAnyH_ready (rs := [4]) (by kernel_rfl) (by simp) ?_
    refine (AllReadyH.cons (o := ({ dst := some 59, op := .call { callee := Callee.value (Operand.func 22), args := #[.tmp 56, .tmp 57, .tmp 58], argTypes := #[36, 24, 31] }, type := 49, pos := "law.go:169", after := #[{ on := 1, ground := .data }, { on := 2, ground := .data }, { on := 3, ground := .data }, { on := 1, ground := .chain }], guard := none } : Oper)) rfl (fun K hK => ?_) AllReadyH.nil)
    have hcl := lawVerify_any _ t.dg fr to e _ _ HW.out.g.dlen (HPB.out _ hb) HG.out.2.1 HG.out.2.2 HPF.out.2.1 hkc HEB.out
    have HVO := Lib.hid (show ∀ es, verO t.dg fr to e pf = .inr es → clashO (t.prove fr to e) pf = none → es = t.ino.filter (fun x => hasQ fr to e x.1) from HVS.out)
    have HVI := Lib.hid (fun es (h : verO t.dg fr to e pf = .inr es) => verO_inr h)
    generalize verO t.dg fr to e pf = R at *
    go_simp
    refine hcl.mono ?_
    rintro d7 w7 hve
    have hex : ∃ gv cd, d7 = .returned (.tuple #[gv, .int .i64 cd]) ∧ Below w5.heap.size w5 w7 := by
     cases R with
     | inl c => obtain ⟨-, h1, h2⟩ := hve; exact ⟨_, _, h1, h2⟩
     | inr es => obtain ⟨v, h1, -, h2⟩ := hve; exact ⟨_, _, h1, h2⟩
    obtain ⟨gv, cd, rfl, hb7⟩ := hex
    have hb := hb.trans (hb7.mono hb.size)
    have ht := (hb7.block X (blk_lt ht)).trans ht
    have hm := hm.below hb7
    have hro := hro.below hb7
    have hkc := hkc.below hb7 hkc.1
    have HVE := Lib.hid hve
    have hgs : ∃ a n c, gv = .slice a n c := by
     cases R with
     | inl c => obtain ⟨-, h1, -⟩ := hve; injection h1 with h1; injection h1 with h1; injection h1 with h1; injection h1 with h1; exact ⟨_, _, _, h1⟩
     | inr es => obtain ⟨v, h1, h2, -⟩ := hve; obtain ⟨a, c, rfl⟩ := h2.slc; injection h1 with h1; injection h1 with h1; injection h1 with h1; injection h1 with h1; exact ⟨_, _, _, h1⟩
    obtain ⟨ag, ng, cg, rfl⟩ := hgs
    clear hb7 hcl hve
    go_wp2_with fail
    refine hK.out _ _ hb (fun hHeld => ?_)
    clear hK K
    try simp only [Act.put, List.setIfInBounds_toArray, List.set_cons_zero, List.set_cons_succ]
    refine wpAnyH_take (i := 5) (oi := ({ dst := some 54, op := .move (.tmp 59), type := 49, pos := "law.go:169", after := #[{ on := 4, ground := .data }], guard := none } : Oper)) (v := ?_) rfl (by kernel_rfl) (by kernel_rfl) (by kernel_rfl) (fun _ _ _ h => h) (Or.inl ⟨by rfl, ?_⟩) (by assumption) ?_
    rotate_left 1
    ·(intro u hSw; go_simp; try with_reducible rfl)
    try simp only [Act.put, List.setIfInBounds_toArray, List.set_cons_zero, List.set_cons_succ]
    refine wpAnyH_take (i := 6) (oi := ({ dst := some 60, op := .extract (.tmp 54) 0, type := 26, pos := "law.go:169", after := #[{ on := 5, ground := .data }], guard := none } : Oper)) (v := ?_) rfl (by kernel_rfl) (by kernel_rfl) (by kernel_rfl) (fun _ _ _ h => h) (Or.inl ⟨by rfl, ?_⟩) (by assumption) ?_
    rotate_left 1
    ·(intro u hSw; go_simp; try with_reducible rfl)
    try simp only [Act.put, List.setIfInBounds_toArray, List.set_cons_zero, List.set_cons_succ]
    refine wpAnyH_take (i := 7) (oi := ({ dst := some 61, op := .extract (.tmp 54) 1, type := 48, pos := "law.go:169", after := #[{ on := 5, ground := .data }, { on := 8, ground := .gcOnly Departure.lateStores }], guard := none } : Oper)) (v := ?_) rfl (by kernel_rfl) (by kernel_rfl) (by kernel_rfl) (fun _ _ _ h => h) (Or.inl ⟨by rfl, ?_⟩) (by assumption) ?_
    rotate_left 1
    ·(intro u hSw; go_simp; try with_reducible rfl)
    try simp only [Act.put, List.setIfInBounds_toArray, List.set_cons_zero, List.set_cons_succ]
    refine wpAnyH_take (i := 8) (oi := ({ dst := some 10, op := .assign (.tmp 60), type := 26, pos := "law.go:169", after := #[{ on := 6, ground := .data }, { on := 4, ground := .chain }, { on := 0, ground := .phase }, { on := 1, ground := .phase }, { on := 2, ground := .phase }, { on := 3, ground := .phase }, { on := 4, ground := .phase }, { on := 5, ground := .phase }, { on := 6, ground := .phase }, { on := 7, ground := .textOnly Departure.lateStores }], guard := none } : Oper)) (v := ?_) rfl (by kernel_rfl) (by kernel_rfl) (by kernel_rfl) (fun _ _ _ h => h) (Or.inl ⟨by rfl, ?_⟩) (by assumption) ?_
    rotate_left 1
    ·(intro u hSw; go_simp; try with_reducible rfl)
    try simp only [Act.put, List.setIfInBounds_toArray, List.set_cons_zero, List.set_cons_succ]
    refine wpAnyH_take (i := 9) (oi := ({ dst := some 11, op := .assign (.tmp 61), type := 48, pos := "law.go:169", after := #[{ on := 7, ground := .data }, { on := 8, ground := .chain }, { on := 0, ground := .phase }, { on := 1, ground := .phase }, { on := 2, ground := .phase }, { on := 3, ground := .phase }, { on := 4, ground := .phase }, { on := 5, ground := .phase }, { on := 6, ground := .phase }, { on := 7, ground := .phase }, { on := 8, ground := .phase }], guard := none } : Oper)) (v := ?_) rfl (by kernel_rfl) (by kernel_rfl) (by kernel_rfl) (fun _ _ _ h => h) (Or.inl ⟨by rfl, ?_⟩) (by assumption) ?_
    rotate_left 1
    ·(intro u hSw; go_simp; try with_reducible rfl)
    try simp only [Act.put, List.setIfInBounds_toArray, List.set_cons_zero, List.set_cons_succ]
    refine wpAnyH_done (by kernel_rfl) ?_ _
    have HX := Lib.hid (And.intro ht (And.intro hm (And.intro hro (And.intro hkc hb))))
    clear ht hm hro hkc hb hHeld
    cases R with
    | inl c =>
     obtain ⟨hc0, h1, -⟩ := HVE.out
     injection h1 with h1
     injection h1 with h1
     injection h1 with h1
     injection h1 with h1 h2
     injection h2 with h2
     injection h2 with h2 h3
     injection h1 with e1 e2 e3
     subst h3 e2
     have hc1 : ¬ cd = 0 := hc0
     have HBE := Lib.hid (H0.out.1.trans (HX.out.2.2.2.2.mono H0.out.1.size))
     clear hc0 HVE HVO HVI
     go_wp2_with fail
     go_ret
     exact ⟨rfl, HBE.out⟩
    | inr es =>
     obtain ⟨v9, h1, hen7, -⟩ := HVE.out
     injection h1 with h1
     injection h1 with h1
     injection h1 with h1
     injection h1 with h1 h2
     injection h2 with h2
     injection h2 with h2 h3
     subst h1 h3
     obtain ⟨a7, c7, h4⟩ := hen7.slc
     injection h4 with h5 h6 h7
     subst h5 h6 h7
     have hen := hen7.ens
     obtain ⟨y, hy1, hy2⟩ := HVI.out es rfl
     have hyl : es.length ≤ 1048576 := by
      have q1 := MT.ents_le fr to e y
      have q2 := rdAll_len hy1
      have q3 := HPF.out.2.2
      rw [hy2]
      omega
     have hyr : ∀ x ∈ es, Rng x.1 := fun x hx => by
      rw [hy2, ents_ino] at hx
      exact ino_rng y (rdAll_ok HPF.out.2.1 hy1) x (List.mem_filter.1 hx).1
     have HES := Lib.hid (And.intro hyl hyr)
     have HBK := Lib.hid (back_any w7.drew _ _ (show EnS w7.drew _ es from hen) hyl)
     have hb := HX.out.2.2.2.2.drew
     clear hen hen7 hy1 hy2 hyl hyr HVE HVI
     go_wp2_with fail
     refine wp_region_held_drew (S := fun u => Below w0.heap.size w0 u) (by kernel_rfl) (hb) (fun hHeld => ?_)
     refine wpAnyH_take (i := 0) (oi := ({ dst := some 67, op := .move (.tmp 10), type := 26, pos := "law.go:173", after := #[], guard := none } : Oper)) (v := ?_) rfl (by kernel_rfl) (by kernel_rfl) (by kernel_rfl) (fun _ _ _ h => h) (Or.inl ⟨by rfl, ?_⟩) (by assumption) ?_
     rotate_left 1
     ·(intro u hSw; go_simp; try with_reducible rfl)
     try simp only [Act.put, List.setIfInBounds_toArray, List.set_cons_zero, List.set_cons_succ]
     refine wpAnyH_take (i := 2) (oi := ({ dst := some 69, op := .move (.tmp 8), type := 22, pos := "law.go:173", after := #[], guard := none } : Oper)) (v := ?_) rfl (by kernel_rfl) (by kernel_rfl) (by kernel_rfl) (fun _ _ _ h => h) (Or.inl ⟨by rfl, ?_⟩) (by assumption) ?_
     rotate_left 1
     ·(intro u hSw; go_simp; try with_reducible rfl)
     try simp only [Act.put, List.setIfInBounds_toArray, List.set_cons_zero, List.set_cons_succ]
     refine wpAnyH_take (i := 3) (oi := ({ dst := some 70, op := .load 24 (.tmp 4), type := 24, pos := "law.go:173", after := #[], guard := none } : Oper)) (v := ?_) rfl (by kernel_rfl) (by kernel_rfl) (by kernel_rfl) (fun _ _ _ h => h) (Or.inl ⟨by rfl, ?_⟩) (by assumption) ?_
     rotate_left 1
     ·(intro u hSw; have y0 := cell_of_row u w.heap.size 0 _ _ _ (HZZ.out _ hSw); have y1 := cell_of_row u w.heap.size 1 _ _ _ (HZZ.out _ hSw); have y2 := cell_of_row u w.heap.size 2 _ _ _ (HZZ.out _ hSw); go_simp; try with_reducible rfl)
     try simp only [Act.put, List.setIfInBounds_toArray, List.set_cons_zero, List.set_cons_succ]
     refine wpAnyH_ready (rs := [1]) (by kernel_rfl) (by simp) ?_
     refine (AllReadyH.cons (o := ({ dst := some 68, op := .call { callee := Callee.value (Operand.func 18), args := #[.tmp 67], argTypes := #[26] }, type := 22, pos := "law.go:173", after := #[{ on := 0, ground := .data }], guard := none } : Oper)) rfl (fun K hK => ?_) AllReadyH.nil)
     go_simp
     refine HBK.out.mono ?_
     rintro d8 w8 ⟨v8, rfl, ho8, hb8⟩
     obtain ⟨a8, c8, rfl⟩ := ho8.slc
     have hb := hb.trans (hb8.mono hb.size)
     have hro := (show RfO w7.drew B (.slice aw t.ino.length cw) t.ino from HX.out.2.2.1).below hb8
     have hbx := hb8
     clear hb8
     go_wp2_with fail
     refine hK.out _ _ hb (fun hHeld => ?_)
     clear hK K
     try simp only [Act.put, List.setIfInBounds_toArray, List.set_cons_zero, List.set_cons_succ]
     refine wpAnyH_ready (rs := [4]) (by kernel_rfl) (by simp) ?_
     refine (AllReadyH.cons (o := ({ dst := some 71, op := .call { callee := Callee.value (Operand.func 24), args := #[.tmp 69, .tmp 70], argTypes := #[22, 24] }, type := 22, pos := "law.go:173", after := #[{ on := 2, ground := .data }, { on := 3, ground := .data }, { on := 1, ground := .chain }], guard := none } : Oper)) rfl (fun K hK => ?_) AllReadyH.nil)
     have hin := lawIn_any _ _ t.ino fr to e hro.rfs (ino_rng t HW.out.g) HG.out.2.1 HG.out.2.2 HIL.out
     go_simp
     refine hin.mono ?_
     rintro d9 w9 ⟨v9, rfl, ho9, hb9⟩
     obtain ⟨a9, c9, rfl⟩ := ho9.slc
     have hb := hb.trans (hb9.mono hb.size)
     have ho8 := ho8.below hb9
     have hbx := hbx.trans (hb9.mono hbx.size)
     clear hb9 hin hro
     go_wp2_with fail
     refine hK.out _ _ hb (fun hHeld => ?_)
     clear hK K
     try simp only [Act.put, List.setIfInBounds_toArray, List.set_cons_zero, List.set_cons_succ]
     refine wpAnyH_ready (rs := [5]) (by kernel_rfl) (by simp) ?_
     refine (AllReadyH.cons (o := ({ dst := some 72, op := .call { callee := Callee.value (Operand.func 17), args := #[.tmp 68, .tmp 71], argTypes := #[22, 22] }, type := 4, pos := "law.go:173", after := #[{ on := 1, ground := .data }, { on := 4, ground := .data }, { on := 4, ground := .chain }], guard := none } : Oper)) rfl (fun K hK => ?_) AllReadyH.nil)
     have hsm := refSame_any _ _ _ _ _ ho8.rfs ho9.rfs (toI_rng HES.out.2) (toI_rng (fun x hx => ino_rng t HW.out.g x (List.mem_filter.1 hx).1)) (by rw [List.length_map]; have := HES.out.1; omega)
     generalize hqb : decide (es.map toI = (t.ino.filter (fun x => hasQ fr to e x.1)).map toI) = qb at hsm
     have HQB := Lib.hid hqb
     clear hqb
     go_simp
     refine hsm.mono ?_
     rintro d10 w10 ⟨rfl, hb10⟩
     have hb := hb.trans (hb10.mono hb.size)
     have hbx := hbx.trans (hb10.mono hbx.size)
     clear hb10 hsm ho8 ho9
     go_wp2_with fail
     refine hK.out _ _ hb (fun hHeld => ?_)
     clear hK K
     try simp only [Act.put, List.setIfInBounds_toArray, List.set_cons_zero, List.set_cons_succ]
     refine wpAnyH_done (by kernel_rfl) ?_ _
     have HBB := Lib.hid hb
     have HBX := Lib.hid (show Below w7.heap.size w7 w10 from ((Below.refl w7.heap.size w7).drew).trans hbx)
     clear hb hbx hHeld
     cases qb with
     | true =>
      have HBE := Lib.hid (H0.out.1.trans (HBB.out.mono H0.out.1.size))
      go_wp2_with fail
      go_ret
      exact ⟨rfl, HBE.out⟩
     | false =>
      have c0 : w10.cell? ⟨w.heap.size, 0, none⟩ = some (.string (str fr)) := cell_of_row _ _ 0 _ _ _ (HZZ.out _ HBB.out)
      have c1 : w10.cell? ⟨w.heap.size, 1, none⟩ = some (.string (str to)) := cell_of_row _ _ 1 _ _ _ (HZZ.out _ HBB.out)
      have c2 : w10.cell? ⟨w.heap.size, 2, none⟩ = some (.bool e) := cell_of_row _ _ 2 _ _ _ (HZZ.out _ HBB.out)
      have HPV := Lib.hid (lawProve_any X w10 px fr to e t ((HBX.out.block X (blk_lt HX.out.1)).trans HX.out.1) (HX.out.2.1.below HBX.out) HW.out.g HG.out.2.1 HG.out.2.2 HPL.out)
      go_wp2_with fail
      clear c0 c1 c2
      refine HPV.out.mono ?_
      rintro d11 w11 ⟨v11, rfl, ho11, hb11⟩
      obtain ⟨a11, n11, c11, rfl⟩ := ho11.slc
      have hb12 := HBB.out.trans (hb11.mono HBB.out.size)
      have hkc := (HX.out.2.2.2.1.below HBX.out HX.out.2.2.2.1.1).below hb11 (Nat.lt_of_lt_of_le HX.out.2.2.2.1.1 HBX.out.size)
      have HCL := Lib.hid (Clash_any (t.prove fr to e) pf w11 _ _ ho11.bs (HPB.out _ hb12) (prove_rng fr to e t HW.out.g) HPF.out.2.1 hkc)
      have HB12 := Lib.hid hb12
      clear hb12 hb11 ho11 hkc HPV
      go_wp2_with fail
      refine HCL.out.mono ?_
      rintro d13 w13 hce
      clear HCL
      cases hcc : clashO (t.prove fr to e) pf with
      | none => exact absurd (congrArg (List.map toI) (HVO.out es rfl hcc)) (of_decide_eq_false HQB.out)
      | some z =>
       obtain ⟨p, q⟩ := z
       rw [hcc] at hce
       obtain ⟨v1, v2, rfl, k1, k2, hb2⟩ := hce
       obtain ⟨q1, q2, q3, q4, q5, q6⟩ := clashO_ok (prove_rng fr to e t HW.out.g) HPF.out.2.1 hcc
       obtain ⟨a1, c1, rfl⟩ := k1.form
       obtain ⟨a2, c2, rfl⟩ := k2.form
       have hne : ((str p).toList == (str q).toList) = false := by rw [str_beq q3 q4]; exact decide_eq_false q1
       have hne2 : ¬ (str p).toList = (str q).toList := by simpa using hne
       have HS1 := Lib.hid (refSum_any (.slice a1 p.length c1) p w13 k1.1 (by omega))
       have HS2 := Lib.hid (fun u (hu : Below w13.heap.size w13 u) => refSum_any (.slice a2 q.length c2) q u (k2.1.below hu) (by omega))
       rw [q2] at HS1
       have HDL := Lib.hid (sha_len q)
       have HV1 := Lib.hid (conv_bs w13 a1 p.length c1 p k1.1)
       have HV2 := Lib.hid (conv_bs w13 a2 q.length c2 q k2.1)
       have H2 := Lib.hid (HB12.out.trans (hb2.mono HB12.out.size))
       clear hb2 hcc q1 q2 q3 q4 q5 q6 k1 k2
       generalize sha q = dq at *
       go_wp2_with (first
        | (refine wpList_of_runG (o := ⟨some 85, _, _, _, _, _⟩) rfl (exec_convP 31 9 (Operand.tmp 84) rfl _ rfl _ HV1.out) ?_)
        | (refine wpList_of_runG (o := ⟨some 87, _, _, _, _, _⟩) rfl (exec_convP 31 9 (Operand.tmp 86) rfl _ rfl _ HV2.out) ?_))
       refine HS1.out.mono ?_
       rintro d w14 ⟨rfl, hb5⟩
       have HB5 := Lib.hid hb5
       clear hb5 HS1
       go_wp2_with fail
       refine (HS2.out w14 HB5.out).mono ?_
       rintro d w15 ⟨rfl, hb6⟩
       have hb26 := HB5.out.trans (hb6.mono HB5.out.size)
       have HBE := Lib.hid (H0.out.1.trans ((H2.out.trans (hb26.mono H2.out.size)).mono H0.out.1.size))
       clear hb6 hb26 HS2 H2 HB5
       go_wp2_with (first
        | (refine wpList_of_runG (o := ⟨some 95, _, _, _, _, _⟩) rfl (exec_eql_32 (Operand.tmp 92) (Operand.tmp 94) _ rfl dq dq rfl rfl HDL.out HDL.out true (decide_eq_true rfl)) ?_))
       go_ret
       exact ⟨rfl, HBE.out⟩
end Go.Proofs.YtmejjjkbbkgioaaDoor
namespace Go.Proofs.YtmejjjkbbkgioaaDoor
open Go.ChangeShapes Go.WideShapes Go.ChangeAt Go.RowKit Go.Deep
namespace lawSound
theorem laidIt {W : World} (h : laidMetH Tryd.prog Rows.merkleSoundUptoRow.laid W) : KC W := by
  have h1 : Lib.TabIs Tryd.prog W "touchmark/sha.constants" .u32 Kt := Lib.tabIs_of_head (rest := []) gTab gTabType Tryd.underlying160 Tryd.underlying97 cells49 cells65 h
  have hc : ∀ t, t < 64 → W.cell? ⟨1, t, none⟩ = some (.int .u32 (Kt[t]?.getD 0)) := fun t ht => by
    have := h1.cell gTab t (by simpa [Kt] using ht)
    rw [this]
    simp [List.getD]
  exact ⟨World.block_lt_of_cell? _ _ (hc 0 (by omega)), hc⟩
set_option maxRecDepth 100000 in
theorem contract (H : Type) (enc : TypeId × Value → H) (W : World) (base : Nat) (args : Array Value) (ds gs : List (DataW H)) (before : List MemPlace)
  (hval : ∀ (j : Nat) t v, Tryd.f7.params[j]? = some t → args[j]? = some v → Value.okWide Tryd.prog W .any base t v)
  (hW : DataW.Whole enc Tryd.prog Tryd.f7.params.toList Rows.merkleSoundSpec.vars false W args.toList ds gs before) (hL : laidMetH Tryd.prog Rows.merkleSoundUptoRow.laid W) (hk : Rows.uptoSmall H (ds ++ gs) = true) :
  Calls Tryd.prog 7 args W fun e W' => ∃ v, e = .returned v ∧ Rows.merkleSoundSpec.post enc Tryd.prog Tryd.f7 false true false false W args v W' := by
 have hW' := hW
 obtain ⟨p, q, hA0, hV, rfl, hfz, hnd⟩ := hW
 have hA : DataW.TrodAll enc Tryd.prog W 0 (fun _ => true) true Tryd.f7.params.toList args.toList ds p := hA0
 rw [Tryd.params7] at hA hval
 obtain ⟨v0, vs0, d0, ds0, p0, q0, hargs, rfl, rfl, h0, r0⟩ := trodAll_cons hA
 obtain ⟨v1, vs1, d1, ds1, p1, q1, rfl, rfl, rfl, h1, r1⟩ := trodAll_cons r0
 obtain ⟨v2, vs2, d2, ds2, p2, q2, rfl, rfl, rfl, h2, r2⟩ := trodAll_cons r1
 obtain ⟨rfl, rfl, rfl⟩ := trodAll_nil r2
 obtain rfl : args = #[v0, v1, v2] := by cases args; simp_all
 obtain ⟨rfl, rfl⟩ := trodVars_none hV
 obtain ⟨a2, b2, g2, j2⟩ := bs_of_trod Tryd.underlying31 Tryd.underlying5 cells5 (hval 2 31 v2 rfl rfl) h2
 have hbulk : Rows.uptoBulkAll ([d0, d1, d2] ++ []) ≤ 1048576 := of_decide_eq_true hk
 simp only [List.append_nil, Rows.uptoBulkAll] at hbulk
 obtain ⟨a0, b0, g0, -⟩ := ents_of_trod (hval 0 22 v0 rfl rfl) h0 (by omega)
 obtain ⟨f1, t1, e1, rfl, g1, k1, -, -⟩ := rng_of_trod (hval 1 24 v1 rfl rfl) h1 (by omega)
 refine (sound_walk W v0 v2 a0 f1 t1 e1 a2 b0 b2 g2 (by omega) g0 g1 k1 (laidIt hL)).mono fun e W' ⟨he, hb⟩ => ⟨_, he, ?_⟩
 exact law_post (T := 4) laidOut (by rw [Tryd.params7]; decide +kernel) rfl rfl Tryd.underlying4 (fun gs h => by subst h; rfl) hW' hb
theorem laid_met (os : Os) : laidMet Tryd.prog Rows.merkleSoundUptoRow.laid ((laidWorld os).forCall (fun _ _ => 0) ⟨#[], #[.slice none 0 0, .agg #[.string ⟨#[]⟩, .string ⟨#[]⟩, .bool false], .slice none 0 0], []⟩).memory :=
 laidMet_of_run' 8 (by kernel_rfl) (by kernel_rfl)
theorem reads (os : Os) {H : Type} (enc : TypeId × Value → H) : ∃ places, DataW.whole enc Tryd.prog ((laidWorld os).forCall (fun _ _ => 0) ⟨#[], #[.slice none 0 0, .agg #[.string ⟨#[]⟩, .string ⟨#[]⟩, .bool false], .slice none 0 0], []⟩).memory Tryd.f7.params.toList Rows.merkleSoundSpec.vars false #[Value.slice none 0 0, Value.agg #[.string ⟨#[]⟩, .string ⟨#[]⟩, .bool false], Value.slice none 0 0].toList 8 = some ([.nil, .agg [.lit (.string []), .lit (.string []), .lit (.bool false)], .nil], [], places) :=
 ⟨[], by kernel_rfl⟩
set_option maxRecDepth 100000 in
theorem liftedUpto (os : Os) (started : os.Started) (H : Type) (enc : TypeId × Value → H) (F : Stop.Interp) :
  ReturnsInHanded {} Tryd.checked os 7 .any ((Rows.OpenSpec.upto Rows.merkleSoundSpec).preRow enc Tryd.prog Tryd.f7 Rows.merkleSoundUptoRow.domain false Rows.merkleSoundUptoRow.laid) (((Rows.OpenSpec.upto Rows.merkleSoundSpec).at F).post enc Tryd.prog Tryd.f7 false true false false) := by
 obtain ⟨places, hx⟩ := reads os enc
 refine returnsInHanded_of_row (C := Tryd.checked) (s := Rows.OpenSpec.upto Rows.merkleSoundSpec) own started (by kernel_rfl) Tryd.func7
  (witness_row_at (enc := enc) (C := Tryd.checked) false (laidWorld os) #[.slice none 0 0, .agg #[.string ⟨#[]⟩, .string ⟨#[]⟩, .bool false], .slice none 0 0] rfl (by kernel_rfl) (by kernel_rfl) (by kernel_rfl)
   (OpenSpec.preRow_of_cond 8 hx (by kernel_rfl) (fun k hk => by cases hk; kernel_rfl) (by kernel_rfl) (laid_met os))) ?_
 intro W base args ds gs before hval hW _ hcond _ hL _ _
 exact contract H enc W base args ds gs before hval hW hL (hcond _ rfl)
theorem saidUpto : Rows.MerkleSoundUptoSaid :=
 OpenClaim.holds_of_cond 7 Tryd.f7 rfl rfl rfl rfl rfl rfl rfl ⟨rfl, rfl, rfl, rfl, rfl⟩ rfl rfl rfl rfl rfl (by kernel_rfl) Tryd.func7 (by kernel_rfl)
  (of_decide_eq_true (by kernel_rfl)) (by unfold Func.isWrapper; first | (rw [if_pos (by decide +kernel)]; kernel_rfl) | (rw [if_neg (by decide +kernel)]; exact ⟨rfl, rfl⟩))
  (fun os started H enc _ F => by rw [OpenClaim.pre_eq_preRow]; exact liftedUpto os started H enc F)
theorem plain (f : FuncId) (fn : Func) (hf : Tryd.pinned.checked.prog.funcNamed "touchmark/touchmarklaw07.MerkleSound" = some f) (hfn : Tryd.pinned.checked.prog.funcs[f]? = some fn) :
  false = Tryd.pinned.checked.prog.looks [] ∧ ∀ (j : Nat) t, fn.params[j]? = some t → Tryd.pinned.checked.prog.wantsStandIn t = false := by
 obtain rfl : f = 7 := Option.some.inj ((show Tryd.prog.funcNamed "touchmark/touchmarklaw07.MerkleSound" = some 7 by kernel_rfl).symm.trans hf) |>.symm
 obtain rfl : fn = Tryd.f7 := (Option.some.inj (Tryd.func7.symm.trans hfn)).symm
 refine ⟨by kernel_rfl, fun j t ht => ?_⟩
 have hm := Array.mem_of_getElem? ht
 rw [Tryd.params7] at hm
 have w0 : Tryd.prog.wantsStandIn 22 = false := by kernel_rfl
 have w1 : Tryd.prog.wantsStandIn 24 = false := by kernel_rfl
 have w2 : Tryd.prog.wantsStandIn 31 = false := by kernel_rfl
 simp at hm
 rcases hm with rfl | rfl | rfl
 ·exact w0
 ·exact w1
 ·exact w2
/-- the card of the second form -/
theorem cardUpto : Rows.MerkleSoundUptoCardSaid :=
 Claim7.holds_tied_plain_at .later [] _ _ _ _ saidUpto (fun _ h => by cases h) (by kernel_rfl) (fun _ h => by cases h) merkleSoundUpto_row_tie rfl ⟨rfl, rfl⟩ (by kernel_rfl) rfl plain (by kernel_rfl)
end lawSound
end Go.Proofs.YtmejjjkbbkgioaaDoor
