/- stage 7: the text of a node -/
import Derived.Test.YtbmlkocpjboodaaDoorMv04
namespace Go.Proofs.YtbmlkocpjboodaaDoor
open Go.RowKit
open Go.Lib (hid)
theorem rest_first {P : Program} {c : Code} {K : Act → World → Prop} {Q : Exit → Act → World → Prop} {a : Act} {w : World} (Pre : Act → Act → World → Prop) (hrest : ∀ b u, Pre a b u → K b u) (hreg : ∀ K' : Act → World → Prop, (∀ b u, Pre a b u → K' b u) → Code.wp P c (Exit.then K' Q) a w) : Code.wp P c (Exit.then K Q) a w := hreg K hrest
theorem al_new {B : Nat} {w cu : World} (_ : Below B w cu) (o : Obj) : (cu.alloc o).heap[cu.heap.size]? = some o := heap_alloc_new _ _
theorem al_old {B g : Nat} {w cu : World} {x : Obj} (_ : Below B w cu) (o : Obj) (h : cu.heap[g]? = some x) : (cu.alloc o).heap[g]? = some x := (heap_alloc_old _ _ (blk_lt h)).trans h
theorem al_bl {w cu : World} (h : Below w.heap.size w cu) (o : Obj) : Below w.heap.size w (cu.alloc o) := h.alloc h.size o
theorem al_step {K : Act → World → Prop} {a : Act} {w cu : World} {o : Obj} (hb : Below w.heap.size w cu) (h : ∀ nu, Below w.heap.size w nu → nu.heap[cu.heap.size]? = some o → (∀ (g : Nat) (x : Obj), cu.heap[g]? = some x → nu.heap[g]? = some x) → K a nu) : K a (cu.alloc o) := h _ (al_bl hb o) (al_new hb o) (fun _ _ hx => al_old hb o hx)
theorem st_other {u : World} {g k : Nat} {d : Array Value} {x y : Obj} (_ : (u.setRow g d).heap[g]? = some x) (h : u.heap[k]? = some y) (hn : k ≠ g) : (u.setRow g d).heap[k]? = some y := (setRow_other _ _ _ _ hn).trans h
theorem al_step2 {K : Act → World → Prop} {a : Act} {w cu : World} {o : Obj} (hb : Below w.heap.size w cu) (h : ∀ nu, Below w.heap.size w nu → nu.heap[cu.heap.size]? = some o → Below cu.heap.size cu nu → K a nu) : K a (cu.alloc o) := h _ (al_bl hb o) (al_new hb o) ((Below.refl _ _).alloc (Nat.le_refl _) _)
theorem KIs.bound {w : World} {S : Nat → Prop} {v : Value} {l : List Int} (h : KIs w S v l) : KIs w (fun b => S b ∧ b < w.heap.size) v l := by
 refine ⟨h.1, fun b o n c e h0 => ⟨h.2 b o n c e h0, ?_⟩⟩
 obtain ⟨a, cap, e1, _, h2⟩ := h.1
 obtain ⟨b', o', e2, hb, _⟩ := h2 h0
 rw [e1, e2] at e
 injection e with e3
 injection e3 with e3
 injection e3 with e3
 omega
theorem KIs.cg {w w' : World} {S F : Nat → Prop} {v : Value} {l : List Int} (h : KIs w S v l) (hc : Chg F w w') (hn : ∀ b, b < w.heap.size → S b → ¬ F b) : KIs w' S v l := h.chg hc.size (fun b hl hs => hc.block b hl (hn b hl hs))
theorem bs_blk {u : World} {g : Nat} {T : TypeId} {fr : Nat × Nat} {C : Array Value} {l : List Int} {n : Nat} (h : u.heap[g]? = some (.cells C T fr)) (hc : C = (l.map (Value.int .u8)).toArray) (hn : l.length = n := by rfl) : Bs u (.slice (some ⟨g, 0, none⟩) n n) l := by
 subst hn
 refine ⟨some ⟨g, 0, none⟩, l.length, rfl, ⟨Nat.le_refl _, fun e => by cases e⟩, fun _ => ⟨g, 0, rfl, blk_lt h, fun i hi => ?_⟩⟩
 rw [Nat.zero_add, cell_of_row _ g _ _ _ _ h, hc]
 simp [hi]
theorem pss5 {u : World} {g : Nat} {T : TypeId} {fr : Nat × Nat} {x0 x1 x2 x3 x4 : Value} {p0 p1 p2 p3 p4 : List Int} (hg : u.heap[g]? = some (.cells #[x0, x1, x2, x3, x4] T fr)) (h0 : Bs u x0 p0) (h1 : Bs u x1 p1) (h2 : Bs u x2 p2) (h3 : Bs u x3 p3) (h4 : Bs u x4 p4) : Pss u (.slice (some ⟨g, 0, none⟩) 5 5) [p0, p1, p2, p3, p4] := by
 refine ⟨some ⟨g, 0, none⟩, 5, rfl, ⟨Nat.le_refl _, fun e => by cases e⟩, fun _ => ⟨g, 0, rfl, blk_lt hg, fun i hi => ?_⟩⟩
 rw [Nat.zero_add, cell_of_row _ g _ _ _ _ hg]
 match i, hi with
 | 0, _ => exact ⟨_, rfl, h0⟩
 | 1, _ => exact ⟨_, rfl, h1⟩
 | 2, _ => exact ⟨_, rfl, h2⟩
 | 3, _ => exact ⟨_, rfl, h3⟩
 | 4, _ => exact ⟨_, rfl, h4⟩
 | i + 5, hi => simp at hi; omega
/-- both digests stand in boxes -/
def TB (w : World) (dl dr : List Int) (g3 g4 : Nat) (u : World) : Prop := Below w.heap.size w u ∧ w.heap.size ≤ g3 ∧ w.heap.size ≤ g4 ∧ u.heap[g3]? = some (.cells (ArrU8 dl) 36 (0, 0)) ∧ u.heap[g4]? = some (.cells (ArrU8 dr) 36 (0, 0))
set_option maxRecDepth 100000 in
set_option maxHeartbeats 4000000 in
theorem ntext_blk {S : Nat → Prop} (w : World) (b : Nat) (kv lp rp : Value) (k : List Int) (n : Nat) (rk dg : List Int) (l r : MT) (pr : Bool) (h : w.heap[b]? = some (.cells (ndC kv n rk lp rp dg pr) 115 (0, 0))) (h1 : rk.length = 32)
  (hk : KIs w S kv k) (hl : MIs w S lp l) (hr : MIs w S rp r) (gl : l.Good) (gr : r.Good) (hK : KC w) (hkl : k.length ≤ 65535) (hn : n < 9223372036854775808) :
  Calls Tryd.prog 65 #[.pointer (some ⟨b, 0, none⟩)] w fun e w' => ∃ v', e = .returned v' ∧ KIs w' (fun b => w.heap.size ≤ b) v' (txtN k n l.dg r.dg) ∧ Below w.heap.size w w' := by
 have kc := fun (w : World) (C : Array Value) (n c : Nat) => Lib.run_convert_bytes_const (P := Tryd.prog) w 31 5 C n c Tryd.underlying31 Tryd.underlying5
 have c0 := (cell_of_row w b 0 _ _ _ h).trans ndC_0
 have c1 := (cell_of_row w b 1 _ _ _ h).trans ndC_1
 have c34 := (cell_of_row w b 34 _ _ _ h).trans (ndC_l h1)
 have c35 := (cell_of_row w b 35 _ _ _ h).trans (ndC_r h1)
 have hbl := blk_lt h
 have HSL := hid (fun u (hu : Below w.heap.size w u) => nsum_any u (hl.below hu) (hK.below hu hK.1))
 have HSR := hid (fun u (hu : Below w.heap.size w u) => nsum_any u (hr.below hu) (hK.below hu hK.1))
 have HDL := hid gl.dlen
 have HDR := hid gr.dlen
 have HZ3 := hid (sz32 _ gl.dlen)
 have HZ4 := hid (sz32 _ gr.dlen)
 have HI3 := hid (show (Tryd.prog.info? 36).map (·.size) = some (ArrU8 l.dg).size by rw [HZ3.out]; exact info_dg)
 have HI4 := hid (show (Tryd.prog.info? 36).map (·.size) = some (ArrU8 r.dg).size by rw [HZ4.out]; exact info_dg)
 have HC := hid (And.intro c0 (And.intro c1 (And.intro c34 c35)))
 have HK := hid (And.intro hk hkl)
 clear h hk hl hr gl gr hK
 generalize l.dg = dl at *
 generalize r.dg = dr at *
 go_enter Tryd.func65, Tryd.ntmps65
 go_wp2_with fail
 refine rest_first (fun _ b' u => ∃ g3 g4, b' = ⟨List.toArray (.pointer (some ⟨b, 0, none⟩) :: undef :: .slice none 0 0 :: .pointer (some ⟨g3, 0, none⟩) :: .pointer (some ⟨g4, 0, none⟩) :: .pointer (some ⟨b, 0, none⟩) :: .bool false :: undef :: undef :: undef :: undef :: .pointer (some ⟨b, 0, none⟩) :: .pointer (some ⟨b, 0, none⟩) :: .pointer (some ⟨b, 34, none⟩) :: lp :: .agg (ArrU8 dl) :: .pointer (some ⟨b, 0, none⟩) :: .pointer (some ⟨b, 0, none⟩) :: .pointer (some ⟨b, 35, none⟩) :: rp :: .agg (ArrU8 dr) :: undef :: undef :: undef :: undef :: undef :: undef :: undef :: undef :: undef :: undef :: undef :: undef :: undef :: undef :: undef :: undef :: undef :: undef :: undef :: []), []⟩ ∧ TB w dl dr g3 g4 u) ?_ ?_
 rotate_left
 ·intro K' hK'
  have hb : Below w.heap.size w w.drew := (Below.refl _ _).drew
  clear c0 c1 c34 c35
  refine wp_region_held_drew (S := fun u => Below w.heap.size w u) (by kernel_rfl) (hb) (fun hHeld => ?_)
  refine tk (i := 0) (oi := ⟨some 11, .move (.tmp 0), 68, "node.go:53", #[], none⟩) (v := ?_) (Or.inl ⟨by rfl, ?_⟩) ?_
  rotate_left 1
  ·(intro u hSw; go_simp; try with_reducible rfl)
  try simp only [Act.put, sA, sB, sC]
  refine tk (i := 1) (oi := ⟨some 12, .nilCheck (.tmp 11), 0, "node.go:53", #[⟨0, .data⟩], none⟩) (v := ?_) (Or.inl ⟨by rfl, ?_⟩) ?_
  rotate_left 1
  ·(intro u hSw; go_simp; try with_reducible rfl)
  try simp only [Act.put, sA, sB, sC]
  refine tk (i := 2) (oi := ⟨some 13, .fieldAddr 115 (.tmp 12) 1, 0, "node.go:53", #[⟨1, .data⟩], none⟩) (v := ?_) (Or.inl ⟨by rfl, ?_⟩) ?_
  rotate_left 1
  ·(intro u hSw; go_simp; try with_reducible rfl)
  try simp only [Act.put, sA, sB, sC]
  refine tk (i := 3) (oi := ⟨some 14, .load 68 (.tmp 13), 68, "node.go:53", #[⟨2, .data⟩], none⟩) (v := ?_) (Or.inl ⟨by rfl, ?_⟩) ?_
  rotate_left 1
  ·(intro u hSw; have c34 := (hSw.cell (p := ⟨b, 34, none⟩) hbl).trans HC.out.2.2.1; have c35 := (hSw.cell (p := ⟨b, 35, none⟩) hbl).trans HC.out.2.2.2; go_simp; try with_reducible rfl)
  try simp only [Act.put, sA, sB, sC]
  refine tk (i := 5) (oi := ⟨some 16, .move (.tmp 0), 68, "node.go:53", #[], none⟩) (v := ?_) (Or.inl ⟨by rfl, ?_⟩) ?_
  rotate_left 1
  ·(intro u hSw; go_simp; try with_reducible rfl)
  try simp only [Act.put, sA, sB, sC]
  refine tk (i := 6) (oi := ⟨some 17, .nilCheck (.tmp 16), 0, "node.go:53", #[⟨5, .data⟩], none⟩) (v := ?_) (Or.inl ⟨by rfl, ?_⟩) ?_
  rotate_left 1
  ·(intro u hSw; go_simp; try with_reducible rfl)
  try simp only [Act.put, sA, sB, sC]
  refine tk (i := 7) (oi := ⟨some 18, .fieldAddr 115 (.tmp 17) 2, 0, "node.go:53", #[⟨6, .data⟩], none⟩) (v := ?_) (Or.inl ⟨by rfl, ?_⟩) ?_
  rotate_left 1
  ·(intro u hSw; go_simp; try with_reducible rfl)
  try simp only [Act.put, sA, sB, sC]
  refine tk (i := 8) (oi := ⟨some 19, .load 68 (.tmp 18), 68, "node.go:53", #[⟨7, .data⟩], none⟩) (v := ?_) (Or.inl ⟨by rfl, ?_⟩) ?_
  rotate_left 1
  ·(intro u hSw; have c34 := (hSw.cell (p := ⟨b, 34, none⟩) hbl).trans HC.out.2.2.1; have c35 := (hSw.cell (p := ⟨b, 35, none⟩) hbl).trans HC.out.2.2.2; go_simp; try with_reducible rfl)
  try simp only [Act.put, sA, sB, sC]
  refine wpAnyH_ready (rs := [4, 10, 11]) (by kernel_rfl) (by simp) ?_
  refine (AllReadyH.cons (o := ⟨some 15, .call ⟨.value (.func 34), #[.tmp 14], #[68]⟩, 36, "node.go:53", #[⟨3, .data⟩], none⟩) rfl (fun K hK => ?_) (AllReadyH.cons (o := ⟨some 3, .alloc 36, 0, "node.go:53", #[], none⟩) rfl (fun K hK => ?_) (AllReadyH.cons (o := ⟨some 4, .alloc 36, 0, "node.go:53", #[], none⟩) rfl (fun K hK => ?_) AllReadyH.nil)))
  ·try (generalize World.drew w = ud at *)
   go_simp
   refine (HSL.out _ hb).mono ?_
   rintro e cu ⟨rfl, hb4⟩
   try (have h3 := (hb4.block _ (blk_lt h3)).trans h3)
   try (have h4 := (hb4.block _ (blk_lt h4)).trans h4)
   have hb := hb.trans (hb4.mono hb.size)
   clear hb4
   go_wp2_with fail
   refine hK.out _ _ hb (fun hHeld => ?_)
   clear hK K
   try simp only [Act.put, sA, sB, sC]
   refine wpAnyH_ready (rs := [9, 10, 11]) (by kernel_rfl) (by simp) ?_
   refine (AllReadyH.cons (o := ⟨some 20, .call ⟨.value (.func 34), #[.tmp 19], #[68]⟩, 36, "node.go:53", #[⟨8, .data⟩, ⟨4, .chain⟩], none⟩) rfl (fun K hK => ?_) (AllReadyH.cons (o := ⟨some 3, .alloc 36, 0, "node.go:53", #[], none⟩) rfl (fun K hK => ?_) (AllReadyH.cons (o := ⟨some 4, .alloc 36, 0, "node.go:53", #[], none⟩) rfl (fun K hK => ?_) AllReadyH.nil)))
   ·try (generalize World.drew w = ud at *)
    go_simp
    refine (HSR.out _ hb).mono ?_
    rintro e cu ⟨rfl, hb4⟩
    try (have h3 := (hb4.block _ (blk_lt h3)).trans h3)
    try (have h4 := (hb4.block _ (blk_lt h4)).trans h4)
    have hb := hb.trans (hb4.mono hb.size)
    clear hb4
    go_wp2_with fail
    refine hK.out _ _ hb (fun hHeld => ?_)
    clear hK K
    try simp only [Act.put, sA, sB, sC]
    refine wpAnyH_ready (rs := [10, 11]) (by kernel_rfl) (by simp) ?_
    refine (AllReadyH.cons (o := ⟨some 3, .alloc 36, 0, "node.go:53", #[], none⟩) rfl (fun K hK => ?_) (AllReadyH.cons (o := ⟨some 4, .alloc 36, 0, "node.go:53", #[], none⟩) rfl (fun K hK => ?_) AllReadyH.nil))
    ·try (generalize World.drew w = ud at *)
     go_simp
     refine al_step hb (fun nu hbn q3 old => ?_)
     have lo3 := hb.size
     try (have lt43 := blk_lt h4)
     try (have h4 := old _ _ h4)
     have h3 := q3
     have hb := hbn
     clear old hbn
     refine hK.out _ _ hb (fun hHeld => ?_)
     clear hK K
     try simp only [Act.put, sA, sB, sC]
     refine wpAnyH_ready (rs := [11]) (by kernel_rfl) (by simp) ?_
     refine (AllReadyH.cons (o := ⟨some 4, .alloc 36, 0, "node.go:53", #[], none⟩) rfl (fun K hK => ?_) AllReadyH.nil)
     try (generalize World.drew w = ud at *)
     go_simp
     refine al_step hb (fun nu hbn q4 old => ?_)
     have lo4 := hb.size
     try (have lt34 := blk_lt h3)
     try (have h3 := old _ _ h3)
     have h4 := q4
     have hb := hbn
     clear old hbn
     refine hK.out _ _ hb (fun hHeld => ?_)
     clear hK K
     try simp only [Act.put, sA, sB, sC]
     refine wpAnyH_ready (rs := [12]) (by kernel_rfl) (by simp) ?_
     refine (AllReadyH.cons (o := ⟨none, .store 36 (.tmp 3) (.tmp 15), 0, "node.go:53", #[⟨10, .data⟩, ⟨4, .data⟩, ⟨9, .chain⟩, ⟨0, .phase⟩, ⟨1, .phase⟩, ⟨2, .phase⟩, ⟨3, .phase⟩, ⟨4, .phase⟩, ⟨5, .textOnly Departure.lateStores⟩, ⟨6, .textOnly Departure.lateStoresUnsure⟩, ⟨7, .textOnly Departure.lateStoresUnsure⟩, ⟨8, .phase⟩, ⟨9, .phase⟩, ⟨10, .phase⟩, ⟨11, .phase⟩], none⟩) rfl (fun K hK => ?_) AllReadyH.nil)
     rw [if_pos (by rfl)]
     refine wp_store_row 36 (Operand.tmp 3) (Operand.tmp 15) rfl _ (ArrU8 dl) rfl rfl 36 _ h3 HI3.out (by rw [HZ3.out]; rfl) (ArrU8_one _) ?_
     have q3 := setRow_heap _ _ _ (ArrU8 dl) _ _ h3
     try (have h4 := st_other (d := ArrU8 dl) q3 h4 (by omega))
     have hb := below_setRow hb lo3 (ArrU8 dl)
     generalize World.setRow _ _ _ = nu at *
     have h3 := q3
     refine hK.out _ _ hb (fun hHeld => ?_)
     clear hK K
     try simp only [Act.put]
     refine wpAnyH_ready (rs := [13]) (by kernel_rfl) (by simp) ?_
     refine (AllReadyH.cons (o := ⟨none, .store 36 (.tmp 4) (.tmp 20), 0, "node.go:53", #[⟨11, .data⟩, ⟨9, .data⟩, ⟨12, .chain⟩, ⟨0, .phase⟩, ⟨1, .phase⟩, ⟨2, .phase⟩, ⟨3, .phase⟩, ⟨4, .phase⟩, ⟨5, .phase⟩, ⟨6, .phase⟩, ⟨7, .phase⟩, ⟨8, .phase⟩, ⟨9, .phase⟩, ⟨10, .phase⟩, ⟨11, .phase⟩, ⟨12, .phase⟩], none⟩) rfl (fun K hK => ?_) AllReadyH.nil)
     rw [if_pos (by rfl)]
     refine wp_store_row 36 (Operand.tmp 4) (Operand.tmp 20) rfl _ (ArrU8 dr) rfl rfl 36 _ h4 HI4.out (by rw [HZ4.out]; rfl) (ArrU8_one _) ?_
     have q4 := setRow_heap _ _ _ (ArrU8 dr) _ _ h4
     try (have h3 := st_other (d := ArrU8 dr) q4 h3 (by omega))
     have hb := below_setRow hb lo4 (ArrU8 dr)
     generalize World.setRow _ _ _ = nu at *
     have h4 := q4
     refine hK.out _ _ hb (fun hHeld => ?_)
     clear hK K
     try simp only [Act.put]
     refine wpAnyH_done (by kernel_rfl) ?_ _
     exact hK' _ _ ⟨_, _, rfl, hb, lo3, lo4, h3, h4⟩
    ·try (generalize World.drew w = ud at *)
     go_simp
     refine al_step hb (fun nu hbn q4 old => ?_)
     have lo4 := hb.size
     try (have lt34 := blk_lt h3)
     try (have h3 := old _ _ h3)
     have h4 := q4
     have hb := hbn
     clear old hbn
     refine hK.out _ _ hb (fun hHeld => ?_)
     clear hK K
     try simp only [Act.put, sA, sB, sC]
     refine wpAnyH_ready (rs := [10]) (by kernel_rfl) (by simp) ?_
     refine (AllReadyH.cons (o := ⟨some 3, .alloc 36, 0, "node.go:53", #[], none⟩) rfl (fun K hK => ?_) AllReadyH.nil)
     try (generalize World.drew w = ud at *)
     go_simp
     refine al_step hb (fun nu hbn q3 old => ?_)
     have lo3 := hb.size
     try (have lt43 := blk_lt h4)
     try (have h4 := old _ _ h4)
     have h3 := q3
     have hb := hbn
     clear old hbn
     refine hK.out _ _ hb (fun hHeld => ?_)
     clear hK K
     try simp only [Act.put, sA, sB, sC]
     refine wpAnyH_ready (rs := [12]) (by kernel_rfl) (by simp) ?_
     refine (AllReadyH.cons (o := ⟨none, .store 36 (.tmp 3) (.tmp 15), 0, "node.go:53", #[⟨10, .data⟩, ⟨4, .data⟩, ⟨9, .chain⟩, ⟨0, .phase⟩, ⟨1, .phase⟩, ⟨2, .phase⟩, ⟨3, .phase⟩, ⟨4, .phase⟩, ⟨5, .textOnly Departure.lateStores⟩, ⟨6, .textOnly Departure.lateStoresUnsure⟩, ⟨7, .textOnly Departure.lateStoresUnsure⟩, ⟨8, .phase⟩, ⟨9, .phase⟩, ⟨10, .phase⟩, ⟨11, .phase⟩], none⟩) rfl (fun K hK => ?_) AllReadyH.nil)
     rw [if_pos (by rfl)]
     refine wp_store_row 36 (Operand.tmp 3) (Operand.tmp 15) rfl _ (ArrU8 dl) rfl rfl 36 _ h3 HI3.out (by rw [HZ3.out]; rfl) (ArrU8_one _) ?_
     have q3 := setRow_heap _ _ _ (ArrU8 dl) _ _ h3
     try (have h4 := st_other (d := ArrU8 dl) q3 h4 (by omega))
     have hb := below_setRow hb lo3 (ArrU8 dl)
     generalize World.setRow _ _ _ = nu at *
     have h3 := q3
     refine hK.out _ _ hb (fun hHeld => ?_)
     clear hK K
     try simp only [Act.put]
     refine wpAnyH_ready (rs := [13]) (by kernel_rfl) (by simp) ?_
     refine (AllReadyH.cons (o := ⟨none, .store 36 (.tmp 4) (.tmp 20), 0, "node.go:53", #[⟨11, .data⟩, ⟨9, .data⟩, ⟨12, .chain⟩, ⟨0, .phase⟩, ⟨1, .phase⟩, ⟨2, .phase⟩, ⟨3, .phase⟩, ⟨4, .phase⟩, ⟨5, .phase⟩, ⟨6, .phase⟩, ⟨7, .phase⟩, ⟨8, .phase⟩, ⟨9, .phase⟩, ⟨10, .phase⟩, ⟨11, .phase⟩, ⟨12, .phase⟩], none⟩) rfl (fun K hK => ?_) AllReadyH.nil)
     rw [if_pos (by rfl)]
     refine wp_store_row 36 (Operand.tmp 4) (Operand.tmp 20) rfl _ (ArrU8 dr) rfl rfl 36 _ h4 HI4.out (by rw [HZ4.out]; rfl) (ArrU8_one _) ?_
     have q4 := setRow_heap _ _ _ (ArrU8 dr) _ _ h4
     try (have h3 := st_other (d := ArrU8 dr) q4 h3 (by omega))
     have hb := below_setRow hb lo4 (ArrU8 dr)
     generalize World.setRow _ _ _ = nu at *
     have h4 := q4
     refine hK.out _ _ hb (fun hHeld => ?_)
     clear hK K
     try simp only [Act.put]
     refine wpAnyH_done (by kernel_rfl) ?_ _
     exact hK' _ _ ⟨_, _, rfl, hb, lo3, lo4, h3, h4⟩
   ·try (generalize World.drew w = ud at *)
    go_simp
    refine al_step hb (fun nu hbn q3 old => ?_)
    have lo3 := hb.size
    try (have lt43 := blk_lt h4)
    try (have h4 := old _ _ h4)
    have h3 := q3
    have hb := hbn
    clear old hbn
    refine hK.out _ _ hb (fun hHeld => ?_)
    clear hK K
    try simp only [Act.put, sA, sB, sC]
    refine wpAnyH_ready (rs := [9, 11]) (by kernel_rfl) (by simp) ?_
    refine (AllReadyH.cons (o := ⟨some 20, .call ⟨.value (.func 34), #[.tmp 19], #[68]⟩, 36, "node.go:53", #[⟨8, .data⟩, ⟨4, .chain⟩], none⟩) rfl (fun K hK => ?_) (AllReadyH.cons (o := ⟨some 4, .alloc 36, 0, "node.go:53", #[], none⟩) rfl (fun K hK => ?_) AllReadyH.nil))
    ·try (generalize World.drew w = ud at *)
     go_simp
     refine (HSR.out _ hb).mono ?_
     rintro e cu ⟨rfl, hb4⟩
     try (have h3 := (hb4.block _ (blk_lt h3)).trans h3)
     try (have h4 := (hb4.block _ (blk_lt h4)).trans h4)
     have hb := hb.trans (hb4.mono hb.size)
     clear hb4
     go_wp2_with fail
     refine hK.out _ _ hb (fun hHeld => ?_)
     clear hK K
     try simp only [Act.put, sA, sB, sC]
     refine wpAnyH_ready (rs := [11]) (by kernel_rfl) (by simp) ?_
     refine (AllReadyH.cons (o := ⟨some 4, .alloc 36, 0, "node.go:53", #[], none⟩) rfl (fun K hK => ?_) AllReadyH.nil)
     try (generalize World.drew w = ud at *)
     go_simp
     refine al_step hb (fun nu hbn q4 old => ?_)
     have lo4 := hb.size
     try (have lt34 := blk_lt h3)
     try (have h3 := old _ _ h3)
     have h4 := q4
     have hb := hbn
     clear old hbn
     refine hK.out _ _ hb (fun hHeld => ?_)
     clear hK K
     try simp only [Act.put, sA, sB, sC]
     refine wpAnyH_ready (rs := [12]) (by kernel_rfl) (by simp) ?_
     refine (AllReadyH.cons (o := ⟨none, .store 36 (.tmp 3) (.tmp 15), 0, "node.go:53", #[⟨10, .data⟩, ⟨4, .data⟩, ⟨9, .chain⟩, ⟨0, .phase⟩, ⟨1, .phase⟩, ⟨2, .phase⟩, ⟨3, .phase⟩, ⟨4, .phase⟩, ⟨5, .textOnly Departure.lateStores⟩, ⟨6, .textOnly Departure.lateStoresUnsure⟩, ⟨7, .textOnly Departure.lateStoresUnsure⟩, ⟨8, .phase⟩, ⟨9, .phase⟩, ⟨10, .phase⟩, ⟨11, .phase⟩], none⟩) rfl (fun K hK => ?_) AllReadyH.nil)
     rw [if_pos (by rfl)]
     refine wp_store_row 36 (Operand.tmp 3) (Operand.tmp 15) rfl _ (ArrU8 dl) rfl rfl 36 _ h3 HI3.out (by rw [HZ3.out]; rfl) (ArrU8_one _) ?_
     have q3 := setRow_heap _ _ _ (ArrU8 dl) _ _ h3
     try (have h4 := st_other (d := ArrU8 dl) q3 h4 (by omega))
     have hb := below_setRow hb lo3 (ArrU8 dl)
     generalize World.setRow _ _ _ = nu at *
     have h3 := q3
     refine hK.out _ _ hb (fun hHeld => ?_)
     clear hK K
     try simp only [Act.put]
     refine wpAnyH_ready (rs := [13]) (by kernel_rfl) (by simp) ?_
     refine (AllReadyH.cons (o := ⟨none, .store 36 (.tmp 4) (.tmp 20), 0, "node.go:53", #[⟨11, .data⟩, ⟨9, .data⟩, ⟨12, .chain⟩, ⟨0, .phase⟩, ⟨1, .phase⟩, ⟨2, .phase⟩, ⟨3, .phase⟩, ⟨4, .phase⟩, ⟨5, .phase⟩, ⟨6, .phase⟩, ⟨7, .phase⟩, ⟨8, .phase⟩, ⟨9, .phase⟩, ⟨10, .phase⟩, ⟨11, .phase⟩, ⟨12, .phase⟩], none⟩) rfl (fun K hK => ?_) AllReadyH.nil)
     rw [if_pos (by rfl)]
     refine wp_store_row 36 (Operand.tmp 4) (Operand.tmp 20) rfl _ (ArrU8 dr) rfl rfl 36 _ h4 HI4.out (by rw [HZ4.out]; rfl) (ArrU8_one _) ?_
     have q4 := setRow_heap _ _ _ (ArrU8 dr) _ _ h4
     try (have h3 := st_other (d := ArrU8 dr) q4 h3 (by omega))
     have hb := below_setRow hb lo4 (ArrU8 dr)
     generalize World.setRow _ _ _ = nu at *
     have h4 := q4
     refine hK.out _ _ hb (fun hHeld => ?_)
     clear hK K
     try simp only [Act.put]
     refine wpAnyH_done (by kernel_rfl) ?_ _
     exact hK' _ _ ⟨_, _, rfl, hb, lo3, lo4, h3, h4⟩
    ·try (generalize World.drew w = ud at *)
     go_simp
     refine al_step hb (fun nu hbn q4 old => ?_)
     have lo4 := hb.size
     try (have lt34 := blk_lt h3)
     try (have h3 := old _ _ h3)
     have h4 := q4
     have hb := hbn
     clear old hbn
     refine hK.out _ _ hb (fun hHeld => ?_)
     clear hK K
     try simp only [Act.put, sA, sB, sC]
     refine wpAnyH_ready (rs := [9]) (by kernel_rfl) (by simp) ?_
     refine (AllReadyH.cons (o := ⟨some 20, .call ⟨.value (.func 34), #[.tmp 19], #[68]⟩, 36, "node.go:53", #[⟨8, .data⟩, ⟨4, .chain⟩], none⟩) rfl (fun K hK => ?_) AllReadyH.nil)
     try (generalize World.drew w = ud at *)
     go_simp
     refine (HSR.out _ hb).mono ?_
     rintro e cu ⟨rfl, hb4⟩
     try (have h3 := (hb4.block _ (blk_lt h3)).trans h3)
     try (have h4 := (hb4.block _ (blk_lt h4)).trans h4)
     have hb := hb.trans (hb4.mono hb.size)
     clear hb4
     go_wp2_with fail
     refine hK.out _ _ hb (fun hHeld => ?_)
     clear hK K
     try simp only [Act.put, sA, sB, sC]
     refine wpAnyH_ready (rs := [12]) (by kernel_rfl) (by simp) ?_
     refine (AllReadyH.cons (o := ⟨none, .store 36 (.tmp 3) (.tmp 15), 0, "node.go:53", #[⟨10, .data⟩, ⟨4, .data⟩, ⟨9, .chain⟩, ⟨0, .phase⟩, ⟨1, .phase⟩, ⟨2, .phase⟩, ⟨3, .phase⟩, ⟨4, .phase⟩, ⟨5, .textOnly Departure.lateStores⟩, ⟨6, .textOnly Departure.lateStoresUnsure⟩, ⟨7, .textOnly Departure.lateStoresUnsure⟩, ⟨8, .phase⟩, ⟨9, .phase⟩, ⟨10, .phase⟩, ⟨11, .phase⟩], none⟩) rfl (fun K hK => ?_) AllReadyH.nil)
     rw [if_pos (by rfl)]
     refine wp_store_row 36 (Operand.tmp 3) (Operand.tmp 15) rfl _ (ArrU8 dl) rfl rfl 36 _ h3 HI3.out (by rw [HZ3.out]; rfl) (ArrU8_one _) ?_
     have q3 := setRow_heap _ _ _ (ArrU8 dl) _ _ h3
     try (have h4 := st_other (d := ArrU8 dl) q3 h4 (by omega))
     have hb := below_setRow hb lo3 (ArrU8 dl)
     generalize World.setRow _ _ _ = nu at *
     have h3 := q3
     refine hK.out _ _ hb (fun hHeld => ?_)
     clear hK K
     try simp only [Act.put]
     refine wpAnyH_ready (rs := [13]) (by kernel_rfl) (by simp) ?_
     refine (AllReadyH.cons (o := ⟨none, .store 36 (.tmp 4) (.tmp 20), 0, "node.go:53", #[⟨11, .data⟩, ⟨9, .data⟩, ⟨12, .chain⟩, ⟨0, .phase⟩, ⟨1, .phase⟩, ⟨2, .phase⟩, ⟨3, .phase⟩, ⟨4, .phase⟩, ⟨5, .phase⟩, ⟨6, .phase⟩, ⟨7, .phase⟩, ⟨8, .phase⟩, ⟨9, .phase⟩, ⟨10, .phase⟩, ⟨11, .phase⟩, ⟨12, .phase⟩], none⟩) rfl (fun K hK => ?_) AllReadyH.nil)
     rw [if_pos (by rfl)]
     refine wp_store_row 36 (Operand.tmp 4) (Operand.tmp 20) rfl _ (ArrU8 dr) rfl rfl 36 _ h4 HI4.out (by rw [HZ4.out]; rfl) (ArrU8_one _) ?_
     have q4 := setRow_heap _ _ _ (ArrU8 dr) _ _ h4
     try (have h3 := st_other (d := ArrU8 dr) q4 h3 (by omega))
     have hb := below_setRow hb lo4 (ArrU8 dr)
     generalize World.setRow _ _ _ = nu at *
     have h4 := q4
     refine hK.out _ _ hb (fun hHeld => ?_)
     clear hK K
     try simp only [Act.put]
     refine wpAnyH_done (by kernel_rfl) ?_ _
     exact hK' _ _ ⟨_, _, rfl, hb, lo3, lo4, h3, h4⟩
   ·try (generalize World.drew w = ud at *)
    go_simp
    refine al_step hb (fun nu hbn q4 old => ?_)
    have lo4 := hb.size
    try (have lt34 := blk_lt h3)
    try (have h3 := old _ _ h3)
    have h4 := q4
    have hb := hbn
    clear old hbn
    refine hK.out _ _ hb (fun hHeld => ?_)
    clear hK K
    try simp only [Act.put, sA, sB, sC]
    refine wpAnyH_ready (rs := [9, 10]) (by kernel_rfl) (by simp) ?_
    refine (AllReadyH.cons (o := ⟨some 20, .call ⟨.value (.func 34), #[.tmp 19], #[68]⟩, 36, "node.go:53", #[⟨8, .data⟩, ⟨4, .chain⟩], none⟩) rfl (fun K hK => ?_) (AllReadyH.cons (o := ⟨some 3, .alloc 36, 0, "node.go:53", #[], none⟩) rfl (fun K hK => ?_) AllReadyH.nil))
    ·try (generalize World.drew w = ud at *)
     go_simp
     refine (HSR.out _ hb).mono ?_
     rintro e cu ⟨rfl, hb4⟩
     try (have h3 := (hb4.block _ (blk_lt h3)).trans h3)
     try (have h4 := (hb4.block _ (blk_lt h4)).trans h4)
     have hb := hb.trans (hb4.mono hb.size)
     clear hb4
     go_wp2_with fail
     refine hK.out _ _ hb (fun hHeld => ?_)
     clear hK K
     try simp only [Act.put, sA, sB, sC]
     refine wpAnyH_ready (rs := [10]) (by kernel_rfl) (by simp) ?_
     refine (AllReadyH.cons (o := ⟨some 3, .alloc 36, 0, "node.go:53", #[], none⟩) rfl (fun K hK => ?_) AllReadyH.nil)
     try (generalize World.drew w = ud at *)
     go_simp
     refine al_step hb (fun nu hbn q3 old => ?_)
     have lo3 := hb.size
     try (have lt43 := blk_lt h4)
     try (have h4 := old _ _ h4)
     have h3 := q3
     have hb := hbn
     clear old hbn
     refine hK.out _ _ hb (fun hHeld => ?_)
     clear hK K
     try simp only [Act.put, sA, sB, sC]
     refine wpAnyH_ready (rs := [12]) (by kernel_rfl) (by simp) ?_
     refine (AllReadyH.cons (o := ⟨none, .store 36 (.tmp 3) (.tmp 15), 0, "node.go:53", #[⟨10, .data⟩, ⟨4, .data⟩, ⟨9, .chain⟩, ⟨0, .phase⟩, ⟨1, .phase⟩, ⟨2, .phase⟩, ⟨3, .phase⟩, ⟨4, .phase⟩, ⟨5, .textOnly Departure.lateStores⟩, ⟨6, .textOnly Departure.lateStoresUnsure⟩, ⟨7, .textOnly Departure.lateStoresUnsure⟩, ⟨8, .phase⟩, ⟨9, .phase⟩, ⟨10, .phase⟩, ⟨11, .phase⟩], none⟩) rfl (fun K hK => ?_) AllReadyH.nil)
     rw [if_pos (by rfl)]
     refine wp_store_row 36 (Operand.tmp 3) (Operand.tmp 15) rfl _ (ArrU8 dl) rfl rfl 36 _ h3 HI3.out (by rw [HZ3.out]; rfl) (ArrU8_one _) ?_
     have q3 := setRow_heap _ _ _ (ArrU8 dl) _ _ h3
     try (have h4 := st_other (d := ArrU8 dl) q3 h4 (by omega))
     have hb := below_setRow hb lo3 (ArrU8 dl)
     generalize World.setRow _ _ _ = nu at *
     have h3 := q3
     refine hK.out _ _ hb (fun hHeld => ?_)
     clear hK K
     try simp only [Act.put]
     refine wpAnyH_ready (rs := [13]) (by kernel_rfl) (by simp) ?_
     refine (AllReadyH.cons (o := ⟨none, .store 36 (.tmp 4) (.tmp 20), 0, "node.go:53", #[⟨11, .data⟩, ⟨9, .data⟩, ⟨12, .chain⟩, ⟨0, .phase⟩, ⟨1, .phase⟩, ⟨2, .phase⟩, ⟨3, .phase⟩, ⟨4, .phase⟩, ⟨5, .phase⟩, ⟨6, .phase⟩, ⟨7, .phase⟩, ⟨8, .phase⟩, ⟨9, .phase⟩, ⟨10, .phase⟩, ⟨11, .phase⟩, ⟨12, .phase⟩], none⟩) rfl (fun K hK => ?_) AllReadyH.nil)
     rw [if_pos (by rfl)]
     refine wp_store_row 36 (Operand.tmp 4) (Operand.tmp 20) rfl _ (ArrU8 dr) rfl rfl 36 _ h4 HI4.out (by rw [HZ4.out]; rfl) (ArrU8_one _) ?_
     have q4 := setRow_heap _ _ _ (ArrU8 dr) _ _ h4
     try (have h3 := st_other (d := ArrU8 dr) q4 h3 (by omega))
     have hb := below_setRow hb lo4 (ArrU8 dr)
     generalize World.setRow _ _ _ = nu at *
     have h4 := q4
     refine hK.out _ _ hb (fun hHeld => ?_)
     clear hK K
     try simp only [Act.put]
     refine wpAnyH_done (by kernel_rfl) ?_ _
     exact hK' _ _ ⟨_, _, rfl, hb, lo3, lo4, h3, h4⟩
    ·try (generalize World.drew w = ud at *)
     go_simp
     refine al_step hb (fun nu hbn q3 old => ?_)
     have lo3 := hb.size
     try (have lt43 := blk_lt h4)
     try (have h4 := old _ _ h4)
     have h3 := q3
     have hb := hbn
     clear old hbn
     refine hK.out _ _ hb (fun hHeld => ?_)
     clear hK K
     try simp only [Act.put, sA, sB, sC]
     refine wpAnyH_ready (rs := [9]) (by kernel_rfl) (by simp) ?_
     refine (AllReadyH.cons (o := ⟨some 20, .call ⟨.value (.func 34), #[.tmp 19], #[68]⟩, 36, "node.go:53", #[⟨8, .data⟩, ⟨4, .chain⟩], none⟩) rfl (fun K hK => ?_) AllReadyH.nil)
     try (generalize World.drew w = ud at *)
     go_simp
     refine (HSR.out _ hb).mono ?_
     rintro e cu ⟨rfl, hb4⟩
     try (have h3 := (hb4.block _ (blk_lt h3)).trans h3)
     try (have h4 := (hb4.block _ (blk_lt h4)).trans h4)
     have hb := hb.trans (hb4.mono hb.size)
     clear hb4
     go_wp2_with fail
     refine hK.out _ _ hb (fun hHeld => ?_)
     clear hK K
     try simp only [Act.put, sA, sB, sC]
     refine wpAnyH_ready (rs := [12]) (by kernel_rfl) (by simp) ?_
     refine (AllReadyH.cons (o := ⟨none, .store 36 (.tmp 3) (.tmp 15), 0, "node.go:53", #[⟨10, .data⟩, ⟨4, .data⟩, ⟨9, .chain⟩, ⟨0, .phase⟩, ⟨1, .phase⟩, ⟨2, .phase⟩, ⟨3, .phase⟩, ⟨4, .phase⟩, ⟨5, .textOnly Departure.lateStores⟩, ⟨6, .textOnly Departure.lateStoresUnsure⟩, ⟨7, .textOnly Departure.lateStoresUnsure⟩, ⟨8, .phase⟩, ⟨9, .phase⟩, ⟨10, .phase⟩, ⟨11, .phase⟩], none⟩) rfl (fun K hK => ?_) AllReadyH.nil)
     rw [if_pos (by rfl)]
     refine wp_store_row 36 (Operand.tmp 3) (Operand.tmp 15) rfl _ (ArrU8 dl) rfl rfl 36 _ h3 HI3.out (by rw [HZ3.out]; rfl) (ArrU8_one _) ?_
     have q3 := setRow_heap _ _ _ (ArrU8 dl) _ _ h3
     try (have h4 := st_other (d := ArrU8 dl) q3 h4 (by omega))
     have hb := below_setRow hb lo3 (ArrU8 dl)
     generalize World.setRow _ _ _ = nu at *
     have h3 := q3
     refine hK.out _ _ hb (fun hHeld => ?_)
     clear hK K
     try simp only [Act.put]
     refine wpAnyH_ready (rs := [13]) (by kernel_rfl) (by simp) ?_
     refine (AllReadyH.cons (o := ⟨none, .store 36 (.tmp 4) (.tmp 20), 0, "node.go:53", #[⟨11, .data⟩, ⟨9, .data⟩, ⟨12, .chain⟩, ⟨0, .phase⟩, ⟨1, .phase⟩, ⟨2, .phase⟩, ⟨3, .phase⟩, ⟨4, .phase⟩, ⟨5, .phase⟩, ⟨6, .phase⟩, ⟨7, .phase⟩, ⟨8, .phase⟩, ⟨9, .phase⟩, ⟨10, .phase⟩, ⟨11, .phase⟩, ⟨12, .phase⟩], none⟩) rfl (fun K hK => ?_) AllReadyH.nil)
     rw [if_pos (by rfl)]
     refine wp_store_row 36 (Operand.tmp 4) (Operand.tmp 20) rfl _ (ArrU8 dr) rfl rfl 36 _ h4 HI4.out (by rw [HZ4.out]; rfl) (ArrU8_one _) ?_
     have q4 := setRow_heap _ _ _ (ArrU8 dr) _ _ h4
     try (have h3 := st_other (d := ArrU8 dr) q4 h3 (by omega))
     have hb := below_setRow hb lo4 (ArrU8 dr)
     generalize World.setRow _ _ _ = nu at *
     have h4 := q4
     refine hK.out _ _ hb (fun hHeld => ?_)
     clear hK K
     try simp only [Act.put]
     refine wpAnyH_done (by kernel_rfl) ?_ _
     exact hK' _ _ ⟨_, _, rfl, hb, lo3, lo4, h3, h4⟩
  ·try (generalize World.drew w = ud at *)
   go_simp
   refine al_step hb (fun nu hbn q3 old => ?_)
   have lo3 := hb.size
   try (have lt43 := blk_lt h4)
   try (have h4 := old _ _ h4)
   have h3 := q3
   have hb := hbn
   clear old hbn
   refine hK.out _ _ hb (fun hHeld => ?_)
   clear hK K
   try simp only [Act.put, sA, sB, sC]
   refine wpAnyH_ready (rs := [4, 11]) (by kernel_rfl) (by simp) ?_
   refine (AllReadyH.cons (o := ⟨some 15, .call ⟨.value (.func 34), #[.tmp 14], #[68]⟩, 36, "node.go:53", #[⟨3, .data⟩], none⟩) rfl (fun K hK => ?_) (AllReadyH.cons (o := ⟨some 4, .alloc 36, 0, "node.go:53", #[], none⟩) rfl (fun K hK => ?_) AllReadyH.nil))
   ·try (generalize World.drew w = ud at *)
    go_simp
    refine (HSL.out _ hb).mono ?_
    rintro e cu ⟨rfl, hb4⟩
    try (have h3 := (hb4.block _ (blk_lt h3)).trans h3)
    try (have h4 := (hb4.block _ (blk_lt h4)).trans h4)
    have hb := hb.trans (hb4.mono hb.size)
    clear hb4
    go_wp2_with fail
    refine hK.out _ _ hb (fun hHeld => ?_)
    clear hK K
    try simp only [Act.put, sA, sB, sC]
    refine wpAnyH_ready (rs := [9, 11]) (by kernel_rfl) (by simp) ?_
    refine (AllReadyH.cons (o := ⟨some 20, .call ⟨.value (.func 34), #[.tmp 19], #[68]⟩, 36, "node.go:53", #[⟨8, .data⟩, ⟨4, .chain⟩], none⟩) rfl (fun K hK => ?_) (AllReadyH.cons (o := ⟨some 4, .alloc 36, 0, "node.go:53", #[], none⟩) rfl (fun K hK => ?_) AllReadyH.nil))
    ·try (generalize World.drew w = ud at *)
     go_simp
     refine (HSR.out _ hb).mono ?_
     rintro e cu ⟨rfl, hb4⟩
     try (have h3 := (hb4.block _ (blk_lt h3)).trans h3)
     try (have h4 := (hb4.block _ (blk_lt h4)).trans h4)
     have hb := hb.trans (hb4.mono hb.size)
     clear hb4
     go_wp2_with fail
     refine hK.out _ _ hb (fun hHeld => ?_)
     clear hK K
     try simp only [Act.put, sA, sB, sC]
     refine wpAnyH_ready (rs := [11]) (by kernel_rfl) (by simp) ?_
     refine (AllReadyH.cons (o := ⟨some 4, .alloc 36, 0, "node.go:53", #[], none⟩) rfl (fun K hK => ?_) AllReadyH.nil)
     try (generalize World.drew w = ud at *)
     go_simp
     refine al_step hb (fun nu hbn q4 old => ?_)
     have lo4 := hb.size
     try (have lt34 := blk_lt h3)
     try (have h3 := old _ _ h3)
     have h4 := q4
     have hb := hbn
     clear old hbn
     refine hK.out _ _ hb (fun hHeld => ?_)
     clear hK K
     try simp only [Act.put, sA, sB, sC]
     refine wpAnyH_ready (rs := [12]) (by kernel_rfl) (by simp) ?_
     refine (AllReadyH.cons (o := ⟨none, .store 36 (.tmp 3) (.tmp 15), 0, "node.go:53", #[⟨10, .data⟩, ⟨4, .data⟩, ⟨9, .chain⟩, ⟨0, .phase⟩, ⟨1, .phase⟩, ⟨2, .phase⟩, ⟨3, .phase⟩, ⟨4, .phase⟩, ⟨5, .textOnly Departure.lateStores⟩, ⟨6, .textOnly Departure.lateStoresUnsure⟩, ⟨7, .textOnly Departure.lateStoresUnsure⟩, ⟨8, .phase⟩, ⟨9, .phase⟩, ⟨10, .phase⟩, ⟨11, .phase⟩], none⟩) rfl (fun K hK => ?_) AllReadyH.nil)
     rw [if_pos (by rfl)]
     refine wp_store_row 36 (Operand.tmp 3) (Operand.tmp 15) rfl _ (ArrU8 dl) rfl rfl 36 _ h3 HI3.out (by rw [HZ3.out]; rfl) (ArrU8_one _) ?_
     have q3 := setRow_heap _ _ _ (ArrU8 dl) _ _ h3
     try (have h4 := st_other (d := ArrU8 dl) q3 h4 (by omega))
     have hb := below_setRow hb lo3 (ArrU8 dl)
     generalize World.setRow _ _ _ = nu at *
     have h3 := q3
     refine hK.out _ _ hb (fun hHeld => ?_)
     clear hK K
     try simp only [Act.put]
     refine wpAnyH_ready (rs := [13]) (by kernel_rfl) (by simp) ?_
     refine (AllReadyH.cons (o := ⟨none, .store 36 (.tmp 4) (.tmp 20), 0, "node.go:53", #[⟨11, .data⟩, ⟨9, .data⟩, ⟨12, .chain⟩, ⟨0, .phase⟩, ⟨1, .phase⟩, ⟨2, .phase⟩, ⟨3, .phase⟩, ⟨4, .phase⟩, ⟨5, .phase⟩, ⟨6, .phase⟩, ⟨7, .phase⟩, ⟨8, .phase⟩, ⟨9, .phase⟩, ⟨10, .phase⟩, ⟨11, .phase⟩, ⟨12, .phase⟩], none⟩) rfl (fun K hK => ?_) AllReadyH.nil)
     rw [if_pos (by rfl)]
     refine wp_store_row 36 (Operand.tmp 4) (Operand.tmp 20) rfl _ (ArrU8 dr) rfl rfl 36 _ h4 HI4.out (by rw [HZ4.out]; rfl) (ArrU8_one _) ?_
     have q4 := setRow_heap _ _ _ (ArrU8 dr) _ _ h4
     try (have h3 := st_other (d := ArrU8 dr) q4 h3 (by omega))
     have hb := below_setRow hb lo4 (ArrU8 dr)
     generalize World.setRow _ _ _ = nu at *
     have h4 := q4
     refine hK.out _ _ hb (fun hHeld => ?_)
     clear hK K
     try simp only [Act.put]
     refine wpAnyH_done (by kernel_rfl) ?_ _
     exact hK' _ _ ⟨_, _, rfl, hb, lo3, lo4, h3, h4⟩
    ·try (generalize World.drew w = ud at *)
     go_simp
     refine al_step hb (fun nu hbn q4 old => ?_)
     have lo4 := hb.size
     try (have lt34 := blk_lt h3)
     try (have h3 := old _ _ h3)
     have h4 := q4
     have hb := hbn
     clear old hbn
     refine hK.out _ _ hb (fun hHeld => ?_)
     clear hK K
     try simp only [Act.put, sA, sB, sC]
     refine wpAnyH_ready (rs := [9]) (by kernel_rfl) (by simp) ?_
     refine (AllReadyH.cons (o := ⟨some 20, .call ⟨.value (.func 34), #[.tmp 19], #[68]⟩, 36, "node.go:53", #[⟨8, .data⟩, ⟨4, .chain⟩], none⟩) rfl (fun K hK => ?_) AllReadyH.nil)
     try (generalize World.drew w = ud at *)
     go_simp
     refine (HSR.out _ hb).mono ?_
     rintro e cu ⟨rfl, hb4⟩
     try (have h3 := (hb4.block _ (blk_lt h3)).trans h3)
     try (have h4 := (hb4.block _ (blk_lt h4)).trans h4)
     have hb := hb.trans (hb4.mono hb.size)
     clear hb4
     go_wp2_with fail
     refine hK.out _ _ hb (fun hHeld => ?_)
     clear hK K
     try simp only [Act.put, sA, sB, sC]
     refine wpAnyH_ready (rs := [12]) (by kernel_rfl) (by simp) ?_
     refine (AllReadyH.cons (o := ⟨none, .store 36 (.tmp 3) (.tmp 15), 0, "node.go:53", #[⟨10, .data⟩, ⟨4, .data⟩, ⟨9, .chain⟩, ⟨0, .phase⟩, ⟨1, .phase⟩, ⟨2, .phase⟩, ⟨3, .phase⟩, ⟨4, .phase⟩, ⟨5, .textOnly Departure.lateStores⟩, ⟨6, .textOnly Departure.lateStoresUnsure⟩, ⟨7, .textOnly Departure.lateStoresUnsure⟩, ⟨8, .phase⟩, ⟨9, .phase⟩, ⟨10, .phase⟩, ⟨11, .phase⟩], none⟩) rfl (fun K hK => ?_) AllReadyH.nil)
     rw [if_pos (by rfl)]
     refine wp_store_row 36 (Operand.tmp 3) (Operand.tmp 15) rfl _ (ArrU8 dl) rfl rfl 36 _ h3 HI3.out (by rw [HZ3.out]; rfl) (ArrU8_one _) ?_
     have q3 := setRow_heap _ _ _ (ArrU8 dl) _ _ h3
     try (have h4 := st_other (d := ArrU8 dl) q3 h4 (by omega))
     have hb := below_setRow hb lo3 (ArrU8 dl)
     generalize World.setRow _ _ _ = nu at *
     have h3 := q3
     refine hK.out _ _ hb (fun hHeld => ?_)
     clear hK K
     try simp only [Act.put]
     refine wpAnyH_ready (rs := [13]) (by kernel_rfl) (by simp) ?_
     refine (AllReadyH.cons (o := ⟨none, .store 36 (.tmp 4) (.tmp 20), 0, "node.go:53", #[⟨11, .data⟩, ⟨9, .data⟩, ⟨12, .chain⟩, ⟨0, .phase⟩, ⟨1, .phase⟩, ⟨2, .phase⟩, ⟨3, .phase⟩, ⟨4, .phase⟩, ⟨5, .phase⟩, ⟨6, .phase⟩, ⟨7, .phase⟩, ⟨8, .phase⟩, ⟨9, .phase⟩, ⟨10, .phase⟩, ⟨11, .phase⟩, ⟨12, .phase⟩], none⟩) rfl (fun K hK => ?_) AllReadyH.nil)
     rw [if_pos (by rfl)]
     refine wp_store_row 36 (Operand.tmp 4) (Operand.tmp 20) rfl _ (ArrU8 dr) rfl rfl 36 _ h4 HI4.out (by rw [HZ4.out]; rfl) (ArrU8_one _) ?_
     have q4 := setRow_heap _ _ _ (ArrU8 dr) _ _ h4
     try (have h3 := st_other (d := ArrU8 dr) q4 h3 (by omega))
     have hb := below_setRow hb lo4 (ArrU8 dr)
     generalize World.setRow _ _ _ = nu at *
     have h4 := q4
     refine hK.out _ _ hb (fun hHeld => ?_)
     clear hK K
     try simp only [Act.put]
     refine wpAnyH_done (by kernel_rfl) ?_ _
     exact hK' _ _ ⟨_, _, rfl, hb, lo3, lo4, h3, h4⟩
   ·try (generalize World.drew w = ud at *)
    go_simp
    refine al_step hb (fun nu hbn q4 old => ?_)
    have lo4 := hb.size
    try (have lt34 := blk_lt h3)
    try (have h3 := old _ _ h3)
    have h4 := q4
    have hb := hbn
    clear old hbn
    refine hK.out _ _ hb (fun hHeld => ?_)
    clear hK K
    try simp only [Act.put, sA, sB, sC]
    refine wpAnyH_ready (rs := [4]) (by kernel_rfl) (by simp) ?_
    refine (AllReadyH.cons (o := ⟨some 15, .call ⟨.value (.func 34), #[.tmp 14], #[68]⟩, 36, "node.go:53", #[⟨3, .data⟩], none⟩) rfl (fun K hK => ?_) AllReadyH.nil)
    try (generalize World.drew w = ud at *)
    go_simp
    refine (HSL.out _ hb).mono ?_
    rintro e cu ⟨rfl, hb4⟩
    try (have h3 := (hb4.block _ (blk_lt h3)).trans h3)
    try (have h4 := (hb4.block _ (blk_lt h4)).trans h4)
    have hb := hb.trans (hb4.mono hb.size)
    clear hb4
    go_wp2_with fail
    refine hK.out _ _ hb (fun hHeld => ?_)
    clear hK K
    try simp only [Act.put, sA, sB, sC]
    refine wpAnyH_ready (rs := [9]) (by kernel_rfl) (by simp) ?_
    refine (AllReadyH.cons (o := ⟨some 20, .call ⟨.value (.func 34), #[.tmp 19], #[68]⟩, 36, "node.go:53", #[⟨8, .data⟩, ⟨4, .chain⟩], none⟩) rfl (fun K hK => ?_) AllReadyH.nil)
    try (generalize World.drew w = ud at *)
    go_simp
    refine (HSR.out _ hb).mono ?_
    rintro e cu ⟨rfl, hb4⟩
    try (have h3 := (hb4.block _ (blk_lt h3)).trans h3)
    try (have h4 := (hb4.block _ (blk_lt h4)).trans h4)
    have hb := hb.trans (hb4.mono hb.size)
    clear hb4
    go_wp2_with fail
    refine hK.out _ _ hb (fun hHeld => ?_)
    clear hK K
    try simp only [Act.put, sA, sB, sC]
    refine wpAnyH_ready (rs := [12]) (by kernel_rfl) (by simp) ?_
    refine (AllReadyH.cons (o := ⟨none, .store 36 (.tmp 3) (.tmp 15), 0, "node.go:53", #[⟨10, .data⟩, ⟨4, .data⟩, ⟨9, .chain⟩, ⟨0, .phase⟩, ⟨1, .phase⟩, ⟨2, .phase⟩, ⟨3, .phase⟩, ⟨4, .phase⟩, ⟨5, .textOnly Departure.lateStores⟩, ⟨6, .textOnly Departure.lateStoresUnsure⟩, ⟨7, .textOnly Departure.lateStoresUnsure⟩, ⟨8, .phase⟩, ⟨9, .phase⟩, ⟨10, .phase⟩, ⟨11, .phase⟩], none⟩) rfl (fun K hK => ?_) AllReadyH.nil)
    rw [if_pos (by rfl)]
    refine wp_store_row 36 (Operand.tmp 3) (Operand.tmp 15) rfl _ (ArrU8 dl) rfl rfl 36 _ h3 HI3.out (by rw [HZ3.out]; rfl) (ArrU8_one _) ?_
    have q3 := setRow_heap _ _ _ (ArrU8 dl) _ _ h3
    try (have h4 := st_other (d := ArrU8 dl) q3 h4 (by omega))
    have hb := below_setRow hb lo3 (ArrU8 dl)
    generalize World.setRow _ _ _ = nu at *
    have h3 := q3
    refine hK.out _ _ hb (fun hHeld => ?_)
    clear hK K
    try simp only [Act.put]
    refine wpAnyH_ready (rs := [13]) (by kernel_rfl) (by simp) ?_
    refine (AllReadyH.cons (o := ⟨none, .store 36 (.tmp 4) (.tmp 20), 0, "node.go:53", #[⟨11, .data⟩, ⟨9, .data⟩, ⟨12, .chain⟩, ⟨0, .phase⟩, ⟨1, .phase⟩, ⟨2, .phase⟩, ⟨3, .phase⟩, ⟨4, .phase⟩, ⟨5, .phase⟩, ⟨6, .phase⟩, ⟨7, .phase⟩, ⟨8, .phase⟩, ⟨9, .phase⟩, ⟨10, .phase⟩, ⟨11, .phase⟩, ⟨12, .phase⟩], none⟩) rfl (fun K hK => ?_) AllReadyH.nil)
    rw [if_pos (by rfl)]
    refine wp_store_row 36 (Operand.tmp 4) (Operand.tmp 20) rfl _ (ArrU8 dr) rfl rfl 36 _ h4 HI4.out (by rw [HZ4.out]; rfl) (ArrU8_one _) ?_
    have q4 := setRow_heap _ _ _ (ArrU8 dr) _ _ h4
    try (have h3 := st_other (d := ArrU8 dr) q4 h3 (by omega))
    have hb := below_setRow hb lo4 (ArrU8 dr)
    generalize World.setRow _ _ _ = nu at *
    have h4 := q4
    refine hK.out _ _ hb (fun hHeld => ?_)
    clear hK K
    try simp only [Act.put]
    refine wpAnyH_done (by kernel_rfl) ?_ _
    exact hK' _ _ ⟨_, _, rfl, hb, lo3, lo4, h3, h4⟩
  ·try (generalize World.drew w = ud at *)
   go_simp
   refine al_step hb (fun nu hbn q4 old => ?_)
   have lo4 := hb.size
   try (have lt34 := blk_lt h3)
   try (have h3 := old _ _ h3)
   have h4 := q4
   have hb := hbn
   clear old hbn
   refine hK.out _ _ hb (fun hHeld => ?_)
   clear hK K
   try simp only [Act.put, sA, sB, sC]
   refine wpAnyH_ready (rs := [4, 10]) (by kernel_rfl) (by simp) ?_
   refine (AllReadyH.cons (o := ⟨some 15, .call ⟨.value (.func 34), #[.tmp 14], #[68]⟩, 36, "node.go:53", #[⟨3, .data⟩], none⟩) rfl (fun K hK => ?_) (AllReadyH.cons (o := ⟨some 3, .alloc 36, 0, "node.go:53", #[], none⟩) rfl (fun K hK => ?_) AllReadyH.nil))
   ·try (generalize World.drew w = ud at *)
    go_simp
    refine (HSL.out _ hb).mono ?_
    rintro e cu ⟨rfl, hb4⟩
    try (have h3 := (hb4.block _ (blk_lt h3)).trans h3)
    try (have h4 := (hb4.block _ (blk_lt h4)).trans h4)
    have hb := hb.trans (hb4.mono hb.size)
    clear hb4
    go_wp2_with fail
    refine hK.out _ _ hb (fun hHeld => ?_)
    clear hK K
    try simp only [Act.put, sA, sB, sC]
    refine wpAnyH_ready (rs := [9, 10]) (by kernel_rfl) (by simp) ?_
    refine (AllReadyH.cons (o := ⟨some 20, .call ⟨.value (.func 34), #[.tmp 19], #[68]⟩, 36, "node.go:53", #[⟨8, .data⟩, ⟨4, .chain⟩], none⟩) rfl (fun K hK => ?_) (AllReadyH.cons (o := ⟨some 3, .alloc 36, 0, "node.go:53", #[], none⟩) rfl (fun K hK => ?_) AllReadyH.nil))
    ·try (generalize World.drew w = ud at *)
     go_simp
     refine (HSR.out _ hb).mono ?_
     rintro e cu ⟨rfl, hb4⟩
     try (have h3 := (hb4.block _ (blk_lt h3)).trans h3)
     try (have h4 := (hb4.block _ (blk_lt h4)).trans h4)
     have hb := hb.trans (hb4.mono hb.size)
     clear hb4
     go_wp2_with fail
     refine hK.out _ _ hb (fun hHeld => ?_)
     clear hK K
     try simp only [Act.put, sA, sB, sC]
     refine wpAnyH_ready (rs := [10]) (by kernel_rfl) (by simp) ?_
     refine (AllReadyH.cons (o := ⟨some 3, .alloc 36, 0, "node.go:53", #[], none⟩) rfl (fun K hK => ?_) AllReadyH.nil)
     try (generalize World.drew w = ud at *)
     go_simp
     refine al_step hb (fun nu hbn q3 old => ?_)
     have lo3 := hb.size
     try (have lt43 := blk_lt h4)
     try (have h4 := old _ _ h4)
     have h3 := q3
     have hb := hbn
     clear old hbn
     refine hK.out _ _ hb (fun hHeld => ?_)
     clear hK K
     try simp only [Act.put, sA, sB, sC]
     refine wpAnyH_ready (rs := [12]) (by kernel_rfl) (by simp) ?_
     refine (AllReadyH.cons (o := ⟨none, .store 36 (.tmp 3) (.tmp 15), 0, "node.go:53", #[⟨10, .data⟩, ⟨4, .data⟩, ⟨9, .chain⟩, ⟨0, .phase⟩, ⟨1, .phase⟩, ⟨2, .phase⟩, ⟨3, .phase⟩, ⟨4, .phase⟩, ⟨5, .textOnly Departure.lateStores⟩, ⟨6, .textOnly Departure.lateStoresUnsure⟩, ⟨7, .textOnly Departure.lateStoresUnsure⟩, ⟨8, .phase⟩, ⟨9, .phase⟩, ⟨10, .phase⟩, ⟨11, .phase⟩], none⟩) rfl (fun K hK => ?_) AllReadyH.nil)
     rw [if_pos (by rfl)]
     refine wp_store_row 36 (Operand.tmp 3) (Operand.tmp 15) rfl _ (ArrU8 dl) rfl rfl 36 _ h3 HI3.out (by rw [HZ3.out]; rfl) (ArrU8_one _) ?_
     have q3 := setRow_heap _ _ _ (ArrU8 dl) _ _ h3
     try (have h4 := st_other (d := ArrU8 dl) q3 h4 (by omega))
     have hb := below_setRow hb lo3 (ArrU8 dl)
     generalize World.setRow _ _ _ = nu at *
     have h3 := q3
     refine hK.out _ _ hb (fun hHeld => ?_)
     clear hK K
     try simp only [Act.put]
     refine wpAnyH_ready (rs := [13]) (by kernel_rfl) (by simp) ?_
     refine (AllReadyH.cons (o := ⟨none, .store 36 (.tmp 4) (.tmp 20), 0, "node.go:53", #[⟨11, .data⟩, ⟨9, .data⟩, ⟨12, .chain⟩, ⟨0, .phase⟩, ⟨1, .phase⟩, ⟨2, .phase⟩, ⟨3, .phase⟩, ⟨4, .phase⟩, ⟨5, .phase⟩, ⟨6, .phase⟩, ⟨7, .phase⟩, ⟨8, .phase⟩, ⟨9, .phase⟩, ⟨10, .phase⟩, ⟨11, .phase⟩, ⟨12, .phase⟩], none⟩) rfl (fun K hK => ?_) AllReadyH.nil)
     rw [if_pos (by rfl)]
     refine wp_store_row 36 (Operand.tmp 4) (Operand.tmp 20) rfl _ (ArrU8 dr) rfl rfl 36 _ h4 HI4.out (by rw [HZ4.out]; rfl) (ArrU8_one _) ?_
     have q4 := setRow_heap _ _ _ (ArrU8 dr) _ _ h4
     try (have h3 := st_other (d := ArrU8 dr) q4 h3 (by omega))
     have hb := below_setRow hb lo4 (ArrU8 dr)
     generalize World.setRow _ _ _ = nu at *
     have h4 := q4
     refine hK.out _ _ hb (fun hHeld => ?_)
     clear hK K
     try simp only [Act.put]
     refine wpAnyH_done (by kernel_rfl) ?_ _
     exact hK' _ _ ⟨_, _, rfl, hb, lo3, lo4, h3, h4⟩
    ·try (generalize World.drew w = ud at *)
     go_simp
     refine al_step hb (fun nu hbn q3 old => ?_)
     have lo3 := hb.size
     try (have lt43 := blk_lt h4)
     try (have h4 := old _ _ h4)
     have h3 := q3
     have hb := hbn
     clear old hbn
     refine hK.out _ _ hb (fun hHeld => ?_)
     clear hK K
     try simp only [Act.put, sA, sB, sC]
     refine wpAnyH_ready (rs := [9]) (by kernel_rfl) (by simp) ?_
     refine (AllReadyH.cons (o := ⟨some 20, .call ⟨.value (.func 34), #[.tmp 19], #[68]⟩, 36, "node.go:53", #[⟨8, .data⟩, ⟨4, .chain⟩], none⟩) rfl (fun K hK => ?_) AllReadyH.nil)
     try (generalize World.drew w = ud at *)
     go_simp
     refine (HSR.out _ hb).mono ?_
     rintro e cu ⟨rfl, hb4⟩
     try (have h3 := (hb4.block _ (blk_lt h3)).trans h3)
     try (have h4 := (hb4.block _ (blk_lt h4)).trans h4)
     have hb := hb.trans (hb4.mono hb.size)
     clear hb4
     go_wp2_with fail
     refine hK.out _ _ hb (fun hHeld => ?_)
     clear hK K
     try simp only [Act.put, sA, sB, sC]
     refine wpAnyH_ready (rs := [12]) (by kernel_rfl) (by simp) ?_
     refine (AllReadyH.cons (o := ⟨none, .store 36 (.tmp 3) (.tmp 15), 0, "node.go:53", #[⟨10, .data⟩, ⟨4, .data⟩, ⟨9, .chain⟩, ⟨0, .phase⟩, ⟨1, .phase⟩, ⟨2, .phase⟩, ⟨3, .phase⟩, ⟨4, .phase⟩, ⟨5, .textOnly Departure.lateStores⟩, ⟨6, .textOnly Departure.lateStoresUnsure⟩, ⟨7, .textOnly Departure.lateStoresUnsure⟩, ⟨8, .phase⟩, ⟨9, .phase⟩, ⟨10, .phase⟩, ⟨11, .phase⟩], none⟩) rfl (fun K hK => ?_) AllReadyH.nil)
     rw [if_pos (by rfl)]
     refine wp_store_row 36 (Operand.tmp 3) (Operand.tmp 15) rfl _ (ArrU8 dl) rfl rfl 36 _ h3 HI3.out (by rw [HZ3.out]; rfl) (ArrU8_one _) ?_
     have q3 := setRow_heap _ _ _ (ArrU8 dl) _ _ h3
     try (have h4 := st_other (d := ArrU8 dl) q3 h4 (by omega))
     have hb := below_setRow hb lo3 (ArrU8 dl)
     generalize World.setRow _ _ _ = nu at *
     have h3 := q3
     refine hK.out _ _ hb (fun hHeld => ?_)
     clear hK K
     try simp only [Act.put]
     refine wpAnyH_ready (rs := [13]) (by kernel_rfl) (by simp) ?_
     refine (AllReadyH.cons (o := ⟨none, .store 36 (.tmp 4) (.tmp 20), 0, "node.go:53", #[⟨11, .data⟩, ⟨9, .data⟩, ⟨12, .chain⟩, ⟨0, .phase⟩, ⟨1, .phase⟩, ⟨2, .phase⟩, ⟨3, .phase⟩, ⟨4, .phase⟩, ⟨5, .phase⟩, ⟨6, .phase⟩, ⟨7, .phase⟩, ⟨8, .phase⟩, ⟨9, .phase⟩, ⟨10, .phase⟩, ⟨11, .phase⟩, ⟨12, .phase⟩], none⟩) rfl (fun K hK => ?_) AllReadyH.nil)
     rw [if_pos (by rfl)]
     refine wp_store_row 36 (Operand.tmp 4) (Operand.tmp 20) rfl _ (ArrU8 dr) rfl rfl 36 _ h4 HI4.out (by rw [HZ4.out]; rfl) (ArrU8_one _) ?_
     have q4 := setRow_heap _ _ _ (ArrU8 dr) _ _ h4
     try (have h3 := st_other (d := ArrU8 dr) q4 h3 (by omega))
     have hb := below_setRow hb lo4 (ArrU8 dr)
     generalize World.setRow _ _ _ = nu at *
     have h4 := q4
     refine hK.out _ _ hb (fun hHeld => ?_)
     clear hK K
     try simp only [Act.put]
     refine wpAnyH_done (by kernel_rfl) ?_ _
     exact hK' _ _ ⟨_, _, rfl, hb, lo3, lo4, h3, h4⟩
   ·try (generalize World.drew w = ud at *)
    go_simp
    refine al_step hb (fun nu hbn q3 old => ?_)
    have lo3 := hb.size
    try (have lt43 := blk_lt h4)
    try (have h4 := old _ _ h4)
    have h3 := q3
    have hb := hbn
    clear old hbn
    refine hK.out _ _ hb (fun hHeld => ?_)
    clear hK K
    try simp only [Act.put, sA, sB, sC]
    refine wpAnyH_ready (rs := [4]) (by kernel_rfl) (by simp) ?_
    refine (AllReadyH.cons (o := ⟨some 15, .call ⟨.value (.func 34), #[.tmp 14], #[68]⟩, 36, "node.go:53", #[⟨3, .data⟩], none⟩) rfl (fun K hK => ?_) AllReadyH.nil)
    try (generalize World.drew w = ud at *)
    go_simp
    refine (HSL.out _ hb).mono ?_
    rintro e cu ⟨rfl, hb4⟩
    try (have h3 := (hb4.block _ (blk_lt h3)).trans h3)
    try (have h4 := (hb4.block _ (blk_lt h4)).trans h4)
    have hb := hb.trans (hb4.mono hb.size)
    clear hb4
    go_wp2_with fail
    refine hK.out _ _ hb (fun hHeld => ?_)
    clear hK K
    try simp only [Act.put, sA, sB, sC]
    refine wpAnyH_ready (rs := [9]) (by kernel_rfl) (by simp) ?_
    refine (AllReadyH.cons (o := ⟨some 20, .call ⟨.value (.func 34), #[.tmp 19], #[68]⟩, 36, "node.go:53", #[⟨8, .data⟩, ⟨4, .chain⟩], none⟩) rfl (fun K hK => ?_) AllReadyH.nil)
    try (generalize World.drew w = ud at *)
    go_simp
    refine (HSR.out _ hb).mono ?_
    rintro e cu ⟨rfl, hb4⟩
    try (have h3 := (hb4.block _ (blk_lt h3)).trans h3)
    try (have h4 := (hb4.block _ (blk_lt h4)).trans h4)
    have hb := hb.trans (hb4.mono hb.size)
    clear hb4
    go_wp2_with fail
    refine hK.out _ _ hb (fun hHeld => ?_)
    clear hK K
    try simp only [Act.put, sA, sB, sC]
    refine wpAnyH_ready (rs := [12]) (by kernel_rfl) (by simp) ?_
    refine (AllReadyH.cons (o := ⟨none, .store 36 (.tmp 3) (.tmp 15), 0, "node.go:53", #[⟨10, .data⟩, ⟨4, .data⟩, ⟨9, .chain⟩, ⟨0, .phase⟩, ⟨1, .phase⟩, ⟨2, .phase⟩, ⟨3, .phase⟩, ⟨4, .phase⟩, ⟨5, .textOnly Departure.lateStores⟩, ⟨6, .textOnly Departure.lateStoresUnsure⟩, ⟨7, .textOnly Departure.lateStoresUnsure⟩, ⟨8, .phase⟩, ⟨9, .phase⟩, ⟨10, .phase⟩, ⟨11, .phase⟩], none⟩) rfl (fun K hK => ?_) AllReadyH.nil)
    rw [if_pos (by rfl)]
    refine wp_store_row 36 (Operand.tmp 3) (Operand.tmp 15) rfl _ (ArrU8 dl) rfl rfl 36 _ h3 HI3.out (by rw [HZ3.out]; rfl) (ArrU8_one _) ?_
    have q3 := setRow_heap _ _ _ (ArrU8 dl) _ _ h3
    try (have h4 := st_other (d := ArrU8 dl) q3 h4 (by omega))
    have hb := below_setRow hb lo3 (ArrU8 dl)
    generalize World.setRow _ _ _ = nu at *
    have h3 := q3
    refine hK.out _ _ hb (fun hHeld => ?_)
    clear hK K
    try simp only [Act.put]
    refine wpAnyH_ready (rs := [13]) (by kernel_rfl) (by simp) ?_
    refine (AllReadyH.cons (o := ⟨none, .store 36 (.tmp 4) (.tmp 20), 0, "node.go:53", #[⟨11, .data⟩, ⟨9, .data⟩, ⟨12, .chain⟩, ⟨0, .phase⟩, ⟨1, .phase⟩, ⟨2, .phase⟩, ⟨3, .phase⟩, ⟨4, .phase⟩, ⟨5, .phase⟩, ⟨6, .phase⟩, ⟨7, .phase⟩, ⟨8, .phase⟩, ⟨9, .phase⟩, ⟨10, .phase⟩, ⟨11, .phase⟩, ⟨12, .phase⟩], none⟩) rfl (fun K hK => ?_) AllReadyH.nil)
    rw [if_pos (by rfl)]
    refine wp_store_row 36 (Operand.tmp 4) (Operand.tmp 20) rfl _ (ArrU8 dr) rfl rfl 36 _ h4 HI4.out (by rw [HZ4.out]; rfl) (ArrU8_one _) ?_
    have q4 := setRow_heap _ _ _ (ArrU8 dr) _ _ h4
    try (have h3 := st_other (d := ArrU8 dr) q4 h3 (by omega))
    have hb := below_setRow hb lo4 (ArrU8 dr)
    generalize World.setRow _ _ _ = nu at *
    have h4 := q4
    refine hK.out _ _ hb (fun hHeld => ?_)
    clear hK K
    try simp only [Act.put]
    refine wpAnyH_done (by kernel_rfl) ?_ _
    exact hK' _ _ ⟨_, _, rfl, hb, lo3, lo4, h3, h4⟩
 ·rintro _ u0 ⟨g3, g4, rfl, htb⟩
  obtain ⟨hb0, l3, l4, x3, x4⟩ := htb
  have hbw := hb0
  have H3 := hid x3
  have H4 := hid x4
  have y3 := blk_lt x3
  have y4 := blk_lt x4
  have hbl0 : b < u0.heap.size := Nat.lt_of_lt_of_le hbl hb0.size
  have HC0 := hid (show u0.cell? ⟨b, 0, none⟩ = some kv ∧ u0.cell? ⟨b, 1, none⟩ = some (.int .i64 n) from ⟨(hb0.cell (p := ⟨b, 0, none⟩) hbl).trans HC.out.1, (hb0.cell (p := ⟨b, 1, none⟩) hbl).trans HC.out.2.1⟩)
  have HK0 := hid ((HK.out.1.below hb0).1)
  obtain ⟨ak, ck, ek⟩ := HK.out.1.form
  subst ek
  have HB0 := hid hb0
  clear hb0 x3 x4 c0 c1 c34 c35 HSL HSR hbl hbw
  have SA3 := fun u => slice32_all u g3
  have SA4 := fun u => slice32_all u g4
  go_wp2_with fail
  have hb : Below u0.heap.size u0 u0.drew := (Below.refl _ _).drew
  refine wp_region_held_drew (S := fun u => Below u0.heap.size u0 u) (by kernel_rfl) (hb) (fun hHeld => ?_)
  refine tk (i := 2) (oi := ⟨some 23, .slice 36 (.tmp 3) none none none, 31, "node.go:54", #[], none⟩) (v := ?_) (Or.inl ⟨by rfl, ?_⟩) ?_
  rotate_left 1
  ·intro u hSw
   (go_simp; rfl)
  try simp only [Act.put, sA, sB, sC]
  refine tk (i := 3) (oi := ⟨some 24, .move (.tmp 0), 68, "node.go:54", #[], none⟩) (v := ?_) (Or.inl ⟨by rfl, ?_⟩) ?_
  rotate_left 1
  ·(intro u hSw; go_simp; try with_reducible rfl)
  try simp only [Act.put, sA, sB, sC]
  refine tk (i := 4) (oi := ⟨some 25, .nilCheck (.tmp 24), 0, "node.go:54", #[⟨3, .data⟩], none⟩) (v := ?_) (Or.inl ⟨by rfl, ?_⟩) ?_
  rotate_left 1
  ·(intro u hSw; go_simp; try with_reducible rfl)
  try simp only [Act.put, sA, sB, sC]
  refine tk (i := 5) (oi := ⟨some 26, .fieldAddr 115 (.tmp 25) 0, 0, "node.go:54", #[⟨4, .data⟩], none⟩) (v := ?_) (Or.inl ⟨by rfl, ?_⟩) ?_
  rotate_left 1
  ·(intro u hSw; go_simp; try with_reducible rfl)
  try simp only [Act.put, sA, sB, sC]
  refine tk (i := 6) (oi := ⟨some 27, .fieldAddr 66 (.tmp 26) 0, 0, "node.go:54", #[⟨5, .data⟩], none⟩) (v := ?_) (Or.inl ⟨by rfl, ?_⟩) ?_
  rotate_left 1
  ·(intro u hSw; go_simp; try with_reducible rfl)
  try simp only [Act.put, sA, sB, sC]
  refine tk (i := 7) (oi := ⟨some 28, .fieldAddr 33 (.tmp 27) 0, 0, "node.go:54", #[⟨6, .data⟩], none⟩) (v := ?_) (Or.inl ⟨by rfl, ?_⟩) ?_
  rotate_left 1
  ·(intro u hSw; go_simp; try with_reducible rfl)
  try simp only [Act.put, sA, sB, sC]
  refine tk (i := 8) (oi := ⟨some 29, .load 31 (.tmp 28), 31, "node.go:54", #[⟨7, .data⟩], none⟩) (v := ?_) (Or.inl ⟨by rfl, ?_⟩) ?_
  rotate_left 1
  ·(intro u hSw; have d0 := (hSw.cell (p := ⟨b, 0, none⟩) hbl0).trans HC0.out.1; have d1 := (hSw.cell (p := ⟨b, 1, none⟩) hbl0).trans HC0.out.2; go_simp; try with_reducible rfl)
  try simp only [Act.put, sA, sB, sC]
  refine tk (i := 9) (oi := ⟨some 30, .move (.tmp 0), 68, "node.go:54", #[], none⟩) (v := ?_) (Or.inl ⟨by rfl, ?_⟩) ?_
  rotate_left 1
  ·(intro u hSw; go_simp; try with_reducible rfl)
  try simp only [Act.put, sA, sB, sC]
  refine tk (i := 10) (oi := ⟨some 31, .nilCheck (.tmp 30), 0, "node.go:54", #[⟨9, .data⟩], none⟩) (v := ?_) (Or.inl ⟨by rfl, ?_⟩) ?_
  rotate_left 1
  ·(intro u hSw; go_simp; try with_reducible rfl)
  try simp only [Act.put, sA, sB, sC]
  refine tk (i := 11) (oi := ⟨some 32, .fieldAddr 115 (.tmp 31) 0, 0, "node.go:54", #[⟨10, .data⟩], none⟩) (v := ?_) (Or.inl ⟨by rfl, ?_⟩) ?_
  rotate_left 1
  ·(intro u hSw; go_simp; try with_reducible rfl)
  try simp only [Act.put, sA, sB, sC]
  refine tk (i := 12) (oi := ⟨some 33, .fieldAddr 66 (.tmp 32) 0, 0, "node.go:54", #[⟨11, .data⟩], none⟩) (v := ?_) (Or.inl ⟨by rfl, ?_⟩) ?_
  rotate_left 1
  ·(intro u hSw; go_simp; try with_reducible rfl)
  try simp only [Act.put, sA, sB, sC]
  refine tk (i := 13) (oi := ⟨some 34, .fieldAddr 33 (.tmp 33) 1, 0, "node.go:54", #[⟨12, .data⟩], none⟩) (v := ?_) (Or.inl ⟨by rfl, ?_⟩) ?_
  rotate_left 1
  ·(intro u hSw; go_simp; try with_reducible rfl)
  try simp only [Act.put, sA, sB, sC]
  refine tk (i := 14) (oi := ⟨some 35, .load 2 (.tmp 34), 2, "node.go:54", #[⟨13, .data⟩], none⟩) (v := ?_) (Or.inl ⟨by rfl, ?_⟩) ?_
  rotate_left 1
  ·(intro u hSw; have d0 := (hSw.cell (p := ⟨b, 0, none⟩) hbl0).trans HC0.out.1; have d1 := (hSw.cell (p := ⟨b, 1, none⟩) hbl0).trans HC0.out.2; go_simp; try with_reducible rfl)
  try simp only [Act.put, sA, sB, sC]
  refine tk (i := 16) (oi := ⟨some 37, .slice 36 (.tmp 4) none none none, 31, "node.go:54", #[], none⟩) (v := ?_) (Or.inl ⟨by rfl, ?_⟩) ?_
  rotate_left 1
  ·intro u hSw
   (go_simp; rfl)
  try simp only [Act.put, sA, sB, sC]
  refine wpAnyH_ready (rs := [0, 15]) (by kernel_rfl) (by simp) ?_
  refine (AllReadyH.cons (o := ⟨some 21, .buildSlice 31 4 #[(0, .const (Value.int IntKind.u8 110)), (1, .const (Value.int IntKind.u8 111)), (2, .const (Value.int IntKind.u8 100)), (3, .const (Value.int IntKind.u8 101))], 31, "node.go:54", #[], none⟩) rfl (fun K hK => ?_) (AllReadyH.cons (o := ⟨some 36, .call ⟨.value (.func 87), #[.const (Value.slice none 0 0), .tmp 35], #[31, 2]⟩, 31, "node.go:54", #[⟨14, .data⟩], none⟩) rfl (fun K hK => ?_) AllReadyH.nil))
  ·try (generalize World.drew u0 = ud at *)
   go_simp
   refine al_step2 hb (fun nu hbn q21 hcn => ?_)
   try (rw [show (World.drew u0).heap.size = u0.heap.size from rfl] at q21)
   have lo21 := hb.size
   try (have k36 := k36.below hcn)
   have h21 := q21
   have hb := hbn
   clear hcn hbn
   refine hK.out _ _ hb (fun hHeld => ?_)
   clear hK K
   try simp only [Act.put, sA, sB, sC]
   refine wpAnyH_ready (rs := [1, 15]) (by kernel_rfl) (by simp) ?_
   refine (AllReadyH.cons (o := ⟨some 22, .convert 31 31 (.tmp 21), 31, "node.go:54", #[⟨0, .data⟩], none⟩) rfl (fun K hK => ?_) (AllReadyH.cons (o := ⟨some 36, .call ⟨.value (.func 87), #[.const (Value.slice none 0 0), .tmp 35], #[31, 2]⟩, 31, "node.go:54", #[⟨14, .data⟩], none⟩) rfl (fun K hK => ?_) AllReadyH.nil))
   ·try (generalize World.drew u0 = ud at *)
    obtain ⟨nu, hrn, q21, hcn⟩ := run_mark _ _ 4 4 _ h21
    have hb := hb.trans (hcn.below (B := u0.heap.size) (fun q e => by omega) hb.size)
    try (have k36 := k36.cg hcn (fun q _ hs e => by have hs2 : _ ∧ _ := hs; omega))
    have h21 := q21
    clear hcn
    go_simp
    try rw [hrn]
    try simp only [Result.andThen]
    try rw [Oper.upon_value]
    clear hrn
    refine hK.out _ _ hb (fun hHeld => ?_)
    clear hK K
    try simp only [Act.put, sA, sB, sC]
    refine wpAnyH_ready (rs := [15]) (by kernel_rfl) (by simp) ?_
    refine (AllReadyH.cons (o := ⟨some 36, .call ⟨.value (.func 87), #[.const (Value.slice none 0 0), .tmp 35], #[31, 2]⟩, 31, "node.go:54", #[⟨14, .data⟩], none⟩) rfl (fun K hK => ?_) AllReadyH.nil)
    try (generalize World.drew u0 = ud at *)
    go_simp
    refine (mnum_any (.slice none 0 0) 0 _ [] n _ ⟨rfl, .inl ⟨rfl, rfl⟩⟩ (Nat.le_refl _) (by omega) hn).mono ?_
    rintro e cu ⟨v36, rfl, ho36, hb4⟩
    rw [Nat.zero_add, List.nil_append] at ho36
    have k36 := (own_kis (l := be8 n) (by rw [be8_len]; exact ho36)).bound
    try (have l21 := blk_lt h21)
    obtain ⟨a36, c36, rfl⟩ := k36.form
    try (have h21 := (hb4.block _ (blk_lt h21)).trans h21)
    have l36 := hb.size
    have hb := hb.trans (hb4.mono hb.size)
    clear hb4 ho36
    go_wp2_with fail
    refine hK.out _ _ hb (fun hHeld => ?_)
    clear hK K
    try simp only [Act.put, sA, sB, sC]
    refine wpAnyH_ready (rs := [17]) (by kernel_rfl) (by simp) ?_
    refine (AllReadyH.cons (o := ⟨some 38, .buildSlice 99 5 #[(0, .tmp 22), (1, .tmp 23), (2, .tmp 29), (3, .tmp 36), (4, .tmp 37)], 99, "node.go:54", #[⟨1, .data⟩, ⟨2, .data⟩, ⟨8, .data⟩, ⟨15, .data⟩, ⟨16, .data⟩], none⟩) rfl (fun K hK => ?_) AllReadyH.nil)
    try (generalize World.drew u0 = ud at *)
    go_simp
    refine al_step2 hb (fun nu hbn q38 hcn => ?_)
    have k36 := k36.below hcn
    have h21 := (hcn.block _ (blk_lt h21)).trans h21
    have hb := hbn
    clear hcn hbn
    refine hK.out _ _ hb (fun hHeld => ?_)
    clear hK K
    try simp only [Act.put, sA, sB, sC]
    refine wpAnyH_ready (rs := [18]) (by kernel_rfl) (by simp) ?_
    refine (AllReadyH.cons (o := ⟨some 39, .call ⟨.value (.func 52), #[.tmp 38], #[99]⟩, 31, "node.go:54", #[⟨17, .data⟩, ⟨15, .chain⟩], none⟩) rfl (fun K hK => ?_) AllReadyH.nil)
    have hps := pss5 q38 (bs_blk (l := [110, 111, 100, 101]) h21 rfl) (box_bs ((hb.block g3 y3).trans H3.out) HDL.out) (HK0.out.below hb) k36.1 (box_bs ((hb.block g4 y4).trans H4.out) HDR.out)
    go_simp
    refine (join_kis _ _ _ hps (by have e1 := HDL.out; have e2 := HDR.out; simp only [jlen, List.length_cons, List.length_nil, be8_len, e1, e2]; omega)).mono ?_
    rintro e cu ⟨v39, rfl, hk39, hb4⟩
    obtain ⟨a39, c39, rfl⟩ := hk39.form
    have l39 := hb.size
    have hb := hb.trans (hb4.mono hb.size)
    clear hb4 hps
    go_wp2_with fail
    refine hK.out _ _ hb (fun hHeld => ?_)
    clear hK K
    try simp only [Act.put, sA, sB, sC]
    refine tk (i := 19) (oi := ⟨some 2, .assign (.tmp 39), 31, "node.go:54", #[⟨18, .data⟩, ⟨18, .chain⟩, ⟨0, .phase⟩, ⟨1, .phase⟩, ⟨2, .phase⟩, ⟨3, .phase⟩, ⟨4, .phase⟩, ⟨5, .phase⟩, ⟨6, .phase⟩, ⟨7, .phase⟩, ⟨8, .phase⟩, ⟨9, .phase⟩, ⟨10, .phase⟩, ⟨11, .phase⟩, ⟨12, .phase⟩, ⟨13, .phase⟩, ⟨14, .phase⟩, ⟨15, .phase⟩, ⟨16, .phase⟩, ⟨17, .phase⟩, ⟨18, .phase⟩], none⟩) (v := ?_) (Or.inl ⟨by rfl, ?_⟩) ?_
    rotate_left 1
    ·(intro u hSw; go_simp; try with_reducible rfl)
    try simp only [Act.put, sA, sB, sC]
    refine wpAnyH_done (by kernel_rfl) ?_ _
    have HF := hid (And.intro hk39 hb)
    clear hk39 hb h21 q21 k36 q38
    go_wp2_with fail
    go_ret
    exact ⟨_, rfl, HF.out.1.mono (fun q hq => by have := HB0.out.size; omega), HB0.out.trans (HF.out.2.mono HB0.out.size)⟩
   ·try (generalize World.drew u0 = ud at *)
    go_simp
    refine (mnum_any (.slice none 0 0) 0 _ [] n _ ⟨rfl, .inl ⟨rfl, rfl⟩⟩ (Nat.le_refl _) (by omega) hn).mono ?_
    rintro e cu ⟨v36, rfl, ho36, hb4⟩
    rw [Nat.zero_add, List.nil_append] at ho36
    have k36 := (own_kis (l := be8 n) (by rw [be8_len]; exact ho36)).bound
    try (have l21 := blk_lt h21)
    obtain ⟨a36, c36, rfl⟩ := k36.form
    try (have h21 := (hb4.block _ (blk_lt h21)).trans h21)
    have l36 := hb.size
    have hb := hb.trans (hb4.mono hb.size)
    clear hb4 ho36
    go_wp2_with fail
    refine hK.out _ _ hb (fun hHeld => ?_)
    clear hK K
    try simp only [Act.put, sA, sB, sC]
    refine wpAnyH_ready (rs := [1]) (by kernel_rfl) (by simp) ?_
    refine (AllReadyH.cons (o := ⟨some 22, .convert 31 31 (.tmp 21), 31, "node.go:54", #[⟨0, .data⟩], none⟩) rfl (fun K hK => ?_) AllReadyH.nil)
    try (generalize World.drew u0 = ud at *)
    obtain ⟨nu, hrn, q21, hcn⟩ := run_mark _ _ 4 4 _ h21
    have hb := hb.trans (hcn.below (B := u0.heap.size) (fun q e => by omega) hb.size)
    try (have k36 := k36.cg hcn (fun q _ hs e => by have hs2 : _ ∧ _ := hs; omega))
    have h21 := q21
    clear hcn
    go_simp
    try rw [hrn]
    try simp only [Result.andThen]
    try rw [Oper.upon_value]
    clear hrn
    refine hK.out _ _ hb (fun hHeld => ?_)
    clear hK K
    try simp only [Act.put, sA, sB, sC]
    refine wpAnyH_ready (rs := [17]) (by kernel_rfl) (by simp) ?_
    refine (AllReadyH.cons (o := ⟨some 38, .buildSlice 99 5 #[(0, .tmp 22), (1, .tmp 23), (2, .tmp 29), (3, .tmp 36), (4, .tmp 37)], 99, "node.go:54", #[⟨1, .data⟩, ⟨2, .data⟩, ⟨8, .data⟩, ⟨15, .data⟩, ⟨16, .data⟩], none⟩) rfl (fun K hK => ?_) AllReadyH.nil)
    try (generalize World.drew u0 = ud at *)
    go_simp
    refine al_step2 hb (fun nu hbn q38 hcn => ?_)
    have k36 := k36.below hcn
    have h21 := (hcn.block _ (blk_lt h21)).trans h21
    have hb := hbn
    clear hcn hbn
    refine hK.out _ _ hb (fun hHeld => ?_)
    clear hK K
    try simp only [Act.put, sA, sB, sC]
    refine wpAnyH_ready (rs := [18]) (by kernel_rfl) (by simp) ?_
    refine (AllReadyH.cons (o := ⟨some 39, .call ⟨.value (.func 52), #[.tmp 38], #[99]⟩, 31, "node.go:54", #[⟨17, .data⟩, ⟨15, .chain⟩], none⟩) rfl (fun K hK => ?_) AllReadyH.nil)
    have hps := pss5 q38 (bs_blk (l := [110, 111, 100, 101]) h21 rfl) (box_bs ((hb.block g3 y3).trans H3.out) HDL.out) (HK0.out.below hb) k36.1 (box_bs ((hb.block g4 y4).trans H4.out) HDR.out)
    go_simp
    refine (join_kis _ _ _ hps (by have e1 := HDL.out; have e2 := HDR.out; simp only [jlen, List.length_cons, List.length_nil, be8_len, e1, e2]; omega)).mono ?_
    rintro e cu ⟨v39, rfl, hk39, hb4⟩
    obtain ⟨a39, c39, rfl⟩ := hk39.form
    have l39 := hb.size
    have hb := hb.trans (hb4.mono hb.size)
    clear hb4 hps
    go_wp2_with fail
    refine hK.out _ _ hb (fun hHeld => ?_)
    clear hK K
    try simp only [Act.put, sA, sB, sC]
    refine tk (i := 19) (oi := ⟨some 2, .assign (.tmp 39), 31, "node.go:54", #[⟨18, .data⟩, ⟨18, .chain⟩, ⟨0, .phase⟩, ⟨1, .phase⟩, ⟨2, .phase⟩, ⟨3, .phase⟩, ⟨4, .phase⟩, ⟨5, .phase⟩, ⟨6, .phase⟩, ⟨7, .phase⟩, ⟨8, .phase⟩, ⟨9, .phase⟩, ⟨10, .phase⟩, ⟨11, .phase⟩, ⟨12, .phase⟩, ⟨13, .phase⟩, ⟨14, .phase⟩, ⟨15, .phase⟩, ⟨16, .phase⟩, ⟨17, .phase⟩, ⟨18, .phase⟩], none⟩) (v := ?_) (Or.inl ⟨by rfl, ?_⟩) ?_
    rotate_left 1
    ·(intro u hSw; go_simp; try with_reducible rfl)
    try simp only [Act.put, sA, sB, sC]
    refine wpAnyH_done (by kernel_rfl) ?_ _
    have HF := hid (And.intro hk39 hb)
    clear hk39 hb h21 q21 k36 q38
    go_wp2_with fail
    go_ret
    exact ⟨_, rfl, HF.out.1.mono (fun q hq => by have := HB0.out.size; omega), HB0.out.trans (HF.out.2.mono HB0.out.size)⟩
  ·try (generalize World.drew u0 = ud at *)
   go_simp
   refine (mnum_any (.slice none 0 0) 0 _ [] n _ ⟨rfl, .inl ⟨rfl, rfl⟩⟩ (Nat.le_refl _) (by omega) hn).mono ?_
   rintro e cu ⟨v36, rfl, ho36, hb4⟩
   rw [Nat.zero_add, List.nil_append] at ho36
   have k36 := (own_kis (l := be8 n) (by rw [be8_len]; exact ho36)).bound
   try (have l21 := blk_lt h21)
   obtain ⟨a36, c36, rfl⟩ := k36.form
   try (have h21 := (hb4.block _ (blk_lt h21)).trans h21)
   have l36 := hb.size
   have hb := hb.trans (hb4.mono hb.size)
   clear hb4 ho36
   go_wp2_with fail
   refine hK.out _ _ hb (fun hHeld => ?_)
   clear hK K
   try simp only [Act.put, sA, sB, sC]
   refine wpAnyH_ready (rs := [0]) (by kernel_rfl) (by simp) ?_
   refine (AllReadyH.cons (o := ⟨some 21, .buildSlice 31 4 #[(0, .const (Value.int IntKind.u8 110)), (1, .const (Value.int IntKind.u8 111)), (2, .const (Value.int IntKind.u8 100)), (3, .const (Value.int IntKind.u8 101))], 31, "node.go:54", #[], none⟩) rfl (fun K hK => ?_) AllReadyH.nil)
   try (generalize World.drew u0 = ud at *)
   go_simp
   refine al_step2 hb (fun nu hbn q21 hcn => ?_)
   try (rw [show (World.drew u0).heap.size = u0.heap.size from rfl] at q21)
   have lo21 := hb.size
   try (have k36 := k36.below hcn)
   have h21 := q21
   have hb := hbn
   clear hcn hbn
   refine hK.out _ _ hb (fun hHeld => ?_)
   clear hK K
   try simp only [Act.put, sA, sB, sC]
   refine wpAnyH_ready (rs := [1]) (by kernel_rfl) (by simp) ?_
   refine (AllReadyH.cons (o := ⟨some 22, .convert 31 31 (.tmp 21), 31, "node.go:54", #[⟨0, .data⟩], none⟩) rfl (fun K hK => ?_) AllReadyH.nil)
   try (generalize World.drew u0 = ud at *)
   obtain ⟨nu, hrn, q21, hcn⟩ := run_mark _ _ 4 4 _ h21
   have hb := hb.trans (hcn.below (B := u0.heap.size) (fun q e => by omega) hb.size)
   try (have k36 := k36.cg hcn (fun q _ hs e => by have hs2 : _ ∧ _ := hs; omega))
   have h21 := q21
   clear hcn
   go_simp
   try rw [hrn]
   try simp only [Result.andThen]
   try rw [Oper.upon_value]
   clear hrn
   refine hK.out _ _ hb (fun hHeld => ?_)
   clear hK K
   try simp only [Act.put, sA, sB, sC]
   refine wpAnyH_ready (rs := [17]) (by kernel_rfl) (by simp) ?_
   refine (AllReadyH.cons (o := ⟨some 38, .buildSlice 99 5 #[(0, .tmp 22), (1, .tmp 23), (2, .tmp 29), (3, .tmp 36), (4, .tmp 37)], 99, "node.go:54", #[⟨1, .data⟩, ⟨2, .data⟩, ⟨8, .data⟩, ⟨15, .data⟩, ⟨16, .data⟩], none⟩) rfl (fun K hK => ?_) AllReadyH.nil)
   try (generalize World.drew u0 = ud at *)
   go_simp
   refine al_step2 hb (fun nu hbn q38 hcn => ?_)
   have k36 := k36.below hcn
   have h21 := (hcn.block _ (blk_lt h21)).trans h21
   have hb := hbn
   clear hcn hbn
   refine hK.out _ _ hb (fun hHeld => ?_)
   clear hK K
   try simp only [Act.put, sA, sB, sC]
   refine wpAnyH_ready (rs := [18]) (by kernel_rfl) (by simp) ?_
   refine (AllReadyH.cons (o := ⟨some 39, .call ⟨.value (.func 52), #[.tmp 38], #[99]⟩, 31, "node.go:54", #[⟨17, .data⟩, ⟨15, .chain⟩], none⟩) rfl (fun K hK => ?_) AllReadyH.nil)
   have hps := pss5 q38 (bs_blk (l := [110, 111, 100, 101]) h21 rfl) (box_bs ((hb.block g3 y3).trans H3.out) HDL.out) (HK0.out.below hb) k36.1 (box_bs ((hb.block g4 y4).trans H4.out) HDR.out)
   go_simp
   refine (join_kis _ _ _ hps (by have e1 := HDL.out; have e2 := HDR.out; simp only [jlen, List.length_cons, List.length_nil, be8_len, e1, e2]; omega)).mono ?_
   rintro e cu ⟨v39, rfl, hk39, hb4⟩
   obtain ⟨a39, c39, rfl⟩ := hk39.form
   have l39 := hb.size
   have hb := hb.trans (hb4.mono hb.size)
   clear hb4 hps
   go_wp2_with fail
   refine hK.out _ _ hb (fun hHeld => ?_)
   clear hK K
   try simp only [Act.put, sA, sB, sC]
   refine tk (i := 19) (oi := ⟨some 2, .assign (.tmp 39), 31, "node.go:54", #[⟨18, .data⟩, ⟨18, .chain⟩, ⟨0, .phase⟩, ⟨1, .phase⟩, ⟨2, .phase⟩, ⟨3, .phase⟩, ⟨4, .phase⟩, ⟨5, .phase⟩, ⟨6, .phase⟩, ⟨7, .phase⟩, ⟨8, .phase⟩, ⟨9, .phase⟩, ⟨10, .phase⟩, ⟨11, .phase⟩, ⟨12, .phase⟩, ⟨13, .phase⟩, ⟨14, .phase⟩, ⟨15, .phase⟩, ⟨16, .phase⟩, ⟨17, .phase⟩, ⟨18, .phase⟩], none⟩) (v := ?_) (Or.inl ⟨by rfl, ?_⟩) ?_
   rotate_left 1
   ·(intro u hSw; go_simp; try with_reducible rfl)
   try simp only [Act.put, sA, sB, sC]
   refine wpAnyH_done (by kernel_rfl) ?_ _
   have HF := hid (And.intro hk39 hb)
   clear hk39 hb h21 q21 k36 q38
   go_wp2_with fail
   go_ret
   exact ⟨_, rfl, HF.out.1.mono (fun q hq => by have := HB0.out.size; omega), HB0.out.trans (HF.out.2.mono HB0.out.size)⟩
end Go.Proofs.YtbmlkocpjboodaaDoor
