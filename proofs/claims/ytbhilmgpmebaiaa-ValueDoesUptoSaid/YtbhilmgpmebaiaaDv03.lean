import Derived.Test.YtbhilmgpmebaiaaDv02
namespace Go.Proofs.Ytbhilmgpmebaiaa
open Go.RowKit
def Tri (w u : World) (x y : Val) : Prop := Two w u x y ∧ ∃ k n s, u.heap[w.heap.size + 1 + 1]? = some (BX k n s)
theorem Tri.al {w u : World} {x y : Val} (h : Tri w u x y) (o : Obj) : Tri w (u.alloc o) x y := by
  obtain ⟨h1, k, n, s, h2⟩ := h; exact ⟨h1.al o, k, n, s, hp_al h2 o⟩
theorem Tri.drew {w u : World} {x y : Val} (h : Tri w u x y) : Tri w u.drew x y := ⟨h.1.drew, h.2⟩
theorem Tri.below {w u v : World} {x y : Val} (h : Tri w u x y) (hb : Below u.heap.size u v) : Tri w v x y := by
  obtain ⟨h1, k, n, s, h2⟩ := h; exact ⟨h1.below hb, k, n, s, (hb.block _ (bx_lt h2)).trans h2⟩
theorem Tri.set1 {w u : World} {x y : Val} (h : Tri w u x y) (a : Val) : Tri w (((u.setCell ⟨w.heap.size, 0, none⟩ (.int .i64 a.k)).setCell ⟨w.heap.size, 1, none⟩ (.int .i64 a.n)).setCell ⟨w.heap.size, 2, none⟩ (.string (str a.s))) a y := by
  obtain ⟨h1, k, n, s, h2⟩ := h; exact ⟨h1.set1 a, k, n, s, (set3_other a (by omega)).trans h2⟩
theorem Tri.set2 {w u : World} {x y : Val} (h : Tri w u x y) (a : Val) : Tri w (((u.setCell ⟨w.heap.size + 1, 0, none⟩ (.int .i64 a.k)).setCell ⟨w.heap.size + 1, 1, none⟩ (.int .i64 a.n)).setCell ⟨w.heap.size + 1, 2, none⟩ (.string (str a.s))) x a := by
  obtain ⟨h1, k, n, s, h2⟩ := h; exact ⟨h1.set2 a, k, n, s, (set3_other a (by omega)).trans h2⟩
theorem Tri.setR {w u : World} {x y : Val} (h : Tri w u x y) (a : Val) : Tri w (((u.setCell ⟨w.heap.size + 1 + 1, 0, none⟩ (.int .i64 a.k)).setCell ⟨w.heap.size + 1 + 1, 1, none⟩ (.int .i64 a.n)).setCell ⟨w.heap.size + 1 + 1, 2, none⟩ (.string (str a.s))) x y := by
  obtain ⟨h1, k, n, s, h2⟩ := h
  exact ⟨⟨(set3_other a (by omega)).trans h1.1, (set3_other a (by omega)).trans h1.2.1, set3_below a h1.2.2 (by omega)⟩, a.k, a.n, str a.s, set3 h2 a⟩
theorem tri_new (w : World) (x y : Val) : Tri w (((w.alloc (BX x.k x.n (str x.s))).alloc (BX y.k y.n (str y.s))).alloc (BX 0 0 ⟨#[]⟩)) x y := ⟨(two_new w x y).al _, 0, 0, ⟨#[]⟩, hp_3 w _ _ _⟩
set_option maxRecDepth 100000 in
set_option maxHeartbeats 3200000 in
theorem do_reg1 (op : Int) (a b : Val) (w u0 : World) (hT : Tri w u0 a b) {Q : Exit → Act → World → Prop}
    (h : ∀ u, Tri w u (normV a) (normV b) → Q .normal ⟨#[.int .i64 op, .agg #[.int .i64 a.k, .int .i64 a.n, .string (str a.s)], .agg #[.int .i64 b.k, .int .i64 b.n, .string (str b.s)], undef, .pointer (some ⟨w.heap.size, 0, none⟩), .pointer (some ⟨w.heap.size + 1, 0, none⟩), .pointer (some ⟨w.heap.size + 1 + 1, 0, none⟩), .int .i64 0, undef, undef, .agg #[.int .i64 a.k, .int .i64 a.n, .string (str a.s)], .agg #[.int .i64 (normV a).k, .int .i64 (normV a).n, .string (str (normV a).s)], .agg #[.int .i64 b.k, .int .i64 b.n, .string (str b.s)], .agg #[.int .i64 (normV b).k, .int .i64 (normV b).n, .string (str (normV b).s)], undef, undef, undef, undef, undef, undef, undef, undef, undef, undef, undef, undef, undef, undef, undef, undef, undef, undef, undef, undef, undef, undef, undef, undef, undef, undef, undef, undef, undef, undef, undef, undef, undef, undef, undef, undef, undef], []⟩ u) :
    Code.wp Try.prog (.region 1 #[({ dst := some 10, op := Op.load 23 (Operand.tmp 4), type := 23, pos := "operators.go:14", after := #[], guard := none } : Oper), ({ dst := some 11, op := Op.call { callee := Callee.value (Operand.func 30), args := #[Operand.tmp 10], argTypes := #[23] }, type := 23, pos := "operators.go:14", after := #[{ on := 0, ground := Ground.data }], guard := none } : Oper), ({ dst := some 12, op := Op.load 23 (Operand.tmp 5), type := 23, pos := "operators.go:14", after := #[], guard := none } : Oper), ({ dst := some 13, op := Op.call { callee := Callee.value (Operand.func 30), args := #[Operand.tmp 12], argTypes := #[23] }, type := 23, pos := "operators.go:14", after := #[{ on := 2, ground := Ground.data }, { on := 1, ground := Ground.chain }], guard := none } : Oper), ({ dst := none, op := Op.store 23 (Operand.tmp 4) (Operand.tmp 11), type := 0, pos := "operators.go:14", after := #[{ on := 1, ground := Ground.data }, { on := 3, ground := Ground.chain }, { on := 0, ground := Ground.phase }, { on := 1, ground := Ground.phase }, { on := 2, ground := Ground.textOnly Departure.lateStores }, { on := 3, ground := Ground.textOnly Departure.lateStoresUnsure }], guard := none } : Oper), ({ dst := none, op := Op.store 23 (Operand.tmp 5) (Operand.tmp 13), type := 0, pos := "operators.go:14", after := #[{ on := 3, ground := Ground.data }, { on := 4, ground := Ground.chain }, { on := 0, ground := Ground.phase }, { on := 1, ground := Ground.phase }, { on := 2, ground := Ground.phase }, { on := 3, ground := Ground.phase }, { on := 4, ground := Ground.phase }], guard := none } : Oper)] true) Q ⟨#[.int .i64 op, .agg #[.int .i64 a.k, .int .i64 a.n, .string (str a.s)], .agg #[.int .i64 b.k, .int .i64 b.n, .string (str b.s)], undef, .pointer (some ⟨w.heap.size, 0, none⟩), .pointer (some ⟨w.heap.size + 1, 0, none⟩), .pointer (some ⟨w.heap.size + 1 + 1, 0, none⟩), .int .i64 0, undef, undef, undef, undef, undef, undef, undef, undef, undef, undef, undef, undef, undef, undef, undef, undef, undef, undef, undef, undef, undef, undef, undef, undef, undef, undef, undef, undef, undef, undef, undef, undef, undef, undef, undef, undef, undef, undef, undef, undef, undef, undef, undef], []⟩ u0 := by
  dsimp only at h ⊢
  have HN := Lib.hid h
  clear h
  obtain ⟨r0, r1, r2⟩ := bx_cells hT.1.1
  obtain ⟨s0, s1, s2⟩ := bx_cells hT.1.2.1
  replace hT := hT.drew
  refine wp_region_held_drew (S := fun u => Tri w u a b ∨ Tri w u (normV a) b ∨ Tri w u (normV a) (normV b)) (by kernel_rfl) ((Or.inl hT)) (fun hHeld => ?_)
  refine wpAnyH_ready (rs := [0, 2]) (by kernel_rfl) (by simp) ?_
  refine (AllReadyH.cons (o := ({ dst := some 10, op := Op.load 23 (Operand.tmp 4), type := 23, pos := "operators.go:14", after := #[], guard := none } : Oper)) rfl (fun K hK => ?_) (AllReadyH.cons (o := ({ dst := some 12, op := Op.load 23 (Operand.tmp 5), type := 23, pos := "operators.go:14", after := #[], guard := none } : Oper)) rfl (fun K hK => ?_) AllReadyH.nil))
  · obtain ⟨p0, p1, p2⟩ := bx_cells hT.1.1
    go_simp
    refine hK.out _ _ (Or.inl hT) (fun hHeld => ?_)
    clear hK K
    try simp only [Act.put, List.setIfInBounds_toArray, List.set_cons_zero, List.set_cons_succ]
    refine wpAnyH_ready (rs := [1, 2]) (by kernel_rfl) (by simp) ?_
    refine (AllReadyH.cons (o := ({ dst := some 11, op := Op.call { callee := Callee.value (Operand.func 30), args := #[Operand.tmp 10], argTypes := #[23] }, type := 23, pos := "operators.go:14", after := #[{ on := 0, ground := Ground.data }], guard := none } : Oper)) rfl (fun K hK => ?_) (AllReadyH.cons (o := ({ dst := some 12, op := Op.load 23 (Operand.tmp 5), type := 23, pos := "operators.go:14", after := #[], guard := none } : Oper)) rfl (fun K hK => ?_) AllReadyH.nil))
    · go_simp
      go_at_call 30
      refine (plain_any a _).mono ?_
      rintro e w' ⟨rfl, hb⟩
      replace hT := hT.below hb
      go_wp2_with fail
      refine hK.out _ _ (Or.inl hT) (fun hHeld => ?_)
      clear hK K
      try simp only [Act.put, List.setIfInBounds_toArray, List.set_cons_zero, List.set_cons_succ]
      refine wpAnyH_ready (rs := [2]) (by kernel_rfl) (by simp) ?_
      refine (AllReadyH.cons (o := ({ dst := some 12, op := Op.load 23 (Operand.tmp 5), type := 23, pos := "operators.go:14", after := #[], guard := none } : Oper)) rfl (fun K hK => ?_) AllReadyH.nil)
      obtain ⟨q0, q1, q2⟩ := bx_cells hT.1.2.1
      go_simp
      refine hK.out _ _ (Or.inl hT) (fun hHeld => ?_)
      clear hK K
      try simp only [Act.put, List.setIfInBounds_toArray, List.set_cons_zero, List.set_cons_succ]
      refine wpAnyH_ready (rs := [3]) (by kernel_rfl) (by simp) ?_
      refine (AllReadyH.cons (o := ({ dst := some 13, op := Op.call { callee := Callee.value (Operand.func 30), args := #[Operand.tmp 12], argTypes := #[23] }, type := 23, pos := "operators.go:14", after := #[{ on := 2, ground := Ground.data }, { on := 1, ground := Ground.chain }], guard := none } : Oper)) rfl (fun K hK => ?_) AllReadyH.nil)
      go_simp
      go_at_call 30
      refine (plain_any b _).mono ?_
      rintro e w' ⟨rfl, hb⟩
      replace hT := hT.below hb
      go_wp2_with fail
      refine hK.out _ _ (Or.inl hT) (fun hHeld => ?_)
      clear hK K
      try simp only [Act.put, List.setIfInBounds_toArray, List.set_cons_zero, List.set_cons_succ]
      refine wpAnyH_ready (rs := [4]) (by kernel_rfl) (by simp) ?_
      refine (AllReadyH.cons (o := ({ dst := none, op := Op.store 23 (Operand.tmp 4) (Operand.tmp 11), type := 0, pos := "operators.go:14", after := #[{ on := 1, ground := Ground.data }, { on := 3, ground := Ground.chain }, { on := 0, ground := Ground.phase }, { on := 1, ground := Ground.phase }, { on := 2, ground := Ground.textOnly Departure.lateStores }, { on := 3, ground := Ground.textOnly Departure.lateStoresUnsure }], guard := none } : Oper)) rfl (fun K hK => ?_) AllReadyH.nil)
      obtain ⟨p0, p1, p2⟩ := bx_cells hT.1.1
      obtain ⟨f0, f1, f2⟩ := bx_free hT.1.1
      replace hT := hT.set1 (normV a)
      go_simp
      refine hK.out _ _ (Or.inr (Or.inl hT)) (fun hHeld => ?_)
      clear hK K
      try simp only [Act.put]
      refine wpAnyH_ready (rs := [5]) (by kernel_rfl) (by simp) ?_
      refine (AllReadyH.cons (o := ({ dst := none, op := Op.store 23 (Operand.tmp 5) (Operand.tmp 13), type := 0, pos := "operators.go:14", after := #[{ on := 3, ground := Ground.data }, { on := 4, ground := Ground.chain }, { on := 0, ground := Ground.phase }, { on := 1, ground := Ground.phase }, { on := 2, ground := Ground.phase }, { on := 3, ground := Ground.phase }, { on := 4, ground := Ground.phase }], guard := none } : Oper)) rfl (fun K hK => ?_) AllReadyH.nil)
      obtain ⟨q0, q1, q2⟩ := bx_cells hT.1.2.1
      obtain ⟨f0, f1, f2⟩ := bx_free hT.1.2.1
      replace hT := hT.set2 (normV b)
      go_simp
      refine hK.out _ _ (Or.inr (Or.inr hT)) (fun hHeld => ?_)
      clear hK K
      try simp only [Act.put]
      refine wpAnyH_done (by kernel_rfl) ?_ _
      exact HN.out _ hT
    · obtain ⟨q0, q1, q2⟩ := bx_cells hT.1.2.1
      go_simp
      refine hK.out _ _ (Or.inl hT) (fun hHeld => ?_)
      clear hK K
      try simp only [Act.put, List.setIfInBounds_toArray, List.set_cons_zero, List.set_cons_succ]
      refine wpAnyH_ready (rs := [1]) (by kernel_rfl) (by simp) ?_
      refine (AllReadyH.cons (o := ({ dst := some 11, op := Op.call { callee := Callee.value (Operand.func 30), args := #[Operand.tmp 10], argTypes := #[23] }, type := 23, pos := "operators.go:14", after := #[{ on := 0, ground := Ground.data }], guard := none } : Oper)) rfl (fun K hK => ?_) AllReadyH.nil)
      go_simp
      go_at_call 30
      refine (plain_any a _).mono ?_
      rintro e w' ⟨rfl, hb⟩
      replace hT := hT.below hb
      go_wp2_with fail
      refine hK.out _ _ (Or.inl hT) (fun hHeld => ?_)
      clear hK K
      try simp only [Act.put, List.setIfInBounds_toArray, List.set_cons_zero, List.set_cons_succ]
      refine wpAnyH_ready (rs := [3]) (by kernel_rfl) (by simp) ?_
      refine (AllReadyH.cons (o := ({ dst := some 13, op := Op.call { callee := Callee.value (Operand.func 30), args := #[Operand.tmp 12], argTypes := #[23] }, type := 23, pos := "operators.go:14", after := #[{ on := 2, ground := Ground.data }, { on := 1, ground := Ground.chain }], guard := none } : Oper)) rfl (fun K hK => ?_) AllReadyH.nil)
      go_simp
      go_at_call 30
      refine (plain_any b _).mono ?_
      rintro e w' ⟨rfl, hb⟩
      replace hT := hT.below hb
      go_wp2_with fail
      refine hK.out _ _ (Or.inl hT) (fun hHeld => ?_)
      clear hK K
      try simp only [Act.put, List.setIfInBounds_toArray, List.set_cons_zero, List.set_cons_succ]
      refine wpAnyH_ready (rs := [4]) (by kernel_rfl) (by simp) ?_
      refine (AllReadyH.cons (o := ({ dst := none, op := Op.store 23 (Operand.tmp 4) (Operand.tmp 11), type := 0, pos := "operators.go:14", after := #[{ on := 1, ground := Ground.data }, { on := 3, ground := Ground.chain }, { on := 0, ground := Ground.phase }, { on := 1, ground := Ground.phase }, { on := 2, ground := Ground.textOnly Departure.lateStores }, { on := 3, ground := Ground.textOnly Departure.lateStoresUnsure }], guard := none } : Oper)) rfl (fun K hK => ?_) AllReadyH.nil)
      obtain ⟨p0, p1, p2⟩ := bx_cells hT.1.1
      obtain ⟨f0, f1, f2⟩ := bx_free hT.1.1
      replace hT := hT.set1 (normV a)
      go_simp
      refine hK.out _ _ (Or.inr (Or.inl hT)) (fun hHeld => ?_)
      clear hK K
      try simp only [Act.put]
      refine wpAnyH_ready (rs := [5]) (by kernel_rfl) (by simp) ?_
      refine (AllReadyH.cons (o := ({ dst := none, op := Op.store 23 (Operand.tmp 5) (Operand.tmp 13), type := 0, pos := "operators.go:14", after := #[{ on := 3, ground := Ground.data }, { on := 4, ground := Ground.chain }, { on := 0, ground := Ground.phase }, { on := 1, ground := Ground.phase }, { on := 2, ground := Ground.phase }, { on := 3, ground := Ground.phase }, { on := 4, ground := Ground.phase }], guard := none } : Oper)) rfl (fun K hK => ?_) AllReadyH.nil)
      obtain ⟨q0, q1, q2⟩ := bx_cells hT.1.2.1
      obtain ⟨f0, f1, f2⟩ := bx_free hT.1.2.1
      replace hT := hT.set2 (normV b)
      go_simp
      refine hK.out _ _ (Or.inr (Or.inr hT)) (fun hHeld => ?_)
      clear hK K
      try simp only [Act.put]
      refine wpAnyH_done (by kernel_rfl) ?_ _
      exact HN.out _ hT
  · obtain ⟨q0, q1, q2⟩ := bx_cells hT.1.2.1
    go_simp
    refine hK.out _ _ (Or.inl hT) (fun hHeld => ?_)
    clear hK K
    try simp only [Act.put, List.setIfInBounds_toArray, List.set_cons_zero, List.set_cons_succ]
    refine wpAnyH_ready (rs := [0]) (by kernel_rfl) (by simp) ?_
    refine (AllReadyH.cons (o := ({ dst := some 10, op := Op.load 23 (Operand.tmp 4), type := 23, pos := "operators.go:14", after := #[], guard := none } : Oper)) rfl (fun K hK => ?_) AllReadyH.nil)
    obtain ⟨p0, p1, p2⟩ := bx_cells hT.1.1
    go_simp
    refine hK.out _ _ (Or.inl hT) (fun hHeld => ?_)
    clear hK K
    try simp only [Act.put, List.setIfInBounds_toArray, List.set_cons_zero, List.set_cons_succ]
    refine wpAnyH_ready (rs := [1]) (by kernel_rfl) (by simp) ?_
    refine (AllReadyH.cons (o := ({ dst := some 11, op := Op.call { callee := Callee.value (Operand.func 30), args := #[Operand.tmp 10], argTypes := #[23] }, type := 23, pos := "operators.go:14", after := #[{ on := 0, ground := Ground.data }], guard := none } : Oper)) rfl (fun K hK => ?_) AllReadyH.nil)
    go_simp
    go_at_call 30
    refine (plain_any a _).mono ?_
    rintro e w' ⟨rfl, hb⟩
    replace hT := hT.below hb
    go_wp2_with fail
    refine hK.out _ _ (Or.inl hT) (fun hHeld => ?_)
    clear hK K
    try simp only [Act.put, List.setIfInBounds_toArray, List.set_cons_zero, List.set_cons_succ]
    refine wpAnyH_ready (rs := [3]) (by kernel_rfl) (by simp) ?_
    refine (AllReadyH.cons (o := ({ dst := some 13, op := Op.call { callee := Callee.value (Operand.func 30), args := #[Operand.tmp 12], argTypes := #[23] }, type := 23, pos := "operators.go:14", after := #[{ on := 2, ground := Ground.data }, { on := 1, ground := Ground.chain }], guard := none } : Oper)) rfl (fun K hK => ?_) AllReadyH.nil)
    go_simp
    go_at_call 30
    refine (plain_any b _).mono ?_
    rintro e w' ⟨rfl, hb⟩
    replace hT := hT.below hb
    go_wp2_with fail
    refine hK.out _ _ (Or.inl hT) (fun hHeld => ?_)
    clear hK K
    try simp only [Act.put, List.setIfInBounds_toArray, List.set_cons_zero, List.set_cons_succ]
    refine wpAnyH_ready (rs := [4]) (by kernel_rfl) (by simp) ?_
    refine (AllReadyH.cons (o := ({ dst := none, op := Op.store 23 (Operand.tmp 4) (Operand.tmp 11), type := 0, pos := "operators.go:14", after := #[{ on := 1, ground := Ground.data }, { on := 3, ground := Ground.chain }, { on := 0, ground := Ground.phase }, { on := 1, ground := Ground.phase }, { on := 2, ground := Ground.textOnly Departure.lateStores }, { on := 3, ground := Ground.textOnly Departure.lateStoresUnsure }], guard := none } : Oper)) rfl (fun K hK => ?_) AllReadyH.nil)
    obtain ⟨p0, p1, p2⟩ := bx_cells hT.1.1
    obtain ⟨f0, f1, f2⟩ := bx_free hT.1.1
    replace hT := hT.set1 (normV a)
    go_simp
    refine hK.out _ _ (Or.inr (Or.inl hT)) (fun hHeld => ?_)
    clear hK K
    try simp only [Act.put]
    refine wpAnyH_ready (rs := [5]) (by kernel_rfl) (by simp) ?_
    refine (AllReadyH.cons (o := ({ dst := none, op := Op.store 23 (Operand.tmp 5) (Operand.tmp 13), type := 0, pos := "operators.go:14", after := #[{ on := 3, ground := Ground.data }, { on := 4, ground := Ground.chain }, { on := 0, ground := Ground.phase }, { on := 1, ground := Ground.phase }, { on := 2, ground := Ground.phase }, { on := 3, ground := Ground.phase }, { on := 4, ground := Ground.phase }], guard := none } : Oper)) rfl (fun K hK => ?_) AllReadyH.nil)
    obtain ⟨q0, q1, q2⟩ := bx_cells hT.1.2.1
    obtain ⟨f0, f1, f2⟩ := bx_free hT.1.2.1
    replace hT := hT.set2 (normV b)
    go_simp
    refine hK.out _ _ (Or.inr (Or.inr hT)) (fun hHeld => ?_)
    clear hK K
    try simp only [Act.put]
    refine wpAnyH_done (by kernel_rfl) ?_ _
    exact HN.out _ hT
end Go.Proofs.Ytbhilmgpmebaiaa
namespace Go.Proofs.Ytbhilmgpmebaiaa
open Go.RowKit
theorem hp_4 (w : World) (a b c d : Obj) : ((((w.alloc a).alloc b).alloc c).alloc d).heap[w.heap.size + 1 + 1 + 1]? = some d := by
  have := heap_alloc_new (((w.alloc a).alloc b).alloc c) d
  simpa using this
def ofR (a b : Val) (q : Int × Int) : Val × Int := if (okK 1 a.k && okK 1 b.k) = false then (nulV, 22) else if a = nulV ∨ b = nulV then (nulV, 0) else if q.2 ≠ 0 then (nulV, q.2) else (numV q.1, 0)
set_option maxHeartbeats 1600000 in
theorem calcOf_add (a b : Val) (w : World) (q : Int × Int) (ha : Rng a.s) (hb : Rng b.s) (hq : ∀ w, Calls Try.prog 61 #[.int .i64 a.n, .int .i64 b.n] w fun e w' => e = .returned (.tuple #[.int .i64 q.1, .int .i64 q.2]) ∧ w' = w) :
    Calls Try.prog 34 #[.func (.func 61) #[] #[], .agg #[.int .i64 a.k, .int .i64 a.n, .string (str a.s)], .agg #[.int .i64 b.k, .int .i64 b.n, .string (str b.s)]] w fun e w' => e = .returned (.tuple #[.agg #[.int .i64 ((ofR a b q).1).k, .int .i64 ((ofR a b q).1).n, .string (str ((ofR a b q).1).s)], .int .i64 (ofR a b q).2]) ∧ Below w.heap.size w w' := by
  obtain ⟨q1, q2⟩ := q
  have HQ := Lib.hid hq
  have HA := fun H T w h => allOf2_any 1 a.k b.k H T w h
  have HNA := fun w => isNull_any a w ha
  have HNB := fun w => isNull_any b w hb
  clear hq
  cases hok : (okK 1 a.k && okK 1 b.k) with
  | false =>
    simp only [hok] at HA
    replace HA := Lib.hid HA
    rw [show ofR a b (q1, q2) = (nulV, 22) by rw [ofR, if_pos hok]]
    clear hok HNA HNB
    go_enter Try.func34, Try.ntmps34
    go_wp2_with (first
      | (go_at_call 55; refine (HA.out _ _ _ (hp_4 _ _ _ _ _)).mono ?_; rintro e w' ⟨rfl, rfl⟩))
    refine bodyPost_ret (v := .tuple #[.agg #[.int .i64 0, .int .i64 0, .string ⟨#[]⟩], .int .i64 22]) (by simp [results, Try.results34, go_sem]) rfl ⟨?_, ?_⟩
    · rfl
    · (repeat (first | exact Below.refl _ _ | refine bl_al ?_ _ | refine Below.setCell ?_ (by first | omega | (simp; done) | (simp; omega)) _))
  | true =>
    simp only [hok] at HA
    replace HA := Lib.hid HA
    by_cases na : a = nulV
    · rw [show ofR a b (q1, q2) = (nulV, 0) by rw [ofR, hok, if_neg (by decide), if_pos (.inl na)]]
      simp only [decide_eq_true na] at HNA
      replace HNA := Lib.hid HNA
      clear hok HNB na
      go_enter Try.func34, Try.ntmps34
      go_wp2_with (first
        | (go_at_call 55; refine (HA.out _ _ _ (hp_4 _ _ _ _ _)).mono ?_; rintro e w' ⟨rfl, rfl⟩)
        | (go_at_call 65; refine (HNA.out _).mono ?_; rintro e w' ⟨rfl, rfl⟩))
      refine bodyPost_ret (v := .tuple #[.agg #[.int .i64 0, .int .i64 0, .string ⟨#[]⟩], .int .i64 0]) (by simp [results, Try.results34, go_sem]) rfl ⟨?_, ?_⟩
      · rfl
      · (repeat (first | exact Below.refl _ _ | refine bl_al ?_ _ | refine Below.setCell ?_ (by first | omega | (simp; done) | (simp; omega)) _))
    simp only [decide_eq_false na] at HNA
    replace HNA := Lib.hid HNA
    by_cases nb : b = nulV
    · rw [show ofR a b (q1, q2) = (nulV, 0) by rw [ofR, hok, if_neg (by decide), if_pos (.inr nb)]]
      simp only [decide_eq_true nb] at HNB
      replace HNB := Lib.hid HNB
      clear hok na nb
      go_enter Try.func34, Try.ntmps34
      go_wp2_with (first
        | (go_at_call 55; refine (HA.out _ _ _ (hp_4 _ _ _ _ _)).mono ?_; rintro e w' ⟨rfl, rfl⟩)
        | (go_at_call 65; refine (HNA.out _).mono ?_; rintro e w' ⟨rfl, rfl⟩; clear HNA)
        | (go_at_call 65; refine (HNB.out _).mono ?_; rintro e w' ⟨rfl, rfl⟩))
      refine bodyPost_ret (v := .tuple #[.agg #[.int .i64 0, .int .i64 0, .string ⟨#[]⟩], .int .i64 0]) (by simp [results, Try.results34, go_sem]) rfl ⟨?_, ?_⟩
      · rfl
      · (repeat (first | exact Below.refl _ _ | refine bl_al ?_ _ | refine Below.setCell ?_ (by first | omega | (simp; done) | (simp; omega)) _))
    simp only [decide_eq_false nb] at HNB
    replace HNB := Lib.hid HNB
    by_cases n2 : q2 = 0
    · subst n2
      rw [show ofR a b (q1, 0) = (numV q1, 0) by rw [ofR, hok, if_neg (by decide), if_neg (by simp [na, nb]), if_neg (by simp)]]
      clear hok na nb
      go_enter Try.func34, Try.ntmps34
      go_wp2_with (first
        | (go_at_call 55; refine (HA.out _ _ _ (hp_4 _ _ _ _ _)).mono ?_; rintro e w' ⟨rfl, rfl⟩)
        | (go_at_call 65; refine (HNA.out _).mono ?_; rintro e w' ⟨rfl, rfl⟩; clear HNA)
        | (go_at_call 65; refine (HNB.out _).mono ?_; rintro e w' ⟨rfl, rfl⟩)
        | (go_at_call 61; refine (HQ.out _).mono ?_; rintro e w' ⟨rfl, rfl⟩)
        | (go_at_call 57; refine (integer_any _ _).mono ?_; rintro e w' ⟨rfl, rfl⟩))
      refine bodyPost_ret (v := .tuple #[.agg #[.int .i64 1, .int .i64 q1, .string ⟨#[]⟩], .int .i64 0]) (by simp [results, Try.results34, go_sem]) rfl ⟨?_, ?_⟩
      · rfl
      · (repeat (first | exact Below.refl _ _ | refine bl_al ?_ _ | refine Below.setCell ?_ (by first | omega | (simp; done) | (simp; omega)) _))
    · rw [show ofR a b (q1, q2) = (nulV, q2) by rw [ofR, hok, if_neg (by decide), if_neg (by simp [na, nb]), if_pos n2]]
      have g : (q2 != 0) = true := bne_iff_ne.2 n2
      clear hok na nb
      go_enter Try.func34, Try.ntmps34
      go_wp2_with (first
        | (go_at_call 55; refine (HA.out _ _ _ (hp_4 _ _ _ _ _)).mono ?_; rintro e w' ⟨rfl, rfl⟩)
        | (go_at_call 65; refine (HNA.out _).mono ?_; rintro e w' ⟨rfl, rfl⟩; clear HNA)
        | (go_at_call 65; refine (HNB.out _).mono ?_; rintro e w' ⟨rfl, rfl⟩)
        | (go_at_call 61; refine (HQ.out _).mono ?_; rintro e w' ⟨rfl, rfl⟩))
      refine bodyPost_ret (v := .tuple #[.agg #[.int .i64 0, .int .i64 0, .string ⟨#[]⟩], .int .i64 q2]) (by simp [results, Try.results34, go_sem]) rfl ⟨?_, ?_⟩
      · rfl
      · (repeat (first | exact Below.refl _ _ | refine bl_al ?_ _ | refine Below.setCell ?_ (by first | omega | (simp; done) | (simp; omega)) _))
set_option maxHeartbeats 1600000 in
theorem calcOf_subtract (a b : Val) (w : World) (q : Int × Int) (ha : Rng a.s) (hb : Rng b.s) (hq : ∀ w, Calls Try.prog 60 #[.int .i64 a.n, .int .i64 b.n] w fun e w' => e = .returned (.tuple #[.int .i64 q.1, .int .i64 q.2]) ∧ w' = w) :
    Calls Try.prog 34 #[.func (.func 60) #[] #[], .agg #[.int .i64 a.k, .int .i64 a.n, .string (str a.s)], .agg #[.int .i64 b.k, .int .i64 b.n, .string (str b.s)]] w fun e w' => e = .returned (.tuple #[.agg #[.int .i64 ((ofR a b q).1).k, .int .i64 ((ofR a b q).1).n, .string (str ((ofR a b q).1).s)], .int .i64 (ofR a b q).2]) ∧ Below w.heap.size w w' := by
  obtain ⟨q1, q2⟩ := q
  have HQ := Lib.hid hq
  have HA := fun H T w h => allOf2_any 1 a.k b.k H T w h
  have HNA := fun w => isNull_any a w ha
  have HNB := fun w => isNull_any b w hb
  clear hq
  cases hok : (okK 1 a.k && okK 1 b.k) with
  | false =>
    simp only [hok] at HA
    replace HA := Lib.hid HA
    rw [show ofR a b (q1, q2) = (nulV, 22) by rw [ofR, if_pos hok]]
    clear hok HNA HNB
    go_enter Try.func34, Try.ntmps34
    go_wp2_with (first
      | (go_at_call 55; refine (HA.out _ _ _ (hp_4 _ _ _ _ _)).mono ?_; rintro e w' ⟨rfl, rfl⟩))
    refine bodyPost_ret (v := .tuple #[.agg #[.int .i64 0, .int .i64 0, .string ⟨#[]⟩], .int .i64 22]) (by simp [results, Try.results34, go_sem]) rfl ⟨?_, ?_⟩
    · rfl
    · (repeat (first | exact Below.refl _ _ | refine bl_al ?_ _ | refine Below.setCell ?_ (by first | omega | (simp; done) | (simp; omega)) _))
  | true =>
    simp only [hok] at HA
    replace HA := Lib.hid HA
    by_cases na : a = nulV
    · rw [show ofR a b (q1, q2) = (nulV, 0) by rw [ofR, hok, if_neg (by decide), if_pos (.inl na)]]
      simp only [decide_eq_true na] at HNA
      replace HNA := Lib.hid HNA
      clear hok HNB na
      go_enter Try.func34, Try.ntmps34
      go_wp2_with (first
        | (go_at_call 55; refine (HA.out _ _ _ (hp_4 _ _ _ _ _)).mono ?_; rintro e w' ⟨rfl, rfl⟩)
        | (go_at_call 65; refine (HNA.out _).mono ?_; rintro e w' ⟨rfl, rfl⟩))
      refine bodyPost_ret (v := .tuple #[.agg #[.int .i64 0, .int .i64 0, .string ⟨#[]⟩], .int .i64 0]) (by simp [results, Try.results34, go_sem]) rfl ⟨?_, ?_⟩
      · rfl
      · (repeat (first | exact Below.refl _ _ | refine bl_al ?_ _ | refine Below.setCell ?_ (by first | omega | (simp; done) | (simp; omega)) _))
    simp only [decide_eq_false na] at HNA
    replace HNA := Lib.hid HNA
    by_cases nb : b = nulV
    · rw [show ofR a b (q1, q2) = (nulV, 0) by rw [ofR, hok, if_neg (by decide), if_pos (.inr nb)]]
      simp only [decide_eq_true nb] at HNB
      replace HNB := Lib.hid HNB
      clear hok na nb
      go_enter Try.func34, Try.ntmps34
      go_wp2_with (first
        | (go_at_call 55; refine (HA.out _ _ _ (hp_4 _ _ _ _ _)).mono ?_; rintro e w' ⟨rfl, rfl⟩)
        | (go_at_call 65; refine (HNA.out _).mono ?_; rintro e w' ⟨rfl, rfl⟩; clear HNA)
        | (go_at_call 65; refine (HNB.out _).mono ?_; rintro e w' ⟨rfl, rfl⟩))
      refine bodyPost_ret (v := .tuple #[.agg #[.int .i64 0, .int .i64 0, .string ⟨#[]⟩], .int .i64 0]) (by simp [results, Try.results34, go_sem]) rfl ⟨?_, ?_⟩
      · rfl
      · (repeat (first | exact Below.refl _ _ | refine bl_al ?_ _ | refine Below.setCell ?_ (by first | omega | (simp; done) | (simp; omega)) _))
    simp only [decide_eq_false nb] at HNB
    replace HNB := Lib.hid HNB
    by_cases n2 : q2 = 0
    · subst n2
      rw [show ofR a b (q1, 0) = (numV q1, 0) by rw [ofR, hok, if_neg (by decide), if_neg (by simp [na, nb]), if_neg (by simp)]]
      clear hok na nb
      go_enter Try.func34, Try.ntmps34
      go_wp2_with (first
        | (go_at_call 55; refine (HA.out _ _ _ (hp_4 _ _ _ _ _)).mono ?_; rintro e w' ⟨rfl, rfl⟩)
        | (go_at_call 65; refine (HNA.out _).mono ?_; rintro e w' ⟨rfl, rfl⟩; clear HNA)
        | (go_at_call 65; refine (HNB.out _).mono ?_; rintro e w' ⟨rfl, rfl⟩)
        | (go_at_call 60; refine (HQ.out _).mono ?_; rintro e w' ⟨rfl, rfl⟩)
        | (go_at_call 57; refine (integer_any _ _).mono ?_; rintro e w' ⟨rfl, rfl⟩))
      refine bodyPost_ret (v := .tuple #[.agg #[.int .i64 1, .int .i64 q1, .string ⟨#[]⟩], .int .i64 0]) (by simp [results, Try.results34, go_sem]) rfl ⟨?_, ?_⟩
      · rfl
      · (repeat (first | exact Below.refl _ _ | refine bl_al ?_ _ | refine Below.setCell ?_ (by first | omega | (simp; done) | (simp; omega)) _))
    · rw [show ofR a b (q1, q2) = (nulV, q2) by rw [ofR, hok, if_neg (by decide), if_neg (by simp [na, nb]), if_pos n2]]
      have g : (q2 != 0) = true := bne_iff_ne.2 n2
      clear hok na nb
      go_enter Try.func34, Try.ntmps34
      go_wp2_with (first
        | (go_at_call 55; refine (HA.out _ _ _ (hp_4 _ _ _ _ _)).mono ?_; rintro e w' ⟨rfl, rfl⟩)
        | (go_at_call 65; refine (HNA.out _).mono ?_; rintro e w' ⟨rfl, rfl⟩; clear HNA)
        | (go_at_call 65; refine (HNB.out _).mono ?_; rintro e w' ⟨rfl, rfl⟩)
        | (go_at_call 60; refine (HQ.out _).mono ?_; rintro e w' ⟨rfl, rfl⟩))
      refine bodyPost_ret (v := .tuple #[.agg #[.int .i64 0, .int .i64 0, .string ⟨#[]⟩], .int .i64 q2]) (by simp [results, Try.results34, go_sem]) rfl ⟨?_, ?_⟩
      · rfl
      · (repeat (first | exact Below.refl _ _ | refine bl_al ?_ _ | refine Below.setCell ?_ (by first | omega | (simp; done) | (simp; omega)) _))
set_option maxHeartbeats 1600000 in
theorem calcOf_multiply (a b : Val) (w : World) (q : Int × Int) (ha : Rng a.s) (hb : Rng b.s) (hq : ∀ w, Calls Try.prog 62 #[.int .i64 a.n, .int .i64 b.n] w fun e w' => e = .returned (.tuple #[.int .i64 q.1, .int .i64 q.2]) ∧ w' = w) :
    Calls Try.prog 34 #[.func (.func 62) #[] #[], .agg #[.int .i64 a.k, .int .i64 a.n, .string (str a.s)], .agg #[.int .i64 b.k, .int .i64 b.n, .string (str b.s)]] w fun e w' => e = .returned (.tuple #[.agg #[.int .i64 ((ofR a b q).1).k, .int .i64 ((ofR a b q).1).n, .string (str ((ofR a b q).1).s)], .int .i64 (ofR a b q).2]) ∧ Below w.heap.size w w' := by
  obtain ⟨q1, q2⟩ := q
  have HQ := Lib.hid hq
  have HA := fun H T w h => allOf2_any 1 a.k b.k H T w h
  have HNA := fun w => isNull_any a w ha
  have HNB := fun w => isNull_any b w hb
  clear hq
  cases hok : (okK 1 a.k && okK 1 b.k) with
  | false =>
    simp only [hok] at HA
    replace HA := Lib.hid HA
    rw [show ofR a b (q1, q2) = (nulV, 22) by rw [ofR, if_pos hok]]
    clear hok HNA HNB
    go_enter Try.func34, Try.ntmps34
    go_wp2_with (first
      | (go_at_call 55; refine (HA.out _ _ _ (hp_4 _ _ _ _ _)).mono ?_; rintro e w' ⟨rfl, rfl⟩))
    refine bodyPost_ret (v := .tuple #[.agg #[.int .i64 0, .int .i64 0, .string ⟨#[]⟩], .int .i64 22]) (by simp [results, Try.results34, go_sem]) rfl ⟨?_, ?_⟩
    · rfl
    · (repeat (first | exact Below.refl _ _ | refine bl_al ?_ _ | refine Below.setCell ?_ (by first | omega | (simp; done) | (simp; omega)) _))
  | true =>
    simp only [hok] at HA
    replace HA := Lib.hid HA
    by_cases na : a = nulV
    · rw [show ofR a b (q1, q2) = (nulV, 0) by rw [ofR, hok, if_neg (by decide), if_pos (.inl na)]]
      simp only [decide_eq_true na] at HNA
      replace HNA := Lib.hid HNA
      clear hok HNB na
      go_enter Try.func34, Try.ntmps34
      go_wp2_with (first
        | (go_at_call 55; refine (HA.out _ _ _ (hp_4 _ _ _ _ _)).mono ?_; rintro e w' ⟨rfl, rfl⟩)
        | (go_at_call 65; refine (HNA.out _).mono ?_; rintro e w' ⟨rfl, rfl⟩))
      refine bodyPost_ret (v := .tuple #[.agg #[.int .i64 0, .int .i64 0, .string ⟨#[]⟩], .int .i64 0]) (by simp [results, Try.results34, go_sem]) rfl ⟨?_, ?_⟩
      · rfl
      · (repeat (first | exact Below.refl _ _ | refine bl_al ?_ _ | refine Below.setCell ?_ (by first | omega | (simp; done) | (simp; omega)) _))
    simp only [decide_eq_false na] at HNA
    replace HNA := Lib.hid HNA
    by_cases nb : b = nulV
    · rw [show ofR a b (q1, q2) = (nulV, 0) by rw [ofR, hok, if_neg (by decide), if_pos (.inr nb)]]
      simp only [decide_eq_true nb] at HNB
      replace HNB := Lib.hid HNB
      clear hok na nb
      go_enter Try.func34, Try.ntmps34
      go_wp2_with (first
        | (go_at_call 55; refine (HA.out _ _ _ (hp_4 _ _ _ _ _)).mono ?_; rintro e w' ⟨rfl, rfl⟩)
        | (go_at_call 65; refine (HNA.out _).mono ?_; rintro e w' ⟨rfl, rfl⟩; clear HNA)
        | (go_at_call 65; refine (HNB.out _).mono ?_; rintro e w' ⟨rfl, rfl⟩))
      refine bodyPost_ret (v := .tuple #[.agg #[.int .i64 0, .int .i64 0, .string ⟨#[]⟩], .int .i64 0]) (by simp [results, Try.results34, go_sem]) rfl ⟨?_, ?_⟩
      · rfl
      · (repeat (first | exact Below.refl _ _ | refine bl_al ?_ _ | refine Below.setCell ?_ (by first | omega | (simp; done) | (simp; omega)) _))
    simp only [decide_eq_false nb] at HNB
    replace HNB := Lib.hid HNB
    by_cases n2 : q2 = 0
    · subst n2
      rw [show ofR a b (q1, 0) = (numV q1, 0) by rw [ofR, hok, if_neg (by decide), if_neg (by simp [na, nb]), if_neg (by simp)]]
      clear hok na nb
      go_enter Try.func34, Try.ntmps34
      go_wp2_with (first
        | (go_at_call 55; refine (HA.out _ _ _ (hp_4 _ _ _ _ _)).mono ?_; rintro e w' ⟨rfl, rfl⟩)
        | (go_at_call 65; refine (HNA.out _).mono ?_; rintro e w' ⟨rfl, rfl⟩; clear HNA)
        | (go_at_call 65; refine (HNB.out _).mono ?_; rintro e w' ⟨rfl, rfl⟩)
        | (go_at_call 62; refine (HQ.out _).mono ?_; rintro e w' ⟨rfl, rfl⟩)
        | (go_at_call 57; refine (integer_any _ _).mono ?_; rintro e w' ⟨rfl, rfl⟩))
      refine bodyPost_ret (v := .tuple #[.agg #[.int .i64 1, .int .i64 q1, .string ⟨#[]⟩], .int .i64 0]) (by simp [results, Try.results34, go_sem]) rfl ⟨?_, ?_⟩
      · rfl
      · (repeat (first | exact Below.refl _ _ | refine bl_al ?_ _ | refine Below.setCell ?_ (by first | omega | (simp; done) | (simp; omega)) _))
    · rw [show ofR a b (q1, q2) = (nulV, q2) by rw [ofR, hok, if_neg (by decide), if_neg (by simp [na, nb]), if_pos n2]]
      have g : (q2 != 0) = true := bne_iff_ne.2 n2
      clear hok na nb
      go_enter Try.func34, Try.ntmps34
      go_wp2_with (first
        | (go_at_call 55; refine (HA.out _ _ _ (hp_4 _ _ _ _ _)).mono ?_; rintro e w' ⟨rfl, rfl⟩)
        | (go_at_call 65; refine (HNA.out _).mono ?_; rintro e w' ⟨rfl, rfl⟩; clear HNA)
        | (go_at_call 65; refine (HNB.out _).mono ?_; rintro e w' ⟨rfl, rfl⟩)
        | (go_at_call 62; refine (HQ.out _).mono ?_; rintro e w' ⟨rfl, rfl⟩))
      refine bodyPost_ret (v := .tuple #[.agg #[.int .i64 0, .int .i64 0, .string ⟨#[]⟩], .int .i64 q2]) (by simp [results, Try.results34, go_sem]) rfl ⟨?_, ?_⟩
      · rfl
      · (repeat (first | exact Below.refl _ _ | refine bl_al ?_ _ | refine Below.setCell ?_ (by first | omega | (simp; done) | (simp; omega)) _))
end Go.Proofs.Ytbhilmgpmebaiaa
namespace Go.Proofs.Ytbhilmgpmebaiaa
open Go.RowKit
set_option maxHeartbeats 1600000 in
theorem calcOf_divide (a b : Val) (w : World) (q : Int × Int) (ha : Rng a.s) (hb : Rng b.s) (hq : ∀ w, Calls Try.prog 63 #[.int .i64 a.n, .int .i64 b.n] w fun e w' => e = .returned (.tuple #[.int .i64 q.1, .int .i64 q.2]) ∧ w' = w) :
    Calls Try.prog 34 #[.func (.func 63) #[] #[], .agg #[.int .i64 a.k, .int .i64 a.n, .string (str a.s)], .agg #[.int .i64 b.k, .int .i64 b.n, .string (str b.s)]] w fun e w' => e = .returned (.tuple #[.agg #[.int .i64 ((ofR a b q).1).k, .int .i64 ((ofR a b q).1).n, .string (str ((ofR a b q).1).s)], .int .i64 (ofR a b q).2]) ∧ Below w.heap.size w w' := by
  obtain ⟨q1, q2⟩ := q
  have HQ := Lib.hid hq
  have HA := fun H T w h => allOf2_any 1 a.k b.k H T w h
  have HNA := fun w => isNull_any a w ha
  have HNB := fun w => isNull_any b w hb
  clear hq
  cases hok : (okK 1 a.k && okK 1 b.k) with
  | false =>
    simp only [hok] at HA
    replace HA := Lib.hid HA
    rw [show ofR a b (q1, q2) = (nulV, 22) by rw [ofR, if_pos hok]]
    clear hok HNA HNB
    go_enter Try.func34, Try.ntmps34
    go_wp2_with (first
      | (go_at_call 55; refine (HA.out _ _ _ (hp_4 _ _ _ _ _)).mono ?_; rintro e w' ⟨rfl, rfl⟩))
    refine bodyPost_ret (v := .tuple #[.agg #[.int .i64 0, .int .i64 0, .string ⟨#[]⟩], .int .i64 22]) (by simp [results, Try.results34, go_sem]) rfl ⟨?_, ?_⟩
    · rfl
    · (repeat (first | exact Below.refl _ _ | refine bl_al ?_ _ | refine Below.setCell ?_ (by first | omega | (simp; done) | (simp; omega)) _))
  | true =>
    simp only [hok] at HA
    replace HA := Lib.hid HA
    by_cases na : a = nulV
    · rw [show ofR a b (q1, q2) = (nulV, 0) by rw [ofR, hok, if_neg (by decide), if_pos (.inl na)]]
      simp only [decide_eq_true na] at HNA
      replace HNA := Lib.hid HNA
      clear hok HNB na
      go_enter Try.func34, Try.ntmps34
      go_wp2_with (first
        | (go_at_call 55; refine (HA.out _ _ _ (hp_4 _ _ _ _ _)).mono ?_; rintro e w' ⟨rfl, rfl⟩)
        | (go_at_call 65; refine (HNA.out _).mono ?_; rintro e w' ⟨rfl, rfl⟩))
      refine bodyPost_ret (v := .tuple #[.agg #[.int .i64 0, .int .i64 0, .string ⟨#[]⟩], .int .i64 0]) (by simp [results, Try.results34, go_sem]) rfl ⟨?_, ?_⟩
      · rfl
      · (repeat (first | exact Below.refl _ _ | refine bl_al ?_ _ | refine Below.setCell ?_ (by first | omega | (simp; done) | (simp; omega)) _))
    simp only [decide_eq_false na] at HNA
    replace HNA := Lib.hid HNA
    by_cases nb : b = nulV
    · rw [show ofR a b (q1, q2) = (nulV, 0) by rw [ofR, hok, if_neg (by decide), if_pos (.inr nb)]]
      simp only [decide_eq_true nb] at HNB
      replace HNB := Lib.hid HNB
      clear hok na nb
      go_enter Try.func34, Try.ntmps34
      go_wp2_with (first
        | (go_at_call 55; refine (HA.out _ _ _ (hp_4 _ _ _ _ _)).mono ?_; rintro e w' ⟨rfl, rfl⟩)
        | (go_at_call 65; refine (HNA.out _).mono ?_; rintro e w' ⟨rfl, rfl⟩; clear HNA)
        | (go_at_call 65; refine (HNB.out _).mono ?_; rintro e w' ⟨rfl, rfl⟩))
      refine bodyPost_ret (v := .tuple #[.agg #[.int .i64 0, .int .i64 0, .string ⟨#[]⟩], .int .i64 0]) (by simp [results, Try.results34, go_sem]) rfl ⟨?_, ?_⟩
      · rfl
      · (repeat (first | exact Below.refl _ _ | refine bl_al ?_ _ | refine Below.setCell ?_ (by first | omega | (simp; done) | (simp; omega)) _))
    simp only [decide_eq_false nb] at HNB
    replace HNB := Lib.hid HNB
    by_cases n2 : q2 = 0
    · subst n2
      rw [show ofR a b (q1, 0) = (numV q1, 0) by rw [ofR, hok, if_neg (by decide), if_neg (by simp [na, nb]), if_neg (by simp)]]
      clear hok na nb
      go_enter Try.func34, Try.ntmps34
      go_wp2_with (first
        | (go_at_call 55; refine (HA.out _ _ _ (hp_4 _ _ _ _ _)).mono ?_; rintro e w' ⟨rfl, rfl⟩)
        | (go_at_call 65; refine (HNA.out _).mono ?_; rintro e w' ⟨rfl, rfl⟩; clear HNA)
        | (go_at_call 65; refine (HNB.out _).mono ?_; rintro e w' ⟨rfl, rfl⟩)
        | (go_at_call 63; refine (HQ.out _).mono ?_; rintro e w' ⟨rfl, rfl⟩)
        | (go_at_call 57; refine (integer_any _ _).mono ?_; rintro e w' ⟨rfl, rfl⟩))
      refine bodyPost_ret (v := .tuple #[.agg #[.int .i64 1, .int .i64 q1, .string ⟨#[]⟩], .int .i64 0]) (by simp [results, Try.results34, go_sem]) rfl ⟨?_, ?_⟩
      · rfl
      · (repeat (first | exact Below.refl _ _ | refine bl_al ?_ _ | refine Below.setCell ?_ (by first | omega | (simp; done) | (simp; omega)) _))
    · rw [show ofR a b (q1, q2) = (nulV, q2) by rw [ofR, hok, if_neg (by decide), if_neg (by simp [na, nb]), if_pos n2]]
      have g : (q2 != 0) = true := bne_iff_ne.2 n2
      clear hok na nb
      go_enter Try.func34, Try.ntmps34
      go_wp2_with (first
        | (go_at_call 55; refine (HA.out _ _ _ (hp_4 _ _ _ _ _)).mono ?_; rintro e w' ⟨rfl, rfl⟩)
        | (go_at_call 65; refine (HNA.out _).mono ?_; rintro e w' ⟨rfl, rfl⟩; clear HNA)
        | (go_at_call 65; refine (HNB.out _).mono ?_; rintro e w' ⟨rfl, rfl⟩)
        | (go_at_call 63; refine (HQ.out _).mono ?_; rintro e w' ⟨rfl, rfl⟩))
      refine bodyPost_ret (v := .tuple #[.agg #[.int .i64 0, .int .i64 0, .string ⟨#[]⟩], .int .i64 q2]) (by simp [results, Try.results34, go_sem]) rfl ⟨?_, ?_⟩
      · rfl
      · (repeat (first | exact Below.refl _ _ | refine bl_al ?_ _ | refine Below.setCell ?_ (by first | omega | (simp; done) | (simp; omega)) _))
set_option maxHeartbeats 1600000 in
theorem calcOf_remainder (a b : Val) (w : World) (q : Int × Int) (ha : Rng a.s) (hb : Rng b.s) (hq : ∀ w, Calls Try.prog 64 #[.int .i64 a.n, .int .i64 b.n] w fun e w' => e = .returned (.tuple #[.int .i64 q.1, .int .i64 q.2]) ∧ w' = w) :
    Calls Try.prog 34 #[.func (.func 64) #[] #[], .agg #[.int .i64 a.k, .int .i64 a.n, .string (str a.s)], .agg #[.int .i64 b.k, .int .i64 b.n, .string (str b.s)]] w fun e w' => e = .returned (.tuple #[.agg #[.int .i64 ((ofR a b q).1).k, .int .i64 ((ofR a b q).1).n, .string (str ((ofR a b q).1).s)], .int .i64 (ofR a b q).2]) ∧ Below w.heap.size w w' := by
  obtain ⟨q1, q2⟩ := q
  have HQ := Lib.hid hq
  have HA := fun H T w h => allOf2_any 1 a.k b.k H T w h
  have HNA := fun w => isNull_any a w ha
  have HNB := fun w => isNull_any b w hb
  clear hq
  cases hok : (okK 1 a.k && okK 1 b.k) with
  | false =>
    simp only [hok] at HA
    replace HA := Lib.hid HA
    rw [show ofR a b (q1, q2) = (nulV, 22) by rw [ofR, if_pos hok]]
    clear hok HNA HNB
    go_enter Try.func34, Try.ntmps34
    go_wp2_with (first
      | (go_at_call 55; refine (HA.out _ _ _ (hp_4 _ _ _ _ _)).mono ?_; rintro e w' ⟨rfl, rfl⟩))
    refine bodyPost_ret (v := .tuple #[.agg #[.int .i64 0, .int .i64 0, .string ⟨#[]⟩], .int .i64 22]) (by simp [results, Try.results34, go_sem]) rfl ⟨?_, ?_⟩
    · rfl
    · (repeat (first | exact Below.refl _ _ | refine bl_al ?_ _ | refine Below.setCell ?_ (by first | omega | (simp; done) | (simp; omega)) _))
  | true =>
    simp only [hok] at HA
    replace HA := Lib.hid HA
    by_cases na : a = nulV
    · rw [show ofR a b (q1, q2) = (nulV, 0) by rw [ofR, hok, if_neg (by decide), if_pos (.inl na)]]
      simp only [decide_eq_true na] at HNA
      replace HNA := Lib.hid HNA
      clear hok HNB na
      go_enter Try.func34, Try.ntmps34
      go_wp2_with (first
        | (go_at_call 55; refine (HA.out _ _ _ (hp_4 _ _ _ _ _)).mono ?_; rintro e w' ⟨rfl, rfl⟩)
        | (go_at_call 65; refine (HNA.out _).mono ?_; rintro e w' ⟨rfl, rfl⟩))
      refine bodyPost_ret (v := .tuple #[.agg #[.int .i64 0, .int .i64 0, .string ⟨#[]⟩], .int .i64 0]) (by simp [results, Try.results34, go_sem]) rfl ⟨?_, ?_⟩
      · rfl
      · (repeat (first | exact Below.refl _ _ | refine bl_al ?_ _ | refine Below.setCell ?_ (by first | omega | (simp; done) | (simp; omega)) _))
    simp only [decide_eq_false na] at HNA
    replace HNA := Lib.hid HNA
    by_cases nb : b = nulV
    · rw [show ofR a b (q1, q2) = (nulV, 0) by rw [ofR, hok, if_neg (by decide), if_pos (.inr nb)]]
      simp only [decide_eq_true nb] at HNB
      replace HNB := Lib.hid HNB
      clear hok na nb
      go_enter Try.func34, Try.ntmps34
      go_wp2_with (first
        | (go_at_call 55; refine (HA.out _ _ _ (hp_4 _ _ _ _ _)).mono ?_; rintro e w' ⟨rfl, rfl⟩)
        | (go_at_call 65; refine (HNA.out _).mono ?_; rintro e w' ⟨rfl, rfl⟩; clear HNA)
        | (go_at_call 65; refine (HNB.out _).mono ?_; rintro e w' ⟨rfl, rfl⟩))
      refine bodyPost_ret (v := .tuple #[.agg #[.int .i64 0, .int .i64 0, .string ⟨#[]⟩], .int .i64 0]) (by simp [results, Try.results34, go_sem]) rfl ⟨?_, ?_⟩
      · rfl
      · (repeat (first | exact Below.refl _ _ | refine bl_al ?_ _ | refine Below.setCell ?_ (by first | omega | (simp; done) | (simp; omega)) _))
    simp only [decide_eq_false nb] at HNB
    replace HNB := Lib.hid HNB
    by_cases n2 : q2 = 0
    · subst n2
      rw [show ofR a b (q1, 0) = (numV q1, 0) by rw [ofR, hok, if_neg (by decide), if_neg (by simp [na, nb]), if_neg (by simp)]]
      clear hok na nb
      go_enter Try.func34, Try.ntmps34
      go_wp2_with (first
        | (go_at_call 55; refine (HA.out _ _ _ (hp_4 _ _ _ _ _)).mono ?_; rintro e w' ⟨rfl, rfl⟩)
        | (go_at_call 65; refine (HNA.out _).mono ?_; rintro e w' ⟨rfl, rfl⟩; clear HNA)
        | (go_at_call 65; refine (HNB.out _).mono ?_; rintro e w' ⟨rfl, rfl⟩)
        | (go_at_call 64; refine (HQ.out _).mono ?_; rintro e w' ⟨rfl, rfl⟩)
        | (go_at_call 57; refine (integer_any _ _).mono ?_; rintro e w' ⟨rfl, rfl⟩))
      refine bodyPost_ret (v := .tuple #[.agg #[.int .i64 1, .int .i64 q1, .string ⟨#[]⟩], .int .i64 0]) (by simp [results, Try.results34, go_sem]) rfl ⟨?_, ?_⟩
      · rfl
      · (repeat (first | exact Below.refl _ _ | refine bl_al ?_ _ | refine Below.setCell ?_ (by first | omega | (simp; done) | (simp; omega)) _))
    · rw [show ofR a b (q1, q2) = (nulV, q2) by rw [ofR, hok, if_neg (by decide), if_neg (by simp [na, nb]), if_pos n2]]
      have g : (q2 != 0) = true := bne_iff_ne.2 n2
      clear hok na nb
      go_enter Try.func34, Try.ntmps34
      go_wp2_with (first
        | (go_at_call 55; refine (HA.out _ _ _ (hp_4 _ _ _ _ _)).mono ?_; rintro e w' ⟨rfl, rfl⟩)
        | (go_at_call 65; refine (HNA.out _).mono ?_; rintro e w' ⟨rfl, rfl⟩; clear HNA)
        | (go_at_call 65; refine (HNB.out _).mono ?_; rintro e w' ⟨rfl, rfl⟩)
        | (go_at_call 64; refine (HQ.out _).mono ?_; rintro e w' ⟨rfl, rfl⟩))
      refine bodyPost_ret (v := .tuple #[.agg #[.int .i64 0, .int .i64 0, .string ⟨#[]⟩], .int .i64 q2]) (by simp [results, Try.results34, go_sem]) rfl ⟨?_, ?_⟩
      · rfl
      · (repeat (first | exact Below.refl _ _ | refine bl_al ?_ _ | refine Below.setCell ?_ (by first | omega | (simp; done) | (simp; omega)) _))
set_option maxHeartbeats 1600000 in
theorem calcOf_neg (a b : Val) (w : World) (q : Int × Int) (ha : Rng a.s) (hb : Rng b.s) (hq : ∀ w, Calls Try.prog 59 #[.int .i64 a.n, .int .i64 b.n] w fun e w' => e = .returned (.tuple #[.int .i64 q.1, .int .i64 q.2]) ∧ w' = w) :
    Calls Try.prog 34 #[.func (.func 59) #[] #[], .agg #[.int .i64 a.k, .int .i64 a.n, .string (str a.s)], .agg #[.int .i64 b.k, .int .i64 b.n, .string (str b.s)]] w fun e w' => e = .returned (.tuple #[.agg #[.int .i64 ((ofR a b q).1).k, .int .i64 ((ofR a b q).1).n, .string (str ((ofR a b q).1).s)], .int .i64 (ofR a b q).2]) ∧ Below w.heap.size w w' := by
  obtain ⟨q1, q2⟩ := q
  have HQ := Lib.hid hq
  have HA := fun H T w h => allOf2_any 1 a.k b.k H T w h
  have HNA := fun w => isNull_any a w ha
  have HNB := fun w => isNull_any b w hb
  clear hq
  cases hok : (okK 1 a.k && okK 1 b.k) with
  | false =>
    simp only [hok] at HA
    replace HA := Lib.hid HA
    rw [show ofR a b (q1, q2) = (nulV, 22) by rw [ofR, if_pos hok]]
    clear hok HNA HNB
    go_enter Try.func34, Try.ntmps34
    go_wp2_with (first
      | (go_at_call 55; refine (HA.out _ _ _ (hp_4 _ _ _ _ _)).mono ?_; rintro e w' ⟨rfl, rfl⟩))
    refine bodyPost_ret (v := .tuple #[.agg #[.int .i64 0, .int .i64 0, .string ⟨#[]⟩], .int .i64 22]) (by simp [results, Try.results34, go_sem]) rfl ⟨?_, ?_⟩
    · rfl
    · (repeat (first | exact Below.refl _ _ | refine bl_al ?_ _ | refine Below.setCell ?_ (by first | omega | (simp; done) | (simp; omega)) _))
  | true =>
    simp only [hok] at HA
    replace HA := Lib.hid HA
    by_cases na : a = nulV
    · rw [show ofR a b (q1, q2) = (nulV, 0) by rw [ofR, hok, if_neg (by decide), if_pos (.inl na)]]
      simp only [decide_eq_true na] at HNA
      replace HNA := Lib.hid HNA
      clear hok HNB na
      go_enter Try.func34, Try.ntmps34
      go_wp2_with (first
        | (go_at_call 55; refine (HA.out _ _ _ (hp_4 _ _ _ _ _)).mono ?_; rintro e w' ⟨rfl, rfl⟩)
        | (go_at_call 65; refine (HNA.out _).mono ?_; rintro e w' ⟨rfl, rfl⟩))
      refine bodyPost_ret (v := .tuple #[.agg #[.int .i64 0, .int .i64 0, .string ⟨#[]⟩], .int .i64 0]) (by simp [results, Try.results34, go_sem]) rfl ⟨?_, ?_⟩
      · rfl
      · (repeat (first | exact Below.refl _ _ | refine bl_al ?_ _ | refine Below.setCell ?_ (by first | omega | (simp; done) | (simp; omega)) _))
    simp only [decide_eq_false na] at HNA
    replace HNA := Lib.hid HNA
    by_cases nb : b = nulV
    · rw [show ofR a b (q1, q2) = (nulV, 0) by rw [ofR, hok, if_neg (by decide), if_pos (.inr nb)]]
      simp only [decide_eq_true nb] at HNB
      replace HNB := Lib.hid HNB
      clear hok na nb
      go_enter Try.func34, Try.ntmps34
      go_wp2_with (first
        | (go_at_call 55; refine (HA.out _ _ _ (hp_4 _ _ _ _ _)).mono ?_; rintro e w' ⟨rfl, rfl⟩)
        | (go_at_call 65; refine (HNA.out _).mono ?_; rintro e w' ⟨rfl, rfl⟩; clear HNA)
        | (go_at_call 65; refine (HNB.out _).mono ?_; rintro e w' ⟨rfl, rfl⟩))
      refine bodyPost_ret (v := .tuple #[.agg #[.int .i64 0, .int .i64 0, .string ⟨#[]⟩], .int .i64 0]) (by simp [results, Try.results34, go_sem]) rfl ⟨?_, ?_⟩
      · rfl
      · (repeat (first | exact Below.refl _ _ | refine bl_al ?_ _ | refine Below.setCell ?_ (by first | omega | (simp; done) | (simp; omega)) _))
    simp only [decide_eq_false nb] at HNB
    replace HNB := Lib.hid HNB
    by_cases n2 : q2 = 0
    · subst n2
      rw [show ofR a b (q1, 0) = (numV q1, 0) by rw [ofR, hok, if_neg (by decide), if_neg (by simp [na, nb]), if_neg (by simp)]]
      clear hok na nb
      go_enter Try.func34, Try.ntmps34
      go_wp2_with (first
        | (go_at_call 55; refine (HA.out _ _ _ (hp_4 _ _ _ _ _)).mono ?_; rintro e w' ⟨rfl, rfl⟩)
        | (go_at_call 65; refine (HNA.out _).mono ?_; rintro e w' ⟨rfl, rfl⟩; clear HNA)
        | (go_at_call 65; refine (HNB.out _).mono ?_; rintro e w' ⟨rfl, rfl⟩)
        | (go_at_call 59; refine (HQ.out _).mono ?_; rintro e w' ⟨rfl, rfl⟩)
        | (go_at_call 57; refine (integer_any _ _).mono ?_; rintro e w' ⟨rfl, rfl⟩))
      refine bodyPost_ret (v := .tuple #[.agg #[.int .i64 1, .int .i64 q1, .string ⟨#[]⟩], .int .i64 0]) (by simp [results, Try.results34, go_sem]) rfl ⟨?_, ?_⟩
      · rfl
      · (repeat (first | exact Below.refl _ _ | refine bl_al ?_ _ | refine Below.setCell ?_ (by first | omega | (simp; done) | (simp; omega)) _))
    · rw [show ofR a b (q1, q2) = (nulV, q2) by rw [ofR, hok, if_neg (by decide), if_neg (by simp [na, nb]), if_pos n2]]
      have g : (q2 != 0) = true := bne_iff_ne.2 n2
      clear hok na nb
      go_enter Try.func34, Try.ntmps34
      go_wp2_with (first
        | (go_at_call 55; refine (HA.out _ _ _ (hp_4 _ _ _ _ _)).mono ?_; rintro e w' ⟨rfl, rfl⟩)
        | (go_at_call 65; refine (HNA.out _).mono ?_; rintro e w' ⟨rfl, rfl⟩; clear HNA)
        | (go_at_call 65; refine (HNB.out _).mono ?_; rintro e w' ⟨rfl, rfl⟩)
        | (go_at_call 59; refine (HQ.out _).mono ?_; rintro e w' ⟨rfl, rfl⟩))
      refine bodyPost_ret (v := .tuple #[.agg #[.int .i64 0, .int .i64 0, .string ⟨#[]⟩], .int .i64 q2]) (by simp [results, Try.results34, go_sem]) rfl ⟨?_, ?_⟩
      · rfl
      · (repeat (first | exact Below.refl _ _ | refine bl_al ?_ _ | refine Below.setCell ?_ (by first | omega | (simp; done) | (simp; omega)) _))
end Go.Proofs.Ytbhilmgpmebaiaa
