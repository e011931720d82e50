/- stage 7: a tree is split at a key -/
import Derived.Test.YtbmlkocpjboodaaDoorMt06
namespace Go.Proofs.YtbmlkocpjboodaaDoor
open Go.RowKit
open Go.Lib (hid)
/-- no tree is pruned -/
def MT.Full : MT → Prop
 | .nil => True
 | .cut _ => False
 | .nd _ _ _ _ l r => l.Full ∧ r.Full
/-- the trees ahead of a key and behind it -/
def MT.split (key : List Int) : MT → MT × MT
 | .nil => (.nil, .nil)
 | .cut _ => (.nil, .nil)
 | .nd k n rk _ l r => if cmpI key k < 0 then ((l.split key).1, mkN k n rk (l.split key).2 r) else if 0 < cmpI key k then (mkN k n rk l (r.split key).1, (r.split key).2) else (l, r)
theorem MT.split_ok (key : List Int) : ∀ t : MT, t.Good → t.Full → (t.split key).1.Good ∧ (t.split key).2.Good ∧ (t.split key).1.Full ∧ (t.split key).2.Full
 | .nil, _, _ => ⟨trivial, trivial, trivial, trivial⟩
 | .cut _, _, h => absurd h id
 | .nd k n rk d l r, ⟨h0, gl, gr, h3, h4, h5, h6, h7⟩, ⟨fl, fr⟩ => by
  obtain ⟨l1, l2, l3, l4⟩ := MT.split_ok key l gl fl
  obtain ⟨r1, r2, r3, r4⟩ := MT.split_ok key r gr fr
  unfold MT.split
  split
  ·exact ⟨l1, mkN_good l2 gr h3 h4 h5 h6 h7, l3, l4, fr⟩
  ·split
   ·exact ⟨mkN_good gl r1 h3 h4 h5 h6 h7, r2, ⟨fl, r3⟩, r4⟩
   ·exact ⟨gl, gr, fl, fr⟩
theorem exec_load_mid {P : Program} {ρ : Operand → Value} {op : Oper} {w : World} (ty : TypeId) (x : Operand) (ho : op.op = .load ty x) (b o : Nat) (hx : ρ x = .pointer (some ⟨b, o, none⟩)) (cs : List Value) (d : TypeDesc) (hc : w.rangeAt b o cs)
  (hu : P.underlying ty = some d) (hd : d.isRow = true) (hi : (P.info? ty).map (·.size) = some cs.length) : (execOp ρ op).run P w = .ok (.value (.agg cs.toArray)) w := by
 unfold execOp
 simp only [ho, hx, Instr.loadAt, Instr.sureAddr, Sem.run_bind, Sem.run_pure, Result.andThen_ok, run_loadVar_mid w b o ty cs d hc hu hd hi]
/-- the row of a node's entry and rank -/
def rkL (kv : Value) (n : Nat) (rk : List Int) : List Value := [kv, Value.int .i64 n] ++ rk.map (Value.int .u8)
theorem rkL_info {kv : Value} {n : Nat} {rk : List Int} (h : rk.length = 32) : (Tryd.prog.info? 66).map (·.size) = some (rkL kv n rk).length := by
 rw [show (rkL kv n rk).length = 34 by simp [rkL, h]]; kernel_rfl
theorem nd_rng0 {w : World} {b : Nat} {kv lp rp : Value} {n : Nat} {rk dg : List Int} {pr : Bool} (h : w.heap[b]? = some (.cells (ndC kv n rk lp rp dg pr) 115 (0, 0))) (h1 : rk.length = 32) : w.rangeAt b 0 (rkL kv n rk) := fun j x hj => by
 have hl : j < 34 := by have := (List.getElem?_eq_some_iff.1 hj).1; simpa [rkL, h1] using this
 rw [cell_of_row _ b _ _ _ _ h, Nat.zero_add]
 unfold ndC
 rw [List.getElem?_toArray, ← List.append_assoc, List.getElem?_append_left (by simp [h1]; omega)]
 exact hj
/-- what is read of a node, in each later world -/
structure NR (w : World) (b : Nat) (kv : Value) (n : Nat) (rk : List Int) (lp rp : Value) : Prop where
 c0 : w.cell? ⟨b, 0, none⟩ = some kv
 c34 : w.cell? ⟨b, 34, none⟩ = some lp
 c35 : w.cell? ⟨b, 35, none⟩ = some rp
 rg : w.rangeAt b 0 (rkL kv n rk)
 lt : b < w.heap.size
theorem NR.of {w : World} {b : Nat} {kv lp rp : Value} {n : Nat} {rk dg : List Int} {pr : Bool} (h : w.heap[b]? = some (.cells (ndC kv n rk lp rp dg pr) 115 (0, 0))) (h1 : rk.length = 32) : NR w b kv n rk lp rp :=
 ⟨(cell_of_row w b 0 _ _ _ h).trans ndC_0, (cell_of_row w b 34 _ _ _ h).trans (ndC_l h1), (cell_of_row w b 35 _ _ _ h).trans (ndC_r h1), nd_rng0 h h1, blk_lt h⟩
theorem NR.below {w w' : World} {b : Nat} {kv lp rp : Value} {n : Nat} {rk : List Int} (h : NR w b kv n rk lp rp) (hb : Below w.heap.size w w') : NR w' b kv n rk lp rp :=
 ⟨(hb.cell (p := ⟨b, 0, none⟩) h.lt).trans h.c0, (hb.cell (p := ⟨b, 34, none⟩) h.lt).trans h.c34, (hb.cell (p := ⟨b, 35, none⟩) h.lt).trans h.c35, fun j x hj => (hb.cell (p := ⟨b, 0 + j, none⟩) h.lt).trans (h.rg j x hj), Nat.lt_of_lt_of_le h.lt hb.size⟩
set_option maxRecDepth 100000 in
set_option maxHeartbeats 8000000 in
theorem split_any {S : Nat → Prop} (key : List Int) (gk : Rng key) : ∀ (t : MT) (w : World) (p kv : Value), (∀ b, w.heap.size ≤ b → S b) → MIs w S p t → t.Full → t.Good → KC w → Bs w kv key →
  Calls Tryd.prog 70 #[p, kv] w fun e w' => ∃ p1 p2, e = .returned (.tuple #[p1, p2]) ∧ MIs w' S p1 (t.split key).1 ∧ MIs w' S p2 (t.split key).2 ∧ Below w.heap.size w w' := by
 intro t
 induction t with
 | nil =>
  intro w p kv hS hp _ _ hK hk
  obtain rfl : p = .pointer none := hp
  obtain ⟨ak, ck, rfl, -, -⟩ := hk
  clear hK hS
  go_enter Tryd.func70, Tryd.ntmps70
  go_wp2_with fail
  go_ret2
  exact ⟨_, _, rfl, rfl, rfl, Below.refl _ _⟩
 | cut d => intro w p kv _ _ hf; exact absurd hf id
 | nd k n rk dg l r ihl ihr =>
  intro w p kv hS hp hf hg hK hk
  obtain ⟨b, kn, lp, rp, rfl, hSb, h1, h2, hx, hkn, hl, hr⟩ := hp
  obtain ⟨fl, fr⟩ := hf
  obtain ⟨-, gl, gr, hkl, hkr, hn, hr1, hr2⟩ := hg
  obtain ⟨al, rfl⟩ := hl.form
  obtain ⟨ar, rfl⟩ := hr.form
  obtain ⟨an, cn, rfl⟩ := hkn.form
  have hnr := NR.of hx h1
  have c0 := hnr.c0
  have c34 := hnr.c34
  have c35 := hnr.c35
  have HNR := hid hnr
  have HCM := hid (compare_any kv _ key k w hk hkn.1 gk hkr)
  have HH := hid (And.intro hS (And.intro hkn (And.intro hl (And.intro hr (And.intro fl (And.intro fr (And.intro gl (And.intro gr (And.intro hkl (And.intro hn (And.intro hK hk)))))))))))
  have HRI := hid (rkL_info (kv := .slice an k.length cn) (n := n) h1)
  have H1 := hid h1
  obtain ⟨ak, ck, rfl, -, -⟩ := id hk
  have HQ := hid (cmpI_rng key k)
  have HSPL := hid (show (MT.nd k n rk dg l r).split key = if cmpI key k < 0 then ((l.split key).1, mkN k n rk (l.split key).2 r) else if 0 < cmpI key k then (mkN k n rk l (r.split key).1, (r.split key).2) else (l, r) from rfl)
  clear hx hkn hl hr fl fr gl gr hkl hkr hn hr1 hr2 hK hk hnr hS h1 h2 hSb
  go_enter Tryd.func70, Tryd.ntmps70
  go_wp2_with fail
  refine HCM.out.mono ?_
  rintro e w' ⟨rfl, rfl⟩
  generalize cmpI key k = cc at *
  by_cases hlt : cc < 0
  ·rw [if_pos hlt] at HSPL
   obtain ⟨hS, hkn, hl, hr, fl, fr, gl, gr, hkl, hn, hK, hk⟩ := HH.out
   have HIH := hid (ihl w' _ _ hS hl fl gl hK hk)
   clear hS hkn hl hr fl fr gl gr hkl hn hK hk
   go_wp2_with fail
   refine HIH.out.mono ?_
   rintro e w3 ⟨p1, p2, rfl, hp1, hp2, hb3⟩
   obtain ⟨a1, rfl⟩ := hp1.form
   obtain ⟨a2, rfl⟩ := hp2.form
   have HP := hid (And.intro hp1 (And.intro hp2 hb3))
   clear hp1 hp2 hb3 HIH
   go_wp2_with fail
   obtain ⟨hS, hkn, hl, hr, fl, fr, gl, gr, hkl, hn, hK, hk⟩ := HH.out
   have hbd := HP.out.2.2.drew
   have HN := hid (newNode_any (S := S) w3.drew (.slice an k.length cn) (.pointer a2) (.pointer ar) k n rk (l.split key).2 r (fun b hb => hS b (Nat.le_trans hbd.size hb)) H1.out (hkn.below hbd) (HP.out.2.1.below (Below.refl _ _).drew) (hr.below hbd) (MT.split_ok key l gl fl).2.1 gr (hK.below hbd hK.1) hkl hn)
   have HN3 := hid (HNR.out.below hbd)
   clear hS hkn hl hr fl fr gl gr hkl hn hK hk hbd c0 c34 c35
   refine wp_region_held_drew (S := fun u => Below w3.drew.heap.size w3.drew u) (by kernel_rfl) (Below.refl _ _) (fun hHeld => ?_)
   refine tk (i := 0) (oi := ⟨some 33, .move (.tmp 7), 68, "node.go:126", #[], none⟩) (v := ?_) (Or.inl ⟨by rfl, ?_⟩) ?_
   rotate_left 1
   ·(intro u hSw; go_simp; try with_reducible rfl)
   try simp only [Act.put, sA, sB, sC]
   refine tk (i := 1) (oi := ⟨some 34, .move (.tmp 0), 68, "node.go:126", #[], none⟩) (v := ?_) (Or.inl ⟨by rfl, ?_⟩) ?_
   rotate_left 1
   ·(intro u hSw; go_simp; try with_reducible rfl)
   try simp only [Act.put, sA, sB, sC]
   refine tk (i := 2) (oi := ⟨some 35, .nilCheck (.tmp 34), 0, "node.go:126", #[⟨1, .data⟩], none⟩) (v := ?_) (Or.inl ⟨by rfl, ?_⟩) ?_
   rotate_left 1
   ·(intro u hSw; go_simp; try with_reducible rfl)
   try simp only [Act.put, sA, sB, sC]
   refine tk (i := 3) (oi := ⟨some 36, .fieldAddr 115 (.tmp 35) 0, 0, "node.go:126", #[⟨2, .data⟩], none⟩) (v := ?_) (Or.inl ⟨by rfl, ?_⟩) ?_
   rotate_left 1
   ·(intro u hSw; go_simp; try with_reducible rfl)
   try simp only [Act.put, sA, sB, sC]
   refine tk (i := 4) (oi := ⟨some 37, .load 66 (.tmp 36), 66, "node.go:126", #[⟨3, .data⟩], none⟩) (v := .agg (rkC (.slice an k.length cn) n rk)) (Or.inl ⟨by rfl, ?_⟩) ?_
   ·intro u hSw
    exact exec_load_mid 66 (Operand.tmp 36) rfl b 0 rfl (rkL (.slice an k.length cn) n rk) _ (HN3.out.below hSw).rg Tryd.underlying66 rfl HRI.out
   try simp only [Act.put, sA, sB, sC]
   refine tk (i := 5) (oi := ⟨some 38, .move (.tmp 8), 68, "node.go:126", #[], none⟩) (v := ?_) (Or.inl ⟨by rfl, ?_⟩) ?_
   rotate_left 1
   ·(intro u hSw; go_simp; try with_reducible rfl)
   try simp only [Act.put, sA, sB, sC]
   refine tk (i := 6) (oi := ⟨some 39, .move (.tmp 0), 68, "node.go:126", #[], none⟩) (v := ?_) (Or.inl ⟨by rfl, ?_⟩) ?_
   rotate_left 1
   ·(intro u hSw; go_simp; try with_reducible rfl)
   try simp only [Act.put, sA, sB, sC]
   refine tk (i := 7) (oi := ⟨some 40, .nilCheck (.tmp 39), 0, "node.go:126", #[⟨6, .data⟩], none⟩) (v := ?_) (Or.inl ⟨by rfl, ?_⟩) ?_
   rotate_left 1
   ·(intro u hSw; go_simp; try with_reducible rfl)
   try simp only [Act.put, sA, sB, sC]
   refine tk (i := 8) (oi := ⟨some 41, .fieldAddr 115 (.tmp 40) 2, 0, "node.go:126", #[⟨7, .data⟩], none⟩) (v := ?_) (Or.inl ⟨by rfl, ?_⟩) ?_
   rotate_left 1
   ·(intro u hSw; go_simp; try with_reducible rfl)
   try simp only [Act.put, sA, sB, sC]
   refine tk (i := 9) (oi := ⟨some 42, .load 68 (.tmp 41), 68, "node.go:126", #[⟨8, .data⟩], none⟩) (v := ?_) (Or.inl ⟨by rfl, ?_⟩) ?_
   rotate_left 1
   ·(intro u hSw; have c35 := (HN3.out.below hSw).c35; go_simp; try with_reducible rfl)
   try simp only [Act.put, sA, sB, sC]
   refine wpAnyH_ready (rs := [10]) (by kernel_rfl) (by simp) ?_
   refine (AllReadyH.cons (o := ⟨some 43, .call ⟨.value (.func 59), #[.tmp 37, .tmp 38, .tmp 42], #[66, 68, 68]⟩, 68, "node.go:126", #[⟨4, .data⟩, ⟨5, .data⟩, ⟨9, .data⟩], none⟩) rfl (fun K hK => ?_) AllReadyH.nil)
   go_simp
   refine HN.out.mono ?_
   rintro e w4 ⟨p4, rfl, hm, hb4⟩
   obtain ⟨a4, rfl⟩ := hm.form
   have HM := hid (And.intro hm hb4)
   go_wp2_with fail
   refine hK.out _ _ hb4 (fun hHeld => ?_)
   clear hK K
   try simp only [Act.put, sA, sB, sC]
   refine tk (i := 11) (oi := ⟨some 4, .assign (.tmp 33), 68, "node.go:126", #[⟨0, .data⟩, ⟨10, .chain⟩, ⟨0, .phase⟩, ⟨1, .textOnly Departure.lateStores⟩, ⟨2, .textOnly Departure.lateStores⟩, ⟨3, .textOnly Departure.lateStores⟩, ⟨4, .textOnly Departure.lateStores⟩, ⟨5, .textOnly Departure.lateStores⟩, ⟨6, .textOnly Departure.lateStores⟩, ⟨7, .textOnly Departure.lateStores⟩, ⟨8, .textOnly Departure.lateStores⟩, ⟨9, .textOnly Departure.lateStores⟩, ⟨10, .textOnly Departure.lateStoresUnsure⟩], none⟩) (v := ?_) (Or.inl ⟨by rfl, ?_⟩) ?_
   rotate_left 1
   ·(intro u hSw; go_simp; try with_reducible rfl)
   try simp only [Act.put, sA, sB, sC]
   refine tk (i := 12) (oi := ⟨some 5, .assign (.tmp 43), 68, "node.go:126", #[⟨10, .data⟩, ⟨11, .chain⟩, ⟨0, .phase⟩, ⟨1, .phase⟩, ⟨2, .phase⟩, ⟨3, .phase⟩, ⟨4, .phase⟩, ⟨5, .phase⟩, ⟨6, .phase⟩, ⟨7, .phase⟩, ⟨8, .phase⟩, ⟨9, .phase⟩, ⟨10, .phase⟩, ⟨11, .phase⟩], none⟩) (v := ?_) (Or.inl ⟨by rfl, ?_⟩) ?_
   rotate_left 1
   ·(intro u hSw; go_simp; try with_reducible rfl)
   try simp only [Act.put, sA, sB, sC]
   refine wpAnyH_done (by kernel_rfl) ?_ _
   go_wp2_with fail
   go_ret2
   rw [HSPL.out]
   exact ⟨_, _, rfl, (HP.out.1.below (Below.refl _ _).drew).below HM.out.2, HM.out.1, HP.out.2.2.drew.trans (HM.out.2.mono HP.out.2.2.drew.size)⟩
  ·by_cases hgt : 0 < cc
   ·rw [if_neg hlt, if_pos hgt] at HSPL
    obtain ⟨hS, hkn, hl, hr, fl, fr, gl, gr, hkl, hn, hK, hk⟩ := HH.out
    have HIH := hid (ihr w' _ _ hS hr fr gr hK hk)
    clear hS hkn hl hr fl fr gl gr hkl hn hK hk
    go_wp2_with fail
    refine HIH.out.mono ?_
    rintro e w3 ⟨p1, p2, rfl, hp1, hp2, hb3⟩
    obtain ⟨a1, rfl⟩ := hp1.form
    obtain ⟨a2, rfl⟩ := hp2.form
    have HP := hid (And.intro hp1 (And.intro hp2 hb3))
    clear hp1 hp2 hb3 HIH
    go_wp2_with fail
    obtain ⟨hS, hkn, hl, hr, fl, fr, gl, gr, hkl, hn, hK, hk⟩ := HH.out
    have hbd := HP.out.2.2.drew
    have HN := hid (newNode_any (S := S) w3.drew (.slice an k.length cn) (.pointer al) (.pointer a1) k n rk l (r.split key).1 (fun b hb => hS b (Nat.le_trans hbd.size hb)) H1.out (hkn.below hbd) (hl.below hbd) (HP.out.1.below (Below.refl _ _).drew) gl (MT.split_ok key r gr fr).1 (hK.below hbd hK.1) hkl hn)
    have HN3 := hid (HNR.out.below hbd)
    clear hS hkn hl hr fl fr gl gr hkl hn hK hk hbd c0 c34 c35
    refine wp_region_held_drew (S := fun u => Below w3.drew.heap.size w3.drew u) (by kernel_rfl) (Below.refl _ _) (fun hHeld => ?_)
    refine tk (i := 0) (oi := ⟨some 56, .move (.tmp 0), 68, "node.go:129", #[], none⟩) (v := ?_) (Or.inl ⟨by rfl, ?_⟩) ?_
    rotate_left 1
    ·(intro u hSw; go_simp; try with_reducible rfl)
    try simp only [Act.put, sA, sB, sC]
    refine tk (i := 1) (oi := ⟨some 57, .nilCheck (.tmp 56), 0, "node.go:129", #[⟨0, .data⟩], none⟩) (v := ?_) (Or.inl ⟨by rfl, ?_⟩) ?_
    rotate_left 1
    ·(intro u hSw; go_simp; try with_reducible rfl)
    try simp only [Act.put, sA, sB, sC]
    refine tk (i := 2) (oi := ⟨some 58, .fieldAddr 115 (.tmp 57) 0, 0, "node.go:129", #[⟨1, .data⟩], none⟩) (v := ?_) (Or.inl ⟨by rfl, ?_⟩) ?_
    rotate_left 1
    ·(intro u hSw; go_simp; try with_reducible rfl)
    try simp only [Act.put, sA, sB, sC]
    refine tk (i := 3) (oi := ⟨some 59, .load 66 (.tmp 58), 66, "node.go:129", #[⟨2, .data⟩], none⟩) (v := .agg (rkC (.slice an k.length cn) n rk)) (Or.inl ⟨by rfl, ?_⟩) ?_
    ·intro u hSw
     exact exec_load_mid 66 (Operand.tmp 58) rfl b 0 rfl (rkL (.slice an k.length cn) n rk) _ (HN3.out.below hSw).rg Tryd.underlying66 rfl HRI.out
    try simp only [Act.put, sA, sB, sC]
    refine tk (i := 4) (oi := ⟨some 60, .move (.tmp 0), 68, "node.go:129", #[], none⟩) (v := ?_) (Or.inl ⟨by rfl, ?_⟩) ?_
    rotate_left 1
    ·(intro u hSw; go_simp; try with_reducible rfl)
    try simp only [Act.put, sA, sB, sC]
    refine tk (i := 5) (oi := ⟨some 61, .nilCheck (.tmp 60), 0, "node.go:129", #[⟨4, .data⟩], none⟩) (v := ?_) (Or.inl ⟨by rfl, ?_⟩) ?_
    rotate_left 1
    ·(intro u hSw; go_simp; try with_reducible rfl)
    try simp only [Act.put, sA, sB, sC]
    refine tk (i := 6) (oi := ⟨some 62, .fieldAddr 115 (.tmp 61) 1, 0, "node.go:129", #[⟨5, .data⟩], none⟩) (v := ?_) (Or.inl ⟨by rfl, ?_⟩) ?_
    rotate_left 1
    ·(intro u hSw; go_simp; try with_reducible rfl)
    try simp only [Act.put, sA, sB, sC]
    refine tk (i := 7) (oi := ⟨some 63, .load 68 (.tmp 62), 68, "node.go:129", #[⟨6, .data⟩], none⟩) (v := ?_) (Or.inl ⟨by rfl, ?_⟩) ?_
    rotate_left 1
    ·(intro u hSw; have c34 := (HN3.out.below hSw).c34; go_simp; try with_reducible rfl)
    try simp only [Act.put, sA, sB, sC]
    refine tk (i := 8) (oi := ⟨some 64, .move (.tmp 9), 68, "node.go:129", #[], none⟩) (v := ?_) (Or.inl ⟨by rfl, ?_⟩) ?_
    rotate_left 1
    ·(intro u hSw; go_simp; try with_reducible rfl)
    try simp only [Act.put, sA, sB, sC]
    refine tk (i := 10) (oi := ⟨some 66, .move (.tmp 10), 68, "node.go:129", #[⟨11, .gcOnly Departure.lateStores⟩], none⟩) (v := ?_) (Or.inl ⟨by rfl, ?_⟩) ?_
    rotate_left 1
    ·(intro u hSw; go_simp; try with_reducible rfl)
    try simp only [Act.put, sA, sB, sC]
    refine wpAnyH_ready (rs := [9]) (by kernel_rfl) (by simp) ?_
    refine (AllReadyH.cons (o := ⟨some 65, .call ⟨.value (.func 59), #[.tmp 59, .tmp 63, .tmp 64], #[66, 68, 68]⟩, 68, "node.go:129", #[⟨3, .data⟩, ⟨7, .data⟩, ⟨8, .data⟩], none⟩) rfl (fun K hK => ?_) AllReadyH.nil)
    go_simp
    refine HN.out.mono ?_
    rintro e w4 ⟨p4, rfl, hm, hb4⟩
    obtain ⟨a4, rfl⟩ := hm.form
    have HM := hid (And.intro hm hb4)
    go_wp2_with fail
    refine hK.out _ _ hb4 (fun hHeld => ?_)
    clear hK K
    try simp only [Act.put, sA, sB, sC]
    refine tk (i := 11) (oi := ⟨some 4, .assign (.tmp 65), 68, "node.go:129", #[⟨9, .data⟩, ⟨9, .chain⟩, ⟨0, .phase⟩, ⟨1, .phase⟩, ⟨2, .phase⟩, ⟨3, .phase⟩, ⟨4, .phase⟩, ⟨5, .phase⟩, ⟨6, .phase⟩, ⟨7, .phase⟩, ⟨8, .phase⟩, ⟨9, .phase⟩, ⟨10, .textOnly Departure.lateStores⟩], none⟩) (v := ?_) (Or.inl ⟨by rfl, ?_⟩) ?_
    rotate_left 1
    ·(intro u hSw; go_simp; try with_reducible rfl)
    try simp only [Act.put, sA, sB, sC]
    refine tk (i := 12) (oi := ⟨some 5, .assign (.tmp 66), 68, "node.go:129", #[⟨10, .data⟩, ⟨11, .chain⟩, ⟨0, .phase⟩, ⟨1, .phase⟩, ⟨2, .phase⟩, ⟨3, .phase⟩, ⟨4, .phase⟩, ⟨5, .phase⟩, ⟨6, .phase⟩, ⟨7, .phase⟩, ⟨8, .phase⟩, ⟨9, .phase⟩, ⟨10, .phase⟩, ⟨11, .phase⟩], none⟩) (v := ?_) (Or.inl ⟨by rfl, ?_⟩) ?_
    rotate_left 1
    ·(intro u hSw; go_simp; try with_reducible rfl)
    try simp only [Act.put, sA, sB, sC]
    refine wpAnyH_done (by kernel_rfl) ?_ _
    go_wp2_with fail
    go_ret2
    rw [HSPL.out]
    exact ⟨_, _, rfl, HM.out.1, (HP.out.2.1.below (Below.refl _ _).drew).below HM.out.2, HP.out.2.2.drew.trans (HM.out.2.mono HP.out.2.2.drew.size)⟩
   ·rw [if_neg hlt, if_neg hgt] at HSPL
    clear c0 c34 c35
    go_wp2_with fail
    refine wp_region_held_drew (S := fun u => u.cell? ⟨b, 34, none⟩ = some (.pointer al) ∧ u.cell? ⟨b, 35, none⟩ = some (.pointer ar)) (by kernel_rfl) (And.intro HNR.out.c34 HNR.out.c35) (fun hHeld => ?_)
    refine tk (i := 0) (oi := ⟨some 67, .move (.tmp 0), 68, "node.go:131", #[], none⟩) (v := ?_) (Or.inl ⟨by rfl, ?_⟩) ?_
    rotate_left 1
    ·(intro u hSw; go_simp; try with_reducible rfl)
    try simp only [Act.put, sA, sB, sC]
    refine tk (i := 1) (oi := ⟨some 68, .nilCheck (.tmp 67), 0, "node.go:131", #[⟨0, .data⟩], none⟩) (v := ?_) (Or.inl ⟨by rfl, ?_⟩) ?_
    rotate_left 1
    ·(intro u hSw; go_simp; try with_reducible rfl)
    try simp only [Act.put, sA, sB, sC]
    refine tk (i := 2) (oi := ⟨some 69, .fieldAddr 115 (.tmp 68) 1, 0, "node.go:131", #[⟨1, .data⟩], none⟩) (v := ?_) (Or.inl ⟨by rfl, ?_⟩) ?_
    rotate_left 1
    ·(intro u hSw; go_simp; try with_reducible rfl)
    try simp only [Act.put, sA, sB, sC]
    refine tk (i := 3) (oi := ⟨some 70, .load 68 (.tmp 69), 68, "node.go:131", #[⟨2, .data⟩], none⟩) (v := ?_) (Or.inl ⟨by rfl, ?_⟩) ?_
    rotate_left 1
    ·(intro u hSw; have c34 := hSw.1; have c35 := hSw.2; go_simp; try with_reducible rfl)
    try simp only [Act.put, sA, sB, sC]
    refine tk (i := 4) (oi := ⟨some 71, .move (.tmp 0), 68, "node.go:131", #[⟨8, .gcOnly Departure.lateStores⟩], none⟩) (v := ?_) (Or.inl ⟨by rfl, ?_⟩) ?_
    rotate_left 1
    ·(intro u hSw; go_simp; try with_reducible rfl)
    try simp only [Act.put, sA, sB, sC]
    refine tk (i := 5) (oi := ⟨some 72, .nilCheck (.tmp 71), 0, "node.go:131", #[⟨4, .data⟩, ⟨8, .gcOnly Departure.lateStores⟩], none⟩) (v := ?_) (Or.inl ⟨by rfl, ?_⟩) ?_
    rotate_left 1
    ·(intro u hSw; go_simp; try with_reducible rfl)
    try simp only [Act.put, sA, sB, sC]
    refine tk (i := 6) (oi := ⟨some 73, .fieldAddr 115 (.tmp 72) 2, 0, "node.go:131", #[⟨5, .data⟩, ⟨8, .gcOnly Departure.lateStores⟩], none⟩) (v := ?_) (Or.inl ⟨by rfl, ?_⟩) ?_
    rotate_left 1
    ·(intro u hSw; go_simp; try with_reducible rfl)
    try simp only [Act.put, sA, sB, sC]
    refine tk (i := 7) (oi := ⟨some 74, .load 68 (.tmp 73), 68, "node.go:131", #[⟨6, .data⟩, ⟨8, .gcOnly Departure.lateStores⟩], none⟩) (v := ?_) (Or.inl ⟨by rfl, ?_⟩) ?_
    rotate_left 1
    ·(intro u hSw; have c34 := hSw.1; have c35 := hSw.2; go_simp; try with_reducible rfl)
    try simp only [Act.put, sA, sB, sC]
    refine tk (i := 8) (oi := ⟨some 4, .assign (.tmp 70), 68, "node.go:131", #[⟨3, .data⟩, ⟨0, .phase⟩, ⟨1, .phase⟩, ⟨2, .phase⟩, ⟨3, .phase⟩, ⟨4, .textOnly Departure.lateStores⟩, ⟨5, .textOnly Departure.lateStores⟩, ⟨6, .textOnly Departure.lateStores⟩, ⟨7, .textOnly Departure.lateStores⟩], none⟩) (v := ?_) (Or.inl ⟨by rfl, ?_⟩) ?_
    rotate_left 1
    ·(intro u hSw; go_simp; try with_reducible rfl)
    try simp only [Act.put, sA, sB, sC]
    refine tk (i := 9) (oi := ⟨some 5, .assign (.tmp 74), 68, "node.go:131", #[⟨7, .data⟩, ⟨8, .chain⟩, ⟨0, .phase⟩, ⟨1, .phase⟩, ⟨2, .phase⟩, ⟨3, .phase⟩, ⟨4, .phase⟩, ⟨5, .phase⟩, ⟨6, .phase⟩, ⟨7, .phase⟩, ⟨8, .phase⟩], none⟩) (v := ?_) (Or.inl ⟨by rfl, ?_⟩) ?_
    rotate_left 1
    ·(intro u hSw; go_simp; try with_reducible rfl)
    try simp only [Act.put, sA, sB, sC]
    refine wpAnyH_done (by kernel_rfl) ?_ _
    go_wp2_with fail
    go_ret2
    rw [HSPL.out]
    obtain ⟨hS, hkn, hl, hr, fl, fr, gl, gr, hkl, hn, hK, hk⟩ := HH.out
    exact ⟨_, _, rfl, hl.below (Below.refl _ _).drew, hr.below (Below.refl _ _).drew, (Below.refl _ _).drew⟩
end Go.Proofs.YtbmlkocpjboodaaDoor
