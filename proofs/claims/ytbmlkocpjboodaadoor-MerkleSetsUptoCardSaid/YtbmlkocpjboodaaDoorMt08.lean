/- stage 7: two trees are joined -/
import Derived.Test.YtbmlkocpjboodaaDoorMt07
namespace Go.Proofs.YtbmlkocpjboodaaDoor
open Go.RowKit
open Go.Lib (hid)
/-- how many nodes a tree has -/
def MT.size : MT → Nat
 | .nil => 0
 | .cut _ => 0
 | .nd _ _ _ _ l r => l.size + r.size + 1
/-- the tree of the entries of two -/
def MT.join : MT → MT → MT
 | .nil, r => r
 | .cut _, r => r
 | .nd k n rk d l r, .nil => .nd k n rk d l r
 | .nd k n rk d l r, .cut _ => .nd k n rk d l r
 | .nd k n rk d l r, .nd k' n' rk' d' l' r' => if abv k rk k' rk' = true then mkN k n rk l (MT.join r (.nd k' n' rk' d' l' r')) else mkN k' n' rk' (MT.join (.nd k n rk d l r) l') r'
 termination_by l r => l.size + r.size
 decreasing_by all_goals simp only [MT.size]; omega
theorem MT.join_ok : ∀ (m : Nat) (l r : MT), l.size + r.size ≤ m → l.Good → r.Good → l.Full → r.Full → (l.join r).Good ∧ (l.join r).Full ∧ (l.join r).size = l.size + r.size
 | _, .nil, r, _, _, gr, _, fr => by rw [MT.join]; exact ⟨gr, fr, by simp [MT.size]⟩
 | _, .cut _, _, _, _, _, h, _ => absurd h id
 | _, .nd k n rk d l r, .nil, _, gl, _, fl, _ => by rw [MT.join]; exact ⟨gl, fl, by simp [MT.size]⟩
 | _, .nd .., .cut _, _, _, _, _, h => absurd h id
 | 0, .nd .., .nd .., hm, _, _, _, _ => by simp only [MT.size] at hm; omega
 | m + 1, .nd k n rk d l r, .nd k' n' rk' d' l' r', hm, gl, gr, fl, fr => by
  obtain ⟨a0, a1, a2, a3, a4, a5, a6, a7⟩ := id gl
  obtain ⟨b0, b1, b2, b3, b4, b5, b6, b7⟩ := id gr
  rw [MT.join]
  split
  ·obtain ⟨h1, h2, h3⟩ := MT.join_ok m r (.nd k' n' rk' d' l' r') (by simp only [MT.size] at hm ⊢; omega) a2 gr fl.2 fr
   exact ⟨mkN_good a1 h1 a3 a4 a5 a6 a7, ⟨fl.1, h2⟩, by unfold mkN; simp only [MT.size] at h3 ⊢; omega⟩
  ·obtain ⟨h1, h2, h3⟩ := MT.join_ok m (.nd k n rk d l r) l' (by simp only [MT.size] at hm ⊢; omega) gl b1 fl fr.1
   exact ⟨mkN_good h1 b2 b3 b4 b5 b6 b7, ⟨h2, fr.2⟩, by unfold mkN; simp only [MT.size] at h3 ⊢; omega⟩
set_option maxRecDepth 100000 in
set_option maxHeartbeats 8000000 in
theorem joined_any {S : Nat → Prop} : ∀ (m : Nat) (l r : MT) (w : World) (p q : Value), l.size + r.size ≤ m → (∀ b, w.heap.size ≤ b → S b) → MIs w S p l → MIs w S q r → l.Full → r.Full → l.Good → r.Good → KC w →
  Calls Tryd.prog 71 #[p, q] w fun e w' => ∃ x, e = .returned x ∧ MIs w' S x (l.join r) ∧ Below w.heap.size w w' := by
 intro m
 induction m with
 | zero =>
  intro t1 t2 w p q hm hS hp hq fl fr gl gr hK
  obtain ⟨aq, rfl⟩ := hq.form
  cases t1 with
  | nil =>
   obtain rfl : p = .pointer none := hp
   rw [MT.join]
   have HQ := hid hq
   clear hm hS hq fl fr gl gr hK
   go_enter Tryd.func71, Tryd.ntmps71
   go_wp2_with fail
   go_ret
   exact ⟨_, rfl, HQ.out, Below.refl _ _⟩
  | cut d => exact absurd fl id
  | nd k n rk d l r => simp only [MT.size] at hm; omega
 | succ m ih =>
  intro t1 t2 w p q hm hS hp hq fl fr gl gr hK
  cases t1 with
  | nil =>
   obtain ⟨aq, rfl⟩ := hq.form
   obtain rfl : p = .pointer none := hp
   rw [MT.join]
   have HQ := hid hq
   clear hm hS hq fl fr gl gr hK ih
   go_enter Tryd.func71, Tryd.ntmps71
   go_wp2_with fail
   go_ret
   exact ⟨_, rfl, HQ.out, Below.refl _ _⟩
  | cut d => exact absurd fl id
  | nd k n rk d l r =>
   have HP := hid hp
   obtain ⟨b, kn, lp, rp, rfl, hSb, h1, h2, hx, hkn, hl, hr'⟩ := hp
   cases t2 with
   | cut d' => exact absurd fr id
   | nil =>
    obtain rfl : q = .pointer none := hq
    rw [MT.join]
    clear hm hS fl fr gl gr hK ih hx hkn hl hr' hSb
    go_enter Tryd.func71, Tryd.ntmps71
    go_wp2_with fail
    go_ret
    exact ⟨_, rfl, HP.out, Below.refl _ _⟩
   | nd k' n' rk' d' l' r' =>
    have HQ := hid hq
    obtain ⟨b', kn', lp', rp', rfl, hSb', h1', h2', hx', hkn', hl', hr''⟩ := hq
    obtain ⟨-, g1, g2, g3, g4, g5, g6, g7⟩ := id gl
    obtain ⟨-, j1, j2, j3, j4, j5, j6, j7⟩ := id gr
    obtain ⟨al, rfl⟩ := hl.form
    obtain ⟨ar, rfl⟩ := hr'.form
    obtain ⟨an, cn, rfl⟩ := hkn.form
    obtain ⟨al', rfl⟩ := hl'.form
    obtain ⟨ar', rfl⟩ := hr''.form
    obtain ⟨an', cn', rfl⟩ := hkn'.form
    have HN1 := hid (NR.of hx h1)
    have HN2 := hid (NR.of hx' h1')
    have HR1 := hid (rkL_info (kv := .slice an k.length cn) (n := n) h1)
    have HR2 := hid (rkL_info (kv := .slice an' k'.length cn') (n := n') h1')
    have HAB := hid (fun u (hu : Below w.heap.size w u) => above_any u (.slice an k.length cn) (.slice an' k'.length cn') n n' k rk k' rk' (hkn.below hu).1 (hkn'.below hu).1 g4 j4 h1 h1' g7 j7)
    have HJ := hid (show (MT.nd k n rk d l r).join (.nd k' n' rk' d' l' r') = if abv k rk k' rk' = true then mkN k n rk l (MT.join r (.nd k' n' rk' d' l' r')) else mkN k' n' rk' (MT.join (.nd k n rk d l r) l') r' from by rw [MT.join])
    have HI1 := hid (fun u (hu : Below w.heap.size w u) => ih r (.nd k' n' rk' d' l' r') u (.pointer ar) (.pointer (some ⟨b', 0, none⟩)) (by simp only [MT.size] at hm ⊢; omega) (fun b hb => hS b (Nat.le_trans hu.size hb)) (hr'.below hu) (HQ.out.below hu) fl.2 fr g2 gr (hK.below hu hK.1))
    have HI2 := hid (fun u (hu : Below w.heap.size w u) => ih (.nd k n rk d l r) l' u (.pointer (some ⟨b, 0, none⟩)) (.pointer al') (by simp only [MT.size] at hm ⊢; omega) (fun b hb => hS b (Nat.le_trans hu.size hb)) (HP.out.below hu) (hl'.below hu) fl fr.1 gl j1 (hK.below hu hK.1))
    have ok1 := MT.join_ok (r.size + (MT.nd k' n' rk' d' l' r').size) r (.nd k' n' rk' d' l' r') (Nat.le_refl _) g2 gr fl.2 fr
    have ok2 := MT.join_ok ((MT.nd k n rk d l r).size + l'.size) (.nd k n rk d l r) l' (Nat.le_refl _) gl j1 fl fr.1
    have HM1 := hid (fun u x (hu : Below w.heap.size w u) (hx : MIs u S x (MT.join r (.nd k' n' rk' d' l' r'))) => newNode_any (S := S) u (.slice an k.length cn) (.pointer al) x k n rk l (MT.join r (.nd k' n' rk' d' l' r')) (fun b hb => hS b (Nat.le_trans hu.size hb)) h1 (hkn.below hu) (hl.below hu) hx g1 ok1.1 (hK.below hu hK.1) g3 g5)
    have HM2 := hid (fun u x (hu : Below w.heap.size w u) (hx : MIs u S x (MT.join (.nd k n rk d l r) l')) => newNode_any (S := S) u (.slice an' k'.length cn') x (.pointer ar') k' n' rk' (MT.join (.nd k n rk d l r) l') r' (fun b hb => hS b (Nat.le_trans hu.size hb)) h1' (hkn'.below hu) hx (hr''.below hu) ok2.1 j2 (hK.below hu hK.1) j3 j5)
    clear hm hS fl fr gl gr hK ih hx hkn hl hr' hSb hx' hkn' hl' hr'' hSb' h1 h2 h1' h2' g1 g2 g3 g4 g5 g6 g7 j1 j2 j3 j4 j5 j6 j7 ok1 ok2
    generalize MT.join r (.nd k' n' rk' d' l' r') = J1 at *
    generalize MT.join (.nd k n rk d l r) l' = J2 at *
    go_enter Tryd.func71, Tryd.ntmps71
    go_wp2_with fail
    have hb0 : Below w.heap.size w w.drew := (Below.refl _ _).drew
    have hbb := hb0
    refine wp_region_held_drew (S := fun u => Below w.heap.size w u) (by kernel_rfl) (hb0) (fun hHeld => ?_)
    refine tk (i := 0) (oi := ⟨some 11, .move (.tmp 0), 68, "node.go:142", #[], none⟩) (v := ?_) (Or.inl ⟨by rfl, ?_⟩) ?_
    rotate_left 1
    ·(intro u hSw; go_simp; try with_reducible rfl)
    try simp only [Act.put, sA, sB, sC]
    refine tk (i := 1) (oi := ⟨some 12, .nilCheck (.tmp 11), 0, "node.go:142", #[⟨0, .data⟩], none⟩) (v := ?_) (Or.inl ⟨by rfl, ?_⟩) ?_
    rotate_left 1
    ·(intro u hSw; go_simp; try with_reducible rfl)
    try simp only [Act.put, sA, sB, sC]
    refine tk (i := 2) (oi := ⟨some 13, .fieldAddr 115 (.tmp 12) 0, 0, "node.go:142", #[⟨1, .data⟩], none⟩) (v := ?_) (Or.inl ⟨by rfl, ?_⟩) ?_
    rotate_left 1
    ·(intro u hSw; go_simp; try with_reducible rfl)
    try simp only [Act.put, sA, sB, sC]
    refine tk (i := 3) (oi := ⟨some 14, .load 66 (.tmp 13), 66, "node.go:142", #[⟨2, .data⟩], none⟩) (v := .agg (rkC (.slice an k.length cn) n rk)) (Or.inl ⟨by rfl, ?_⟩) ?_
    ·intro u hSw
     exact exec_load_mid 66 (Operand.tmp 13) rfl b 0 rfl (rkL (.slice an k.length cn) n rk) _ (HN1.out.below hSw).rg Tryd.underlying66 rfl HR1.out
    try simp only [Act.put, sA, sB, sC]
    refine tk (i := 4) (oi := ⟨some 15, .move (.tmp 1), 68, "node.go:142", #[], none⟩) (v := ?_) (Or.inl ⟨by rfl, ?_⟩) ?_
    rotate_left 1
    ·(intro u hSw; go_simp; try with_reducible rfl)
    try simp only [Act.put, sA, sB, sC]
    refine tk (i := 5) (oi := ⟨some 16, .nilCheck (.tmp 15), 0, "node.go:142", #[⟨4, .data⟩], none⟩) (v := ?_) (Or.inl ⟨by rfl, ?_⟩) ?_
    rotate_left 1
    ·(intro u hSw; go_simp; try with_reducible rfl)
    try simp only [Act.put, sA, sB, sC]
    refine tk (i := 6) (oi := ⟨some 17, .fieldAddr 115 (.tmp 16) 0, 0, "node.go:142", #[⟨5, .data⟩], none⟩) (v := ?_) (Or.inl ⟨by rfl, ?_⟩) ?_
    rotate_left 1
    ·(intro u hSw; go_simp; try with_reducible rfl)
    try simp only [Act.put, sA, sB, sC]
    refine tk (i := 7) (oi := ⟨some 18, .load 66 (.tmp 17), 66, "node.go:142", #[⟨6, .data⟩], none⟩) (v := .agg (rkC (.slice an' k'.length cn') n' rk')) (Or.inl ⟨by rfl, ?_⟩) ?_
    ·intro u hSw
     exact exec_load_mid 66 (Operand.tmp 17) rfl b' 0 rfl (rkL (.slice an' k'.length cn') n' rk') _ (HN2.out.below hSw).rg Tryd.underlying66 rfl HR2.out
    try simp only [Act.put, sA, sB, sC]
    refine wpAnyH_ready (rs := [8]) (by kernel_rfl) (by simp) ?_
    refine (AllReadyH.cons (o := ⟨some 19, .call ⟨.value (.func 60), #[.tmp 14, .tmp 18], #[66, 66]⟩, 4, "node.go:142", #[⟨3, .data⟩, ⟨7, .data⟩], none⟩) rfl (fun K hK => ?_) AllReadyH.nil)
    go_simp
    refine (HAB.out _ hbb).mono ?_
    rintro e w1 ⟨rfl, hb1⟩
    have hbc := hbb.trans (hb1.mono hbb.size)
    clear hb1
    go_wp2_with fail
    refine hK.out _ _ hbc (fun hHeld => ?_)
    clear hK K
    try simp only [Act.put, sA, sB, sC]
    refine wpAnyH_done (by kernel_rfl) ?_ _
    have HBC := hid hbc
    clear hbc hbb hb0
    generalize abv k rk k' rk' = ab at *
    cases ab with
    | true =>
     rw [if_pos rfl] at HJ
     go_wp2_with fail
     have hb := HBC.out.drew
     have hb0 := hb
     refine wp_region_held_drew (S := fun u => Below w.heap.size w u) (by kernel_rfl) (hb) (fun hHeld => ?_)
     refine tk (i := 0) (oi := ⟨some 20, .move (.tmp 0), 68, "node.go:143", #[], none⟩) (v := ?_) (Or.inl ⟨by rfl, ?_⟩) ?_
     rotate_left 1
     ·(intro u hSw; go_simp; try with_reducible rfl)
     try simp only [Act.put, sA, sB, sC]
     refine tk (i := 1) (oi := ⟨some 21, .nilCheck (.tmp 20), 0, "node.go:143", #[⟨0, .data⟩], none⟩) (v := ?_) (Or.inl ⟨by rfl, ?_⟩) ?_
     rotate_left 1
     ·(intro u hSw; go_simp; try with_reducible rfl)
     try simp only [Act.put, sA, sB, sC]
     refine tk (i := 2) (oi := ⟨some 22, .fieldAddr 115 (.tmp 21) 0, 0, "node.go:143", #[⟨1, .data⟩], none⟩) (v := ?_) (Or.inl ⟨by rfl, ?_⟩) ?_
     rotate_left 1
     ·(intro u hSw; go_simp; try with_reducible rfl)
     try simp only [Act.put, sA, sB, sC]
     refine tk (i := 3) (oi := ⟨some 23, .load 66 (.tmp 22), 66, "node.go:143", #[⟨2, .data⟩], none⟩) (v := .agg (rkC (.slice an k.length cn) n rk)) (Or.inl ⟨by rfl, ?_⟩) ?_
     ·intro u hSw
      exact exec_load_mid 66 (Operand.tmp 22) rfl b 0 rfl (rkL (.slice an k.length cn) n rk) _ (HN1.out.below hSw).rg Tryd.underlying66 rfl HR1.out
     try simp only [Act.put, sA, sB, sC]
     refine tk (i := 4) (oi := ⟨some 24, .move (.tmp 0), 68, "node.go:143", #[], none⟩) (v := ?_) (Or.inl ⟨by rfl, ?_⟩) ?_
     rotate_left 1
     ·(intro u hSw; go_simp; try with_reducible rfl)
     try simp only [Act.put, sA, sB, sC]
     refine tk (i := 5) (oi := ⟨some 25, .nilCheck (.tmp 24), 0, "node.go:143", #[⟨4, .data⟩], none⟩) (v := ?_) (Or.inl ⟨by rfl, ?_⟩) ?_
     rotate_left 1
     ·(intro u hSw; go_simp; try with_reducible rfl)
     try simp only [Act.put, sA, sB, sC]
     refine tk (i := 6) (oi := ⟨some 26, .fieldAddr 115 (.tmp 25) 1, 0, "node.go:143", #[⟨5, .data⟩], none⟩) (v := ?_) (Or.inl ⟨by rfl, ?_⟩) ?_
     rotate_left 1
     ·(intro u hSw; go_simp; try with_reducible rfl)
     try simp only [Act.put, sA, sB, sC]
     refine tk (i := 7) (oi := ⟨some 27, .load 68 (.tmp 26), 68, "node.go:143", #[⟨6, .data⟩], none⟩) (v := ?_) (Or.inl ⟨by rfl, ?_⟩) ?_
     rotate_left 1
     ·(intro u hSw; have c34 := (HN1.out.below hSw).c34; have c35 := (HN1.out.below hSw).c35; go_simp; try with_reducible rfl)
     try simp only [Act.put, sA, sB, sC]
     refine tk (i := 8) (oi := ⟨some 28, .move (.tmp 0), 68, "node.go:143", #[], none⟩) (v := ?_) (Or.inl ⟨by rfl, ?_⟩) ?_
     rotate_left 1
     ·(intro u hSw; go_simp; try with_reducible rfl)
     try simp only [Act.put, sA, sB, sC]
     refine tk (i := 9) (oi := ⟨some 29, .nilCheck (.tmp 28), 0, "node.go:143", #[⟨8, .data⟩], none⟩) (v := ?_) (Or.inl ⟨by rfl, ?_⟩) ?_
     rotate_left 1
     ·(intro u hSw; go_simp; try with_reducible rfl)
     try simp only [Act.put, sA, sB, sC]
     refine tk (i := 10) (oi := ⟨some 30, .fieldAddr 115 (.tmp 29) 2, 0, "node.go:143", #[⟨9, .data⟩], none⟩) (v := ?_) (Or.inl ⟨by rfl, ?_⟩) ?_
     rotate_left 1
     ·(intro u hSw; go_simp; try with_reducible rfl)
     try simp only [Act.put, sA, sB, sC]
     refine tk (i := 11) (oi := ⟨some 31, .load 68 (.tmp 30), 68, "node.go:143", #[⟨10, .data⟩], none⟩) (v := ?_) (Or.inl ⟨by rfl, ?_⟩) ?_
     rotate_left 1
     ·(intro u hSw; have c34 := (HN1.out.below hSw).c34; have c35 := (HN1.out.below hSw).c35; go_simp; try with_reducible rfl)
     try simp only [Act.put, sA, sB, sC]
     refine tk (i := 12) (oi := ⟨some 32, .move (.tmp 1), 68, "node.go:143", #[], none⟩) (v := ?_) (Or.inl ⟨by rfl, ?_⟩) ?_
     rotate_left 1
     ·(intro u hSw; go_simp; try with_reducible rfl)
     try simp only [Act.put, sA, sB, sC]
     refine wpAnyH_ready (rs := [13]) (by kernel_rfl) (by simp) ?_
     refine (AllReadyH.cons (o := ⟨some 33, .call ⟨.value (.func 71), #[.tmp 31, .tmp 32], #[68, 68]⟩, 68, "node.go:143", #[⟨11, .data⟩, ⟨12, .data⟩], none⟩) rfl (fun K hK => ?_) AllReadyH.nil)
     go_simp
     refine (HI1.out _ hb).mono ?_
     rintro e w2 ⟨x2, rfl, hx2, hb2⟩
     obtain ⟨a2, rfl⟩ := hx2.form
     have HX2 := hid hx2
     have hb := hb.trans (hb2.mono hb.size)
     clear hx2 hb2
     go_wp2_with fail
     refine hK.out _ _ hb (fun hHeld => ?_)
     clear hK K
     try simp only [Act.put, sA, sB, sC]
     refine wpAnyH_ready (rs := [14]) (by kernel_rfl) (by simp) ?_
     refine (AllReadyH.cons (o := ⟨some 34, .call ⟨.value (.func 59), #[.tmp 23, .tmp 27, .tmp 33], #[66, 68, 68]⟩, 68, "node.go:143", #[⟨3, .data⟩, ⟨7, .data⟩, ⟨13, .data⟩, ⟨13, .chain⟩], none⟩) rfl (fun K hK => ?_) AllReadyH.nil)
     go_simp
     refine (HM1.out _ _ hb HX2.out).mono ?_
     rintro e w3 ⟨x3, rfl, hx3, hb3⟩
     obtain ⟨a3, rfl⟩ := hx3.form
     have HX3 := hid hx3
     have hb := hb.trans (hb3.mono hb.size)
     clear hx3 hb3
     go_wp2_with fail
     refine hK.out _ _ hb (fun hHeld => ?_)
     clear hK K
     try simp only [Act.put, sA, sB, sC]
     refine tk (i := 15) (oi := ⟨some 4, .assign (.tmp 34), 68, "node.go:143", #[⟨14, .data⟩, ⟨14, .chain⟩, ⟨0, .phase⟩, ⟨1, .phase⟩, ⟨2, .phase⟩, ⟨3, .phase⟩, ⟨4, .phase⟩, ⟨5, .phase⟩, ⟨6, .phase⟩, ⟨7, .phase⟩, ⟨8, .phase⟩, ⟨9, .phase⟩, ⟨10, .phase⟩, ⟨11, .phase⟩, ⟨12, .phase⟩, ⟨13, .phase⟩, ⟨14, .phase⟩], none⟩) (v := ?_) (Or.inl ⟨by rfl, ?_⟩) ?_
     rotate_left 1
     ·(intro u hSw; go_simp; try with_reducible rfl)
     try simp only [Act.put, sA, sB, sC]
     refine wpAnyH_done (by kernel_rfl) ?_ _
     have HB := hid hb
     go_wp2_with fail
     go_ret
     rw [HJ.out]
     exact ⟨_, rfl, HX3.out, HB.out⟩
    | false =>
     rw [if_neg (by decide)] at HJ
     go_wp2_with fail
     have hb := HBC.out.drew
     refine wp_region_held_drew (S := fun u => Below w.heap.size w u) (by kernel_rfl) (hb) (fun hHeld => ?_)
     refine tk (i := 0) (oi := ⟨some 35, .move (.tmp 1), 68, "node.go:145", #[], none⟩) (v := ?_) (Or.inl ⟨by rfl, ?_⟩) ?_
     rotate_left 1
     ·(intro u hSw; go_simp; try with_reducible rfl)
     try simp only [Act.put, sA, sB, sC]
     refine tk (i := 1) (oi := ⟨some 36, .nilCheck (.tmp 35), 0, "node.go:145", #[⟨0, .data⟩], none⟩) (v := ?_) (Or.inl ⟨by rfl, ?_⟩) ?_
     rotate_left 1
     ·(intro u hSw; go_simp; try with_reducible rfl)
     try simp only [Act.put, sA, sB, sC]
     refine tk (i := 2) (oi := ⟨some 37, .fieldAddr 115 (.tmp 36) 0, 0, "node.go:145", #[⟨1, .data⟩], none⟩) (v := ?_) (Or.inl ⟨by rfl, ?_⟩) ?_
     rotate_left 1
     ·(intro u hSw; go_simp; try with_reducible rfl)
     try simp only [Act.put, sA, sB, sC]
     refine tk (i := 3) (oi := ⟨some 38, .load 66 (.tmp 37), 66, "node.go:145", #[⟨2, .data⟩], none⟩) (v := .agg (rkC (.slice an' k'.length cn') n' rk')) (Or.inl ⟨by rfl, ?_⟩) ?_
     ·intro u hSw
      exact exec_load_mid 66 (Operand.tmp 37) rfl b' 0 rfl (rkL (.slice an' k'.length cn') n' rk') _ (HN2.out.below hSw).rg Tryd.underlying66 rfl HR2.out
     try simp only [Act.put, sA, sB, sC]
     refine tk (i := 4) (oi := ⟨some 39, .move (.tmp 0), 68, "node.go:145", #[], none⟩) (v := ?_) (Or.inl ⟨by rfl, ?_⟩) ?_
     rotate_left 1
     ·(intro u hSw; go_simp; try with_reducible rfl)
     try simp only [Act.put, sA, sB, sC]
     refine tk (i := 5) (oi := ⟨some 40, .move (.tmp 1), 68, "node.go:145", #[], none⟩) (v := ?_) (Or.inl ⟨by rfl, ?_⟩) ?_
     rotate_left 1
     ·(intro u hSw; go_simp; try with_reducible rfl)
     try simp only [Act.put, sA, sB, sC]
     refine tk (i := 6) (oi := ⟨some 41, .nilCheck (.tmp 40), 0, "node.go:145", #[⟨5, .data⟩], none⟩) (v := ?_) (Or.inl ⟨by rfl, ?_⟩) ?_
     rotate_left 1
     ·(intro u hSw; go_simp; try with_reducible rfl)
     try simp only [Act.put, sA, sB, sC]
     refine tk (i := 7) (oi := ⟨some 42, .fieldAddr 115 (.tmp 41) 1, 0, "node.go:145", #[⟨6, .data⟩], none⟩) (v := ?_) (Or.inl ⟨by rfl, ?_⟩) ?_
     rotate_left 1
     ·(intro u hSw; go_simp; try with_reducible rfl)
     try simp only [Act.put, sA, sB, sC]
     refine tk (i := 8) (oi := ⟨some 43, .load 68 (.tmp 42), 68, "node.go:145", #[⟨7, .data⟩], none⟩) (v := ?_) (Or.inl ⟨by rfl, ?_⟩) ?_
     rotate_left 1
     ·(intro u hSw; have c34 := (HN2.out.below hSw).c34; have c35 := (HN2.out.below hSw).c35; go_simp; try with_reducible rfl)
     try simp only [Act.put, sA, sB, sC]
     refine tk (i := 10) (oi := ⟨some 45, .move (.tmp 1), 68, "node.go:145", #[], none⟩) (v := ?_) (Or.inl ⟨by rfl, ?_⟩) ?_
     rotate_left 1
     ·(intro u hSw; go_simp; try with_reducible rfl)
     try simp only [Act.put, sA, sB, sC]
     refine tk (i := 11) (oi := ⟨some 46, .nilCheck (.tmp 45), 0, "node.go:145", #[⟨10, .data⟩], none⟩) (v := ?_) (Or.inl ⟨by rfl, ?_⟩) ?_
     rotate_left 1
     ·(intro u hSw; go_simp; try with_reducible rfl)
     try simp only [Act.put, sA, sB, sC]
     refine tk (i := 12) (oi := ⟨some 47, .fieldAddr 115 (.tmp 46) 2, 0, "node.go:145", #[⟨11, .data⟩], none⟩) (v := ?_) (Or.inl ⟨by rfl, ?_⟩) ?_
     rotate_left 1
     ·(intro u hSw; go_simp; try with_reducible rfl)
     try simp only [Act.put, sA, sB, sC]
     refine tk (i := 13) (oi := ⟨some 48, .load 68 (.tmp 47), 68, "node.go:145", #[⟨12, .data⟩], none⟩) (v := ?_) (Or.inl ⟨by rfl, ?_⟩) ?_
     rotate_left 1
     ·(intro u hSw; have c34 := (HN2.out.below hSw).c34; have c35 := (HN2.out.below hSw).c35; go_simp; try with_reducible rfl)
     try simp only [Act.put, sA, sB, sC]
     refine wpAnyH_ready (rs := [9]) (by kernel_rfl) (by simp) ?_
     refine (AllReadyH.cons (o := ⟨some 44, .call ⟨.value (.func 71), #[.tmp 39, .tmp 43], #[68, 68]⟩, 68, "node.go:145", #[⟨4, .data⟩, ⟨8, .data⟩], none⟩) rfl (fun K hK => ?_) AllReadyH.nil)
     go_simp
     refine (HI2.out _ hb).mono ?_
     rintro e w2 ⟨x2, rfl, hx2, hb2⟩
     obtain ⟨a2, rfl⟩ := hx2.form
     have HX2 := hid hx2
     have hb := hb.trans (hb2.mono hb.size)
     clear hx2 hb2
     go_wp2_with fail
     refine hK.out _ _ hb (fun hHeld => ?_)
     clear hK K
     try simp only [Act.put, sA, sB, sC]
     refine wpAnyH_ready (rs := [14]) (by kernel_rfl) (by simp) ?_
     refine (AllReadyH.cons (o := ⟨some 49, .call ⟨.value (.func 59), #[.tmp 38, .tmp 44, .tmp 48], #[66, 68, 68]⟩, 68, "node.go:145", #[⟨3, .data⟩, ⟨9, .data⟩, ⟨13, .data⟩, ⟨9, .chain⟩], none⟩) rfl (fun K hK => ?_) AllReadyH.nil)
     go_simp
     refine (HM2.out _ _ hb HX2.out).mono ?_
     rintro e w3 ⟨x3, rfl, hx3, hb3⟩
     obtain ⟨a3, rfl⟩ := hx3.form
     have HX3 := hid hx3
     have hb := hb.trans (hb3.mono hb.size)
     clear hx3 hb3
     go_wp2_with fail
     refine hK.out _ _ hb (fun hHeld => ?_)
     clear hK K
     try simp only [Act.put, sA, sB, sC]
     refine tk (i := 15) (oi := ⟨some 4, .assign (.tmp 49), 68, "node.go:145", #[⟨14, .data⟩, ⟨14, .chain⟩, ⟨0, .phase⟩, ⟨1, .phase⟩, ⟨2, .phase⟩, ⟨3, .phase⟩, ⟨4, .phase⟩, ⟨5, .phase⟩, ⟨6, .phase⟩, ⟨7, .phase⟩, ⟨8, .phase⟩, ⟨9, .phase⟩, ⟨10, .phase⟩, ⟨11, .phase⟩, ⟨12, .phase⟩, ⟨13, .phase⟩, ⟨14, .phase⟩], none⟩) (v := ?_) (Or.inl ⟨by rfl, ?_⟩) ?_
     rotate_left 1
     ·(intro u hSw; go_simp; try with_reducible rfl)
     try simp only [Act.put, sA, sB, sC]
     refine wpAnyH_done (by kernel_rfl) ?_ _
     have HB := hid hb
     go_wp2_with fail
     go_ret
     rw [HJ.out]
     exact ⟨_, rfl, HX3.out, HB.out⟩
end Go.Proofs.YtbmlkocpjboodaaDoor
/- stage 7: a tree with a key's count changed -/
namespace Go.Proofs.YtbmlkocpjboodaaDoor
open Go.RowKit
open Go.Lib (hid)
/-- at the place where the key is the root, or would be -/
def MT.edit (key : List Int) (cnt : Nat) (rk : List Int) (t : MT) : MT := if cnt = 0 then (t.split key).1.join (t.split key).2 else mkN key cnt rk (t.split key).1 (t.split key).2
/-- the tree in which a key has its count -/
def MT.put (key : List Int) (cnt : Nat) (rk : List Int) : MT → MT
 | .nil => MT.edit key cnt rk .nil
 | .cut _ => .nil
 | .nd k n rk' d l r => if abv k rk' key rk = true then (if cmpI key k < 0 then mkN k n rk' (l.put key cnt rk) r else mkN k n rk' l (r.put key cnt rk)) else MT.edit key cnt rk (.nd k n rk' d l r)
theorem MT.split_size (key : List Int) : ∀ t : MT, (t.split key).1.size + (t.split key).2.size ≤ t.size
 | .nil => Nat.le_refl _
 | .cut _ => Nat.le_refl _
 | .nd k n rk d l r => by
  have h1 := MT.split_size key l
  have h2 := MT.split_size key r
  unfold MT.split
  split
  ·simp only [mkN, MT.size]; omega
  ·split
   ·simp only [mkN, MT.size]; omega
   ·simp only [MT.size]; omega
theorem MT.edit_ok (key : List Int) (cnt : Nat) (rk : List Int) (hk : key.length ≤ 65535) (hr : Rng key) (hn : cnt < 9223372036854775808) (h1 : rk.length = 32) (h2 : Rng rk) (t : MT) (g : t.Good) (f : t.Full) : (MT.edit key cnt rk t).Good ∧ (MT.edit key cnt rk t).Full ∧ (MT.edit key cnt rk t).size ≤ t.size + 1 := by
 obtain ⟨a1, a2, a3, a4⟩ := MT.split_ok key t g f
 have hs := MT.split_size key t
 unfold MT.edit
 split
 ·obtain ⟨j1, j2, j3⟩ := MT.join_ok _ _ _ (Nat.le_refl _) a1 a2 a3 a4
  exact ⟨j1, j2, by omega⟩
 ·exact ⟨mkN_good a1 a2 hk hr hn h1 h2, ⟨a3, a4⟩, by simp only [mkN, MT.size]; omega⟩
theorem MT.put_ok (key : List Int) (cnt : Nat) (rk : List Int) (hk : key.length ≤ 65535) (hr : Rng key) (hn : cnt < 9223372036854775808) (h1 : rk.length = 32) (h2 : Rng rk) : ∀ t : MT, t.Good → t.Full → (t.put key cnt rk).Good ∧ (t.put key cnt rk).Full ∧ (t.put key cnt rk).size ≤ t.size + 1
 | .nil, g, f => MT.edit_ok key cnt rk hk hr hn h1 h2 .nil g f
 | .cut _, _, h => absurd h id
 | .nd k n rk' d l r, g, f => by
  obtain ⟨b0, b1, b2, b3, b4, b5, b6, b7⟩ := id g
  obtain ⟨l1, l2, l3⟩ := MT.put_ok key cnt rk hk hr hn h1 h2 l b1 f.1
  obtain ⟨r1, r2, r3⟩ := MT.put_ok key cnt rk hk hr hn h1 h2 r b2 f.2
  unfold MT.put
  split
  ·split
   ·exact ⟨mkN_good l1 b2 b3 b4 b5 b6 b7, ⟨l2, f.2⟩, by simp only [mkN, MT.size]; omega⟩
   ·exact ⟨mkN_good b1 r1 b3 b4 b5 b6 b7, ⟨f.1, r2⟩, by simp only [mkN, MT.size]; omega⟩
  ·exact MT.edit_ok key cnt rk hk hr hn h1 h2 _ g f
/-- the closure's box -/
def CB (w : World) (g : Nat) (kv : Value) (cnt : Nat) (rk : List Int) : Prop := w.heap[g]? = some (.cells (rkC kv cnt rk) 66 (0, 0))
theorem CB.below {w w' : World} {g : Nat} {kv : Value} {cnt : Nat} {rk : List Int} (h : CB w g kv cnt rk) (hb : Below w.heap.size w w') : CB w' g kv cnt rk := (hb.block g (blk_lt h)).trans h
set_option maxRecDepth 100000 in
set_option maxHeartbeats 8000000 in
theorem edit_any {S : Nat → Prop} (key : List Int) (cnt : Nat) (rk : List Int) (hkl : key.length ≤ 65535) (gk : Rng key) (hn : cnt < 9223372036854775808) (h1 : rk.length = 32) (g : Nat) (kv : Value) (t : MT) (w : World) (p : Value) (hS : ∀ b, w.heap.size ≤ b → S b) (hp : MIs w S p t) (hf : t.Full) (hg : t.Good) (hK : KC w) (hc : CB w g kv cnt rk) (hk : KIs w S kv key) :
  Calls Tryd.prog 69 #[p, .pointer (some ⟨g, 0, none⟩)] w fun e w' => ∃ x, e = .returned x ∧ MIs w' S x (MT.edit key cnt rk t) ∧ Below w.heap.size w w' := by
 obtain ⟨ak, ck, rfl⟩ := hk.form
 have c0 := (rk_0 hc).1
 have HSP := hid (split_any (S := S) key gk t w p (.slice ak key.length ck) hS hp hf hg hK hk.1)
 have HC := hid (fun u (hu : Below w.heap.size w u) => (show u.cell? ⟨g, 1, none⟩ = some (.int .i64 cnt) from (rk_0 (hc.below hu)).2))
 have HCB := hid (fun u (hu : Below w.heap.size w u) => (show u.heap[g]? = some (.cells (rkC (.slice ak key.length ck) cnt rk) 66 (0, 0)) from hc.below hu))
 obtain ⟨o1, o2, o3, o4⟩ := MT.split_ok key t hg hf
 have HJ := hid (fun u x y (hu : Below w.heap.size w u) (hx : MIs u S x (t.split key).1) (hy : MIs u S y (t.split key).2) => joined_any (S := S) _ (t.split key).1 (t.split key).2 u x y (Nat.le_refl _) (fun b hb => hS b (Nat.le_trans hu.size hb)) hx hy o3 o4 o1 o2 (hK.below hu hK.1))
 have HM := hid (fun u x y (hu : Below w.heap.size w u) (hx : MIs u S x (t.split key).1) (hy : MIs u S y (t.split key).2) => newNode_any (S := S) u (.slice ak key.length ck) x y key cnt rk (t.split key).1 (t.split key).2 (fun b hb => hS b (Nat.le_trans hu.size hb)) h1 (hk.below hu) hx hy o1 o2 (hK.below hu hK.1) hkl hn)
 have HE := hid (show MT.edit key cnt rk t = if cnt = 0 then (t.split key).1.join (t.split key).2 else mkN key cnt rk (t.split key).1 (t.split key).2 from rfl)
 have HIR := hid (show (Tryd.prog.info? 66).map (·.size) = some (rkC (.slice ak key.length ck) cnt rk).size by rw [rkC_size h1]; kernel_rfl)
 obtain ⟨ap, rfl⟩ := hp.form
 clear hS hp hf hg hK hc hk o1 o2 o3 o4
 generalize t.split key = sp at *
 obtain ⟨s1, s2⟩ := sp
 go_enter Tryd.func69, Tryd.ntmps69
 go_wp2_with fail
 refine HSP.out.mono ?_
 rintro e w1 ⟨p1, p2, rfl, hp1, hp2, hb1⟩
 obtain ⟨a1, rfl⟩ := hp1.form
 obtain ⟨a2, rfl⟩ := hp2.form
 have c1 := HC.out w1 hb1
 have HP := hid (And.intro hp1 (And.intro hp2 hb1))
 clear hp1 hp2 hb1 HSP c0
 by_cases h0 : cnt = 0
 ·subst h0
  rw [if_pos rfl] at HE
  go_wp2_with fail
  refine (HJ.out w1 _ _ HP.out.2.2 HP.out.1 HP.out.2.1).mono ?_
  rintro e w2 ⟨x, rfl, hx, hb2⟩
  obtain ⟨ax, rfl⟩ := hx.form
  have HX := hid (And.intro hx hb2)
  clear hx hb2
  go_wp2_with fail
  go_ret
  rw [HE.out]
  exact ⟨_, rfl, HX.out.1, HP.out.2.2.trans (HX.out.2.mono HP.out.2.2.size)⟩
 ·rw [if_neg h0] at HE
  have hne : ((cnt : Int) == 0) = false := beq_false_of_ne (by omega)
  go_wp2_with (first | (refine wpList_load_row rfl 66 (Operand.tmp 1) rfl g rfl 66 (rkC (.slice ak key.length ck) cnt rk) (0, 0) _ (HCB.out w1 HP.out.2.2) Tryd.underlying66 rfl HIR.out ?_))
  refine (HM.out w1 _ _ HP.out.2.2 HP.out.1 HP.out.2.1).mono ?_
  rintro e w2 ⟨x, rfl, hx, hb2⟩
  obtain ⟨ax, rfl⟩ := hx.form
  have HX := hid (And.intro hx hb2)
  clear hx hb2
  go_wp2_with fail
  go_ret
  rw [HE.out]
  exact ⟨_, rfl, HX.out.1, HP.out.2.2.trans (HX.out.2.mono HP.out.2.2.size)⟩
end Go.Proofs.YtbmlkocpjboodaaDoor
