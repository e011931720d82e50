/- stage 7: entries of the reference -/
import Derived.Test.YtbmlkocpjboodaaDoorMv27
namespace Go.Proofs.YtbmlkocpjboodaaDoor
open Go.RowKit
open Go.Lib (hid)
theorem wpList_apps_re {ops : Array Oper} {rest : List Oper} {o : Oper} {a : Act} {w : World} {Q : Exit → Act → World → Prop} (hgd : o.guard = none) (s x : Operand)
  (ho : o.op = .call { callee := .builtin .append, args := #[s, x], argTypes := #[22, 22] }) (B B2 : Nat) (v v2 : Value) (l m : List (List Int × Nat)) (hs : a.eval s = v) (hown : RfO w B v l) (hx : a.eval x = v2) (h2 : RfO w B2 v2 m) (hn : l.length + m.length ≤ 1073741824) (hbase : B ≤ w.heap.size)
  (h : ∀ a' n' c' w', RfO w' B (.slice a' n' c') (l ++ m) → Below B w w' → wpList Tryd.prog ops Q rest (a.put o.dst (.slice a' n' c')) w') : wpList Tryd.prog ops Q (o :: rest) a w := by
 obtain ⟨v', w', h1, h3, h4, h5⟩ := hown.apps hbase h2 hn o.type
 obtain ⟨a', n', c', rfl⟩ : ∃ a n c, v' = .slice a n c := by obtain ⟨a, c, e⟩ := h3.slc; exact ⟨a, _, c, e⟩
 refine wpList_plain hgd fun K hK => ?_
 unfold Oper.wp
 simp [execOp, ho, resolve, invoke, builtin, hs, hx, h1, Result.andThen]
 exact hK _ _ (h a' n' c' w' h3 (h4.below (fun q hq => (hown.lt q hq).1) hbase))
theorem step_append_run_re {ops : Array Oper} {o : Oper} {a : Act} {w : World} {K : Act → World → Prop} {Q : Exit → Act → World → Prop} {E : Prop}
  (hg : o.guard = none) (s x : Operand) (hop : o.op = Op.call { callee := Callee.builtin Builtin.append, args := #[s, x], argTypes := #[22, 22] })
  (v v2 : Value) (hs : a.eval s = v) (hx : a.eval x = v2) {v' : Value} {w' : World} (h1 : (Builtin.append_ #[22, 22] o.type #[v, v2]).run Tryd.prog w = .ok v' w') (hK : K (a.put o.dst v') w') :
  if Region.wanted o (yielded ops a.tmps) = true then Oper.wp Tryd.prog o a w K Q else E := by
 have hw : Region.wanted o (yielded ops a.tmps) = true := by simp [Region.wanted, hg]
 rw [if_pos hw]
 unfold Oper.wp
 simp [execOp, hop, resolve, invoke, builtin, hs, hx, h1, Result.andThen]
 exact hK
set_option maxRecDepth 100000 in
set_option maxHeartbeats 8000000 in
theorem pents_none (w : World) (b : Nat) (kd : Int) (cut k : List Int) (n : Int) (lp rp : Value) (hp : PB w b kd cut k n lp rp) (hk : kd ≠ 2) :
  Calls Tryd.prog 42 #[.pointer (some ⟨b, 0, none⟩)] w fun d w' => d = .returned (.slice none 0 0) ∧ Below w.heap.size w w' := by
 have k0 := hp.c0
 have hk1 : (kd != 2) = true := bne_iff_ne.2 hk
 clear hp hk
 go_enter Tryd.func42, Tryd.ntmps42
 go_wp2_with fail
 go_ret
 exact ⟨rfl, Below.refl _ _⟩
set_option maxRecDepth 100000 in
set_option maxHeartbeats 8000000 in
theorem pents_nd (w : World) (b bl br : Nat) (cut k : List Int) (n : Nat) (L R : List (List Int × Nat)) (hp : PB w b 2 cut k (n : Int) (.pointer (some ⟨bl, 0, none⟩)) (.pointer (some ⟨br, 0, none⟩)))
  (hl : ∀ u, Below w.heap.size w u → Calls Tryd.prog 42 #[.pointer (some ⟨bl, 0, none⟩)] u fun d w' => ∃ v', d = .returned v' ∧ RfO w' u.heap.size v' L ∧ Below u.heap.size u w')
  (hr : ∀ u, Below w.heap.size w u → Calls Tryd.prog 42 #[.pointer (some ⟨br, 0, none⟩)] u fun d w' => ∃ v', d = .returned v' ∧ RfO w' u.heap.size v' R ∧ Below u.heap.size u w')
  (hn : L.length + 1 + R.length ≤ 1073741824) :
  Calls Tryd.prog 42 #[.pointer (some ⟨b, 0, none⟩)] w fun d w' => ∃ v', d = .returned v' ∧ RfO w' w.heap.size v' ((L ++ [(k, n)]) ++ R) ∧ Below w.heap.size w w' := by
 have k0 := hp.c0
 have HC := hid (fun u (hu : Below w.heap.size w u) => (show u.cell? ⟨b, 35, none⟩ = some (.pointer (some ⟨bl, 0, none⟩)) ∧ u.cell? ⟨b, 36, none⟩ = some (.pointer (some ⟨br, 0, none⟩)) from ⟨(hp.below hu).cl, (hp.below hu).cr⟩))
 have HRG := hid (fun u (hu : Below w.heap.size w u) => (show u.rangeAt b 33 [.string (str k), .int .i64 (n : Int)] from fun j x hj => by
  have hj2 : j < 2 := by have := (List.getElem?_eq_some_iff.1 hj).1; simpa using this
  match j, hj2 with
  | 0, _ => exact (hp.below hu).ck.trans hj
  | 1, _ => exact (hp.below hu).cn.trans hj))
 have HL := hid hl
 have HR := hid hr
 have HN := hid hn
 have hb : Below w.heap.size w w.drew := (Below.refl _ _).drew
 clear hp hl hr hn
 go_enter Tryd.func42, Tryd.ntmps42
 go_wp2_with fail
 refine wp_region_held_drew (S := fun u => Below w.heap.size w u) (by kernel_rfl) (hb) (fun hHeld => ?_)
 refine tk (i := 0) (oi := ⟨some 9, .move (.tmp 0), 83, "ref.go:204", #[], none⟩) (v := ?_) (Or.inl ⟨by rfl, ?_⟩) ?_
 rotate_left 1
 ·(intro u hSw; go_simp; try with_reducible rfl)
 try simp only [Act.put, sA, sB, sC]
 refine tk (i := 1) (oi := ⟨some 10, .nilCheck (.tmp 9), 0, "ref.go:204", #[⟨0, .data⟩], none⟩) (v := ?_) (Or.inl ⟨by rfl, ?_⟩) ?_
 rotate_left 1
 ·(intro u hSw; go_simp; try with_reducible rfl)
 try simp only [Act.put, sA, sB, sC]
 refine tk (i := 2) (oi := ⟨some 11, .fieldAddr 127 (.tmp 10) 3, 0, "ref.go:204", #[⟨1, .data⟩], none⟩) (v := ?_) (Or.inl ⟨by rfl, ?_⟩) ?_
 rotate_left 1
 ·(intro u hSw; go_simp; try with_reducible rfl)
 try simp only [Act.put, sA, sB, sC]
 refine tk (i := 3) (oi := ⟨some 12, .load 83 (.tmp 11), 83, "ref.go:204", #[⟨2, .data⟩], none⟩) (v := ?_) (Or.inl ⟨by rfl, ?_⟩) ?_
 rotate_left 1
 ·(intro u hSw; have y2 := (HC.out _ hSw).1; have y3 := (HC.out _ hSw).2; go_simp; try with_reducible rfl)
 try simp only [Act.put, sA, sB, sC]
 refine tk (i := 5) (oi := ⟨some 14, .move (.tmp 0), 83, "ref.go:204", #[], none⟩) (v := ?_) (Or.inl ⟨by rfl, ?_⟩) ?_
 rotate_left 1
 ·(intro u hSw; go_simp; try with_reducible rfl)
 try simp only [Act.put, sA, sB, sC]
 refine tk (i := 6) (oi := ⟨some 15, .nilCheck (.tmp 14), 0, "ref.go:204", #[⟨5, .data⟩], none⟩) (v := ?_) (Or.inl ⟨by rfl, ?_⟩) ?_
 rotate_left 1
 ·(intro u hSw; go_simp; try with_reducible rfl)
 try simp only [Act.put, sA, sB, sC]
 refine tk (i := 7) (oi := ⟨some 16, .fieldAddr 127 (.tmp 15) 2, 0, "ref.go:204", #[⟨6, .data⟩], none⟩) (v := ?_) (Or.inl ⟨by rfl, ?_⟩) ?_
 rotate_left 1
 ·(intro u hSw; go_simp; try with_reducible rfl)
 try simp only [Act.put, sA, sB, sC]
 refine tk (i := 8) (oi := ⟨some 17, .load 45 (.tmp 16), 45, "ref.go:204", #[⟨7, .data⟩], none⟩) (v := .agg #[.string (str k), .int .i64 (n : Int)]) (Or.inl ⟨by rfl, ?_⟩) ?_
 ·intro u hSw
  exact exec_load_mid 45 (Operand.tmp 16) rfl b 33 rfl [.string (str k), .int .i64 (n : Int)] _ (HRG.out _ hSw) Tryd.underlying45 rfl (by kernel_rfl)
 try simp only [Act.put, sA, sB, sC]
 refine wpAnyH_ready (rs := [4, 9]) (by kernel_rfl) (by simp) ?_
 refine (AllReadyH.cons (o := ⟨some 13, .call ⟨.value (.func 42), #[.tmp 12], #[83]⟩, 22, "ref.go:204", #[⟨3, .data⟩], none⟩) rfl (fun K hK => ?_) (AllReadyH.cons (o := ⟨some 18, .buildSlice 22 1 #[(0, .tmp 17)], 22, "ref.go:204", #[⟨8, .data⟩], none⟩) rfl (fun K hK => ?_) AllReadyH.nil))
 ·try (generalize World.drew w = ud at *)
  go_simp
  refine (HL.out _ hb).mono ?_
  rintro d cu ⟨v13, rfl, ho, hb4⟩
  have ho13 := ho.base hb.size
  obtain ⟨a13, c13, rfl⟩ := ho.slc
  try (replace hxb := (hb4.block _ (blk_lt hxb)).trans hxb)
  have hb := hb.trans (hb4.mono hb.size)
  clear hb4 ho
  go_wp2_with fail
  refine hK.out _ _ hb (fun hHeld => ?_)
  clear hK K
  try simp only [Act.put, sA, sB, sC]
  refine wpAnyH_ready (rs := [9]) (by kernel_rfl) (by simp) ?_
  refine (AllReadyH.cons (o := ⟨some 18, .buildSlice 22 1 #[(0, .tmp 17)], 22, "ref.go:204", #[⟨8, .data⟩], none⟩) rfl (fun K hK => ?_) AllReadyH.nil)
  try (generalize World.drew w = ud at *)
  go_simp
  refine al_step2 hb (fun nu hbn hxb hcn => ?_)
  try (replace ho13 := ho13.below hcn)
  have hb := hbn
  clear hcn hbn
  refine hK.out _ _ hb (fun hHeld => ?_)
  clear hK K
  try simp only [Act.put, sA, sB, sC]
  refine wpAnyH_ready (rs := [10]) (by kernel_rfl) (by simp) ?_
  refine (AllReadyH.cons (o := ⟨some 19, .call ⟨.builtin .append, #[.tmp 13, .tmp 18], #[22, 22]⟩, 22, "ref.go:204", #[⟨4, .data⟩, ⟨9, .data⟩, ⟨4, .chain⟩], none⟩) rfl (fun K hK => ?_) AllReadyH.nil)
  obtain ⟨v8, w8, hr8, ho8, hc8, -⟩ := ho13.app hb.size _ k n hxb (by have := HN.out; omega) 22
  have hlt8 := ho13.lt
  refine step_append_run_re (by rfl) (Operand.tmp 13) (Operand.tmp 18) (by rfl) _ _ (by rfl) (by rfl) hr8 ?_
  have hb := hb.trans (hc8.below (B := w.heap.size) (fun q e => (hlt8 q e).1) hb.size)
  obtain ⟨a8, n8, c8, rfl⟩ : ∃ a n c, v8 = .slice a n c := by obtain ⟨a, c, e⟩ := ho8.slc; exact ⟨a, _, c, e⟩
  clear hc8 hr8 ho13 hlt8 hxb
  refine hK.out _ _ hb (fun hHeld => ?_)
  clear hK K
  try simp only [Act.put, sA, sB, sC]
  refine tk (i := 11) (oi := ⟨some 3, .assign (.tmp 19), 22, "ref.go:204", #[⟨10, .data⟩, ⟨10, .chain⟩, ⟨0, .phase⟩, ⟨1, .phase⟩, ⟨2, .phase⟩, ⟨3, .phase⟩, ⟨4, .phase⟩, ⟨5, .phase⟩, ⟨6, .phase⟩, ⟨7, .phase⟩, ⟨8, .phase⟩, ⟨9, .phase⟩, ⟨10, .phase⟩], none⟩) (v := ?_) (Or.inl ⟨by rfl, ?_⟩) ?_
  rotate_left 1
  ·(intro u hSw; go_simp; try with_reducible rfl)
  try simp only [Act.put, sA, sB, sC]
  refine wpAnyH_done (by kernel_rfl) ?_ _
  have y3 := (HC.out _ hb).2
  have H8 := hid (And.intro ho8 hb)
  have HLN := hid (show (L ++ [(k, n)]).length + R.length ≤ 1073741824 by rw [List.length_append]; exact HN.out)
  clear ho8 hb hHeld
  go_wp2_with fail
  refine (HR.out _ H8.out.2).mono ?_
  rintro d w9 ⟨v9, rfl, ho9, hb9⟩
  obtain ⟨a9, n9, c9, rfl⟩ : ∃ a n c, v9 = .slice a n c := by obtain ⟨a, c, e⟩ := ho9.slc; exact ⟨a, _, c, e⟩
  have H9 := hid (And.intro ho9 (And.intro (H8.out.1.below hb9) (H8.out.2.trans (hb9.mono H8.out.2.size))))
  clear ho9 hb9
  go_wp2_with (at_builtin; refine wpList_apps_re (o := ⟨some 26, _, _, _, _, _⟩) rfl (Operand.tmp 20) (Operand.tmp 25) rfl w.heap.size _ (.slice a8 n8 c8) (.slice a9 n9 c9) (L ++ [(k, n)]) R rfl H9.out.2.1 rfl H9.out.1 HLN.out H9.out.2.2.size ?_; intro a10 n10 c10 w10 ho10 hb10; have H10 := hid (And.intro ho10 (H9.out.2.2.trans hb10)); clear ho10 hb10)
  go_ret
  exact ⟨_, rfl, H10.out.1, H10.out.2⟩
 ·try (generalize World.drew w = ud at *)
  go_simp
  refine al_step2 hb (fun nu hbn hxb hcn => ?_)
  try (replace ho13 := ho13.below hcn)
  have hb := hbn
  clear hcn hbn
  refine hK.out _ _ hb (fun hHeld => ?_)
  clear hK K
  try simp only [Act.put, sA, sB, sC]
  refine wpAnyH_ready (rs := [4]) (by kernel_rfl) (by simp) ?_
  refine (AllReadyH.cons (o := ⟨some 13, .call ⟨.value (.func 42), #[.tmp 12], #[83]⟩, 22, "ref.go:204", #[⟨3, .data⟩], none⟩) rfl (fun K hK => ?_) AllReadyH.nil)
  try (generalize World.drew w = ud at *)
  go_simp
  refine (HL.out _ hb).mono ?_
  rintro d cu ⟨v13, rfl, ho, hb4⟩
  have ho13 := ho.base hb.size
  obtain ⟨a13, c13, rfl⟩ := ho.slc
  try (replace hxb := (hb4.block _ (blk_lt hxb)).trans hxb)
  have hb := hb.trans (hb4.mono hb.size)
  clear hb4 ho
  go_wp2_with fail
  refine hK.out _ _ hb (fun hHeld => ?_)
  clear hK K
  try simp only [Act.put, sA, sB, sC]
  refine wpAnyH_ready (rs := [10]) (by kernel_rfl) (by simp) ?_
  refine (AllReadyH.cons (o := ⟨some 19, .call ⟨.builtin .append, #[.tmp 13, .tmp 18], #[22, 22]⟩, 22, "ref.go:204", #[⟨4, .data⟩, ⟨9, .data⟩, ⟨4, .chain⟩], none⟩) rfl (fun K hK => ?_) AllReadyH.nil)
  obtain ⟨v8, w8, hr8, ho8, hc8, -⟩ := ho13.app hb.size _ k n hxb (by have := HN.out; omega) 22
  have hlt8 := ho13.lt
  refine step_append_run_re (by rfl) (Operand.tmp 13) (Operand.tmp 18) (by rfl) _ _ (by rfl) (by rfl) hr8 ?_
  have hb := hb.trans (hc8.below (B := w.heap.size) (fun q e => (hlt8 q e).1) hb.size)
  obtain ⟨a8, n8, c8, rfl⟩ : ∃ a n c, v8 = .slice a n c := by obtain ⟨a, c, e⟩ := ho8.slc; exact ⟨a, _, c, e⟩
  clear hc8 hr8 ho13 hlt8 hxb
  refine hK.out _ _ hb (fun hHeld => ?_)
  clear hK K
  try simp only [Act.put, sA, sB, sC]
  refine tk (i := 11) (oi := ⟨some 3, .assign (.tmp 19), 22, "ref.go:204", #[⟨10, .data⟩, ⟨10, .chain⟩, ⟨0, .phase⟩, ⟨1, .phase⟩, ⟨2, .phase⟩, ⟨3, .phase⟩, ⟨4, .phase⟩, ⟨5, .phase⟩, ⟨6, .phase⟩, ⟨7, .phase⟩, ⟨8, .phase⟩, ⟨9, .phase⟩, ⟨10, .phase⟩], none⟩) (v := ?_) (Or.inl ⟨by rfl, ?_⟩) ?_
  rotate_left 1
  ·(intro u hSw; go_simp; try with_reducible rfl)
  try simp only [Act.put, sA, sB, sC]
  refine wpAnyH_done (by kernel_rfl) ?_ _
  have y3 := (HC.out _ hb).2
  have H8 := hid (And.intro ho8 hb)
  have HLN := hid (show (L ++ [(k, n)]).length + R.length ≤ 1073741824 by rw [List.length_append]; exact HN.out)
  clear ho8 hb hHeld
  go_wp2_with fail
  refine (HR.out _ H8.out.2).mono ?_
  rintro d w9 ⟨v9, rfl, ho9, hb9⟩
  obtain ⟨a9, n9, c9, rfl⟩ : ∃ a n c, v9 = .slice a n c := by obtain ⟨a, c, e⟩ := ho9.slc; exact ⟨a, _, c, e⟩
  have H9 := hid (And.intro ho9 (And.intro (H8.out.1.below hb9) (H8.out.2.trans (hb9.mono H8.out.2.size))))
  clear ho9 hb9
  go_wp2_with (at_builtin; refine wpList_apps_re (o := ⟨some 26, _, _, _, _, _⟩) rfl (Operand.tmp 20) (Operand.tmp 25) rfl w.heap.size _ (.slice a8 n8 c8) (.slice a9 n9 c9) (L ++ [(k, n)]) R rfl H9.out.2.1 rfl H9.out.1 HLN.out H9.out.2.2.size ?_; intro a10 n10 c10 w10 ho10 hb10; have H10 := hid (And.intro ho10 (H9.out.2.2.trans hb10)); clear ho10 hb10)
  go_ret
  exact ⟨_, rfl, H10.out.1, H10.out.2⟩
theorem pents_any {B : Nat} : ∀ (t : MT) (v : Value) (w : World), PTs w B v t → t.size ≤ 1048576 → Calls Tryd.prog 42 #[v] w fun d w' => ∃ v', d = .returned v' ∧ RfO w' w.heap.size v' t.ino ∧ Below w.heap.size w w'
 | .nil, v, w, ⟨b, h, _, hp⟩, _ => by
  subst h
  refine (pents_none w b 0 _ _ _ _ _ hp (by decide)).mono ?_
  rintro d w' ⟨rfl, hb⟩
  exact ⟨_, rfl, RfO.nil _ _, hb⟩
 | .cut d, v, w, ⟨b, h, _, hp⟩, _ => by
  subst h
  refine (pents_none w b 1 _ _ _ _ _ hp (by decide)).mono ?_
  rintro d w' ⟨rfl, hb⟩
  exact ⟨_, rfl, RfO.nil _ _, hb⟩
 | .nd k n rk d l r, v, w, ⟨b, lp, rp, h, _, hp, hl, hr⟩, hs => by
  subst h
  obtain ⟨bl, rfl⟩ := hl.form
  obtain ⟨br, rfl⟩ := hr.form
  have hs' : l.size + r.size + 1 ≤ 1048576 := hs
  have h1 := ino_len l
  have h2 := ino_len r
  have e : (MT.nd k n rk d l r).ino = (l.ino ++ [(k, n)]) ++ r.ino := by
   show l.ino ++ (k, n) :: r.ino = _
   simp
  rw [e]
  exact pents_nd w b bl br _ k n l.ino r.ino hp (fun u hu => pents_any l _ u (hl.below hu) (by omega)) (fun u hu => pents_any r _ u (hr.below hu) (by omega)) (by omega)
end Go.Proofs.YtbmlkocpjboodaaDoor
