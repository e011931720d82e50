/- stage 7: Verify -/
import Derived.Test.YtbmlkocpjboodaaDoorMv15
import Derived.Lib.ConvBytes
import Derived.Laws.AppendOwn
namespace Go.Proofs.YtbmlkocpjboodaaDoor
open Go.RowKit
open Go.Lib (hid)
/-- what Verify says of a proof -/
def verO (root fr to : List Int) (e : Bool) (pf : List Int) : Int ⊕ List (List Int × Nat) :=
 match rdAll pf with
 | .inl c => .inl c
 | .inr t => if t.ascends = false then .inl 9 else if t.tells fr to e = false then .inl 50 else if t.dg = root then .inr (t.ents fr to e) else .inl 51
/-- how Verify ends -/
def VEnd (w : World) (d : Ending) (w' : World) : Int ⊕ List (List Int × Nat) → Prop
 | .inl c => c ≠ 0 ∧ d = .returned (.tuple #[.slice none 0 0, .int .i64 c]) ∧ Below w.heap.size w w'
 | .inr es => ∃ v, d = .returned (.tuple #[v, .int .i64 0]) ∧ EnN w w' v es ∧ Below w.heap.size w w'
set_option maxRecDepth 100000 in
set_option maxHeartbeats 8000000 in
theorem Verify_any (w : World) (root : List Int) (fv tv pv : Value) (fr to : List Int) (e : Bool) (pf : List Int) (hr : root.length = 32) (hf : Bs w fv fr) (ht : Bs w tv to) (hp : Bs w pv pf) (gf : Rng fr) (gt : Rng to) (gp : Rng pf) (hK : KC w) (hbd : ∀ t, rdAll pf = .inr t → (t.ents fr to e).length ≤ 1099511627776) :
  Calls Tryd.prog 29 #[.agg (ArrU8 root), fv, tv, .bool e, pv] w fun d w' => VEnd w d w' (verO root fr to e pf) := by
 have hbb : Below w.heap.size w (w.alloc (.cells (ArrU8 root) 36)) := (Below.refl _ _).alloc (Nat.le_refl _) _
 have hx0 : (w.alloc (.cells (ArrU8 root) 36)).heap[w.heap.size]? = some (.cells (ArrU8 root) 36 (0, 0)) := heap_alloc_new _ _
 have HX := hid (fun u (hu : Below (w.alloc (.cells (ArrU8 root) 36)).heap.size (w.alloc (.cells (ArrU8 root) 36)) u) => (show u.rangeAt w.heap.size 0 (root.map (Value.int .u8)) from fun j x hj => by
  rw [cell_of_row u w.heap.size (0 + j) _ _ _ ((hu.block _ (blk_lt hx0)).trans hx0), Nat.zero_add]
  simpa [ArrU8] using hj))
 have HI := hid (show (Tryd.prog.info? 36).map (·.size) = some (root.map (Value.int .u8)).length by rw [List.length_map, hr]; exact info_dg)
 have HRD := hid (read_any pf (w.alloc (.cells (ArrU8 root) 36)) pv (hp.below hbb) gp (hK.below hbb hK.1))
 have HH := hid (And.intro (hf.below hbb) (And.intro (ht.below hbb) (And.intro (hK.below hbb hK.1) (And.intro hbb (And.intro gf (And.intro gt hr))))))
 have HG := hid (fun t h => rdAll_ok gp (t := t) h)
 have HBD := hid hbd
 have HV := hid (show verO root fr to e pf = match rdAll pf with
  | .inl c => .inl c
  | .inr t => if t.ascends = false then .inl 9 else if t.tells fr to e = false then .inl 50 else if t.dg = root then .inr (t.ents fr to e) else .inl 51 from rfl)
 have hfs := hf
 have hts := ht
 have hps := hp
 obtain ⟨af, cf, rfl, -, -⟩ := hfs
 obtain ⟨at2, ct, rfl, -, -⟩ := hts
 obtain ⟨ap2, cp2, rfl, -, -⟩ := hps
 generalize verO root fr to e pf = R at *
 generalize rdAll pf = RA at *
 have HS32 := hid (sz32 _ hr)
 clear hbb hx0 hr hf ht hp gf gt gp hK hbd
 go_enter Tryd.func29, Tryd.ntmps29
 go_wp2_with fail
 generalize w.alloc (.cells (ArrU8 root) 36) = w0 at *
 refine HRD.out.mono ?_
 rintro d w1 he
 rcases RA with c | tr
 ·obtain ⟨hc0, rfl, hb1⟩ := he
  have hne : (c != 0) = true := bne_iff_ne.2 hc0
  have HC := hid (And.intro hc0 (HH.out.2.2.2.1.trans (hb1.mono HH.out.2.2.2.1.size)))
  clear hc0 hb1
  go_wp2_with fail
  go_ret2
  rw [HV.out]
  exact ⟨HC.out.1, rfl, HC.out.2⟩
 ·obtain ⟨p, rfl, hp, hb1⟩ := he
  have hgd := HG.out tr rfl
  have hen := HBD.out tr rfl
  have hbb2 : Below w0.heap.size w0 (w1.alloc (.cells #[.slice af fr.length cf, .slice at2 to.length ct, .bool e] 74)) := hb1.alloc hb1.size _
  have hx2 : (w1.alloc (.cells #[.slice af fr.length cf, .slice at2 to.length ct, .bool e] 74)).heap[w1.heap.size]? = some (.cells #[.slice af fr.length cf, .slice at2 to.length ct, .bool e] 74 (0, 0)) := heap_alloc_new _ _
  have hp2 := hp.below ((Below.refl w1.heap.size w1).alloc (Nat.le_refl _) (.cells #[.slice af fr.length cf, .slice at2 to.length ct, .bool e] 74))
  obtain ⟨ap, rfl⟩ := hp.form
  have HAS := hid (ascends_any _ (.pointer ap) tr hp2 hgd)
  have HTE := hid (fun u (hu : Below (w1.alloc (.cells #[.slice af fr.length cf, .slice at2 to.length ct, .bool e] 74)).heap.size (w1.alloc (.cells #[.slice af fr.length cf, .slice at2 to.length ct, .bool e] 74)) u) => tells_any u (.pointer ap) (.slice af fr.length cf) (.slice at2 to.length ct) fr to e tr (hp2.below hu) hgd ((HH.out.1.below hbb2).below hu) ((HH.out.2.1.below hbb2).below hu) HH.out.2.2.2.2.1 HH.out.2.2.2.2.2.1)
  have HEN := hid (fun u (hu : Below (w1.alloc (.cells #[.slice af fr.length cf, .slice at2 to.length ct, .bool e] 74)).heap.size (w1.alloc (.cells #[.slice af fr.length cf, .slice at2 to.length ct, .bool e] 74)) u) => entries_any u (.pointer ap) (.slice af fr.length cf) (.slice at2 to.length ct) fr to e tr (hp2.below hu) hgd ((HH.out.1.below hbb2).below hu) ((HH.out.2.1.below hbb2).below hu) HH.out.2.2.2.2.1 HH.out.2.2.2.2.2.1 hen)
  have HSU := hid (fun u (hu : Below (w1.alloc (.cells #[.slice af fr.length cf, .slice at2 to.length ct, .bool e] 74)).heap.size (w1.alloc (.cells #[.slice af fr.length cf, .slice at2 to.length ct, .bool e] 74)) u) => nsum_any u (hp2.below hu) ((HH.out.2.2.1.below hbb2 HH.out.2.2.1.1).below hu (HH.out.2.2.1.below hbb2 HH.out.2.2.1.1).1))
  have HXX := hid (fun u (hu : Below (w1.alloc (.cells #[.slice af fr.length cf, .slice at2 to.length ct, .bool e] 74)).heap.size (w1.alloc (.cells #[.slice af fr.length cf, .slice at2 to.length ct, .bool e] 74)) u) => HX.out u (hbb2.trans (hu.mono hbb2.size)))
  have HSP := hid (fun u (hu : Below (w1.alloc (.cells #[.slice af fr.length cf, .slice at2 to.length ct, .bool e] 74)).heap.size (w1.alloc (.cells #[.slice af fr.length cf, .slice at2 to.length ct, .bool e] 74)) u) => (hu.block _ (blk_lt hx2)).trans hx2)
  have HB2 := hid (HH.out.2.2.2.1.trans (hbb2.mono HH.out.2.2.2.1.size))
  have HDL := hid hgd.dlen
  have HR := hid (HV.out.trans (show _ = if tr.ascends = false then .inl 9 else if tr.tells fr to e = false then .inl 50 else if tr.dg = root then .inr (tr.ents fr to e) else .inl 51 from rfl))
  clear hp hb1 hgd hen hbb2 hx2 hp2 HX HBD HG HV HRD
  generalize tr.ents fr to e = es at *
  generalize tr.dg = dg at *
  generalize tr.tells fr to e = tq at *
  generalize tr.ascends = aq at *
  go_wp2_with fail
  generalize w1.alloc (.cells #[.slice af fr.length cf, .slice at2 to.length ct, .bool e] 74) = w2 at *
  refine HAS.out.mono ?_
  rintro d w3 ⟨rfl, hb3⟩
  have HB3 := hid (And.intro hb3 (HB2.out.trans (hb3.mono HB2.out.size)))
  have HS3 := hid (HSP.out w3 hb3)
  have HTE3 := hid (HTE.out w3 hb3)
  clear hb3 HTE
  cases aq with
  | false =>
   go_wp2_with fail
   go_ret2
   rw [HR.out]
   exact ⟨by decide, rfl, HB3.out.2⟩
  | true =>
   replace HR : Hid (R = if tq = false then .inl 50 else if dg = root then .inr es else .inl 51) := HR
   go_wp2_with (refine wpList_load_row rfl 74 (Operand.tmp 14) rfl w1.heap.size rfl 74 _ (0, 0) _ HS3.out Tryd.underlying74 rfl (by kernel_rfl) ?_)
   refine HTE3.out.mono ?_
   rintro d w4 ⟨rfl, hb4⟩
   have HB4 := hid (And.intro (HB3.out.1.trans (hb4.mono HB3.out.1.size)) (HB3.out.2.trans (hb4.mono HB3.out.2.size)))
   clear hb4
   cases tq with
   | false =>
    go_wp2_with fail
    go_ret2
    rw [HR.out]
    exact ⟨by decide, rfl, HB4.out.2⟩
   | true =>
    replace HR : Hid (R = if dg = root then .inr es else .inl 51) := HR
    go_wp2_with fail
    have hb5 := HB4.out.1.drew
    by_cases hdr : dg = root
    ·have HCM := hid (show (!decide (dg = root)) = false by rw [decide_eq_true hdr]; rfl)
     have HR2 : Hid (R = .inr es) := hid (HR.out.trans (if_pos hdr))
     clear hdr
     refine wp_region_held_drew (S := fun u => Below w2.heap.size w2 u) (by kernel_rfl) (hb5) (fun hHeld => ?_)
     refine tk (i := 0) (oi := ⟨some 37, .move (.tmp 12), 68, "proof.go:29", #[], none⟩) (v := ?_) (Or.inl ⟨by rfl, ?_⟩) ?_
     rotate_left 1
     ·(intro u hSw; go_simp; try with_reducible rfl)
     try simp only [Act.put, sA, sB, sC]
     refine tk (i := 2) (oi := ⟨some 39, .load 36 (.tmp 5), 36, "proof.go:29", #[], none⟩) (v := .agg (root.map (Value.int .u8)).toArray) (Or.inl ⟨by rfl, ?_⟩) ?_
     ·intro u hSw
      exact exec_load_mid 36 (Operand.tmp 5) rfl w.heap.size 0 rfl _ _ (HXX.out _ hSw) Tryd.underlying36 rfl HI.out
     try simp only [Act.put, sA, sB, sC]
     refine wpAnyH_ready (rs := [1]) (by kernel_rfl) (by simp) ?_
     refine (AllReadyH.cons (o := ⟨some 38, .call ⟨.value (.func 34), #[.tmp 37], #[68]⟩, 36, "proof.go:29", #[⟨0, .data⟩], none⟩) rfl (fun K hK => ?_) AllReadyH.nil)
     go_simp
     refine (HSU.out _ hb5).mono ?_
     rintro d w5 ⟨rfl, hb6⟩
     have hb7 := hb5.trans (hb6.mono hb5.size)
     clear hb6
     go_wp2_with fail
     refine hK.out _ _ hb7 (fun hHeld => ?_)
     clear hK K
     try simp only [Act.put, sA, sB, sC]
     refine tk (i := 3) (oi := ⟨some 40, .binOp BinOp.neq 36 (.tmp 38) (.tmp 39) 36, 4, "proof.go:29", #[⟨1, .data⟩, ⟨2, .data⟩], none⟩) (v := .bool false) (Or.inl ⟨by rfl, ?_⟩) ?_
     ·intro u hSw
      exact exec_neq_dg (Operand.tmp 38) (Operand.tmp 39) _ rfl dg root rfl rfl HDL.out HH.out.2.2.2.2.2.2 false HCM.out
     try simp only [Act.put, sA, sB, sC]
     refine tk (i := 4) (oi := ⟨some 36, .assign (.tmp 40), 4, "proof.go:29", #[⟨3, .data⟩, ⟨1, .chain⟩], none⟩) (v := ?_) (Or.inl ⟨by rfl, ?_⟩) ?_
     rotate_left 1
     ·(intro u hSw; go_simp; try with_reducible rfl)
     try simp only [Act.put, sA, sB, sC]
     refine wpAnyH_done (by kernel_rfl) ?_ _
     have HB7 := hid (And.intro hb7 (HB2.out.trans (hb7.mono HB2.out.size)))
     have HS7 := hid (HSP.out _ hb7)
     have HEN7 := hid (HEN.out _ hb7)
     clear hb7 hb5
     go_wp2_with (refine wpList_load_row rfl 74 (Operand.tmp 14) rfl w1.heap.size rfl 74 _ (0, 0) _ HS7.out Tryd.underlying74 rfl (by kernel_rfl) ?_)
     refine HEN7.out.mono ?_
     rintro d w8 ⟨v8, rfl, he8, hb8⟩
     obtain ⟨a8, c8, rfl⟩ := he8.slc
     have HF := hid (And.intro (he8.after HB7.out.2) (HB7.out.2.trans (hb8.mono HB7.out.2.size)))
     clear he8 hb8
     go_wp2_with fail
     go_ret2
     rw [HR2.out]
     exact ⟨_, rfl, HF.out.1, HF.out.2⟩
    ·have HCM := hid (show (!decide (dg = root)) = true by rw [decide_eq_false hdr]; rfl)
     have HR2 : Hid (R = .inl 51) := hid (HR.out.trans (if_neg hdr))
     clear hdr
     refine wp_region_held_drew (S := fun u => Below w2.heap.size w2 u) (by kernel_rfl) (hb5) (fun hHeld => ?_)
     refine tk (i := 0) (oi := ⟨some 37, .move (.tmp 12), 68, "proof.go:29", #[], none⟩) (v := ?_) (Or.inl ⟨by rfl, ?_⟩) ?_
     rotate_left 1
     ·(intro u hSw; go_simp; try with_reducible rfl)
     try simp only [Act.put, sA, sB, sC]
     refine tk (i := 2) (oi := ⟨some 39, .load 36 (.tmp 5), 36, "proof.go:29", #[], none⟩) (v := .agg (root.map (Value.int .u8)).toArray) (Or.inl ⟨by rfl, ?_⟩) ?_
     ·intro u hSw
      exact exec_load_mid 36 (Operand.tmp 5) rfl w.heap.size 0 rfl _ _ (HXX.out _ hSw) Tryd.underlying36 rfl HI.out
     try simp only [Act.put, sA, sB, sC]
     refine wpAnyH_ready (rs := [1]) (by kernel_rfl) (by simp) ?_
     refine (AllReadyH.cons (o := ⟨some 38, .call ⟨.value (.func 34), #[.tmp 37], #[68]⟩, 36, "proof.go:29", #[⟨0, .data⟩], none⟩) rfl (fun K hK => ?_) AllReadyH.nil)
     go_simp
     refine (HSU.out _ hb5).mono ?_
     rintro d w5 ⟨rfl, hb6⟩
     have hb7 := hb5.trans (hb6.mono hb5.size)
     clear hb6
     go_wp2_with fail
     refine hK.out _ _ hb7 (fun hHeld => ?_)
     clear hK K
     try simp only [Act.put, sA, sB, sC]
     refine tk (i := 3) (oi := ⟨some 40, .binOp BinOp.neq 36 (.tmp 38) (.tmp 39) 36, 4, "proof.go:29", #[⟨1, .data⟩, ⟨2, .data⟩], none⟩) (v := .bool true) (Or.inl ⟨by rfl, ?_⟩) ?_
     ·intro u hSw
      exact exec_neq_dg (Operand.tmp 38) (Operand.tmp 39) _ rfl dg root rfl rfl HDL.out HH.out.2.2.2.2.2.2 true HCM.out
     try simp only [Act.put, sA, sB, sC]
     refine tk (i := 4) (oi := ⟨some 36, .assign (.tmp 40), 4, "proof.go:29", #[⟨3, .data⟩, ⟨1, .chain⟩], none⟩) (v := ?_) (Or.inl ⟨by rfl, ?_⟩) ?_
     rotate_left 1
     ·(intro u hSw; go_simp; try with_reducible rfl)
     try simp only [Act.put, sA, sB, sC]
     refine wpAnyH_done (by kernel_rfl) ?_ _
     have HB7 := hid (And.intro hb7 (HB2.out.trans (hb7.mono HB2.out.size)))
     have HS7 := hid (HSP.out _ hb7)
     have HEN7 := hid (HEN.out _ hb7)
     clear hb7 hb5
     go_wp2_with fail
     go_ret2
     rw [HR2.out]
     exact ⟨by decide, rfl, HB7.out.2⟩
end Go.Proofs.YtbmlkocpjboodaaDoor
/- stage 7: Build of no entries -/
namespace Go.Proofs.YtbmlkocpjboodaaDoor
open Go.RowKit
open Go.Lib (hid)
set_option maxRecDepth 100000 in
set_option maxHeartbeats 4000000 in
theorem valid_nil (w : World) : Calls Tryd.prog 30 #[.slice none 0 0] w fun d w' => d = .returned (.bool true) ∧ w' = w := by
 go_enter Tryd.func30, Tryd.ntmps30
 go_wp2_with fail
 go_loop [7] (fun i => i = .int .i64 0) (fun _ => 0)
 case atStart => rfl
 case round =>
  subst hrel
  go_wp2
  go_ret
  exact ⟨rfl, rfl⟩
set_option maxRecDepth 100000 in
set_option maxHeartbeats 4000000 in
theorem finish_nil (w : World) (B : Nat) (fv : Value) (hx : w.heap[B]? = some (.cells #[.slice none 0 0] 106 (0, 0))) : Calls Tryd.prog 58 #[fv, .pointer (some ⟨B, 0, none⟩)] w fun d w' => d = .returned (.pointer none) ∧ w' = w := by
 have c0 := cell_of_row _ B 0 _ _ _ hx
 clear hx
 go_enter Tryd.func58, Tryd.ntmps58
 go_wp2_with fail
 go_loop [4] (fun i => i = .pointer none) (fun _ => 0)
 case atStart => rfl
 case round =>
  subst hrel
  go_wp2
  go_ret
  exact ⟨rfl, rfl⟩
set_option maxRecDepth 100000 in
set_option maxHeartbeats 4000000 in
theorem treeOf_nil (w : World) (a : Option Addr) (c : Nat) : Calls Tryd.prog 32 #[.slice a 0 c] w fun d w' => d = .returned (.pointer none) ∧ Below w.heap.size w w' := by
 have hmf : ∀ (fn : Fn) (first cap : Array Value) (w : World), (Instr.makeFunc fn first cap).run Tryd.prog w = .ok (.func fn first cap) w := fun _ _ _ _ => rfl
 have HF := hid (fun fv => finish_nil (w.alloc (.cells #[.slice none 0 0] 106)) w.heap.size fv (heap_alloc_new _ _))
 have HB := hid (show Below w.heap.size w (w.alloc (.cells #[.slice none 0 0] 106)) from (Below.refl _ _).alloc (Nat.le_refl _) _)
 go_enter Tryd.func32, Tryd.ntmps32
 go_wp2_with fail
 go_loop [11] (fun i => i = .int .i64 0) (fun _ => 0)
 case atStart => rfl
 case round =>
  subst hrel
  go_wp2_with fail
  refine (HF.out _).mono ?_
  rintro d w' ⟨rfl, rfl⟩
  go_wp2_with fail
  go_ret
  exact ⟨rfl, HB.out⟩
set_option maxRecDepth 100000 in
set_option maxHeartbeats 4000000 in
theorem build_nil (w : World) : Calls Tryd.prog 11 #[.slice none 0 0] w fun d w' => ∃ X, d = .returned (.pointer (some ⟨X, 0, none⟩)) ∧ TIs w' X (.pointer none) ∧ w.heap.size ≤ X ∧ Below w.heap.size w w' := by
 have HV := hid (valid_nil w)
 have HT := hid (fun u a c => treeOf_nil u a c)
 have hms : ∀ u : World, (Instr.makeSlice 64 (.int .i64 0) (.int .i64 0)).run Tryd.prog u = .ok (.slice (some ⟨u.heap.size, 0, none⟩) 0 0) (u.alloc (.cells #[] 66)) := fun u => by kernel_rfl
 go_enter Tryd.func11, Tryd.ntmps11
 go_wp2_with fail
 refine HV.out.mono ?_
 rintro d w1 ⟨rfl, rfl⟩
 have HB := hid (show Below w1.heap.size w1 (w1.alloc (.cells #[] 66)) from (Below.refl _ _).alloc (Nat.le_refl _) _)
 go_wp2_with fail
 go_loop [14] (fun i => i = .int .i64 0) (fun _ => 0)
 case atStart => rfl
 case round =>
  subst hrel
  go_wp2_with fail
  refine (HT.out _ _ _).mono ?_
  rintro d w2 ⟨rfl, hb2⟩
  have HB2 := hid (HB.out.trans (hb2.mono HB.out.size))
  clear hb2
  go_wp2_with fail
  go_ret
  exact ⟨_, rfl, heap_alloc_new _ _, HB2.out.size, HB2.out.alloc HB2.out.size _⟩
end Go.Proofs.YtbmlkocpjboodaaDoor
/- stage 7: Build of one entry -/
namespace Go.Proofs.YtbmlkocpjboodaaDoor
open Go.RowKit
open Go.Lib (hid)
set_option maxRecDepth 100000 in
set_option maxHeartbeats 4000000 in
theorem valid_zero (w : World) (L c : Nat) (ak : Option Addr) (nk ck : Nat) (hx : w.heap[L]? = some (.cells #[.slice ak nk ck, .int .i64 0] 33 (0, 0))) : Calls Tryd.prog 30 #[.slice (some ⟨L, 0, none⟩) 1 c] w fun d w' => d = .returned (.bool false) ∧ Below w.heap.size w w' := by
 have c0 : w.cell? ⟨L, 0, none⟩ = some (.slice ak nk ck) := cell_of_row _ L 0 _ _ _ hx
 have c1 : w.cell? ⟨L, 1, none⟩ = some (.int .i64 0) := cell_of_row _ L 1 _ _ _ hx
 have hL := blk_lt hx
 have HB := hid (show Below w.heap.size w (w.alloc (.cells #[.slice ak nk ck, .int .i64 0] 33)) from (Below.refl _ _).alloc (Nat.le_refl _) _)
 clear hx
 go_enter Tryd.func30, Tryd.ntmps30
 go_wp2_with fail
 go_loopw [7] (fun i wr => i = .int .i64 0 ∧ wr = w) (fun _ _ => 0)
 case atStart => exact ⟨rfl, rfl⟩
 case round =>
  obtain ⟨rfl, rfl⟩ := hrel
  go_wp2_with fail
  go_ret
  exact ⟨rfl, HB.out⟩
set_option maxRecDepth 100000 in
set_option maxHeartbeats 4000000 in
theorem build_zero (w : World) (L c : Nat) (ak : Option Addr) (nk ck : Nat) (hx : w.heap[L]? = some (.cells #[.slice ak nk ck, .int .i64 0] 33 (0, 0))) : Calls Tryd.prog 11 #[.slice (some ⟨L, 0, none⟩) 1 c] w fun d w' => d = .returned (.pointer none) ∧ Below w.heap.size w w' := by
 have HV := hid (valid_zero w L c ak nk ck hx)
 clear hx
 go_enter Tryd.func11, Tryd.ntmps11
 go_wp2_with fail
 refine HV.out.mono ?_
 rintro d w1 ⟨rfl, hb⟩
 have HB := hid hb
 clear hb
 go_wp2_with fail
 go_ret
 exact ⟨rfl, HB.out⟩
set_option maxRecDepth 100000 in
set_option maxHeartbeats 4000000 in
theorem valid_one (w : World) (L c : Nat) (ak : Option Addr) (nk ck n : Nat) (hx : w.heap[L]? = some (.cells #[.slice ak nk ck, .int .i64 (n : Int)] 33 (0, 0))) (hn : 1 ≤ n) (hk : nk ≤ 65535) : Calls Tryd.prog 30 #[.slice (some ⟨L, 0, none⟩) 1 c] w fun d w' => d = .returned (.bool true) ∧ Below w.heap.size w w' := by
 have c0 : w.cell? ⟨L, 0, none⟩ = some (.slice ak nk ck) := cell_of_row _ L 0 _ _ _ hx
 have c1 : w.cell? ⟨L, 1, none⟩ = some (.int .i64 (n : Int)) := cell_of_row _ L 1 _ _ _ hx
 have hL := blk_lt hx
 have h1 : ¬ (n : Int) < 1 := by omega
 have h2 : ¬ (nk : Int) > 65535 := by omega
 have HB := hid (show Below w.heap.size w (w.alloc (.cells #[.slice ak nk ck, .int .i64 (n : Int)] 33)) from (Below.refl _ _).alloc (Nat.le_refl _) _)
 clear hx hn hk
 go_enter Tryd.func30, Tryd.ntmps30
 go_wp2_with fail
 go_loopw [7] (fun i wr => (i = .int .i64 0 ∧ wr = w) ∨ (i = .int .i64 1 ∧ Below w.heap.size w wr)) (fun i _ => 1 - (intOf i).toNat)
 case atStart => exact .inl ⟨rfl, rfl⟩
 case round =>
  rcases hrel with ⟨rfl, rfl⟩ | ⟨rfl, hb⟩
  ·go_wp2_with fail
   generalize wr.alloc (.cells #[.slice ak nk ck, .int .i64 (n : Int)] 33) = w2 at *
   refine wp_region_held_drew (S := fun _ => True) (by kernel_rfl) (trivial) (fun hHeld => ?_)
   refine tk (i := 0) (oi := ⟨some 21, .move (.tmp 3), 3, "merkle.go:41", #[], none⟩) (v := ?_) (Or.inl ⟨by rfl, ?_⟩) ?_
   rotate_left 1
   ·(intro u hSw; go_simp; try with_reducible rfl)
   try simp only [Act.put, sA, sB, sC]
   refine tk (i := 1) (oi := ⟨some 22, .binOp BinOp.gtr 3 (.tmp 21) (.const (Value.int IntKind.i64 0)) 3, 4, "merkle.go:41", #[⟨0, .data⟩], none⟩) (v := ?_) (Or.inl ⟨by rfl, ?_⟩) ?_
   rotate_left 1
   ·(intro u hSw; go_simp; try with_reducible rfl)
   try simp only [Act.put, sA, sB, sC]
   refine tk (i := 2) (oi := ⟨some 23, .move (.tmp 22), 4, "merkle.go:41", #[⟨1, .data⟩], none⟩) (v := ?_) (Or.inl ⟨by rfl, ?_⟩) ?_
   rotate_left 1
   ·(intro u hSw; go_simp; try with_reducible rfl)
   try simp only [Act.put, sA, sB, sC]
   refine tk (i := 3) (oi := ⟨some 24, .move (.tmp 0), 26, "merkle.go:41", #[⟨2, .guard⟩], some (2, true)⟩) (v := undef) (by exact .inr ⟨by rfl, rfl⟩) ?_
   try simp only [Act.put, sA, sB, sC]
   refine tk (i := 4) (oi := ⟨some 25, .move (.tmp 3), 3, "merkle.go:41", #[⟨2, .guard⟩], some (2, true)⟩) (v := undef) (by exact .inr ⟨by rfl, rfl⟩) ?_
   try simp only [Act.put, sA, sB, sC]
   refine tk (i := 5) (oi := ⟨some 26, .binOp BinOp.sub 3 (.tmp 25) (.const (Value.int IntKind.i64 1)) 3, 3, "merkle.go:41", #[⟨4, .data⟩, ⟨2, .guard⟩], some (2, true)⟩) (v := undef) (by exact .inr ⟨by rfl, rfl⟩) ?_
   try simp only [Act.put, sA, sB, sC]
   refine tk (i := 6) (oi := ⟨some 27, .indexAddr 26 (.tmp 24) (.tmp 26), 0, "merkle.go:41", #[⟨3, .data⟩, ⟨5, .data⟩, ⟨2, .guard⟩], some (2, true)⟩) (v := undef) (by exact .inr ⟨by rfl, rfl⟩) ?_
   try simp only [Act.put, sA, sB, sC]
   refine tk (i := 7) (oi := ⟨some 28, .fieldAddr 33 (.tmp 27) 0, 0, "merkle.go:41", #[⟨6, .data⟩, ⟨2, .guard⟩], some (2, true)⟩) (v := undef) (by exact .inr ⟨by rfl, rfl⟩) ?_
   try simp only [Act.put, sA, sB, sC]
   refine tk (i := 8) (oi := ⟨some 29, .load 31 (.tmp 28), 31, "merkle.go:41", #[⟨7, .data⟩, ⟨2, .guard⟩], some (2, true)⟩) (v := undef) (by exact .inr ⟨by rfl, rfl⟩) ?_
   try simp only [Act.put, sA, sB, sC]
   refine tk (i := 9) (oi := ⟨some 30, .fieldAddr 33 (.tmp 4) 0, 0, "merkle.go:41", #[⟨2, .guard⟩], some (2, true)⟩) (v := undef) (by exact .inr ⟨by rfl, rfl⟩) ?_
   try simp only [Act.put, sA, sB, sC]
   refine tk (i := 10) (oi := ⟨some 31, .load 31 (.tmp 30), 31, "merkle.go:41", #[⟨9, .data⟩, ⟨2, .guard⟩], some (2, true)⟩) (v := undef) (by exact .inr ⟨by rfl, rfl⟩) ?_
   try simp only [Act.put, sA, sB, sC]
   refine tk (i := 11) (oi := ⟨some 32, .call ⟨.value (.func 56), #[.tmp 29, .tmp 31], #[31, 31]⟩, 3, "merkle.go:41", #[⟨8, .data⟩, ⟨10, .data⟩, ⟨2, .chain⟩, ⟨2, .guard⟩], some (2, true)⟩) (v := undef) (by exact .inr ⟨by rfl, rfl⟩) ?_
   try simp only [Act.put, sA, sB, sC]
   refine tk (i := 12) (oi := ⟨some 33, .binOp BinOp.geq 3 (.tmp 32) (.const (Value.int IntKind.i64 0)) 3, 4, "merkle.go:41", #[⟨11, .data⟩, ⟨2, .guard⟩], some (2, true)⟩) (v := undef) (by exact .inr ⟨by rfl, rfl⟩) ?_
   try simp only [Act.put, sA, sB, sC]
   refine tk (i := 13) (oi := ⟨some 34, .pick (.tmp 23) (.tmp 33) (.const (Value.bool false)), 4, "merkle.go:41", #[⟨2, .data⟩, ⟨12, .data⟩], none⟩) (v := ?_) (Or.inl ⟨by rfl, ?_⟩) ?_
   rotate_left 1
   ·(intro u hSw; go_simp; try with_reducible rfl)
   try simp only [Act.put, sA, sB, sC]
   refine wpAnyH_done (by kernel_rfl) ?_ _
   have HB2 := hid HB.out.drew
   go_wp2_with fail
   go_roundw
   case rel => exact .inr ⟨rfl, HB2.out⟩
   case measure => decide
  ·have HB3 := hid hb
   clear hb
   go_wp2_with fail
   go_ret
   exact ⟨rfl, HB3.out⟩
end Go.Proofs.YtbmlkocpjboodaaDoor
/- stage 7, plain: counts stay positive; sizes -/
namespace Go.Proofs.YtbmlkocpjboodaaDoor
open Go.RowKit
open Go.Lib (hid)
theorem ents_len (fr to : List Int) (e : Bool) : ∀ (t : MT) (lo hi : Option (List Int)) (s : List (List Int × Nat)), (visitM (fun s _ _ _ => (s, true)) (enM fr to e) t lo hi s).length ≤ s.length + t.size
 | .nil, _, _, s => Nat.le_refl _
 | .cut _, _, _, s => Nat.le_refl _
 | .nd k n rk d l r, lo, hi, s => by
  have h1 := ents_len fr to e l lo (some k) s
  have h2 := ents_len fr to e r (some k) hi (enM fr to e (visitM (fun s _ _ _ => (s, true)) (enM fr to e) l lo (some k) s) k n)
  have h3 : (enM fr to e (visitM (fun s _ _ _ => (s, true)) (enM fr to e) l lo (some k) s) k n).length ≤ (visitM (fun s _ _ _ => (s, true)) (enM fr to e) l lo (some k) s).length + 1 := by
   unfold enM
   split
   ·rw [List.length_append]; simp
   ·omega
  simp only [visitM, MT.size, if_true]
  omega
theorem MT.ents_le (fr to : List Int) (e : Bool) (t : MT) : (t.ents fr to e).length ≤ t.size := by
 have h := ents_len fr to e t none none []
 simpa [MT.ents, eachM] using h
end Go.Proofs.YtbmlkocpjboodaaDoor
/- stage 7: the law's prove -/
namespace Go.Proofs.YtbmlkocpjboodaaDoor
open Go.RowKit
open Go.Lib (hid)
theorem str_get (s : List Int) (j : Nat) (hr : Rng s) (hj : j < s.length) : (((str s).data.toList.getD j 0).toNat : Int) = s[j]?.getD 0 := by
 have h := hr.get j
 simp only [str, List.getD, List.getElem?_map, List.getElem?_eq_getElem hj, Option.map_some, Option.getD_some] at h ⊢
 rw [UInt8.toNat_ofNat']
 omega
theorem str_len (s : List Int) : (str s).size = s.length := by simp [str, ByteArray.size]
theorem conv_str (w : World) (s : List Int) (hr : Rng s) : ∃ W1 a c, (convert 9 31 (.string (str s))).run Tryd.prog w = .ok (.slice a s.length c) W1 ∧ Below w.heap.size w W1 ∧ Bs W1 (.slice a s.length c) s := by
 have h := Lib.run_convert_string_bytes (P := Tryd.prog) w 9 31 5 (str s) (u := .string) Tryd.underlying9 Tryd.underlying31 Tryd.underlying5
 rw [str_len] at h
 refine ⟨_, _, _, h, ⟨rfl, rfl, rfl, by rw [Lib.bytesWorld_size]; omega, fun k hk => Lib.bytesWorld_at_old _ _ _ _ hk⟩, ⟨_, _, rfl, ⟨grownCap_ge _ _ _ _, fun e => by cases e⟩, fun _ => ⟨w.heap.size, 0, rfl, by rw [Lib.bytesWorld_size]; omega, fun i hi => ?_⟩⟩⟩
 rw [Nat.zero_add, Lib.bytesWorld_cell _ _ _ _ (by rw [str_len]; exact hi), str_get s i hr hi]
theorem exec_conv {ρ : Operand → Value} {o : Oper} {w V1 : World} (x : Operand) (ho : o.op = .convert 9 31 x) (b : Value) (hx : ρ x = b) (v : Value) (h : (convert 9 31 b).run Tryd.prog w = .ok v V1) : (execOp ρ o).run Tryd.prog w = .ok (.value v) V1 := by
 unfold execOp
 simp only [ho, hx, Sem.run_bind, h, Result.andThen_ok, Sem.run_pure]
end Go.Proofs.YtbmlkocpjboodaaDoor
/- stage 7: nodes that wait -/
namespace Go.Proofs.YtbmlkocpjboodaaDoor
open Go.RowKit
open Go.Lib (hid)
/-- a node that waits: its key, its count, its rank, its left tree -/
structure Wt where
 k : List Int
 n : Nat
 rk : List Int
 l : MT
/-- its key and its left tree in memory -/
structure Wv where
 kv : Value
 lp : Value
def wtL (x : Wt) (y : Wv) : List Value := rkL y.kv x.n x.rk ++ [y.lp]
def wtsL : List Wt → List Wv → List Value
 | x :: xs, y :: ys => wtL x y ++ wtsL xs ys
 | _, _ => []
def WtOk (x : Wt) : Prop := x.k.length ≤ 65535 ∧ Rng x.k ∧ x.n < 9223372036854775808 ∧ x.rk.length = 32 ∧ Rng x.rk ∧ x.l.Good
theorem rkL_len {kv : Value} {n : Nat} {rk : List Int} (h : rk.length = 32) : (rkL kv n rk).length = 34 := by simp [rkL, h]
theorem wtL_len {x : Wt} (y : Wv) (h : x.rk.length = 32) : (wtL x y).length = 35 := by unfold wtL; rw [List.length_append, rkL_len h]; rfl
theorem wtsL_len : ∀ (st : List Wt) (ys : List Wv), ys.length = st.length → (∀ x ∈ st, x.rk.length = 32) → (wtsL st ys).length = st.length * 35
 | [], [], _, _ => rfl
 | [], _ :: _, h, _ => by simp at h
 | _ :: _, [], h, _ => by simp at h
 | x :: st, y :: ys, h, g => by
  have ih := wtsL_len st ys (by simpa using h) (fun z hz => g z (List.mem_cons_of_mem _ hz))
  unfold wtsL
  rw [List.length_append, wtL_len y (g x List.mem_cons_self), ih, List.length_cons]
  omega
theorem wtsL_snoc (x : Wt) (y : Wv) : ∀ (st : List Wt) (ys : List Wv), ys.length = st.length → wtsL (st ++ [x]) (ys ++ [y]) = wtsL st ys ++ wtL x y
 | [], [], _ => by simp [wtsL]
 | [], _ :: _, h => by simp at h
 | _ :: _, [], h => by simp at h
 | a :: st, b :: ys, h => by
  have ih := wtsL_snoc x y st ys (by simpa using h)
  simp only [List.cons_append, wtsL]
  rw [ih, List.append_assoc]
theorem wtL_one (x : Wt) (y : Wv) (h1 : y.kv.oneCell' = true) (h2 : y.lp.oneCell' = true) : ∀ v ∈ wtL x y, v.oneCell' = true := by
 intro v hv
 unfold wtL rkL at hv
 simp only [List.mem_append, List.mem_cons, List.not_mem_nil, or_false, List.mem_map] at hv
 rcases hv with ((rfl | rfl) | ⟨_, _, rfl⟩) | rfl
 ·exact h1
 ·rfl
 ·rfl
 ·exact h2
/-- a row of waiting nodes, whose keys and trees lie in blocks G -/
def WtR (w : World) (B : Nat) (G : Nat → Prop) (v : Value) (st : List Wt) : Prop :=
 ∃ ys : List Wv, ys.length = st.length ∧ w.ownsRow B 109 35 v st.length (wtsL st ys) ∧ (∀ g, v.ownBlock = some g → ¬ G g) ∧ ∀ (i : Nat) (x : Wt) (y : Wv), st[i]? = some x → ys[i]? = some y → KIs w G y.kv x.k ∧ MIs w G y.lp x.l
theorem WtR.nil (w : World) (B : Nat) (G : Nat → Prop) : WtR w B G (.slice none 0 0) [] := ⟨[], rfl, World.ownsRow_nil _ _ _ _, (fun g h => by cases h), (fun i x y h => by simp at h)⟩
theorem WtR.slc {w : World} {B : Nat} {G : Nat → Prop} {v : Value} {st : List Wt} (h : WtR w B G v st) : ∃ a c, v = .slice a st.length c := by
 obtain ⟨_, _, h, _⟩ := h
 exact ownsRow_slc h
theorem WtR.lt {w : World} {B : Nat} {G : Nat → Prop} {v : Value} {st : List Wt} (h : WtR w B G v st) : ∀ g, v.ownBlock = some g → B ≤ g ∧ g < w.heap.size := by
 obtain ⟨_, _, h, _⟩ := h
 exact h.lt
/-- other blocks change -/
theorem WtR.cg {w w' : World} {B : Nat} {G F : Nat → Prop} {v : Value} {st : List Wt} (h : WtR w B G v st) (hc : Chg F w w') (h1 : ∀ g, v.ownBlock = some g → ¬ F g) (h2 : ∀ q, q < w.heap.size → G q → ¬ F q) : WtR w' B G v st := by
 have hlt := h.lt
 obtain ⟨ys, e1, e2, e3, e4⟩ := h
 refine ⟨ys, e1, ⟨e2.1, e2.2.imp id ?_⟩, e3, fun i x y hx hy => ⟨(e4 i x y hx hy).1.cg hc h2, (e4 i x y hx hy).2.chg hc.size (fun b hb hs => hc.block b hb (h2 b hb hs))⟩⟩
 rintro ⟨g, cap, cur, rfl, q1, q2, q3⟩
 exact ⟨g, cap, cur, rfl, q1, (hc.block g (hlt g rfl).2 (h1 g rfl)).trans q2, q3⟩
theorem WtR.below {w w' : World} {B : Nat} {G : Nat → Prop} {v : Value} {st : List Wt} (h : WtR w B G v st) (hb : Below w.heap.size w w') : WtR w' B G v st := h.cg (Chg.fresh (F := fun _ => False) hb) (fun _ _ h => h) (fun _ _ _ h => h)
theorem WtR.more {w : World} {B : Nat} {G G' : Nat → Prop} {v : Value} {st : List Wt} (h : WtR w B G v st) (hG : ∀ q, G q → G' q) (hn : ∀ g, v.ownBlock = some g → ¬ G' g) : WtR w B G' v st := by
 obtain ⟨ys, e1, e2, e3, e4⟩ := h
 exact ⟨ys, e1, e2, hn, fun i x y hx hy => ⟨(e4 i x y hx hy).1.mono hG, (e4 i x y hx hy).2.mono hG⟩⟩
/-- the last one, and what is left without it -/
theorem WtR.pop {w : World} {B : Nat} {G : Nat → Prop} {v : Value} {st : List Wt} {x : Wt} (h : WtR w B G v (st ++ [x])) (hk : ∀ z ∈ st, z.rk.length = 32) :
  ∃ g cap y, v = .slice (some ⟨g, 0, none⟩) (st.length + 1) cap ∧ st.length + 1 ≤ cap ∧ B ≤ g ∧ g < w.heap.size ∧ ¬ G g ∧ KIs w G y.kv x.k ∧ MIs w G y.lp x.l ∧ w.rangeAt g (st.length * 35) (wtL x y) ∧ WtR w B G (.slice (some ⟨g, 0, none⟩) st.length cap) st := by
 have hlt := h.lt
 obtain ⟨ys, e1, e2, e3, e4⟩ := h
 rw [List.length_append, List.length_cons, List.length_nil, Nat.zero_add] at e1 e2
 obtain ⟨ys', y, rfl⟩ : ∃ ys' y, ys = ys' ++ [y] := by
  rcases List.eq_nil_or_concat ys with h | ⟨a, b, h⟩
  ·rw [h] at e1; simp at e1
  ·exact ⟨a, b, by rw [h, List.concat_eq_append]⟩
 have e5 : ys'.length = st.length := by simpa using e1
 obtain ⟨e6, ⟨rfl, hn⟩ | ⟨g, cap, cur, rfl, q1, q2, q3, q4, q5, q6⟩⟩ := e2
 ·omega
 ·rw [wtsL_snoc x y st ys' e5] at q6 e6
  have hl := wtsL_len st ys' e5 hk
  obtain ⟨k1, k2⟩ := e4 st.length x y (by simp) (by rw [← e5]; simp)
  refine ⟨g, cap, y, rfl, q3, q1, (hlt g rfl).2, e3 g rfl, k1, k2, fun j u hj => ?_, ⟨ys', e5, ⟨hl, .inr ⟨g, cap, cur, rfl, q1, q2, by omega, q4, q5, ?_⟩⟩, fun g' hg' => e3 g' hg', fun i a b ha hb => ?_⟩⟩
  ·rw [cell_of_row _ g _ _ _ _ q2]
   have hj2 : j < (wtL x y).length := (List.getElem?_eq_some_iff.1 hj).1
   have hlen : (wtsL st ys' ++ wtL x y).length = (st.length + 1) * 35 := e6
   have : cur.toList[st.length * 35 + j]? = (cur.toList.take ((st.length + 1) * 35))[st.length * 35 + j]? := by
    rw [List.getElem?_take, if_pos (by rw [List.length_append, hl] at hlen; omega)]
   rw [← Array.getElem?_toList, this, q6, List.getElem?_append_right (by omega), hl, Nat.add_sub_cancel_left, hj]
  ·have h2 : (cur.toList.take ((st.length + 1) * 35)).take (st.length * 35) = (wtsL st ys' ++ wtL x y).take (st.length * 35) := by rw [q6]
   rw [List.take_take, Nat.min_eq_left (by omega), ← hl, List.take_left] at h2
   rw [← hl]
   exact h2
  ·have hi1 := (List.getElem?_eq_some_iff.1 ha).1
   exact e4 i a b (by rw [List.getElem?_append_left hi1]; exact ha) (by rw [List.getElem?_append_left (by omega)]; exact hb)
theorem infoWt : ∃ i, Tryd.prog.info? 109 = some i ∧ i.zero = some (.agg (wtL ⟨[], 0, zeros 32, .nil⟩ ⟨.slice none 0 0, .pointer none⟩).toArray) ∧ i.size = 35 ∧ i.bytes ≤ 128 := by
 have h : (Tryd.prog.info? 109).map (fun i => (i.zero, i.size, decide (i.bytes ≤ 128))) = some (some (.agg (wtL ⟨[], 0, zeros 32, .nil⟩ ⟨.slice none 0 0, .pointer none⟩).toArray), 35, true) := by kernel_rfl
 cases hi : Tryd.prog.info? 109 with
 | none => rw [hi] at h; cases h
 | some i =>
  rw [hi] at h
  simp only [Option.map_some, Option.some.injEq, Prod.mk.injEq] at h
  exact ⟨i, rfl, h.1, h.2.1, of_decide_eq_true h.2.2⟩
/-- one more -/
theorem WtR.app {w : World} {B : Nat} {G : Nat → Prop} {v : Value} {st : List Wt} (h : WtR w B G v st) (hb : B ≤ w.heap.size) (b : Nat) (x : Wt) (y : Wv) (hx : w.heap[b]? = some (.cells (wtL x y).toArray 109 (0, 0))) (hk : KIs w G y.kv x.k) (hl : MIs w G y.lp x.l) (hn : st.length ≤ 1073741824) (ty : TypeId) (h1 : y.kv.oneCell' = true) (h2 : y.lp.oneCell' = true) (hr : x.rk.length = 32)
    (hlow : ∀ q, G q → q < w.heap.size) :
    ∃ v' w', (Builtin.append_ #[106, 106] ty #[v, .slice (some ⟨b, 0, none⟩) 1 1]).run Tryd.prog w = .ok v' w' ∧ WtR w' B G v' (st ++ [x]) ∧ Chg (fun g => v.ownBlock = some g) w w' ∧ OwnTo w v v' := by
  obtain ⟨i, hi, hz, hs, hby⟩ := infoWt
  obtain ⟨ys, e1, e2, e3, e4⟩ := h
  have hwl := wtL_len y hr
  obtain ⟨v', w', r1, r2, r3, -, r5⟩ := run_append_own_at (P := Tryd.prog) w B 106 ty 109 i _ 35 i.bytes Tryd.underlying106 hi hz hs rfl rfl (by decide) v st.length (wtsL st ys) e2 ⟨b, 0, none⟩ 1 1 (wtL x y) (by rw [hwl]) (by
    intro j u hj
    rw [Addr.add_mid, cell_of_row _ b _ _ _ _ hx]
    rw [Nat.zero_add]
    rw [List.getElem?_toArray]
    exact hj) (wtL_one x y h1 h2) (by unfold maxLen; omega) (by
    have : (st.length + 1) * i.bytes ≤ (st.length + 1) * 128 := Nat.mul_le_mul_left _ hby
    omega) hb
  have hc : Chg (fun g => v.ownBlock = some g) w w' := Chg.grown r3 (fun k hk => hk)
  have ho : OwnTo w v v' := fun g hg => by
    rcases r5 with h5 | h5
    · exact .inl (by rw [← h5]; exact hg)
    · rw [h5] at hg; injection hg with hg; exact .inr (by omega)
  refine ⟨v', w', r1, ⟨ys ++ [y], by simp [e1], by rw [List.length_append, wtsL_snoc x y st ys e1]; exact r2, fun g hg => ?_, fun j a c ha hc' => ?_⟩, hc, ho⟩
  · rcases r5 with h5 | h5
    · exact e3 g (by rw [← h5]; exact hg)
    · rw [h5] at hg
      injection hg with hg
      subst hg
      exact fun hq => Nat.lt_irrefl _ (hlow _ hq)
  · have hkp : ∀ q, q < w.heap.size → G q → ¬ (v.ownBlock = some q) := fun q _ hq e => e3 q e hq
    by_cases hj : j < st.length
    · rw [List.getElem?_append_left hj] at ha
      rw [List.getElem?_append_left (by omega)] at hc'
      exact ⟨(e4 j a c ha hc').1.cg hc hkp, (e4 j a c ha hc').2.chg hc.size (fun b hb hs => hc.block b hb (hkp b hb hs))⟩
    · have hj2 : j = st.length := by
        have := (List.getElem?_eq_some_iff.1 ha).1
        simp at this
        omega
      subst hj2
      rw [List.getElem?_append_right (by omega), Nat.sub_self] at ha
      rw [List.getElem?_append_right (by omega), e1, Nat.sub_self] at hc'
      injection ha with ha
      injection hc' with hc'
      subst ha hc'
      exact ⟨hk.cg hc hkp, hl.chg hc.size (fun b hb hs => hc.block b hb (hkp b hb hs))⟩
end Go.Proofs.YtbmlkocpjboodaaDoor
