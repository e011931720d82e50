/- stage 7: Verify, whose entries' keys may be written; what the reference's Verify answers, plain -/
import Derived.Test.YtbmlkocpjboodaaDoorMv23
namespace Go.Proofs.YtbmlkocpjboodaaDoor
open Go.RowKit
open Go.Lib (hid)
/-- does each cut tree miss a range? -/
def missT (fr to : List Int) (e : Bool) : MT → List Int → List Int → Bool → Bool → Bool
 | .nil, _, _, _, _ => true
 | .cut _, lo, hi, low, up => missQ lo hi low up fr to e
 | .nd k _ _ _ l r, lo, hi, low, up => missT fr to e l lo k low true && missT fr to e r k hi true up
theorem tells_false (fr to : List Int) (e : Bool) : ∀ (t : MT) (lo hi : Option (List Int)), visitM (tlE fr to e) (fun ok _ _ => ok) t lo hi false = false
 | .nil, _, _ => rfl
 | .cut d, lo, hi => by simp only [visitM, tlE]; split <;> rfl
 | .nd k n rk d l r, lo, hi => by simp [visitM, tlE]
theorem tells_miss (fr to : List Int) (e : Bool) : ∀ (t : MT) (lo hi : Option (List Int)), visitM (tlE fr to e) (fun ok _ _ => ok) t lo hi true = missT fr to e t (lo.getD []) (hi.getD []) lo.isSome hi.isSome
 | .nil, _, _ => rfl
 | .cut d, lo, hi => by
  simp only [visitM, tlE, missT]
  rw [miss_out]
  cases outQ fr to e lo hi <;> rfl
 | .nd k n rk d l r, lo, hi => by
  simp only [visitM, tlE, missT, if_true]
  rw [tells_miss fr to e l lo (some k)]
  have h2 := tells_miss fr to e r (some k) hi
  have h3 := tells_false fr to e r (some k) hi
  show _ = (missT fr to e l (lo.getD []) ((some k).getD []) lo.isSome (some k).isSome && missT fr to e r ((some k).getD []) (hi.getD []) (some k).isSome hi.isSome)
  cases missT fr to e l (lo.getD []) ((some k).getD []) lo.isSome (some k).isSome with
  | false => rw [h3]; rfl
  | true => rw [h2]; rfl
theorem tells_eq (fr to : List Int) (e : Bool) (t : MT) : t.tells fr to e = missT fr to e t [] [] false false := tells_miss fr to e t none none
/-- how Verify ends -/
def VEndW (w : World) (d : Ending) (w' : World) : Int ⊕ List (List Int × Nat) → Prop
 | .inl c => c ≠ 0 ∧ d = .returned (.tuple #[.slice none 0 0, .int .i64 c]) ∧ Below w.heap.size w w'
 | .inr es => ∃ v, d = .returned (.tuple #[v, .int .i64 0]) ∧ EnNW w w' v es ∧ Below w.heap.size w w'
set_option maxRecDepth 100000 in
set_option maxHeartbeats 8000000 in
theorem VerifyW_any (w : World) (root : List Int) (fv tv pv : Value) (fr to : List Int) (e : Bool) (pf : List Int) (hr : root.length = 32) (hf : Bs w fv fr) (ht : Bs w tv to) (hp : Bs w pv pf) (gf : Rng fr) (gt : Rng to) (gp : Rng pf) (hK : KC w) (hbd : ∀ t, rdAll pf = .inr t → (t.ents fr to e).length ≤ 1099511627776) :
  Calls Tryd.prog 29 #[.agg (ArrU8 root), fv, tv, .bool e, pv] w fun d w' => VEndW w d w' (verO root fr to e pf) := by
 have hbb : Below w.heap.size w (w.alloc (.cells (ArrU8 root) 36)) := (Below.refl _ _).alloc (Nat.le_refl _) _
 have hx0 : (w.alloc (.cells (ArrU8 root) 36)).heap[w.heap.size]? = some (.cells (ArrU8 root) 36 (0, 0)) := heap_alloc_new _ _
 have HX := hid (fun u (hu : Below (w.alloc (.cells (ArrU8 root) 36)).heap.size (w.alloc (.cells (ArrU8 root) 36)) u) => (show u.rangeAt w.heap.size 0 (root.map (Value.int .u8)) from fun j x hj => by
  rw [cell_of_row u w.heap.size (0 + j) _ _ _ ((hu.block _ (blk_lt hx0)).trans hx0), Nat.zero_add]
  simpa [ArrU8] using hj))
 have HI := hid (show (Tryd.prog.info? 36).map (·.size) = some (root.map (Value.int .u8)).length by rw [List.length_map, hr]; exact info_dg)
 have HRD := hid (read_any pf (w.alloc (.cells (ArrU8 root) 36)) pv (hp.below hbb) gp (hK.below hbb hK.1))
 have HH := hid (And.intro (hf.below hbb) (And.intro (ht.below hbb) (And.intro (hK.below hbb hK.1) (And.intro hbb (And.intro gf (And.intro gt hr))))))
 have HG := hid (fun t h => rdAll_ok gp (t := t) h)
 have HBD := hid hbd
 have HV := hid (show verO root fr to e pf = match rdAll pf with
  | .inl c => .inl c
  | .inr t => if t.ascends = false then .inl 9 else if t.tells fr to e = false then .inl 50 else if t.dg = root then .inr (t.ents fr to e) else .inl 51 from rfl)
 have hfs := hf
 have hts := ht
 have hps := hp
 obtain ⟨af, cf, rfl, -, -⟩ := hfs
 obtain ⟨at2, ct, rfl, -, -⟩ := hts
 obtain ⟨ap2, cp2, rfl, -, -⟩ := hps
 generalize verO root fr to e pf = R at *
 generalize rdAll pf = RA at *
 have HS32 := hid (sz32 _ hr)
 clear hbb hx0 hr hf ht hp gf gt gp hK hbd
 go_enter Tryd.func29, Tryd.ntmps29
 go_wp2_with fail
 generalize w.alloc (.cells (ArrU8 root) 36) = w0 at *
 refine HRD.out.mono ?_
 rintro d w1 he
 rcases RA with c | tr
 ·obtain ⟨hc0, rfl, hb1⟩ := he
  have hne : (c != 0) = true := bne_iff_ne.2 hc0
  have HC := hid (And.intro hc0 (HH.out.2.2.2.1.trans (hb1.mono HH.out.2.2.2.1.size)))
  clear hc0 hb1
  go_wp2_with fail
  go_ret2
  rw [HV.out]
  exact ⟨HC.out.1, rfl, HC.out.2⟩
 ·obtain ⟨p, rfl, hp, hb1⟩ := he
  have hgd := HG.out tr rfl
  have hen := HBD.out tr rfl
  have hbb2 : Below w0.heap.size w0 (w1.alloc (.cells #[.slice af fr.length cf, .slice at2 to.length ct, .bool e] 74)) := hb1.alloc hb1.size _
  have hx2 : (w1.alloc (.cells #[.slice af fr.length cf, .slice at2 to.length ct, .bool e] 74)).heap[w1.heap.size]? = some (.cells #[.slice af fr.length cf, .slice at2 to.length ct, .bool e] 74 (0, 0)) := heap_alloc_new _ _
  have hp2 := hp.below ((Below.refl w1.heap.size w1).alloc (Nat.le_refl _) (.cells #[.slice af fr.length cf, .slice at2 to.length ct, .bool e] 74))
  obtain ⟨ap, rfl⟩ := hp.form
  have HAS := hid (ascends_any _ (.pointer ap) tr hp2 hgd)
  have HTE := hid (fun u (hu : Below (w1.alloc (.cells #[.slice af fr.length cf, .slice at2 to.length ct, .bool e] 74)).heap.size (w1.alloc (.cells #[.slice af fr.length cf, .slice at2 to.length ct, .bool e] 74)) u) => tells_any u (.pointer ap) (.slice af fr.length cf) (.slice at2 to.length ct) fr to e tr (hp2.below hu) hgd ((HH.out.1.below hbb2).below hu) ((HH.out.2.1.below hbb2).below hu) HH.out.2.2.2.2.1 HH.out.2.2.2.2.2.1)
  have HEN := hid (fun u (hu : Below (w1.alloc (.cells #[.slice af fr.length cf, .slice at2 to.length ct, .bool e] 74)).heap.size (w1.alloc (.cells #[.slice af fr.length cf, .slice at2 to.length ct, .bool e] 74)) u) => entriesW_any u (.pointer ap) (.slice af fr.length cf) (.slice at2 to.length ct) fr to e tr (hp2.below hu) hgd ((HH.out.1.below hbb2).below hu) ((HH.out.2.1.below hbb2).below hu) HH.out.2.2.2.2.1 HH.out.2.2.2.2.2.1 hen)
  have HSU := hid (fun u (hu : Below (w1.alloc (.cells #[.slice af fr.length cf, .slice at2 to.length ct, .bool e] 74)).heap.size (w1.alloc (.cells #[.slice af fr.length cf, .slice at2 to.length ct, .bool e] 74)) u) => nsum_any u (hp2.below hu) ((HH.out.2.2.1.below hbb2 HH.out.2.2.1.1).below hu (HH.out.2.2.1.below hbb2 HH.out.2.2.1.1).1))
  have HXX := hid (fun u (hu : Below (w1.alloc (.cells #[.slice af fr.length cf, .slice at2 to.length ct, .bool e] 74)).heap.size (w1.alloc (.cells #[.slice af fr.length cf, .slice at2 to.length ct, .bool e] 74)) u) => HX.out u (hbb2.trans (hu.mono hbb2.size)))
  have HSP := hid (fun u (hu : Below (w1.alloc (.cells #[.slice af fr.length cf, .slice at2 to.length ct, .bool e] 74)).heap.size (w1.alloc (.cells #[.slice af fr.length cf, .slice at2 to.length ct, .bool e] 74)) u) => (hu.block _ (blk_lt hx2)).trans hx2)
  have HB2 := hid (HH.out.2.2.2.1.trans (hbb2.mono HH.out.2.2.2.1.size))
  have HDL := hid hgd.dlen
  have HR := hid (HV.out.trans (show _ = if tr.ascends = false then .inl 9 else if tr.tells fr to e = false then .inl 50 else if tr.dg = root then .inr (tr.ents fr to e) else .inl 51 from rfl))
  clear hp hb1 hgd hen hbb2 hx2 hp2 HX HBD HG HV HRD
  generalize tr.ents fr to e = es at *
  generalize tr.dg = dg at *
  generalize tr.tells fr to e = tq at *
  generalize tr.ascends = aq at *
  go_wp2_with fail
  generalize w1.alloc (.cells #[.slice af fr.length cf, .slice at2 to.length ct, .bool e] 74) = w2 at *
  refine HAS.out.mono ?_
  rintro d w3 ⟨rfl, hb3⟩
  have HB3 := hid (And.intro hb3 (HB2.out.trans (hb3.mono HB2.out.size)))
  have HS3 := hid (HSP.out w3 hb3)
  have HTE3 := hid (HTE.out w3 hb3)
  clear hb3 HTE
  cases aq with
  | false =>
   go_wp2_with fail
   go_ret2
   rw [HR.out]
   exact ⟨by decide, rfl, HB3.out.2⟩
  | true =>
   replace HR : Hid (R = if tq = false then .inl 50 else if dg = root then .inr es else .inl 51) := HR
   go_wp2_with (refine wpList_load_row rfl 74 (Operand.tmp 14) rfl w1.heap.size rfl 74 _ (0, 0) _ HS3.out Tryd.underlying74 rfl (by kernel_rfl) ?_)
   refine HTE3.out.mono ?_
   rintro d w4 ⟨rfl, hb4⟩
   have HB4 := hid (And.intro (HB3.out.1.trans (hb4.mono HB3.out.1.size)) (HB3.out.2.trans (hb4.mono HB3.out.2.size)))
   clear hb4
   cases tq with
   | false =>
    go_wp2_with fail
    go_ret2
    rw [HR.out]
    exact ⟨by decide, rfl, HB4.out.2⟩
   | true =>
    replace HR : Hid (R = if dg = root then .inr es else .inl 51) := HR
    go_wp2_with fail
    have hb5 := HB4.out.1.drew
    by_cases hdr : dg = root
    ·have HCM := hid (show (!decide (dg = root)) = false by rw [decide_eq_true hdr]; rfl)
     have HR2 : Hid (R = .inr es) := hid (HR.out.trans (if_pos hdr))
     clear hdr
     refine wp_region_held_drew (S := fun u => Below w2.heap.size w2 u) (by kernel_rfl) (hb5) (fun hHeld => ?_)
     refine tk (i := 0) (oi := ⟨some 37, .move (.tmp 12), 68, "proof.go:29", #[], none⟩) (v := ?_) (Or.inl ⟨by rfl, ?_⟩) ?_
     rotate_left 1
     ·(intro u hSw; go_simp; try with_reducible rfl)
     try simp only [Act.put, sA, sB, sC]
     refine tk (i := 2) (oi := ⟨some 39, .load 36 (.tmp 5), 36, "proof.go:29", #[], none⟩) (v := .agg (root.map (Value.int .u8)).toArray) (Or.inl ⟨by rfl, ?_⟩) ?_
     ·intro u hSw
      exact exec_load_mid 36 (Operand.tmp 5) rfl w.heap.size 0 rfl _ _ (HXX.out _ hSw) Tryd.underlying36 rfl HI.out
     try simp only [Act.put, sA, sB, sC]
     refine wpAnyH_ready (rs := [1]) (by kernel_rfl) (by simp) ?_
     refine (AllReadyH.cons (o := ⟨some 38, .call ⟨.value (.func 34), #[.tmp 37], #[68]⟩, 36, "proof.go:29", #[⟨0, .data⟩], none⟩) rfl (fun K hK => ?_) AllReadyH.nil)
     go_simp
     refine (HSU.out _ hb5).mono ?_
     rintro d w5 ⟨rfl, hb6⟩
     have hb7 := hb5.trans (hb6.mono hb5.size)
     clear hb6
     go_wp2_with fail
     refine hK.out _ _ hb7 (fun hHeld => ?_)
     clear hK K
     try simp only [Act.put, sA, sB, sC]
     refine tk (i := 3) (oi := ⟨some 40, .binOp BinOp.neq 36 (.tmp 38) (.tmp 39) 36, 4, "proof.go:29", #[⟨1, .data⟩, ⟨2, .data⟩], none⟩) (v := .bool false) (Or.inl ⟨by rfl, ?_⟩) ?_
     ·intro u hSw
      exact exec_neq_dg (Operand.tmp 38) (Operand.tmp 39) _ rfl dg root rfl rfl HDL.out HH.out.2.2.2.2.2.2 false HCM.out
     try simp only [Act.put, sA, sB, sC]
     refine tk (i := 4) (oi := ⟨some 36, .assign (.tmp 40), 4, "proof.go:29", #[⟨3, .data⟩, ⟨1, .chain⟩], none⟩) (v := ?_) (Or.inl ⟨by rfl, ?_⟩) ?_
     rotate_left 1
     ·(intro u hSw; go_simp; try with_reducible rfl)
     try simp only [Act.put, sA, sB, sC]
     refine wpAnyH_done (by kernel_rfl) ?_ _
     have HB7 := hid (And.intro hb7 (HB2.out.trans (hb7.mono HB2.out.size)))
     have HS7 := hid (HSP.out _ hb7)
     have HEN7 := hid (HEN.out _ hb7)
     clear hb7 hb5
     go_wp2_with (refine wpList_load_row rfl 74 (Operand.tmp 14) rfl w1.heap.size rfl 74 _ (0, 0) _ HS7.out Tryd.underlying74 rfl (by kernel_rfl) ?_)
     refine HEN7.out.mono ?_
     rintro d w8 ⟨v8, rfl, he8, hb8⟩
     obtain ⟨a8, c8, rfl⟩ := he8.slc
     have HF := hid (And.intro (he8.after HB7.out.2) (HB7.out.2.trans (hb8.mono HB7.out.2.size)))
     clear he8 hb8
     go_wp2_with fail
     go_ret2
     rw [HR2.out]
     exact ⟨_, rfl, HF.out.1, HF.out.2⟩
    ·have HCM := hid (show (!decide (dg = root)) = true by rw [decide_eq_false hdr]; rfl)
     have HR2 : Hid (R = .inl 51) := hid (HR.out.trans (if_neg hdr))
     clear hdr
     refine wp_region_held_drew (S := fun u => Below w2.heap.size w2 u) (by kernel_rfl) (hb5) (fun hHeld => ?_)
     refine tk (i := 0) (oi := ⟨some 37, .move (.tmp 12), 68, "proof.go:29", #[], none⟩) (v := ?_) (Or.inl ⟨by rfl, ?_⟩) ?_
     rotate_left 1
     ·(intro u hSw; go_simp; try with_reducible rfl)
     try simp only [Act.put, sA, sB, sC]
     refine tk (i := 2) (oi := ⟨some 39, .load 36 (.tmp 5), 36, "proof.go:29", #[], none⟩) (v := .agg (root.map (Value.int .u8)).toArray) (Or.inl ⟨by rfl, ?_⟩) ?_
     ·intro u hSw
      exact exec_load_mid 36 (Operand.tmp 5) rfl w.heap.size 0 rfl _ _ (HXX.out _ hSw) Tryd.underlying36 rfl HI.out
     try simp only [Act.put, sA, sB, sC]
     refine wpAnyH_ready (rs := [1]) (by kernel_rfl) (by simp) ?_
     refine (AllReadyH.cons (o := ⟨some 38, .call ⟨.value (.func 34), #[.tmp 37], #[68]⟩, 36, "proof.go:29", #[⟨0, .data⟩], none⟩) rfl (fun K hK => ?_) AllReadyH.nil)
     go_simp
     refine (HSU.out _ hb5).mono ?_
     rintro d w5 ⟨rfl, hb6⟩
     have hb7 := hb5.trans (hb6.mono hb5.size)
     clear hb6
     go_wp2_with fail
     refine hK.out _ _ hb7 (fun hHeld => ?_)
     clear hK K
     try simp only [Act.put, sA, sB, sC]
     refine tk (i := 3) (oi := ⟨some 40, .binOp BinOp.neq 36 (.tmp 38) (.tmp 39) 36, 4, "proof.go:29", #[⟨1, .data⟩, ⟨2, .data⟩], none⟩) (v := .bool true) (Or.inl ⟨by rfl, ?_⟩) ?_
     ·intro u hSw
      exact exec_neq_dg (Operand.tmp 38) (Operand.tmp 39) _ rfl dg root rfl rfl HDL.out HH.out.2.2.2.2.2.2 true HCM.out
     try simp only [Act.put, sA, sB, sC]
     refine tk (i := 4) (oi := ⟨some 36, .assign (.tmp 40), 4, "proof.go:29", #[⟨3, .data⟩, ⟨1, .chain⟩], none⟩) (v := ?_) (Or.inl ⟨by rfl, ?_⟩) ?_
     rotate_left 1
     ·(intro u hSw; go_simp; try with_reducible rfl)
     try simp only [Act.put, sA, sB, sC]
     refine wpAnyH_done (by kernel_rfl) ?_ _
     have HB7 := hid (And.intro hb7 (HB2.out.trans (hb7.mono HB2.out.size)))
     have HS7 := hid (HSP.out _ hb7)
     have HEN7 := hid (HEN.out _ hb7)
     clear hb7 hb5
     go_wp2_with fail
     go_ret2
     rw [HR2.out]
     exact ⟨by decide, rfl, HB7.out.2⟩
set_option maxRecDepth 100000 in
set_option maxHeartbeats 8000000 in
theorem lawVerifyW_any (w : World) (root fr to : List Int) (e : Bool) (pv : Value) (pf : List Int) (hr : root.length = 32) (hp : Bs w pv pf) (gf : Rng fr) (gt : Rng to) (gp : Rng pf) (hK : KC w) (hbd : ∀ t, rdAll pf = .inr t → (t.ents fr to e).length ≤ 1099511627776) :
  Calls Tryd.prog 22 #[.agg (ArrU8 root), .agg #[.string (str fr), .string (str to), .bool e], pv] w fun d w' => VEndW w d w' (verO root fr to e pf) := by
 have hbb : Below w.heap.size w ((w.alloc (.cells (ArrU8 root) 36)).alloc (.cells #[.string (str fr), .string (str to), .bool e] 24)) := ((Below.refl _ _).alloc (Nat.le_refl _) _).alloc (by simp) _
 have hx0 : (((w.alloc (.cells (ArrU8 root) 36)).alloc (.cells #[.string (str fr), .string (str to), .bool e] 24))).heap[w.heap.size]? = some (.cells (ArrU8 root) 36 (0, 0)) := (heap_alloc_old _ _ (by simp)).trans (heap_alloc_new _ _)
 have hx1 : (((w.alloc (.cells (ArrU8 root) 36)).alloc (.cells #[.string (str fr), .string (str to), .bool e] 24))).heap[w.heap.size + 1]? = some (.cells #[.string (str fr), .string (str to), .bool e] 24 (0, 0)) := by
  have h := heap_alloc_new (w.alloc (.cells (ArrU8 root) 36)) (.cells #[.string (str fr), .string (str to), .bool e] 24)
  rwa [World.size_alloc] at h
 generalize hWW : ((w.alloc (.cells (ArrU8 root) 36)).alloc (.cells #[.string (str fr), .string (str to), .bool e] 24)) = w1 at *
 obtain ⟨U1, a1, c1, q1, b1, k1⟩ := conv_str w1 fr gf
 obtain ⟨U2, a2, c2, q2, b2, k2⟩ := conv_str U1 to gt
 have hb1 := hbb.trans (b1.mono hbb.size)
 have hb2 := hb1.trans (b2.mono hb1.size)
 have HP := hid (VerifyW_any U2 root (.slice a1 fr.length c1) (.slice a2 to.length c2) pv fr to e pf hr (k1.below b2) k2 (hp.below hb2) gf gt gp (hK.below hb2 hK.1) hbd)
 have HB := hid hb2
 have Q1 := hid q1
 have Q2 := hid q2
 have hS := sz32 _ hr
 have HIR := hid (show (Tryd.prog.info? 36).map (·.size) = some (ArrU8 root).size by rw [hS]; exact info_dg)
 have HX0 := hid hx0
 have c10 : w1.cell? ⟨w.heap.size + 1, 0, none⟩ = some (.string (str fr)) := cell_of_row _ _ 0 _ _ _ hx1
 have hy1 := (b1.block _ (blk_lt hx1)).trans hx1
 have hy2 := (b2.block _ (blk_lt hy1)).trans hy1
 have c11 : U1.cell? ⟨w.heap.size + 1, 1, none⟩ = some (.string (str to)) := cell_of_row _ _ 1 _ _ _ hy1
 have c12 : U2.cell? ⟨w.heap.size + 1, 2, none⟩ = some (.bool e) := cell_of_row _ _ 2 _ _ _ hy2
 obtain ⟨ap, cp, rfl⟩ := (show ∃ a c, pv = .slice a pf.length c from by obtain ⟨a, c, e, -⟩ := hp; exact ⟨a, c, e⟩)
 generalize verO root fr to e pf = R at *
 clear hbb b1 k1 b2 k2 hb1 hb2 hp gf gt gp hK hbd hx0 hx1 hy1 hy2 q1 q2 hS
 go_enter Tryd.func22, Tryd.ntmps22
 go_wp2_with (first
  | (refine wpList_load_row rfl 36 (Operand.tmp 3) rfl w.heap.size rfl 36 (ArrU8 root) (0, 0) _ HX0.out Tryd.underlying36 rfl HIR.out ?_)
  | (refine wpList_of_run (o := ⟨some 11, _, _, _, _, _⟩) rfl (exec_conv (Operand.tmp 10) rfl _ rfl _ Q1.out) ?_)
  | (refine wpList_of_run (o := ⟨some 14, _, _, _, _, _⟩) rfl (exec_conv (Operand.tmp 13) rfl _ rfl _ Q2.out) ?_))
 clear hWW c10 c11 c12
 refine HP.out.mono ?_
 rintro d w3 hv
 cases R with
 | inl c =>
  obtain ⟨hc, rfl, hb⟩ := hv
  have HF := hid (And.intro hc (HB.out.trans (hb.mono HB.out.size)))
  clear hc hb
  go_wp2_with fail
  go_ret2
  exact ⟨HF.out.1, rfl, HF.out.2⟩
 | inr es =>
  obtain ⟨v, rfl, hen, hb⟩ := hv
  obtain ⟨av, cv, rfl⟩ := hen.slc
  have HF := hid (And.intro (hen.after HB.out) (HB.out.trans (hb.mono HB.out.size)))
  clear hen hb
  go_wp2_with fail
  go_ret2
  exact ⟨_, rfl, HF.out.1, HF.out.2⟩
end Go.Proofs.YtbmlkocpjboodaaDoor
/- stage 7: parts of the reference -/
namespace Go.Proofs.YtbmlkocpjboodaaDoor
open Go.RowKit
open Go.Lib (hid)
/-- the cells of a part -/
def ptC (kd : Int) (cut k : List Int) (n : Int) (lp rp : Value) : Array Value := ([Value.int .u8 kd] ++ (cut.map (Value.int .u8) ++ [.string (str k), .int .i64 n, lp, rp])).toArray
section
variable {kd : Int} {cut k : List Int} {n : Int} {lp rp : Value}
theorem ptC_0 : (ptC kd cut k n lp rp)[0]? = some (.int .u8 kd) := by simp [ptC]
theorem ptC_cut (h : cut.length = 32) (i : Nat) (hi : i < 32) : (ptC kd cut k n lp rp)[1 + i]? = (cut.map (Value.int .u8))[i]? := by
 unfold ptC
 rw [List.getElem?_toArray, List.getElem?_append_right (by simp)]
 simp only [List.length_cons, List.length_nil, Nat.zero_add, Nat.add_sub_cancel_left]
 rw [List.getElem?_append_left (by rw [List.length_map]; omega)]
theorem ptC_hi (h : cut.length = 32) (j : Nat) : (ptC kd cut k n lp rp)[33 + j]? = ([.string (str k), .int .i64 n, lp, rp] : List Value)[j]? := by
 unfold ptC
 rw [List.getElem?_toArray, List.getElem?_append_right (by simp; omega), List.getElem?_append_right (by simp [h])]
 congr 1
 simp [h]
theorem ptC_setcut (h : cut.length = 32) (i : Nat) (hi : i < 32) (x : Int) : (ptC kd cut k n lp rp).setIfInBounds (1 + i) (.int .u8 x) = ptC kd (cut.set i x) k n lp rp := by
 unfold ptC
 rw [sA, List.set_append_right _ _ (by simp)]
 simp only [List.length_cons, List.length_nil, Nat.zero_add, Nat.add_sub_cancel_left]
 rw [List.set_append_left _ _ (by rw [List.length_map]; omega), List.map_set]
theorem ptC_sethi (h : cut.length = 32) (j : Nat) (v : Value) : (ptC kd cut k n lp rp).setIfInBounds (33 + j) v = ([Value.int .u8 kd] ++ (cut.map (Value.int .u8) ++ ([.string (str k), .int .i64 n, lp, rp] : List Value).set j v)).toArray := by
 unfold ptC
 rw [sA, List.set_append_right _ _ (by simp; omega), List.set_append_right _ _ (by simp [h])]
 congr 4
 simp [h]
theorem ptC_setk (h : cut.length = 32) (k' : List Int) : (ptC kd cut k n lp rp).setIfInBounds 33 (.string (str k')) = ptC kd cut k' n lp rp := ptC_sethi h 0 _
theorem ptC_setn (h : cut.length = 32) (n' : Int) : (ptC kd cut k n lp rp).setIfInBounds 34 (.int .i64 n') = ptC kd cut k n' lp rp := ptC_sethi h 1 _
theorem ptC_setl (h : cut.length = 32) (v : Value) : (ptC kd cut k n lp rp).setIfInBounds 35 v = ptC kd cut k n v rp := ptC_sethi h 2 _
theorem ptC_setr (h : cut.length = 32) (v : Value) : (ptC kd cut k n lp rp).setIfInBounds 36 v = ptC kd cut k n lp v := ptC_sethi h 3 _
end
/-- a part's box -/
def PB (w : World) (b : Nat) (kd : Int) (cut k : List Int) (n : Int) (lp rp : Value) : Prop := cut.length = 32 ∧ w.heap[b]? = some (.cells (ptC kd cut k n lp rp) 127 (0, 0))
section
variable {w w' : World} {b : Nat} {kd : Int} {cut k : List Int} {n : Int} {lp rp : Value}
theorem PB.below (h : PB w b kd cut k n lp rp) (hb : Below w.heap.size w w') : PB w' b kd cut k n lp rp := ⟨h.1, (hb.block b (blk_lt h.2)).trans h.2⟩
theorem PB.c0 (h : PB w b kd cut k n lp rp) : w.cell? ⟨b, 0, none⟩ = some (.int .u8 kd) := (cell_of_row _ b 0 _ _ _ h.2).trans ptC_0
theorem PB.ck (h : PB w b kd cut k n lp rp) : w.cell? ⟨b, 33, none⟩ = some (.string (str k)) := (cell_of_row _ b 33 _ _ _ h.2).trans (ptC_hi h.1 0)
theorem PB.cn (h : PB w b kd cut k n lp rp) : w.cell? ⟨b, 34, none⟩ = some (.int .i64 n) := (cell_of_row _ b 34 _ _ _ h.2).trans (ptC_hi h.1 1)
theorem PB.cl (h : PB w b kd cut k n lp rp) : w.cell? ⟨b, 35, none⟩ = some lp := (cell_of_row _ b 35 _ _ _ h.2).trans (ptC_hi h.1 2)
theorem PB.cr (h : PB w b kd cut k n lp rp) : w.cell? ⟨b, 36, none⟩ = some rp := (cell_of_row _ b 36 _ _ _ h.2).trans (ptC_hi h.1 3)
theorem PB.cc (h : PB w b kd cut k n lp rp) (i : Nat) (hi : i < 32) : w.cell? ⟨b, 1 + i, none⟩ = (cut.map (Value.int .u8))[i]? := (cell_of_row _ b (1 + i) _ _ _ h.2).trans (ptC_cut h.1 i hi)
theorem PB.rg (h : PB w b kd cut k n lp rp) : w.rangeAt b 1 (cut.map (Value.int .u8)) := fun i x hi => by
 have hl := (List.getElem?_eq_some_iff.1 hi).1
 rw [List.length_map, h.1] at hl
 rw [h.cc i hl]
 exact hi
theorem PB.fz (h : PB w b kd cut k n lp rp) (i : Nat) : w.frozen? ⟨b, i, none⟩ = false := frozen_of_row _ b i _ _ h.2
theorem PB.set (h : PB w b kd cut k n lp rp) (j : Nat) (v : Value) : (w.setCell ⟨b, j, none⟩ v).heap[b]? = some (.cells ((ptC kd cut k n lp rp).setIfInBounds j v) 127 (0, 0)) := by
 rw [setCell_eq_setRow w b j _ 127 (0, 0) _ h.2]
 exact setRow_heap _ _ _ _ _ _ h.2
theorem PB.setcut (h : PB w b kd cut k n lp rp) (i : Nat) (hi : i < 32) (x : Int) : PB (w.setCell ⟨b, 1 + i, none⟩ (.int .u8 x)) b kd (cut.set i x) k n lp rp := ⟨by rw [List.length_set]; exact h.1, by rw [h.set, ptC_setcut h.1 i hi]⟩
theorem PB.setk (h : PB w b kd cut k n lp rp) (k' : List Int) : PB (w.setCell ⟨b, 33, none⟩ (.string (str k'))) b kd cut k' n lp rp := ⟨h.1, by rw [h.set, ptC_setk h.1]⟩
theorem PB.setn (h : PB w b kd cut k n lp rp) (n' : Int) : PB (w.setCell ⟨b, 34, none⟩ (.int .i64 n')) b kd cut k n' lp rp := ⟨h.1, by rw [h.set, ptC_setn h.1]⟩
theorem PB.setl (h : PB w b kd cut k n lp rp) (v : Value) : PB (w.setCell ⟨b, 35, none⟩ v) b kd cut k n v rp := ⟨h.1, by rw [h.set, ptC_setl h.1]⟩
theorem PB.setr (h : PB w b kd cut k n lp rp) (v : Value) : PB (w.setCell ⟨b, 36, none⟩ v) b kd cut k n lp v := ⟨h.1, by rw [h.set, ptC_setr h.1]⟩
theorem PB.chg (_ : PB w b kd cut k n lp rp) (j : Nat) (v : Value) : Chg (fun q => q = b) w (w.setCell ⟨b, j, none⟩ v) := (Chg.refl _ _).setCell _ _ (.inl rfl)
end
/-- a tree of a proof, as the reference has it, in blocks from B on -/
def PTs (w : World) (B : Nat) : Value → MT → Prop
 | v, .nil => ∃ b, v = .pointer (some ⟨b, 0, none⟩) ∧ B ≤ b ∧ PB w b 0 (zeros 32) [] 0 (.pointer none) (.pointer none)
 | v, .cut d => ∃ b, v = .pointer (some ⟨b, 0, none⟩) ∧ B ≤ b ∧ PB w b 1 d [] 0 (.pointer none) (.pointer none)
 | v, .nd k n _ _ l r => ∃ b lp rp, v = .pointer (some ⟨b, 0, none⟩) ∧ B ≤ b ∧ PB w b 2 (zeros 32) k (n : Int) lp rp ∧ PTs w B lp l ∧ PTs w B rp r
theorem PTs.below {w w' : World} {B : Nat} (hb : Below w.heap.size w w') : ∀ {t : MT} {v : Value}, PTs w B v t → PTs w' B v t
 | .nil, _, ⟨b, e, hB, h⟩ => ⟨b, e, hB, h.below hb⟩
 | .cut _, _, ⟨b, e, hB, h⟩ => ⟨b, e, hB, h.below hb⟩
 | .nd .., _, ⟨b, lp, rp, e, hB, h, h1, h2⟩ => ⟨b, lp, rp, e, hB, h.below hb, PTs.below hb h1, PTs.below hb h2⟩
theorem PTs.mono {w : World} {B B' : Nat} (hb : B' ≤ B) : ∀ {t : MT} {v : Value}, PTs w B v t → PTs w B' v t
 | .nil, _, ⟨b, e, hB, h⟩ => ⟨b, e, Nat.le_trans hb hB, h⟩
 | .cut _, _, ⟨b, e, hB, h⟩ => ⟨b, e, Nat.le_trans hb hB, h⟩
 | .nd .., _, ⟨b, lp, rp, e, hB, h, h1, h2⟩ => ⟨b, lp, rp, e, Nat.le_trans hb hB, h, PTs.mono hb h1, PTs.mono hb h2⟩
theorem PTs.cg {w w' : World} {B X : Nat} (hc : Chg (fun q => q = X) w w') (hX : X < B) : ∀ {t : MT} {v : Value}, PTs w B v t → PTs w' B v t
 | .nil, _, ⟨b, e, hB, h⟩ => ⟨b, e, hB, h.1, (hc.block b (blk_lt h.2) (fun q => by omega)).trans h.2⟩
 | .cut _, _, ⟨b, e, hB, h⟩ => ⟨b, e, hB, h.1, (hc.block b (blk_lt h.2) (fun q => by omega)).trans h.2⟩
 | .nd .., _, ⟨b, lp, rp, e, hB, h, h1, h2⟩ => ⟨b, lp, rp, e, hB, ⟨h.1, (hc.block b (blk_lt h.2) (fun q => by omega)).trans h.2⟩, PTs.cg hc hX h1, PTs.cg hc hX h2⟩
theorem PTs.form {w : World} {B : Nat} : ∀ {t : MT} {v : Value}, PTs w B v t → ∃ b, v = .pointer (some ⟨b, 0, none⟩)
 | .nil, _, ⟨b, e, _⟩ => ⟨b, e⟩
 | .cut _, _, ⟨b, e, _⟩ => ⟨b, e⟩
 | .nd .., _, ⟨b, _, _, e, _⟩ => ⟨b, e⟩
/-- how read ends -/
def PEnd (S : Nat → Prop) (w : World) (e : Ending) (w' : World) : Int ⊕ (MT × List Int) → Prop
 | .inl c => c ≠ 0 ∧ e = .returned (.tuple #[.pointer none, .slice none 0 0, .int .i64 c]) ∧ Below w.heap.size w w'
 | .inr (t, r) => ∃ b a c, e = .returned (.tuple #[.pointer (some ⟨b, 0, none⟩), .slice a r.length c, .int .i64 0]) ∧ PTs w' w.heap.size (.pointer (some ⟨b, 0, none⟩)) t ∧ KIs w' S (.slice a r.length c) r ∧ Below w.heap.size w w'
set_option maxRecDepth 100000 in
theorem run_build_pt (u : World) (x : Int) : (Instr.build 127 #[(0, .int .u8 x)]).run Tryd.prog u = .ok (.agg (ptC x (zeros 32) [] 0 (.pointer none) (.pointer none))) u := by kernel_rfl
theorem kis_drop {w : World} {S : Nat → Prop} {a : Option Addr} {c m : Nat} {l : List Int} (h : KIs w S (.slice a m c) l) (hm : l.length = m) (n : Nat) (hn : n ≤ m) :
  ∃ a' c', (∀ u : World, (Instr.slice 31 (.slice a m c) (some (.int .i64 (n : Int))) none none).run Tryd.prog u = .ok (.slice a' (m - n) c') u) ∧ KIs w S (.slice a' (m - n) c') (l.drop n) := by
 subst hm
 exact drop_kis h n hn
theorem bs_mid {w : World} {a : Option Addr} {c m : Nat} {l : List Int} (h : Bs w (.slice a m c) l) (hm : l.length = m) (i j : Nat) (hij : i ≤ j) (hj : j ≤ m) :
  ∃ a' c', (∀ u : World, (Instr.slice 31 (.slice a m c) (some (.int .i64 (i : Int))) (some (.int .i64 (j : Int))) none).run Tryd.prog u = .ok (.slice a' (j - i) c') u) ∧ Bs w (.slice a' (j - i) c') ((l.drop i).take (j - i)) := by
 subst hm
 have hs := sub_kis h.kis i j hij hj
 refine ⟨_, _, fun u => ?_, hs.1⟩
 have hc : j ≤ c := by obtain ⟨a1, c1, e, hc, -⟩ := h; injection e with e1 e2 e3; subst e1 e3; omega
 rw [run_slice_lh u 31 a l.length c und62 .i64 .i64 (i : Int) (j : Int) (by omega) (by omega) (by omega), size62]
 rfl
theorem bs_cells {w : World} {a : Option Addr} {c m : Nat} {l : List Int} (h : Bs w (.slice a m c) l) (hm : l.length = m) (h0 : 0 < m) : ∃ b o, a = some ⟨b, o, none⟩ ∧ b < w.heap.size ∧ ∀ i, i < m → w.cell? ⟨b, o + i, none⟩ = some (.int .u8 (l[i]?.getD 0)) := by
 obtain ⟨a1, c1, e, -, h2⟩ := h
 injection e with e1 e2 e3
 subst e1 e2
 exact h2 h0
end Go.Proofs.YtbmlkocpjboodaaDoor
/- stage 7: read of the reference -/
namespace Go.Proofs.YtbmlkocpjboodaaDoor
open Go.RowKit
open Go.Lib (hid)
set_option maxRecDepth 100000 in
set_option maxHeartbeats 8000000 in
theorem refRead_other {S : Nat → Prop} (w : World) (a : Option Addr) (c m d : Nat) (x : Int) (r : List Int) (hm : r.length + 1 = m) (hb : KIs w S (.slice a m c) (x :: r)) (hd : d ≤ 4096) (n0 : x ≠ 0) (n1 : x ≠ 1) (n2 : x ≠ 2) :
  Calls Tryd.prog 72 #[.slice a m c, .int .i64 (d : Int)] w fun e w' => PEnd S w e w' (.inl 5) := by
 obtain ⟨b, o, rfl, hbl, hcl⟩ := bs_cells hb.1 hm (by omega)
 have cx : w.cell? ⟨b, o, none⟩ = some (.int .u8 x) := hcl 0 (by omega)
 obtain ⟨a1, c1, q1, hb1⟩ := kis_drop hb hm 1 (by omega)
 replace q1 : ∀ (u : World), (Instr.slice 31 (.slice (some ⟨b, o, none⟩) m c) (some (.int .i64 1)) none none).run Tryd.prog u = .ok (.slice a1 (m - 1) c1) u := q1
 have HBD := hid (fun u => run_build_pt u x)
 have hd1 : ¬ (d : Int) > 4096 := by omega
 have hm1 : ¬ (m : Int) = 0 := by omega
 have hm2 : 0 < m := by omega
 have hm3 : (0 : Int) < (m : Int) := by omega
 have x0 : (x == 0) = false := beq_false_of_ne n0
 have x1 : (x == 1) = false := beq_false_of_ne n1
 have x2 : (x == 2) = false := beq_false_of_ne n2
 clear hb hcl hb1 hbl n0 n1 n2
 have HP := hid (show PB (w.alloc (.cells (ptC x (zeros 32) [] 0 (.pointer none) (.pointer none)) 127)) w.heap.size x (zeros 32) [] 0 (.pointer none) (.pointer none) from ⟨zeros_len _, heap_alloc_new _ _⟩)
 have HB1 := hid (show Below w.heap.size w (w.alloc (.cells (ptC x (zeros 32) [] 0 (.pointer none) (.pointer none)) 127)) from (Below.refl _ _).alloc (Nat.le_refl _) _)
 have k0 := HP.out.c0
 go_enter Tryd.func72, Tryd.ntmps72
 go_wp2_with (refine wpList_of_run (o := ⟨some 23, _, _, _, _, _⟩) rfl (exec_buildP 127 #[(0, Operand.tmp 22)] rfl #[(0, .int .u8 x)] (by simp only [List.map_toArray, List.map_cons, List.map_nil]; rfl) _ (HBD.out _)) ?_)
 go_ret3
 exact ⟨by decide, rfl, HB1.out⟩
set_option maxRecDepth 100000 in
set_option maxHeartbeats 8000000 in
theorem refRead_zero {S : Nat → Prop} (w : World) (a : Option Addr) (c m d : Nat) (r : List Int) (hm : r.length + 1 = m) (hb : KIs w S (.slice a m c) (0 :: r)) (hd : d ≤ 4096) :
  Calls Tryd.prog 72 #[.slice a m c, .int .i64 (d : Int)] w fun e w' => PEnd S w e w' (.inr (.nil, r)) := by
 obtain ⟨b, o, rfl, hbl, hcl⟩ := bs_cells hb.1 hm (by omega)
 have cx : w.cell? ⟨b, o, none⟩ = some (.int .u8 0) := hcl 0 (by omega)
 obtain ⟨a1, c1, q1, hb1⟩ := kis_drop hb hm 1 (by omega)
 replace q1 : ∀ (u : World), (Instr.slice 31 (.slice (some ⟨b, o, none⟩) m c) (some (.int .i64 1)) none none).run Tryd.prog u = .ok (.slice a1 (m - 1) c1) u := q1
 have HBD := hid (fun u => run_build_pt u 0)
 have hd1 : ¬ (d : Int) > 4096 := by omega
 have hm1 : ¬ (m : Int) = 0 := by omega
 have hm2 : 0 < m := by omega
 have hm3 : (0 : Int) < (m : Int) := by omega
 have HR := hid (And.intro hm hb1)
 clear hb hcl hb1 hbl
 have HP := hid (show PB (w.alloc (.cells (ptC 0 (zeros 32) [] 0 (.pointer none) (.pointer none)) 127)) w.heap.size 0 (zeros 32) [] 0 (.pointer none) (.pointer none) from ⟨zeros_len _, heap_alloc_new _ _⟩)
 have HB1 := hid (show Below w.heap.size w (w.alloc (.cells (ptC 0 (zeros 32) [] 0 (.pointer none) (.pointer none)) 127)) from (Below.refl _ _).alloc (Nat.le_refl _) _)
 have k0 := HP.out.c0
 go_enter Tryd.func72, Tryd.ntmps72
 go_wp2_with (refine wpList_of_run (o := ⟨some 23, _, _, _, _, _⟩) rfl (exec_buildP 127 #[(0, Operand.tmp 22)] rfl #[(0, .int .u8 0)] (by simp only [List.map_toArray, List.map_cons, List.map_nil]; rfl) _ (HBD.out _)) ?_)
 go_ret3
 obtain ⟨hm, hb1⟩ := HR.out
 have e1 : m - 1 = r.length := by omega
 rw [e1] at hb1 ⊢
 exact ⟨_, _, _, rfl, ⟨_, rfl, Nat.le_refl _, HP.out⟩, hb1.below HB1.out, HB1.out⟩
theorem cut_step (r : List Int) (i : Nat) (hi : i < 32) (hr : 32 ≤ r.length) : (r.take i ++ zeros (32 - i)).set i (r[i]?.getD 0) = r.take (i + 1) ++ zeros (32 - (i + 1)) := by
 have hl : (r.take i).length = i := by rw [List.length_take]; omega
 have e : r[i]? = some (r[i]'(by omega)) := List.getElem?_eq_getElem (by omega)
 rw [List.set_append_right _ _ (by omega), hl, Nat.sub_self, show 32 - i = (32 - (i + 1)) + 1 by omega]
 unfold zeros
 rw [List.replicate_succ, sB, List.take_add_one, e]
 simp only [Option.getD_some, Option.toList_some, List.append_assoc, List.cons_append, List.nil_append]
set_option maxRecDepth 100000 in
set_option maxHeartbeats 8000000 in
theorem refRead_one {S : Nat → Prop} (w : World) (a : Option Addr) (c m d : Nat) (r : List Int) (hm : r.length + 1 = m) (hb : KIs w S (.slice a m c) (1 :: r)) (hd : d ≤ 4096) :
  Calls Tryd.prog 72 #[.slice a m c, .int .i64 (d : Int)] w fun e w' => PEnd S w e w' (rdP r) := by
 obtain ⟨b, o, rfl, hbl, hcl⟩ := bs_cells hb.1 hm (by omega)
 have cx : w.cell? ⟨b, o, none⟩ = some (.int .u8 1) := hcl 0 (by omega)
 obtain ⟨a1, c1, q1, hb1⟩ := kis_drop hb hm 1 (by omega)
 replace q1 : ∀ (u : World), (Instr.slice 31 (.slice (some ⟨b, o, none⟩) m c) (some (.int .i64 1)) none none).run Tryd.prog u = .ok (.slice a1 (m - 1) c1) u := q1
 have HBD := hid (fun u => run_build_pt u 1)
 have hd1 : ¬ (d : Int) > 4096 := by omega
 have hm1 : ¬ (m : Int) = 0 := by omega
 have hm2 : 0 < m := by omega
 have hm3 : (0 : Int) < (m : Int) := by omega
 by_cases h32 : r.length < 32
 ·have HR := hid (show rdP r = .inl 6 from if_pos h32)
  have hmm : ((m - 1 : Nat) : Int) < 32 := by omega
  clear hb hcl hb1 hbl
  have HP := hid (show PB (w.alloc (.cells (ptC 1 (zeros 32) [] 0 (.pointer none) (.pointer none)) 127)) w.heap.size 1 (zeros 32) [] 0 (.pointer none) (.pointer none) from ⟨zeros_len _, heap_alloc_new _ _⟩)
  have HB1 := hid (show Below w.heap.size w (w.alloc (.cells (ptC 1 (zeros 32) [] 0 (.pointer none) (.pointer none)) 127)) from (Below.refl _ _).alloc (Nat.le_refl _) _)
  have k0 := HP.out.c0
  go_enter Tryd.func72, Tryd.ntmps72
  go_wp2_with (refine wpList_of_run (o := ⟨some 23, _, _, _, _, _⟩) rfl (exec_buildP 127 #[(0, Operand.tmp 22)] rfl #[(0, .int .u8 1)] (by simp only [List.map_toArray, List.map_cons, List.map_nil]; rfl) _ (HBD.out _)) ?_)
  go_ret3
  rw [HR.out]
  exact ⟨by decide, rfl, HB1.out⟩
 ·have HR := hid (And.intro (show rdP r = .inr (.cut (r.take 32), r.drop 32) from if_neg h32) (And.intro hm (And.intro hb1 h32)))
  have hmm : ¬ ((m - 1 : Nat) : Int) < 32 := by omega
  have hm4 : 32 ≤ m - 1 := by omega
  clear hb hcl hb1 hbl h32
  have HP := hid (show PB (w.alloc (.cells (ptC 1 (zeros 32) [] 0 (.pointer none) (.pointer none)) 127)) w.heap.size 1 (zeros 32) [] 0 (.pointer none) (.pointer none) from ⟨zeros_len _, heap_alloc_new _ _⟩)
  have HB1 := hid (show Below w.heap.size w (w.alloc (.cells (ptC 1 (zeros 32) [] 0 (.pointer none) (.pointer none)) 127)) from (Below.refl _ _).alloc (Nat.le_refl _) _)
  have k0 := HP.out.c0
  go_enter Tryd.func72, Tryd.ntmps72
  go_wp2_with (refine wpList_of_run (o := ⟨some 23, _, _, _, _, _⟩) rfl (exec_buildP 127 #[(0, Operand.tmp 22)] rfl #[(0, .int .u8 1)] (by simp only [List.map_toArray, List.map_cons, List.map_nil]; rfl) _ (HBD.out _)) ?_)
  generalize w.alloc (.cells (ptC 1 (zeros 32) [] 0 (.pointer none) (.pointer none)) 127) = w1 at *
  have HP0 := hid HP.out
  have hdl : (List.drop 1 (1 :: r)).length = m - 1 := by rw [← hm]; simp
  obtain ⟨b2, o2, rfl, hbl2, hcl2⟩ := bs_cells HR.out.2.2.1.1 hdl (by omega)
  have HCB := hid (fun u (hu : Below w.heap.size w u) i (hi : i < m - 1) => (show u.cell? ⟨b2, o2 + i, none⟩ = some (.int .u8 (r[i]?.getD 0)) from (World.cell?_of_block (a := ⟨b2, o2 + i, none⟩) (hu.block b2 hbl2)).trans (hcl2 i hi)))
  obtain ⟨a3, c3, q3, hb3⟩ := kis_drop HR.out.2.2.1 hdl 32 (by omega)
  replace q3 : ∀ (u : World), (Instr.slice 31 (.slice (some ⟨b2, o2, none⟩) (m - 1) c1) (some (.int .i64 32)) none none).run Tryd.prog u = .ok (.slice a3 (m - 1 - 32) c3) u := q3
  have HB3 := hid hb3
  have HRL := hid (show 32 ≤ r.length from Nat.le_of_not_lt HR.out.2.2.2)
  clear hb3 hcl2 hbl2 hmm k0 q1
  go_loopw [8] (fun iv wr => ∃ i : Nat, i ≤ 32 ∧ iv = .int .i64 (i : Int) ∧ PB wr w.heap.size 1 (r.take i ++ zeros (32 - i)) [] 0 (.pointer none) (.pointer none) ∧ Below w.heap.size w wr) (fun iv _ => 32 - (intOf iv).toNat)
  case atStart => exact ⟨0, Nat.zero_le _, rfl, HP0.out, HB1.out⟩
  case round =>
   obtain ⟨i, hi, rfl, hp, hb⟩ := hrel
   by_cases hlt : i < 32
   ·have cb := HCB.out wr hb i (by omega)
    obtain ⟨v0, cc⟩ : ∃ v0, wr.cell? ⟨w.heap.size, 1 + i, none⟩ = some v0 := by
     rw [hp.cc i hlt]
     have : i < ((r.take i ++ zeros (32 - i)).map (Value.int .u8)).length := by rw [List.length_map, hp.1]; exact hlt
     exact ⟨_, List.getElem?_eq_getElem this⟩
    have fz := hp.fz (1 + i)
    have hi0 : (0 : Int) ≤ (i : Int) := by omega
    have hi1 : (i : Int) < 32 := by omega
    have hi2 : (i : Int) < ((m - 1 : Nat) : Int) := by omega
    have hi3 : (0 : Int) ≤ (1 : Int) + (i : Int) := by omega
    have HX := hid (And.intro hp (And.intro hb hlt))
    clear hp
    go_wp2_with fail
    refine wp_region_held_drew (S := fun u => Below w.heap.size w u) (by kernel_rfl) (hb.drew) (fun hHeld => ?_)
    refine tk (i := 0) (oi := ⟨some 44, .move (.tmp 7), 83, "ref.go:141", #[], none⟩) (v := ?_) (Or.inl ⟨by rfl, ?_⟩) ?_
    rotate_left 1
    ·(intro u hSw; go_simp; try with_reducible rfl)
    try simp only [Act.put, sA, sB, sC]
    refine tk (i := 1) (oi := ⟨some 45, .move (.tmp 8), 3, "ref.go:141", #[], none⟩) (v := ?_) (Or.inl ⟨by rfl, ?_⟩) ?_
    rotate_left 1
    ·(intro u hSw; go_simp; try with_reducible rfl)
    try simp only [Act.put, sA, sB, sC]
    refine tk (i := 2) (oi := ⟨some 46, .move (.tmp 0), 31, "ref.go:141", #[], none⟩) (v := ?_) (Or.inl ⟨by rfl, ?_⟩) ?_
    rotate_left 1
    ·(intro u hSw; go_simp; try with_reducible rfl)
    try simp only [Act.put, sA, sB, sC]
    refine tk (i := 3) (oi := ⟨some 47, .move (.tmp 8), 3, "ref.go:141", #[], none⟩) (v := ?_) (Or.inl ⟨by rfl, ?_⟩) ?_
    rotate_left 1
    ·(intro u hSw; go_simp; try with_reducible rfl)
    try simp only [Act.put, sA, sB, sC]
    refine tk (i := 4) (oi := ⟨some 48, .indexAddr 31 (.tmp 46) (.tmp 47), 0, "ref.go:141", #[⟨2, .data⟩, ⟨3, .data⟩], none⟩) (v := ?_) (Or.inl ⟨by rfl, ?_⟩) ?_
    rotate_left 1
    ·(intro u hSw; go_simp; try with_reducible rfl)
    try simp only [Act.put, sA, sB, sC]
    refine tk (i := 5) (oi := ⟨some 49, .load 5 (.tmp 48), 5, "ref.go:141", #[⟨4, .data⟩], none⟩) (v := ?_) (Or.inl ⟨by rfl, ?_⟩) ?_
    rotate_left 1
    ·(intro u hSw; have y0 := HCB.out _ hSw i (by omega); go_simp; try with_reducible rfl)
    try simp only [Act.put, sA, sB, sC]
    refine tk (i := 6) (oi := ⟨some 50, .nilCheck (.tmp 44), 0, "ref.go:141", #[⟨0, .data⟩], none⟩) (v := ?_) (Or.inl ⟨by rfl, ?_⟩) ?_
    rotate_left 1
    ·(intro u hSw; go_simp; try with_reducible rfl)
    try simp only [Act.put, sA, sB, sC]
    refine tk (i := 7) (oi := ⟨some 51, .fieldAddr 127 (.tmp 50) 1, 0, "ref.go:141", #[⟨6, .data⟩], none⟩) (v := ?_) (Or.inl ⟨by rfl, ?_⟩) ?_
    rotate_left 1
    ·(intro u hSw; go_simp; try with_reducible rfl)
    try simp only [Act.put, sA, sB, sC]
    refine tk (i := 8) (oi := ⟨some 52, .indexAddr 35 (.tmp 51) (.tmp 45), 0, "ref.go:141", #[⟨7, .data⟩, ⟨1, .data⟩, ⟨0, .phase⟩, ⟨1, .phase⟩, ⟨2, .phase⟩, ⟨3, .phase⟩, ⟨4, .phase⟩, ⟨5, .phase⟩], none⟩) (v := ?_) (Or.inl ⟨by rfl, ?_⟩) ?_
    rotate_left 1
    ·(intro u hSw; go_simp; try with_reducible rfl)
    try simp only [Act.put, sA, sB, sC]
    refine wpAnyH_ready (rs := [9]) (by kernel_rfl) (by simp) ?_
    refine (AllReadyH.cons (o := ⟨none, .store 5 (.tmp 52) (.tmp 49), 0, "ref.go:141", #[⟨8, .data⟩, ⟨5, .data⟩, ⟨0, .phase⟩, ⟨1, .phase⟩, ⟨2, .phase⟩, ⟨3, .phase⟩, ⟨4, .phase⟩, ⟨5, .phase⟩], none⟩) rfl (fun K hK => ?_) AllReadyH.nil)
    go_simp
    have hp2 := PB.setcut (w := wr.drew) HX.out.1 i HX.out.2.2 (r[i]?.getD 0)
    have hb9 := HX.out.2.1.drew.trans ((PB.chg (w := wr.drew) HX.out.1 (1 + i) (.int .u8 (r[i]?.getD 0))).below (B := w.heap.size) (fun q e => by omega) HX.out.2.1.drew.size)
    refine hK.out _ _ hb9 (fun hHeld => ?_)
    clear hK K
    try simp only [Act.put]
    refine wpAnyH_done (by kernel_rfl) ?_ _
    have H9 := hid (And.intro hp2 hb9)
    clear hp2 hb9 hHeld
    go_wp2_with fail
    go_roundw
    case rel => exact ⟨i + 1, HX.out.2.2, by go_num, by rw [cut_step r i HX.out.2.2 HRL.out] at H9; exact H9.out.1, H9.out.2⟩
    case measure => have := HX.out.2.2; simp [intOf]; omega
   ·have hi2 : i = 32 := by omega
    subst hi2
    rw [Nat.sub_self, show r.take 32 ++ zeros 0 = r.take 32 from List.append_nil _] at hp
    have HX := hid (And.intro hp hb)
    clear hp hb
    go_wp2_with fail
    refine wp_region_held_drew (S := fun u => Below w.heap.size w u) (by kernel_rfl) (HX.out.2.drew) (fun hHeld => ?_)
    refine tk (i := 0) (oi := ⟨some 53, .move (.tmp 7), 83, "ref.go:143", #[], none⟩) (v := ?_) (Or.inl ⟨by rfl, ?_⟩) ?_
    rotate_left 1
    ·(intro u hSw; go_simp; try with_reducible rfl)
    try simp only [Act.put, sA, sB, sC]
    refine tk (i := 1) (oi := ⟨some 54, .move (.tmp 0), 31, "ref.go:143", #[], none⟩) (v := ?_) (Or.inl ⟨by rfl, ?_⟩) ?_
    rotate_left 1
    ·(intro u hSw; go_simp; try with_reducible rfl)
    try simp only [Act.put, sA, sB, sC]
    refine tk (i := 2) (oi := ⟨some 55, .slice 31 (.tmp 54) (some (.const (Value.int IntKind.i64 32))) none none, 31, "ref.go:143", #[⟨1, .data⟩], none⟩) (v := .slice a3 (m - 1 - 32) c3) (Or.inl ⟨by rfl, ?_⟩) ?_
    ·intro u hSw
     go_simp
    try simp only [Act.put, sA, sB, sC]
    refine tk (i := 3) (oi := ⟨some 4, .assign (.tmp 53), 83, "ref.go:143", #[⟨0, .data⟩, ⟨0, .phase⟩, ⟨1, .textOnly Departure.lateStores⟩, ⟨2, .textOnly Departure.lateStoresUnsure⟩], none⟩) (v := ?_) (Or.inl ⟨by rfl, ?_⟩) ?_
    rotate_left 1
    ·(intro u hSw; go_simp; try with_reducible rfl)
    try simp only [Act.put, sA, sB, sC]
    refine tk (i := 4) (oi := ⟨some 5, .assign (.tmp 55), 31, "ref.go:143", #[⟨2, .data⟩, ⟨3, .chain⟩, ⟨0, .phase⟩, ⟨1, .phase⟩, ⟨2, .phase⟩, ⟨3, .phase⟩], none⟩) (v := ?_) (Or.inl ⟨by rfl, ?_⟩) ?_
    rotate_left 1
    ·(intro u hSw; go_simp; try with_reducible rfl)
    try simp only [Act.put, sA, sB, sC]
    refine tk (i := 5) (oi := ⟨some 6, .assign (.const (Value.int IntKind.i64 0)), 48, "ref.go:143", #[⟨4, .chain⟩, ⟨0, .phase⟩, ⟨1, .phase⟩, ⟨2, .phase⟩, ⟨3, .phase⟩, ⟨4, .phase⟩], none⟩) (v := ?_) (Or.inl ⟨by rfl, ?_⟩) ?_
    rotate_left 1
    ·(intro u hSw; go_simp; try with_reducible rfl)
    try simp only [Act.put, sA, sB, sC]
    refine wpAnyH_done (by kernel_rfl) ?_ _
    go_wp2_with fail
    go_ret3
    have e1 : m - 1 - 32 = (r.drop 32).length := by rw [List.length_drop, ← HR.out.2.1]; omega
    rw [HR.out.1]
    have h3 := HB3.out
    rw [e1] at h3 ⊢
    exact ⟨_, _, _, rfl, ⟨_, rfl, Nat.le_refl _, HX.out.1⟩, h3.below HX.out.2.drew, HX.out.2.drew⟩
end Go.Proofs.YtbmlkocpjboodaaDoor
