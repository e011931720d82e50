/- the cache: a page kept -/
import Derived.Test.YtdkjkibdncbibaaGreatCm08
namespace Go.Proofs.YtdkjkibdncbibaaGreat
open Go.RowKit
open Go.Lib (hid)
def KeEnds (B P : Nat) (cs : Array Value) (T : TypeId) (C : Nat) (ov : Value) (most : Int) (ca : List (Int × List Int)) (od : List Int) (n : Int) (b : List Int) (w : World) (e : Ending) (w' : World) : Prop :=
 e = .returned (.tuple #[]) ∧ ∃ ov', CaIs w' B P (cs.setIfInBounds 7 ov') T C ov' most (keepP most ca od n b).1 (keepP most ca od n b).2 ∧ Chg (fun k => k = P ∨ k = C ∨ ov.ownBlock = some k) w w' ∧ OwnTo w ov ov'
section
variable {w w' : World} {B P : Nat} {cs : Array Value} {T : TypeId} {C : Nat} {ov : Value} {most : Int} {ca : List (Int × List Int)} {od : List Int}
theorem CaIs.ltP (h : CaIs w B P cs T C ov most ca od) : P < w.heap.size := (Array.getElem?_eq_some_iff.1 h.box).1
theorem CaIs.fresh (h : CaIs w B P cs T C ov most ca od) (hb : Below w.heap.size w w') : CaIs w' B P cs T C ov most ca od :=
 { h with box := (hb.block P h.ltP).trans h.box, mp := h.mp.of (hb.block C h.mp.lt), ord := h.ord.of (fun g hg => hb.block g (h.ord.lt g hg).2) }
end
set_option maxRecDepth 100000 in
set_option maxHeartbeats 1000000 in
theorem keep_any (B P : Nat) (cs : Array Value) (T : TypeId) (C : Nat) (ov : Value) (most : Int) (ca : List (Int × List Int)) (od : List Int) (n : Int) (b : List Int) (w : World) (h : CaIs w B P cs T C ov most ca od) (h0 : 0 ≤ most) (hb : b.length = 256) (hcl : ∀ m l, gl ca m = some l → l.length = 256) (hl : od.length ≤ 4096) (hB : B ≤ w.heap.size) :
    Calls Tryz.prog 87 #[.pointer (some ⟨P, 5, none⟩), .int .i64 n, .agg (ArrU8 b)] w (KeEnds B P cs T C ov most ca od n b w) := by
  have hz := zero35
  have HI35 := hid (show (Tryz.prog.info? 50).map (·.size) = some 256 by kernel_rfl)
  have HSB := hid (show (Tryz.prog.info? 50).map (·.size) = some (ArrU8 b).size by rw [ArrU8_size, hb]; kernel_rfl)
  have hb1 : Below w.heap.size w (w.alloc (.cells (ArrU8 b) 50)) := (Below.refl _ _).alloc (Nat.le_refl _) _
  have H1 := hid (h.fresh hb1)
  have p5 := (cell_of_row _ P 5 _ _ _ H1.out.box).trans h.c0
  have p6 := (cell_of_row _ P 6 _ _ _ H1.out.box).trans h.c1
  have H := hid h
  have HB1 := hid hb1
  have HL := hid hl
  have HBL := hid hb
  have hlk := run_look_g (P := Tryz.prog) (mT := 76) (kT := 3) (eT := 50) (enc := blkV) Tryz.underlying76 Tryz.underlying3 (zeros 256) (fun u => zero35 u) n H1.out.mp
  have hold : ((gl ca n).getD (zeros 256)).length = 256 := by
    cases hg : gl ca n with
    | none => exact zeros_len 256
    | some l => exact hcl n l hg
  by_cases hm : most = 0
  · have HP := hid (show keepP most ca od n b = (ca, od) by unfold keepP; rw [if_pos hm])
    clear h hb1 hl hb hlk hcl hold
    go_enter Tryz.func87, Tryz.ntmps87
    go_wp2_with fail
    go_end0
    refine ⟨rfl, ov, ?_, Chg.fresh HB1.out, OwnTo.refl _ _⟩
    rw [HP.out, set_same H1.out.c2]
    exact H1.out
  · have hx1 : ((w.alloc (.cells (ArrU8 b) 50)).alloc (.cells (ArrU8 (zeros 256)) 50)).heap[w.heap.size + 1]? = some (.cells (ArrU8 (zeros 256)) 50 (0, 0)) := by
      have := heap_alloc_new (w.alloc (.cells (ArrU8 b) 50)) (.cells (ArrU8 (zeros 256)) 50)
      rwa [World.size_alloc] at this
    have hx0 : ((w.alloc (.cells (ArrU8 b) 50)).alloc (.cells (ArrU8 (zeros 256)) 50)).heap[w.heap.size]? = some (.cells (ArrU8 b) 50 (0, 0)) := (heap_alloc_old _ _ (by simp)).trans (heap_alloc_new _ _)
    have HX1 := hid hx1
    have HX0 := hid hx0
    have HM := hid hm
    generalize hX : (gl ca n).getD (zeros 256) = X at *
    have HSX := hid (show (ArrU8 X).size = 256 by rw [ArrU8_size, hold])
    cases hg : gl ca n with
    | some old =>
      have HP := hid (show keepP most ca od n b = (gp ca n b, od) by unfold keepP; rw [if_neg hm, hg]; rfl)
      rw [hg] at hlk
      simp only [Option.isSome_some] at hlk
      clear h hb1 hl hb hcl hold hx1 hx0 hX hg
      go_enter Tryz.func87, Tryz.ntmps87
      go_wp2_with (first | (refine wpList_store_row rfl 50 (Operand.tmp 6) (Operand.tmp 20) rfl (w.heap.size + 1) (ArrU8 X) rfl rfl 50 (ArrU8 (zeros 256)) HX1.out (by rw [HI35.out, HSX.out]) (by rw [HSX.out, ArrU8_size, zeros_len]) (ArrU8_one _) ?_) | fail)
      have hb2 : Below w.heap.size w (((w.alloc (.cells (ArrU8 b) 50)).alloc (.cells (ArrU8 (zeros 256)) 50)).setRow (w.heap.size + 1) (ArrU8 X)) := below_setRow (((Below.refl _ _).alloc (Nat.le_refl _) _).alloc (by simp) _) (by omega) _
      have hx0 := (setRow_other _ (w.heap.size + 1) w.heap.size (ArrU8 X) (by omega)).trans HX0.out
      generalize hw2 : ((w.alloc (.cells (ArrU8 b) 50)).alloc (.cells (ArrU8 (zeros 256)) 50)).setRow (w.heap.size + 1) (ArrU8 X) = w2 at *
      have HB2 := hid hb2
      have HX02 := hid hx0
      have H2 := hid (H.out.fresh hb2)
      clear hb2 hx0 hw2 p5 p6 hlk
      obtain ⟨w9, hup, hm9, hg9, hs9⟩ := run_update_g (P := Tryz.prog) (mT := 76) (kT := 3) (eT := 50) (enc := blkV) Tryz.underlying76 Tryz.underlying3 n b (H2.out.mp.of (w' := w2.drew) rfl)
      have HUP := hid hup
      have HM9 := hid hm9
      have HG9 := hid hg9
      have HS9 := hid hs9
      clear hup hm9 hg9 hs9
      refine wp_region_held_drew (S := fun u => u.heap[P]? = some (.cells (cs) T (0, 0)) ∧ u.heap[w.heap.size]? = some (.cells (ArrU8 b) 50 (0, 0))) (by kernel_rfl) (⟨H2.out.box, HX02.out⟩) (fun hHeld => ?_)
      refine tk (i := 0) (oi := ⟨some 36, .move (.tmp 0), 138, "cache.go:26", #[], none⟩) (v := ?_) (Or.inl ⟨by rfl, ?_⟩) ?_
      rotate_left 1
      · (intro u hSw; go_simp; try with_reducible rfl)
      try simp only [Act.put, sA, sB, sC]
      refine tk (i := 1) (oi := ⟨some 37, .nilCheck (.tmp 36), 0, "cache.go:26", #[⟨0, .data⟩], none⟩) (v := ?_) (Or.inl ⟨by rfl, ?_⟩) ?_
      rotate_left 1
      · (intro u hSw; go_simp; try with_reducible rfl)
      try simp only [Act.put, sA, sB, sC]
      refine tk (i := 2) (oi := ⟨some 38, .fieldAddr 79 (.tmp 37) 1, 0, "cache.go:26", #[⟨1, .data⟩], none⟩) (v := ?_) (Or.inl ⟨by rfl, ?_⟩) ?_
      rotate_left 1
      · (intro u hSw; go_simp; try with_reducible rfl)
      try simp only [Act.put, sA, sB, sC]
      refine tk (i := 3) (oi := ⟨some 39, .load 76 (.tmp 38), 76, "cache.go:26", #[⟨2, .data⟩], none⟩) (v := ?_) (Or.inl ⟨by rfl, ?_⟩) ?_
      rotate_left 1
      · intro u hSw
        have p6 := (cell_of_row u P 6 _ _ _ hSw.1).trans H2.out.c1
        go_simp
        try with_reducible rfl
      try simp only [Act.put, sA, sB, sC]
      refine tk (i := 4) (oi := ⟨some 40, .move (.tmp 1), 3, "cache.go:26", #[], none⟩) (v := ?_) (Or.inl ⟨by rfl, ?_⟩) ?_
      rotate_left 1
      · (intro u hSw; go_simp; try with_reducible rfl)
      try simp only [Act.put, sA, sB, sC]
      refine tk (i := 5) (oi := ⟨some 41, .load 50 (.tmp 5), 50, "cache.go:26", #[], none⟩) (v := ?_) (Or.inl ⟨by rfl, ?_⟩) ?_
      rotate_left 1
      · intro u hSw
        refine exec_load_row 50 (Operand.tmp 5) ?_ u w.heap.size ?_ (ArrU8 b) 50 (0, 0) _ hSw.2 Tryz.underlying50 rfl HSB.out <;> rfl
      try simp only [Act.put, sA, sB, sC]
      refine wpAnyH_ready (rs := [6]) (by kernel_rfl) (by simp) ?_
      refine AllReadyH.cons (o := ⟨none, .mapUpdate 76 (.tmp 39) (.tmp 40) (.tmp 41), 0, "cache.go:26", #[⟨3, .data⟩, ⟨4, .data⟩, ⟨5, .data⟩, ⟨0, .phase⟩, ⟨1, .phase⟩, ⟨2, .phase⟩, ⟨3, .phase⟩, ⟨4, .phase⟩, ⟨5, .phase⟩], none⟩) rfl (fun K hK => ?_) AllReadyH.nil
      refine step_of_skip ?_ (exec_update (Operand.tmp 39) (Operand.tmp 40) (Operand.tmp 41) ?_ _ _ _ ?_ ?_ ?_ HUP.out) ?_
      rfl
      rfl
      rfl
      rfl
      rfl
      refine hK.out _ _ ⟨(HG9.out.block P H2.out.ltP (fun e => H2.out.pc (Option.some.inj e))).trans H2.out.box, (HG9.out.block w.heap.size (show w.heap.size < w2.heap.size from (Array.getElem?_eq_some_iff.1 HX02.out).1) (fun e => by have := Option.some.inj e; have := H.out.mp.lt; omega)).trans HX02.out⟩ (fun hHeld => ?_)
      clear hK K
      try simp only [Act.put]
      refine wpAnyH_done (by kernel_rfl) ?_ _
      go_end0
      refine ⟨rfl, ov, ?_, ((Chg.fresh HB2.out).drew.trans (Chg.grown (F := fun k => k = C) HG9.out (fun k hk => (Option.some.inj hk).symm)) (fun k hk => .inl (.inr (.inl hk)))), OwnTo.refl _ _⟩
      rw [HP.out, set_same H.out.c2]
      exact { H2.out with box := hHeld.1, mp := HM9.out, ord := H2.out.ord.of (fun k hk => HG9.out.block k (H2.out.ord.lt k hk).2 (fun e => H.out.oc (by rw [hk, ← Option.some.inj e]))) }
    | none =>
      have HP := hid (show keepP most ca od n b = (gp (roomP most ca od).1 n b, (roomP most ca od).2 ++ [n]) by unfold keepP; rw [if_neg hm, hg]; rfl)
      rw [hg] at hlk
      simp only [Option.isSome_none] at hlk
      have hro : (roomP most ca od).2.length ≤ 4096 := by
        unfold roomP
        split
        · exact hl
        · cases od with
          | nil => exact hl
          | cons x r => simp at hl ⊢; omega
      have HRO := hid hro
      have hm1 : 1 ≤ most := by omega
      have HM1 := hid hm1
      clear h hb1 hl hb hcl hold hx1 hx0 hX hg hro hm1
      go_enter Tryz.func87, Tryz.ntmps87
      go_wp2_with (first | (refine wpList_store_row rfl 50 (Operand.tmp 6) (Operand.tmp 20) rfl (w.heap.size + 1) (ArrU8 X) rfl rfl 50 (ArrU8 (zeros 256)) HX1.out (by rw [HI35.out, HSX.out]) (by rw [HSX.out, ArrU8_size, zeros_len]) (ArrU8_one _) ?_) | fail)
      have hb2 : Below w.heap.size w (((w.alloc (.cells (ArrU8 b) 50)).alloc (.cells (ArrU8 (zeros 256)) 50)).setRow (w.heap.size + 1) (ArrU8 X)) := below_setRow (((Below.refl _ _).alloc (Nat.le_refl _) _).alloc (by simp) _) (by omega) _
      have hx0 := (setRow_other _ (w.heap.size + 1) w.heap.size (ArrU8 X) (by omega)).trans HX0.out
      generalize hw2 : ((w.alloc (.cells (ArrU8 b) 50)).alloc (.cells (ArrU8 (zeros 256)) 50)).setRow (w.heap.size + 1) (ArrU8 X) = w2 at *
      have HB2 := hid hb2
      have HX02 := hid hx0
      have H2 := hid (H.out.fresh hb2)
      clear hb2 hx0 hw2 p5 p6 hlk
      refine (makeRoom_any B P cs T C ov most ca od w2 H2.out HM1.out).mono ?_
      rintro e w3 ⟨rfl, ov3, h3, hc3, ho3⟩
      have H3 := hid h3
      have HC3 := hid (show Chg (fun k => k = P ∨ k = C) w w3 from (Chg.fresh HB2.out).trans hc3 (fun k hk => .inl hk))
      have HX03 := hid ((hc3.block w.heap.size (Array.getElem?_eq_some_iff.1 HX02.out).1 (fun e => e.elim (fun e => by have := H.out.ltP; omega) (fun e => by have := H.out.mp.lt; omega))).trans HX02.out)
      have HO3 := hid ho3
      clear h3 hc3 ho3
      generalize roomP most ca od = rr at *
      obtain ⟨ca3, od3⟩ := rr
      have HBw := hid (show B ≤ (w3.alloc (.cells #[.int .i64 n] 3)).heap.size by have := HC3.out.size; simp; omega)
      obtain ⟨v4, w4, hap, ho4, hc4, ht4⟩ := ord_append (w := w3.alloc (.cells #[.int .i64 n] 3)) (H3.out.ord.of (fun g hg => heap_alloc_old _ _ (H3.out.ord.lt g hg).2)) HBw.out (by have := HRO.out; omega) ⟨w3.heap.size, 0, none⟩ 1 n ((cell_of_row _ _ 0 _ _ _ (heap_alloc_new w3 _)).trans rfl) 77
      have hb4 : w4.heap[P]? = some (.cells (cs.setIfInBounds 7 ov3) T (0, 0)) := (hc4.block P (by have := H3.out.ltP; simp; omega) (fun e => H3.out.op e)).trans ((heap_alloc_old _ _ H3.out.ltP).trans H3.out.box)
      have HAP := hid hap
      have HO4 := hid ho4
      have HC4 := hid hc4
      have HT4 := hid ht4
      have HB4 := hid hb4
      have p7 := (cell_of_row w3 P 7 _ _ _ H3.out.box).trans H3.out.c2
      obtain ⟨sa4, sc4, hv4, _⟩ := ho4.shape
      obtain ⟨sa3, sc3, hov3, _⟩ := H3.out.ord.shape
      subst hov3
      have f7 := frozen_of_row w4 P 7 _ _ hb4
      have hsz7 : 7 < cs.size := (Array.getElem?_eq_some_iff.1 H.out.c2).1
      have hc7 : (w4.cell? ⟨P, 7, none⟩).isSome = true := by rw [cell_of_row _ _ _ _ _ _ hb4]; simp [hsz7]
      obtain ⟨x7, c7⟩ := Option.isSome_iff_exists.1 hc7
      rw [List.length_append, List.length_singleton] at hv4
      subst hv4
      clear hap ho4 hc4 ht4 hb4 hc7 hsz7
      go_wp2_with (first | (at_builtin; refine wpList_of_run rfl (exec_append (Operand.tmp 30) (Operand.tmp 32) 77 rfl _ _ rfl rfl HAP.out) ?_) | fail)
      have hb5 := heap_setCell_same w4 P 7 _ T (.slice sa4 (od3.length + 1) sc4) HB4.out
      have hss : (cs.setIfInBounds 7 (Value.slice sa3 od3.length sc3)).setIfInBounds 7 (Value.slice sa4 (od3.length + 1) sc4) = cs.setIfInBounds 7 (Value.slice sa4 (od3.length + 1) sc4) := by simp
      rw [hss] at hb5
      have hown4 : ∀ k, (Value.slice sa4 (od3.length + 1) sc4).ownBlock = some k → k ≠ P ∧ k ≠ C ∧ (ov.ownBlock = some k ∨ w.heap.size ≤ k) := by
        intro k hk
        rcases HT4.out k hk with h | h
        · exact ⟨fun e => H3.out.op (by rw [← e]; exact h), fun e => H3.out.oc (by rw [← e]; exact h), .inl (HO3.out ▸ h)⟩
        · have h' : w3.heap.size + 1 ≤ k := by simpa using h
          have h1 := H3.out.ltP
          have h2 := H3.out.mp.lt
          have h3 := HC3.out.size
          exact ⟨by omega, by omega, .inr (by omega)⟩
      have hCP : C ≠ P := fun e => H.out.pc e.symm
      have hc34 : Chg (fun k => k = P ∨ k = C ∨ ov.ownBlock = some k) w w4 := ((HC3.out.mono (fun k hk => hk.elim .inl (fun h => .inr (.inl h)))).alloc _).trans HC4.out (fun k hk => .inl (.inr (.inr (HO3.out ▸ hk))))
      have hmp4 : MapG blkV w4 C ca3 := H3.out.mp.of ((HC4.out.block C (by have := H3.out.mp.lt; simp; omega) (fun e => H3.out.oc e)).trans (heap_alloc_old _ _ H3.out.mp.lt))
      have hx05 : w4.heap[w.heap.size]? = some (.cells (ArrU8 b) 50 (0, 0)) := by
        have hlt3 := (Array.getElem?_eq_some_iff.1 HX03.out).1
        refine (HC4.out.block w.heap.size (by simp; omega) (fun e => ?_)).trans ((heap_alloc_old _ _ hlt3).trans HX03.out)
        have e2 : ov.ownBlock = some w.heap.size := HO3.out ▸ e
        have := (H.out.ord.lt _ e2).2
        omega
      have hX05 : (w4.setCell ⟨P, 7, none⟩ (.slice sa4 (od3.length + 1) sc4)).heap[w.heap.size]? = some (.cells (ArrU8 b) 50 (0, 0)) := (heap_setCell_other _ _ _ _ (by have := H.out.ltP; simp; omega)).trans hx05
      have h5 : CaIs (w4.setCell ⟨P, 7, none⟩ (.slice sa4 (od3.length + 1) sc4)) B P (cs.setIfInBounds 7 (.slice sa4 (od3.length + 1) sc4)) T C (.slice sa4 (od3.length + 1) sc4) most ca3 (od3 ++ [n]) :=
        { box := hb5
          c0 := by rw [Array.getElem?_setIfInBounds_ne (by decide)]; exact H.out.c0
          c1 := by rw [Array.getElem?_setIfInBounds_ne (by decide)]; exact H.out.c1
          c2 := by
            have h7 := (Array.getElem?_eq_some_iff.1 H.out.c2).1
            simp [h7]
          mp := hmp4.of (heap_setCell_other _ _ _ _ (by simpa using hCP))
          ord := HO4.out.of (fun k hk => heap_setCell_other _ _ _ _ (by simpa using (hown4 k hk).1))
          bm := H.out.bm
          pc := H.out.pc
          op := fun e => (hown4 P e).1 rfl
          oc := fun e => (hown4 C e).2.1 rfl }
      have hc5 := hc34.setCell ⟨P, 7, none⟩ (.slice sa4 (od3.length + 1) sc4) (.inl (.inl rfl))
      have H5 := hid h5
      have HC5 := hid hc5
      have HX5 := hid hX05
      have HOWN := hid (fun k hk => (hown4 k hk).2.2)
      clear hb5 hss hown4 hCP hc34 hmp4 hx05 hX05 h5 hc5 p7 f7 c7
      generalize w4.setCell ⟨P, 7, none⟩ (.slice sa4 (od3.length + 1) sc4) = w5 at *
      obtain ⟨w9, hup, hm9, hg9, hs9⟩ := run_update_g (P := Tryz.prog) (mT := 76) (kT := 3) (eT := 50) (enc := blkV) Tryz.underlying76 Tryz.underlying3 n b (H5.out.mp.of (w' := w5.drew) rfl)
      have HUP := hid hup
      have HM9 := hid hm9
      have HG9 := hid hg9
      have HS9 := hid hs9
      clear hup hm9 hg9 hs9
      refine wp_region_held_drew (S := fun u => u.heap[P]? = some (.cells (cs.setIfInBounds 7 (Value.slice sa4 (od3.length + 1) sc4)) T (0, 0)) ∧ u.heap[w.heap.size]? = some (.cells (ArrU8 b) 50 (0, 0))) (by kernel_rfl) (⟨H5.out.box, HX5.out⟩) (fun hHeld => ?_)
      refine tk (i := 0) (oi := ⟨some 36, .move (.tmp 0), 138, "cache.go:26", #[], none⟩) (v := ?_) (Or.inl ⟨by rfl, ?_⟩) ?_
      rotate_left 1
      · (intro u hSw; go_simp; try with_reducible rfl)
      try simp only [Act.put, sA, sB, sC]
      refine tk (i := 1) (oi := ⟨some 37, .nilCheck (.tmp 36), 0, "cache.go:26", #[⟨0, .data⟩], none⟩) (v := ?_) (Or.inl ⟨by rfl, ?_⟩) ?_
      rotate_left 1
      · (intro u hSw; go_simp; try with_reducible rfl)
      try simp only [Act.put, sA, sB, sC]
      refine tk (i := 2) (oi := ⟨some 38, .fieldAddr 79 (.tmp 37) 1, 0, "cache.go:26", #[⟨1, .data⟩], none⟩) (v := ?_) (Or.inl ⟨by rfl, ?_⟩) ?_
      rotate_left 1
      · (intro u hSw; go_simp; try with_reducible rfl)
      try simp only [Act.put, sA, sB, sC]
      refine tk (i := 3) (oi := ⟨some 39, .load 76 (.tmp 38), 76, "cache.go:26", #[⟨2, .data⟩], none⟩) (v := ?_) (Or.inl ⟨by rfl, ?_⟩) ?_
      rotate_left 1
      · intro u hSw
        have p6 := (cell_of_row u P 6 _ _ _ hSw.1).trans H5.out.c1
        go_simp
        try with_reducible rfl
      try simp only [Act.put, sA, sB, sC]
      refine tk (i := 4) (oi := ⟨some 40, .move (.tmp 1), 3, "cache.go:26", #[], none⟩) (v := ?_) (Or.inl ⟨by rfl, ?_⟩) ?_
      rotate_left 1
      · (intro u hSw; go_simp; try with_reducible rfl)
      try simp only [Act.put, sA, sB, sC]
      refine tk (i := 5) (oi := ⟨some 41, .load 50 (.tmp 5), 50, "cache.go:26", #[], none⟩) (v := ?_) (Or.inl ⟨by rfl, ?_⟩) ?_
      rotate_left 1
      · intro u hSw
        refine exec_load_row 50 (Operand.tmp 5) ?_ u w.heap.size ?_ (ArrU8 b) 50 (0, 0) _ hSw.2 Tryz.underlying50 rfl HSB.out <;> rfl
      try simp only [Act.put, sA, sB, sC]
      refine wpAnyH_ready (rs := [6]) (by kernel_rfl) (by simp) ?_
      refine AllReadyH.cons (o := ⟨none, .mapUpdate 76 (.tmp 39) (.tmp 40) (.tmp 41), 0, "cache.go:26", #[⟨3, .data⟩, ⟨4, .data⟩, ⟨5, .data⟩, ⟨0, .phase⟩, ⟨1, .phase⟩, ⟨2, .phase⟩, ⟨3, .phase⟩, ⟨4, .phase⟩, ⟨5, .phase⟩], none⟩) rfl (fun K hK => ?_) AllReadyH.nil
      refine step_of_skip ?_ (exec_update (Operand.tmp 39) (Operand.tmp 40) (Operand.tmp 41) ?_ _ _ _ ?_ ?_ ?_ HUP.out) ?_
      rfl
      rfl
      rfl
      rfl
      rfl
      refine hK.out _ _ ⟨(HG9.out.block P H5.out.ltP (fun e => H5.out.pc (Option.some.inj e))).trans H5.out.box, (HG9.out.block w.heap.size (show w.heap.size < w5.heap.size from (Array.getElem?_eq_some_iff.1 HX5.out).1) (fun e => by have := Option.some.inj e; have := H.out.mp.lt; omega)).trans HX5.out⟩ (fun hHeld => ?_)
      clear hK K
      try simp only [Act.put]
      refine wpAnyH_done (by kernel_rfl) ?_ _
      go_end0
      refine ⟨rfl, .slice sa4 (od3.length + 1) sc4, ?_, (HC5.out.drew.trans (Chg.grown (F := fun k => k = C) HG9.out (fun k hk => (Option.some.inj hk).symm)) (fun k hk => .inl (.inr (.inl hk)))), HOWN.out⟩
      rw [HP.out]
      exact { H5.out with box := hHeld.1, mp := HM9.out, ord := H5.out.ord.of (fun k hk => HG9.out.block k (H5.out.ord.lt k hk).2 (fun e => H5.out.oc (by rw [hk, ← Option.some.inj e]))) }
end Go.Proofs.YtdkjkibdncbibaaGreat
/- a page read from the log's area -/
namespace Go.Proofs.YtdkjkibdncbibaaGreat
open Go.RowKit
open Go.Lib (hid)
/-- the byte at a place of the log's area -/
def gb (f : Int → List Int) (p : Nat) : Int := (f (2 + (p / 256 : Nat)))[p % 256]?.getD 0
def arRd (f : Int → List Int) (a : Nat) : List Int := (List.range 256).map fun i => gb f (a + i)
theorem arRd_len (f : Int → List Int) (a : Nat) : (arRd f a).length = 256 := by simp [arRd]
def arRow (f : Int → List Int) (a h : Nat) : List Int := (arRd f a).take h ++ zeros (256 - h)
theorem arRow_len (f : Int → List Int) (a h : Nat) (hh : h ≤ 256) : (arRow f a h).length = 256 := by
 rw [arRow, List.length_append, List.length_take, arRd_len, zeros_len]; omega
theorem arRow_end (f : Int → List Int) (a : Nat) : arRow f a 256 = arRd f a := by
 rw [arRow, List.take_of_length_le (by rw [arRd_len]; exact Nat.le_refl _)]; simp [zeros]
def arM (a h : Nat) : Nat := Nat.min (256 - (a + h) % 256) (256 - h)
theorem arRow_step (f : Int → List Int) (hf : ∀ n, (f n).length = 256) (a h : Nat) (hh : h < 256) :
  (arRow f a h).take h ++ ((f (2 + ((a + h) / 256 : Nat))).drop ((a + h) % 256)).take (arM a h) ++ (arRow f a h).drop (h + arM a h) = arRow f a (h + arM a h) := by
 have hm : arM a h ≤ 256 - h := Nat.min_le_right _ _
 have hm2 : arM a h ≤ 256 - (a + h) % 256 := Nat.min_le_left _ _
 have hl := hf (2 + ((a + h) / 256 : Nat))
 have h1 : (arRow f a h).take h = (arRd f a).take h := by
  rw [arRow, List.take_append_of_le_length (by rw [List.length_take, arRd_len]; omega), List.take_take]
  congr 1; omega
 have h2 : (arRow f a h).drop (h + arM a h) = zeros (256 - (h + arM a h)) := by
  rw [arRow, List.drop_append, List.drop_eq_nil_of_le (by rw [List.length_take, arRd_len]; omega), List.nil_append, List.length_take, arRd_len]
  simp only [zeros, List.drop_replicate]
  congr 1; omega
 have h3 : ((f (2 + ((a + h) / 256 : Nat))).drop ((a + h) % 256)).take (arM a h) = ((arRd f a).drop h).take (arM a h) := by
  apply List.ext_getElem?
  intro j
  rw [List.getElem?_take, List.getElem?_take]
  by_cases hj : j < arM a h
  ·rw [if_pos hj, if_pos hj, List.getElem?_drop, List.getElem?_drop]
   have e1 : (a + (h + j)) / 256 = (a + h) / 256 := by omega
   have e2 : (a + (h + j)) % 256 = (a + h) % 256 + j := by omega
   have e3 : (a + h) % 256 + j < (f (2 + ((a + h) / 256 : Nat))).length := by rw [hl]; omega
   have e4 : h + j < 256 := by omega
   rw [List.getElem?_eq_getElem e3]
   simp only [arRd, List.getElem?_map, List.getElem?_range e4, Option.map_some, gb, e1, e2, List.getElem?_eq_getElem e3, Option.getD_some]
  ·rw [if_neg hj, if_neg hj]
 rw [h1, h2, h3, arRow]
 congr 1
 rw [← List.take_add]
theorem new_old {w : World} (o : Obj) (X : Array Value) (k : Nat) (hk : k < w.heap.size) : ((w.alloc o).setRow w.heap.size X).heap[k]? = w.heap[k]? := (setRow_other _ _ _ _ (by omega)).trans (heap_alloc_old _ _ hk)
theorem new_at (w : World) (Z X : Array Value) (T : TypeId) : ((w.alloc (.cells Z T)).setRow w.heap.size X).heap[w.heap.size]? = some (.cells X T (0, 0)) := setRow_heap _ _ _ _ _ _ (heap_alloc_new _ _)
theorem new_below {w0 w : World} (h : Below w0.heap.size w0 w) (o : Obj) (X : Array Value) : Below w0.heap.size w0 ((w.alloc o).setRow w.heap.size X) := below_setRow (h.alloc h.size o) h.size _
set_option maxRecDepth 100000 in
set_option maxHeartbeats 2000000 in
theorem areaPage_any (B D M : Nat) (nb rm fz sz : Int) (a : Nat) (dn : Bool) (f : Int → List Int) (L : List WR) (lv : Value) (w : World) (h : Dk w B D M nb rm fz dn f L lv) (ha : (a : Int) + 256 ≤ (nb - 2) * 256) (hnb : nb ≤ 4096) :
    Calls Tryz.prog 74 #[.agg #[.pointer (some ⟨D, 0, none⟩), .int .i64 sz], .int .i64 a] w fun e w' => e = .returned (.tuple #[.agg (ArrU8 (if dn then zeros 256 else arRd f a)), .int .i64 (if dn then 44 else 0)]) ∧ Below w.heap.size w w' := by
  have hz := zero35
  have HI35 := hid (show (Tryz.prog.info? 50).map (·.size) = some 256 by kernel_rfl)
  have SZ := hid (show (ArrU8 (zeros 256)).size = 256 by rw [ArrU8_size, zeros_len])
  have HD := hid h
  have HFL := hid h.2.2.2.2.2.2.1
  clear h
  go_enter Tryz.func74, Tryz.ntmps74
  go_wp2_with fail
  have hw3 : (((w.alloc (.cells #[.pointer (some ⟨D, 0, none⟩), .int .i64 sz] 63)).alloc (.cells (ArrU8 (zeros 256)) 50)).alloc (.cells (ArrU8 (zeros 256)) 50)) = (((w.alloc (.cells #[.pointer (some ⟨D, 0, none⟩), .int .i64 sz] 63)).alloc (.cells (ArrU8 (zeros 256)) 50)).alloc (.cells (ArrU8 (zeros 256)) 50)) := rfl
  have hb3 : Below w.heap.size w (((w.alloc (.cells #[.pointer (some ⟨D, 0, none⟩), .int .i64 sz] 63)).alloc (.cells (ArrU8 (zeros 256)) 50)).alloc (.cells (ArrU8 (zeros 256)) 50)) := (((Below.refl _ _).alloc (Nat.le_refl _) _).alloc (by simp) _).alloc (by simp; omega) _
  have hx0 : (((w.alloc (.cells #[.pointer (some ⟨D, 0, none⟩), .int .i64 sz] 63)).alloc (.cells (ArrU8 (zeros 256)) 50)).alloc (.cells (ArrU8 (zeros 256)) 50)).heap[w.heap.size]? = some (.cells #[.pointer (some ⟨D, 0, none⟩), .int .i64 sz] 63 (0, 0)) := (heap_alloc_old _ _ (by simp; omega)).trans ((heap_alloc_old _ _ (by simp)).trans (heap_alloc_new _ _))
  have hx1 : (((w.alloc (.cells #[.pointer (some ⟨D, 0, none⟩), .int .i64 sz] 63)).alloc (.cells (ArrU8 (zeros 256)) 50)).alloc (.cells (ArrU8 (zeros 256)) 50)).heap[w.heap.size + 1]? = some (.cells (ArrU8 (zeros 256)) 50 (0, 0)) := by
    have h := heap_alloc_new (w.alloc (.cells #[.pointer (some ⟨D, 0, none⟩), .int .i64 sz] 63)) (.cells (ArrU8 (zeros 256)) 50)
    rw [World.size_alloc] at h
    rw [heap_alloc_old _ _ (by simp), h]
  have hx2 : (((w.alloc (.cells #[.pointer (some ⟨D, 0, none⟩), .int .i64 sz] 63)).alloc (.cells (ArrU8 (zeros 256)) 50)).alloc (.cells (ArrU8 (zeros 256)) 50)).heap[w.heap.size + 1 + 1]? = some (.cells ((arRow f a 0).map (Value.int .u8)).toArray 50 (0, 0)) := by
    have h := heap_alloc_new ((w.alloc (.cells #[.pointer (some ⟨D, 0, none⟩), .int .i64 sz] 63)).alloc (.cells (ArrU8 (zeros 256)) 50)) (.cells (ArrU8 (zeros 256)) 50)
    simpa [arRow, ArrU8] using h
  clear hw3
  generalize ((w.alloc (.cells #[.pointer (some ⟨D, 0, none⟩), .int .i64 sz] 63)).alloc (.cells (ArrU8 (zeros 256)) 50)).alloc (.cells (ArrU8 (zeros 256)) 50) = w3 at *
  have HB3 := hid hb3
  have HX0 := hid hx0
  have HX1 := hid hx1
  have HX2 := hid hx2
  have HLT := hid (Array.getElem?_eq_some_iff.1 hx2).1
  have HDF := hid (fun u (hu : Below w.heap.size w u) => HD.out.chg (Chg.fresh (F := fun _ => False) hu) (fun _ _ h => h))
  clear hb3 hx0 hx1 hx2
  go_loopw [7] (fun iv wr => ∃ i : Nat, i ≤ 256 ∧ (dn = true → i = 0) ∧ iv = .int .i64 (i : Int) ∧ wr.heap[w.heap.size + 1 + 1]? = some (.cells ((arRow f a i).map (Value.int .u8)).toArray 50 (0, 0)) ∧ Chg (fun g => g = w.heap.size + 1 + 1) w3 wr) (fun iv _ => 256 - (intOf iv).toNat)
  case atStart => exact ⟨0, by omega, fun _ => rfl, rfl, HX2.out, Chg.refl _ _⟩
  case round =>
    obtain ⟨i, hi, hdi, rfl, hx, hc⟩ := hrel
    have HX := hid hx
    have HC := hid hc
    have HDI := hid hdi
    have hbw : Below w.heap.size w wr := HB3.out.trans (hc.below (fun k hk => by omega) HB3.out.size)
    have HBW := hid hbw
    have hx0 := (hc.block w.heap.size (by have := HLT.out; omega) (by omega)).trans HX0.out
    have hx1 := (hc.block (w.heap.size + 1) (by have := HLT.out; omega) (by omega)).trans HX1.out
    have HX0w := hid hx0
    have HX1w := hid hx1
    by_cases hlt : i < 256
    · have c0 := (cell_of_row _ w.heap.size 0 _ _ _ hx0).trans (show (#[Value.pointer (some ⟨D, 0, none⟩), .int .i64 sz] : Array Value)[0]? = some (.pointer (some ⟨D, 0, none⟩)) from rfl)
      have hN : 2 + ((a : Int) + (i : Int)) / 256 = 2 + (((a + i) / 256 : Nat) : Int) := by omega
      have hrem : ((a : Int) + (i : Int)) % 256 = (((a + i) % 256 : Nat) : Int) := by omega
      have hrd := read_dk B D M nb rm fz (2 + ((a : Int) + (i : Int)) / 256) dn f L lv wr (HDF.out wr HBW.out)
      have hlen : (rdF nb (2 + ((a : Int) + (i : Int)) / 256) dn f).length = 256 := rdF_len _ _ _ _ HFL.out
      have HRD := hid hrd
      have HN := hid hN
      have HREM := hid hrem
      clear hx hc hdi hbw hx0 hx1 hN hrem hrd
      cases hdn : dn with
      | true =>
        have HE := hid (show rdF nb (2 + ((a : Int) + (i : Int)) / 256) dn f = zeros 256 ∧ readErr nb (2 + ((a : Int) + (i : Int)) / 256) dn = 44 by rw [hdn]; exact ⟨rfl, rfl⟩)
        rw [HE.out.1, HE.out.2] at HRD
        clear hlen HE
        subst hdn
        go_wp2_with fail
        refine HRD.out.mono ?_
        rintro e wa ⟨rfl, hb⟩
        have hbl : ∀ u : World, (Instr.build 50 #[]).run Tryz.prog u = .ok (.agg (ArrU8 (zeros 256))) u := fun u => by kernel_rfl
        have HBA := hid (HBW.out.trans (hb.mono HBW.out.size))
        have HXA := hid ((hb.block _ (Array.getElem?_eq_some_iff.1 HX1w.out).1).trans HX1w.out)
        clear hb
        have hxn := heap_alloc_new wa (.cells (ArrU8 (zeros 256)) 50)
        have HXN := hid hxn
        clear hxn
        go_wp2_with (first | (refine wpList_store_row rfl 50 (Operand.tmp 8) (Operand.tmp 21) rfl wa.heap.size (ArrU8 (zeros 256)) rfl rfl 50 (ArrU8 (zeros 256)) HXN.out (by rw [HI35.out, SZ.out]) rfl (ArrU8_one _) ?_) | (refine wpList_store_row rfl 50 (Operand.tmp 4) (Operand.tmp 25) rfl (w.heap.size + 1) (ArrU8 (zeros 256)) rfl rfl 50 (ArrU8 (zeros 256)) ?_ (by rw [HI35.out, SZ.out]) rfl (ArrU8_one _) ?_))
        all_goals try exact (new_old _ _ _ (Array.getElem?_eq_some_iff.1 HXA.out).1).trans HXA.out
        refine bodyPost_ret (results_cell_tmp (p := 4) (q := 5) (ty := 50) rfl _ _ (w.heap.size + 1) 50 (ArrU8 (zeros 256)) (0, 0) _ rfl (setRow_heap _ _ _ _ _ _ ((new_old _ _ _ (Array.getElem?_eq_some_iff.1 HXA.out).1).trans HXA.out)) Tryz.underlying50 rfl (by rw [HI35.out, SZ.out])) rfl ⟨rfl, ?_⟩
        exact below_setRow (new_below HBA.out _ _) (by omega) _
      | false =>
        have hin : hasB nb (2 + ((a : Int) + (i : Int)) / 256) = true := by
          unfold hasB
          have h1 : 0 ≤ 2 + ((a : Int) + (i : Int)) / 256 := by omega
          have h2 : 2 + ((a : Int) + (i : Int)) / 256 < nb := by omega
          simp [h1, h2]
        have HE := hid (show rdF nb (2 + ((a : Int) + (i : Int)) / 256) dn f = f (2 + (((a + i) / 256 : Nat) : Int)) ∧ readErr nb (2 + ((a : Int) + (i : Int)) / 256) dn = 0 by rw [hdn]; simp only [rdF, readErr, hin]; rw [HN.out]; exact ⟨rfl, rfl⟩)
        rw [HE.out.1, HE.out.2] at HRD
        clear hlen HE hin
        subst hdn
        have hFl := HFL.out (2 + (((a + i) / 256 : Nat) : Int))
        have HST := hid (arRow_step f HFL.out a i hlt)
        generalize f (2 + (((a + i) / 256 : Nat) : Int)) = F at *
        have HF := hid hFl
        clear hFl
        go_wp2_with fail
        refine HRD.out.mono ?_
        rintro e wa ⟨rfl, hb⟩
        have HXA := hid ((hb.block _ (Array.getElem?_eq_some_iff.1 HX.out).1).trans HX.out)
        have HCA := hid (show Chg (fun g => g = w.heap.size + 1 + 1) w3 wa from HC.out.trans (Chg.fresh (F := fun _ => False) hb) (fun _ h => h.elim))
        have SF := hid (show (ArrU8 F).size = 256 by rw [ArrU8_size, HF.out])
        have HXL := hid (Array.getElem?_eq_some_iff.1 HXA.out).1
        clear hb
        have hxn := heap_alloc_new wa (.cells (ArrU8 (zeros 256)) 50)
        have HXN := hid hxn
        clear hxn
        go_wp2_with (first | (refine wpList_store_row rfl 50 (Operand.tmp 8) (Operand.tmp 21) rfl wa.heap.size (ArrU8 F) rfl rfl 50 (ArrU8 (zeros 256)) HXN.out (by rw [HI35.out, SF.out]) (by rw [SF.out, SZ.out]) (ArrU8_one _) ?_))
        have hx6 := (new_old (w := wa) (.cells (ArrU8 (zeros 256)) 50) (ArrU8 F) _ HXL.out).trans HXA.out
        have hx8 := new_at wa (ArrU8 (zeros 256)) (ArrU8 F) 50
        have hcb : Chg (fun g => g = w.heap.size + 1 + 1) w3 ((wa.alloc (.cells (ArrU8 (zeros 256)) 50)).setRow wa.heap.size (ArrU8 F)) := HCA.out.trans (Chg.fresh (F := fun _ => False) (new_below (Below.refl _ _) _ _)) (fun _ h => h.elim)
        generalize (wa.alloc (.cells (ArrU8 (zeros 256)) 50)).setRow wa.heap.size (ArrU8 F) = wb at *
        have HX6 := hid hx6
        have HX8 := hid hx8
        have HCB := hid hcb
        have HX8L := hid (Array.getElem?_eq_some_iff.1 hx8).1
        have SA := fun u => slice35_l u (w.heap.size + 1 + 1) i i rfl hlt
        have SB := fun u => slice35_l u wa.heap.size (((a : Int) + (i : Int)) % 256) ((a + i) % 256) HREM.out (Nat.mod_lt _ (by decide))
        have hwr : IntKind.i64.wrap ((a : Int) + (i : Int)) = (a : Int) + (i : Int) := wrap_i64 _ (by omega) (by omega)
        have htm : ((a : Int) + (i : Int)).tmod 256 = ((a : Int) + (i : Int)) % 256 := Int.tmod_eq_emod_of_nonneg (by omega)
        have HLB := hid (show arM a i ≤ 256 - i ∧ arM a i ≤ 256 - (a + i) % 256 ∧ 0 < arM a i from ⟨Nat.min_le_right _ _, Nat.min_le_left _ _, by unfold arM; have := Nat.mod_lt (a + i) (show 0 < 256 by decide); exact Nat.lt_min.2 ⟨by omega, by omega⟩⟩)
        have HLT2 := hid (show ((F.drop ((a + i) % 256)).take (arM a i)).length = arM a i by rw [List.length_take, List.length_drop, HF.out]; have := HLB.out; omega)
        have HLC := hid (show (((F.drop ((a + i) % 256)).take (arM a i)).map (Value.int .u8)).length = Nat.min (256 - (a + i) % 256) (256 - i) by rw [List.length_map, HLT2.out]; rfl)
        have HUU := hid (show (Tryz.prog.info? 5).map (·.size) = some 1 by kernel_rfl)
        clear hx6 hx8 hcb
        refine wp_region_held_drew (S := fun _ => True) (by kernel_rfl) (trivial) (fun hHeld => ?_)
        refine tk (i := 0) (oi := ⟨some 27, .move (.tmp 7), 3, "layout.go:48", #[], none⟩) (v := ?_) (Or.inl ⟨by rfl, ?_⟩) ?_
        rotate_left 1
        · (intro u hSw; go_simp; try with_reducible rfl)
        try simp only [Act.put, sA, sB, sC]
        refine tk (i := 1) (oi := ⟨some 28, .move (.tmp 7), 3, "layout.go:48", #[], none⟩) (v := ?_) (Or.inl ⟨by rfl, ?_⟩) ?_
        rotate_left 1
        · (intro u hSw; go_simp; try with_reducible rfl)
        try simp only [Act.put, sA, sB, sC]
        refine tk (i := 2) (oi := ⟨some 29, .slice 50 (.tmp 6) (some (.tmp 28)) none none, 83, "layout.go:48", #[⟨1, .data⟩], none⟩) (v := ?_) (Or.inl ⟨by rfl, ?_⟩) ?_
        rotate_left 1
        · (intro u hSw; go_simp; try with_reducible rfl)
        try simp only [Act.put, sA, sB, sC]
        refine tk (i := 3) (oi := ⟨some 30, .move (.tmp 1), 3, "layout.go:48", #[], none⟩) (v := ?_) (Or.inl ⟨by rfl, ?_⟩) ?_
        rotate_left 1
        · (intro u hSw; go_simp; try with_reducible rfl)
        try simp only [Act.put, sA, sB, sC]
        refine tk (i := 4) (oi := ⟨some 31, .move (.tmp 7), 3, "layout.go:48", #[], none⟩) (v := ?_) (Or.inl ⟨by rfl, ?_⟩) ?_
        rotate_left 1
        · (intro u hSw; go_simp; try with_reducible rfl)
        try simp only [Act.put, sA, sB, sC]
        refine tk (i := 5) (oi := ⟨some 32, .binOp BinOp.add 3 (.tmp 30) (.tmp 31) 3, 3, "layout.go:48", #[⟨3, .data⟩, ⟨4, .data⟩], none⟩) (v := ?_) (Or.inl ⟨by rfl, ?_⟩) ?_
        rotate_left 1
        · (intro u hSw; go_simp; try with_reducible rfl)
        try simp only [Act.put, sA, sB, sC]
        refine tk (i := 6) (oi := ⟨some 33, .binOp BinOp.rem 3 (.tmp 32) (.const (Value.int IntKind.i64 256)) 3, 3, "layout.go:48", #[⟨5, .data⟩], none⟩) (v := ?_) (Or.inl ⟨by rfl, ?_⟩) ?_
        rotate_left 1
        · (intro u hSw; go_simp; try with_reducible rfl)
        try simp only [Act.put, sA, sB, sC]
        refine tk (i := 7) (oi := ⟨some 34, .slice 50 (.tmp 8) (some (.tmp 33)) none none, 83, "layout.go:48", #[⟨6, .data⟩], none⟩) (v := ?_) (Or.inl ⟨by rfl, ?_⟩) ?_
        rotate_left 1
        · (intro u hSw; go_simp; try with_reducible rfl)
        try simp only [Act.put, sA, sB, sC]
        refine wpAnyH_ready (rs := [8]) (by kernel_rfl) (by simp) ?_
        refine (AllReadyH.cons (o := ⟨some 35, .call ⟨.builtin .copy, #[.tmp 29, .tmp 34], #[83, 83]⟩, 3, "layout.go:48", #[⟨2, .data⟩, ⟨7, .data⟩], none⟩) rfl (fun K hK => ?_) AllReadyH.nil)
        refine step_copy_row (by rfl) (Operand.tmp 29) (Operand.tmp 34) 83 83 (by rfl) 5 Tryz.underlying83 HUU.out (w.heap.size + 1 + 1) i (256 - i) (256 - i) (256 - (a + i) % 256) (256 - (a + i) % 256) ⟨wa.heap.size, (a + i) % 256, none⟩ (by rfl) (by rfl) ((arRow f a i).map (Value.int .u8)) ((arRow f a (i + arM a i)).map (Value.int .u8)) 50 HX6.out (((F.drop ((a + i) % 256)).take (arM a i)).map (Value.int .u8)) HLC.out ?_ ?_ (by intro v hv; obtain ⟨x, _, rfl⟩ := List.mem_map.1 hv; rfl) (by rw [← HST.out, List.length_map, HLT2.out]; simp [List.map_take, List.map_drop]) ?_
        · intro j v hj
          rw [Addr.add_mid, cell_of_row wb.drew _ _ _ _ _ HX8.out]
          rw [List.getElem?_map, List.getElem?_take] at hj
          split at hj
          · rw [List.getElem?_drop] at hj
            simpa [ArrU8] using hj
          · cases hj
        · rw [List.length_map, List.length_map, HLT2.out, arRow_len _ _ _ (by omega)]
          have := HLB.out
          omega
        intro w9 h9 hg9
        have HX9 := hid h9
        have HC9 := hid (HCB.out.drew.trans (Chg.grown (F := fun k => k = w.heap.size + 1 + 1) hg9 (fun k hk => (Option.some.inj hk).symm)) (fun k hk => .inl hk))
        clear h9 hg9
        rw [show (((F.drop ((a + i) % 256)).take (arM a i)).map (Value.int .u8)).length = arM a i by rw [List.length_map, HLT2.out]]
        have hmb := HLB.out
        have hwk : IntKind.i64.wrap ((i : Int) + (arM a i : Nat)) = ((i + arM a i : Nat) : Int) := by rw [wrap_i64 _ (by omega) (by omega)]; omega
        refine hK.out _ _ trivial (fun hHeld => ?_)
        clear hK K
        try simp only [Act.put, sA, sB, sC]
        refine tk (i := 9) (oi := ⟨some 36, .binOp BinOp.add 3 (.tmp 27) (.tmp 35) 3, 3, "layout.go:48", #[⟨0, .data⟩, ⟨8, .data⟩], none⟩) (v := ?_) (Or.inl ⟨by rfl, ?_⟩) ?_
        rotate_left 1
        · (intro u hSw; go_simp; try with_reducible rfl)
        try simp only [Act.put, sA, sB, sC]
        refine tk (i := 10) (oi := ⟨some 7, .assign (.tmp 36), 3, "layout.go:48", #[⟨9, .data⟩, ⟨8, .chain⟩, ⟨0, .phase⟩, ⟨1, .phase⟩, ⟨2, .phase⟩, ⟨3, .phase⟩, ⟨4, .phase⟩, ⟨5, .phase⟩, ⟨6, .phase⟩, ⟨7, .phase⟩, ⟨8, .phase⟩, ⟨9, .phase⟩], none⟩) (v := ?_) (Or.inl ⟨by rfl, ?_⟩) ?_
        rotate_left 1
        · (intro u hSw; go_simp; try with_reducible rfl)
        try simp only [Act.put, sA, sB, sC]
        refine wpAnyH_done (by kernel_rfl) ?_ _
        go_wp2_with fail
        go_roundw
        case rel => exact ⟨i + arM a i, by omega, fun e => (by cases e), rfl, HX9.out, HC9.out⟩
        case measure => simp [intOf]; omega
    · obtain rfl : i = 256 := by omega
      have hdn : dn = false := by cases dn; rfl; exact absurd (hdi rfl) (by decide)
      subst hdn
      have HSA := hid (show (ArrU8 (arRd f a)).size = 256 by rw [ArrU8_size, arRd_len])
      have HXE := hid (show wr.heap[w.heap.size + 1 + 1]? = some (.cells (ArrU8 (arRd f a)) 50 (0, 0)) by rw [← arRow_end]; exact hx)
      clear hx hc hdi hbw hx0 hx1
      go_wp2_with (first | (refine wpList_load_row rfl 50 (Operand.tmp 6) rfl (w.heap.size + 1 + 1) rfl 50 (ArrU8 (arRd f a)) (0, 0) _ HXE.out Tryz.underlying50 rfl (by rw [HI35.out, HSA.out]) ?_) | (refine wpList_store_row rfl 50 (Operand.tmp 4) (Operand.tmp 37) rfl (w.heap.size + 1) (ArrU8 (arRd f a)) rfl rfl 50 (ArrU8 (zeros 256)) HX1w.out (by rw [HI35.out, HSA.out]) (by rw [HSA.out, SZ.out]) (ArrU8_one _) ?_))
      refine bodyPost_ret (results_cell_tmp (p := 4) (q := 5) (ty := 50) rfl _ _ (w.heap.size + 1) 50 (ArrU8 (arRd f a)) (0, 0) _ rfl (setRow_heap _ _ _ _ _ _ HX1w.out) Tryz.underlying50 rfl (by rw [HI35.out, HSA.out])) rfl ⟨rfl, ?_⟩
      exact below_setRow HBW.out (by omega) _
end Go.Proofs.YtdkjkibdncbibaaGreat
