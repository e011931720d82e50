/-
 PageDoes, second form: for any number of blocks, size, hold, junk and script, where the arguments are of bulk at most 1048576, the law returns true and its arguments read as before. Conditions: those of the given statement alone.
-/
import Derived.Test.YtfknlheflaccaaaGreatDm01
import Derived.Test.YtfknlheflaccaaaGreatDm30
import Derived.Test.YtfknlheflaccaaaGreatDm31
namespace Go.Proofs.YtfknlheflaccaaaGreat
open Go.RowKit
set_option maxRecDepth 100000 in
theorem laid_no (blocks junk : Int) (w : World) (h : blocks < 1 ∨ 4096 < blocks) :
  Calls Tryz.prog 8 #[.int .i64 blocks, .int .u8 junk] w fun e w' => e = .returned (.tuple #[.pointer none, .slice none 0 0]) ∧ Below w.heap.size w w' := by
 have HN := Lib.hid (new_nil blocks w h)
 clear h
 go_enter Tryz.func8, Tryz.ntmps8
 go_wp2_with fail
 refine HN.out.mono ?_
 rintro e w1 ⟨rfl, rfl⟩
 go_wp2_with fail
 go_ret2
 exact ⟨rfl, Below.refl _ _⟩
/-- while the steps run -/
def DoI (D B0 Bx P : Nat) (sz : Int) (w1 : World) (k : PK) (i : Nat) (w : World) : Prop :=
 ∃ t, k.D = D ∧ k.sz = sz ∧ Two k Bx P t w ∧ t.v.a ≤ 1 + 2 * i ∧ t.v.b ≤ 1 + i ∧ Below B0 w1 w ∧ ∀ g, TF k P t g → B0 ≤ g
theorem DoI.te {D B0 Bx P : Nat} {sz : Int} {w1 : World} {k : PK} {i : Nat} {w w' : World} {t t' : TV} (hD : k.D = D) (hs : k.sz = sz) (ha : t.v.a ≤ 1 + 2 * i) (hb : t.v.b ≤ 1 + i) (hw : Below B0 w1 w) (hB : B0 ≤ w.heap.size) (hg : ∀ g, TF k P t g → B0 ≤ g) (h : TE k Bx P t w t' w') : DoI D B0 Bx P sz w1 k (i + 1) w' := by
 obtain ⟨h1, h2, h3, h4, h5⟩ := h
 refine ⟨t', hD, hs, h1, by omega, by omega, hw.trans (h2.below hg hB), fun g hg2 => ?_⟩
 rcases h3 g hg2 with e | e
 ·exact hg g e
 ·omega
set_option maxRecDepth 100000 in
set_option maxHeartbeats 4000000 in
theorem does_walk (blocks size hold junk : Int) (v : Value) (xs : List S5) (w : World) (hv : Steps5 w v xs) (hl : xs.length ≤ 1048576) :
  Calls Tryz.prog 3 #[.int .i64 blocks, .int .i64 size, .int .i64 hold, .int .u8 junk, v] w fun e w' => e = .returned (.bool true) ∧ Below w.heap.size w w' := by
 have HFX := Lib.hid (fixed5_any w)
 have HV := Lib.hid hv
 clear hv
 go_enter Tryz.func3, Tryz.ntmps3
 go_wp2_with fail
 refine HFX.out.mono ?_
 rintro e w1 ⟨rfl, hb1⟩
 have HB1 := Lib.hid hb1
 clear hb1 HFX
 go_wp2_with fail
 by_cases hn : blocks < 1 ∨ 4096 < blocks
 ·have HLN := Lib.hid (laid_no blocks junk w1 hn)
  refine HLN.out.mono ?_
  rintro e w2 ⟨rfl, hb2⟩
  have HB2 := Lib.hid hb2
  clear hb2 HLN
  by_cases h1 : blocks < 1
  ·clear hn
   go_wp2_with fail
   go_ret
   exact ⟨rfl, HB1.out.trans (HB2.out.mono HB1.out.size)⟩
  ·have h2 : blocks > 4096 := by omega
   clear hn
   go_wp2_with fail
   go_ret
   exact ⟨rfl, HB1.out.trans (HB2.out.mono HB1.out.size)⟩
 ·obtain ⟨nb, rfl⟩ : ∃ nb : Nat, blocks = (nb : Int) := ⟨blocks.toNat, by omega⟩
  have hn1 : 1 ≤ nb ∧ nb ≤ 4096 := by omega
  refine (laid_any nb junk w1 hn1.1 hn1.2).mono ?_
  rintro e w2 ⟨ga, rfl, hld, hb2⟩
  have HLD := Lib.hid hld
  have HB2 := Lib.hid hb2
  have HN := Lib.hid hn1
  clear hld hb2 hn hn1
  by_cases hs : 3 ≤ size ∧ size < (nb : Int)
  ·obtain ⟨sz, rfl⟩ : ∃ sz : Nat, size = (sz : Int) := ⟨size.toNat, by omega⟩
   have HST := Lib.hid (two_start HLD.out sz (by omega) (by omega) HN.out.2 hold HB2.out.size)
   clear hs
   go_wp2_with fail
   refine HST.out.mono ?_
   rintro e w3 ⟨rfl, hop⟩
   have HOP := Lib.hid (hop w3 (Below.refl _ _))
   clear hop HST
   go_wp2_with fail
   refine HOP.out.mono ?_
   rintro e w4 ⟨k, hkD, hks, hkn, rfl, hnw⟩
   have HNW := Lib.hid (hnw w4 (Below.refl _ _))
   have HK := Lib.hid (And.intro hkD hks)
   clear hnw hkD hks hkn HOP
   go_wp2_with fail
   refine HNW.out.mono ?_
   rintro e w5 ⟨Bx, P, t, rfl, htw, hta, htb, hbe, htf⟩
   have HI0 := Lib.hid (show DoI (w1.heap.size + 1) w1.heap.size Bx P (sz : Int) w1 k 0 w5 from ⟨t, HK.out.1, HK.out.2, htw, by omega, by omega, HB2.out.trans hbe, htf⟩)
   clear htw hta htb hbe htf HNW
   obtain ⟨va, vc, rfl, -⟩ := HV.out
   go_wp2_with fail
   go_loopw [14, 17] (fun pv iv wr => ∃ (k : PK) (i : Nat), pv = .pointer (some ⟨k.P, 0, none⟩) ∧ iv = .int .i64 (i : Int) ∧ i ≤ xs.length ∧ DoI (w1.heap.size + 1) w1.heap.size Bx P (sz : Int) w1 k i wr) (fun _ iv _ => xs.length - (intOf iv).toNat)
   case atStart => exact ⟨k, 0, rfl, rfl, Nat.zero_le _, HI0.out⟩
   case round =>
    clear HI0 HK
    obtain ⟨k, i, rfl, rfl, hi, hI⟩ := hrel
    have HI := Lib.hid hI
    obtain ⟨t, hkD, hks, htw, hta, htb, hbw, htf⟩ := hI
    by_cases hlt : i < xs.length
    ·have HTW := Lib.hid htw
     have HQ := Lib.hid (And.intro hkD (And.intro hks (And.intro hta (And.intro htb (And.intro hbw htf)))))
     have hvw := (HV.out.below HB1.out).below hbw
     obtain ⟨a', cap', hv', hvc⟩ := hvw
     simp only [Value.slice.injEq, true_and] at hv'
     obtain ⟨rfl, rfl⟩ := hv'
     obtain ⟨vb, vo, hva, hvl, hvx⟩ := hvc (by omega)
     subst hva
     obtain ⟨x, hx⟩ : ∃ x, xs[i]? = some x := ⟨_, List.getElem?_eq_getElem hlt⟩
     obtain ⟨c0, c1, c2, hok⟩ := hvx i x hx
     obtain ⟨xk, xn, xb⟩ := x
     have HOK := Lib.hid hok
     simp only at c0 c1 c2
     have hai : i ≤ 1048576 := by omega
     by_cases hk8 : xk = 8
     ·subst hk8
      have HOP := Lib.hid (two_reopen htw hold)
      rw [hkD, hks] at HOP
      clear hkD hks htw hta htb hbw htf hvc hvl hvx hx hok
      go_wp2_with fail
      refine HOP.out.mono ?_
      rintro e w6 ⟨k', q1, q2, q3, q4, q5, q6, rfl, hnx⟩
      have HNX := Lib.hid (hnx w6 (Below.refl _ _))
      have HK' := Lib.hid (And.intro q2 q6)
      clear hnx q1 q2 q3 q4 q5 q6 HOP
      go_wp2_with fail
      refine HNX.out.mono ?_
      rintro e w7 ⟨rfl, t', r1, r2, r3, r4, r5⟩
      have HR := Lib.hid (And.intro r1 (And.intro r2 (And.intro r3 (And.intro r4 r5))))
      clear r1 r2 r3 r4 r5 HNX
      go_wp2_with fail
      go_roundw
      case rel =>
       obtain ⟨hkD, hks, hta, htb, hbw, htf⟩ := HQ.out
       obtain ⟨r1, r2, r3, r4, r5⟩ := HR.out
       have hs1 := hbw.size
       refine ⟨k', i + 1, rfl, by go_num, by omega, t', HK'.out.1, HK'.out.2, r1, by omega, by omega, hbw.trans (r2.below htf (by omega)), fun g hg => ?_⟩
       rcases r3 g hg with e | e
       ·exact htf g e
       ·omega
      case measure => simp [intOf]; omega
     ·have HSP := Lib.hid (step5_any htw xk xn xb hok.hn.2 hok.hb.1 (by have h9 : xb ≤ 255 := hok.hb.2; omega) (by omega) (by omega))
      clear hkD hks htw hta htb hbw htf hvc hvl hvx hx hok
      go_wp2_with fail
      refine HSP.out.mono ?_
      rintro e w6 ⟨rfl, t', hte⟩
      have HTE := Lib.hid hte
      clear hte HSP
      go_wp2_with fail
      go_roundw
      case rel =>
       obtain ⟨hkD, hks, hta, htb, hbw, htf⟩ := HQ.out
       have hs1 := hbw.size
       exact ⟨k, i + 1, rfl, by go_num, by omega, DoI.te hkD hks hta htb hbw (by omega) htf HTE.out⟩
      case measure => simp [intOf]; omega
    ·have hlt2 : ¬ (i : Int) < (xs.length : Int) := by omega
     have HSM := Lib.hid (same5_any htw)
     have HQ := Lib.hid (And.intro hkD (And.intro hks (And.intro hbw htf)))
     clear hkD hks htw hta htb hbw htf hlt
     go_wp2_with fail
     refine HSM.out.mono ?_
     rintro e w6 ⟨rfl, t1, htl⟩
     have HTL := Lib.hid htl
     have hop := two_reopen htl.1 hold
     rw [HQ.out.1, HQ.out.2.1] at hop
     have HOP := Lib.hid hop
     clear htl hop HSM
     go_wp2_with fail
     refine HOP.out.mono ?_
     rintro e w7 ⟨k', q1, q2, q3, q4, q5, q6, rfl, hnx⟩
     have HNX := Lib.hid (hnx w7 (Below.refl _ _))
     clear hnx q1 q2 q3 q4 q5 q6 HOP
     go_wp2_with fail
     refine HNX.out.mono ?_
     rintro e w8 ⟨rfl, t2, r1, r2, r3, r4, r5⟩
     have HR := Lib.hid (And.intro r2 r3)
     have HSM := Lib.hid (same5_any r1)
     clear r1 r2 r3 r4 r5 HNX
     go_wp2_with fail
     refine HSM.out.mono ?_
     rintro e w9 ⟨rfl, t3, htl⟩
     have HTL3 := Lib.hid htl
     clear htl HSM
     go_wp2_with fail
     go_ret
     refine ⟨by simp, ?_⟩
     obtain ⟨hkD, hks, hbw, htf⟩ := HQ.out
     have hs1 := hbw.size
     have s6 : Below w1.heap.size w1 w6 := hbw.trans (HTL.out.2.1.below htf hs1)
     have f1 : ∀ g, TF k P t1 g → w1.heap.size ≤ g := fun g hg => by
      rcases HTL.out.2.2 g hg with e | e
      ·exact htf g e
      ·omega
     have s8 : Below w1.heap.size w1 w8 := s6.trans (HR.out.1.below f1 s6.size)
     have f2 : ∀ g, TF k' P t2 g → w1.heap.size ≤ g := fun g hg => by
      rcases HR.out.2 g hg with e | e
      ·exact f1 g e
      ·have := s6.size; omega
     have s9 : Below w1.heap.size w1 w9 := s8.trans (HTL3.out.2.1.below f2 s8.size)
     exact HB1.out.trans (s9.mono HB1.out.size)
  ·obtain ⟨f, L, lv, bs, q1, q2⟩ := HLD.out
   have HFN := Lib.hid (pformat_no w1.heap.size (w1.heap.size + 1) w1.heap.size (nb : Int) (nb : Int) (-1) size false f L lv w2 q1 hs)
   have HSN := Lib.hid (show size < 3 ∨ (nb : Int) ≤ size by omega)
   have HS := Lib.hid hs
   have HQ1 := Lib.hid q1
   clear hs q1 q2
   go_wp2_with fail
   refine HFN.out.mono ?_
   rintro e w3 ⟨rfl, hb3⟩
   have HON := Lib.hid (popen_no w1.heap.size (w1.heap.size + 1) w1.heap.size (nb : Int) (nb : Int) (-1) size hold false f L lv w3 (HQ1.out.chg (Chg.fresh (F := fun _ => False) hb3) (fun _ _ h => h)) HS.out)
   have HB3 := Lib.hid hb3
   clear hb3 HFN
   go_wp2_with fail
   refine HON.out.mono ?_
   rintro e w4 ⟨rfl, hb4⟩
   have HB4 := Lib.hid hb4
   have HNN := Lib.hid (rnew_no _ nb ga size w4 rfl HSN.out)
   clear hb4 HON
   go_wp2_with fail
   refine HNN.out.mono ?_
   rintro e w5 ⟨rfl, hb5⟩
   have HB5 := Lib.hid hb5
   clear hb5 HNN
   go_wp2_with fail
   go_ret
   refine ⟨rfl, ?_⟩
   have s2 : Below w1.heap.size w1 w3 := HB2.out.trans (HB3.out.mono HB2.out.size)
   have s3 := s2.trans (HB4.out.mono s2.size)
   have s4 := s3.trans (HB5.out.mono s3.size)
   exact HB1.out.trans (s4.mono HB1.out.size)
end Go.Proofs.YtfknlheflaccaaaGreat
namespace Go.Proofs.YtfknlheflaccaaaGreat
open Go.ChangeShapes Go.WideShapes Go.ChangeAt Go.RowKit Go.Deep
section
variable {H : Type} {enc : TypeId × Value → H} {W : World}
set_option maxRecDepth 100000 in
theorem steps5_of_trod {v : Value} {d : DataW H} {p : List MemPlace} {b : Nat}
    (hok : Value.okWide Tryz.prog W .any b 22 v) (h : DataW.Trod enc Tryz.prog W 0 (fun _ => true) true 22 v d p) (hB : Rows.uptoBulk d ≤ 1048576) :
    ∃ r : List S5, Steps5 W v r ∧ r.length ≤ 1048576 := by
  obtain ⟨a0, len, cap, rfl⟩ := okWide_slice Tryz.underlying22 hok
  obtain ⟨fuel, hf⟩ := h
  rcases open_slice_fields Tryz.underlying22 Tryz.underlying36 (by kernel_rfl) (by kernel_rfl) hf with ⟨hcs, hx⟩ | ⟨a, len', cap', m, D, Pl, hcs, _, hl, _, hm, hx, hi⟩
  · simp [Value.cells] at hcs
    obtain ⟨rfl, rfl, rfl⟩ := hcs
    exact ⟨[], ⟨none, 0, rfl, fun h => by simp at h⟩, Nat.zero_le _⟩
  · simp [Value.cells] at hcs
    obtain ⟨rfl, rfl, rfl⟩ := hcs
    simp only [if_true] at hm
    simp only [Prod.mk.injEq] at hx
    obtain ⟨rfl, _⟩ := hx
    have hlen : len ≤ 1048576 := by
      have := bulk_len (H := H) ((List.range len).map D)
      simp only [Rows.uptoBulk, List.length_map, List.length_range] at this hB
      omega
    have hx : ∀ i, i < len → ∃ x : S5, W.cell? (a.add (i * 3 + 0)) = some (.int .i64 x.k) ∧ W.cell? (a.add (i * 3 + 1)) = some (.int .i64 x.n) ∧ W.cell? (a.add (i * 3 + 2)) = some (.int .u8 x.b) ∧ x.OK := by
      intro i him
      obtain ⟨ys, n, hD, _, hlen, hfd⟩ := hi i (by omega)
      obtain ⟨v0, y0, c0, e0, t0⟩ := hfd 0 _ rfl
      obtain ⟨v1, y1, c1, e1, t1⟩ := hfd 1 _ rfl
      obtain ⟨v2, y2, c2, e2, t2⟩ := hfd 2 _ rfl
      obtain ⟨n0, g0, rfl, w0⟩ := DataW.trod_int Tryz.underlying3 t0
      obtain ⟨n1, g1, rfl, w1⟩ := DataW.trod_int Tryz.underlying3 t1
      obtain ⟨n2, g2, rfl, w2⟩ := DataW.trod_int Tryz.underlying5 t2
      simp only [List.cons.injEq, and_true] at g0 g1 g2
      subst g0 g1 g2
      exact ⟨⟨n0, n1, n2⟩, c0, c1, c2, ⟨i64_of_wf w0, i64_of_wf w1, u8_of_wf w2⟩⟩
    obtain ⟨f, hf⟩ : ∃ f : Nat → S5, ∀ i, i < len → W.cell? (a.add (i * 3 + 0)) = some (.int .i64 (f i).k) ∧ W.cell? (a.add (i * 3 + 1)) = some (.int .i64 (f i).n) ∧ W.cell? (a.add (i * 3 + 2)) = some (.int .u8 (f i).b) ∧ (f i).OK :=
      ⟨fun i => if h : i < len then Classical.choose (hx i h) else ⟨0, 0, 0⟩, fun i h => by simp only [dif_pos h]; exact Classical.choose_spec (hx i h)⟩
    refine ⟨(List.range len).map f, ⟨some a, cap, by simp, fun hl0 => ?_⟩, by simpa using hlen⟩
    simp only [List.length_map, List.length_range] at hl0
    have h0 := (hf 0 (by omega)).1
    have hsp := World.cell?_spot h0
    have hlt := World.block_lt_of_cell? _ _ h0
    obtain ⟨ab, ao, asp⟩ := a
    have hsp' : asp = none := by simpa [Addr.add] using hsp
    subst hsp'
    refine ⟨ab, ao, rfl, by simpa [Addr.add] using hlt, fun i x hx => ?_⟩
    have hil : i < len := by have := (List.getElem?_eq_some_iff.1 hx).1; simpa using this
    rw [List.getElem?_map, List.getElem?_range hil] at hx
    simp only [Option.map_some, Option.some.injEq] at hx
    subst hx
    obtain ⟨h1, h2, h3, h4⟩ := hf i hil
    rw [add_none] at h1 h2 h3
    exact ⟨h1, h2, h3, h4⟩
end
namespace plainPageDoes
set_option maxRecDepth 100000 in
theorem contract (H : Type) (enc : TypeId × Value → H) (W : World) (base : Nat) (args : Array Value) (ds gs : List (DataW H)) (before : List MemPlace)
  (hval : ∀ (j : Nat) t v, Tryz.f3.params[j]? = some t → args[j]? = some v → Value.okWide Tryz.prog W .any base t v)
  (hW : DataW.Whole enc Tryz.prog Tryz.f3.params.toList Rows.pageDoesSpec.vars false W args.toList ds gs before) (hk : Rows.uptoSmall H (ds ++ gs) = true) :
  Calls Tryz.prog 3 args W fun e W' => ∃ v, e = .returned v ∧ Rows.pageDoesSpec.post enc Tryz.prog Tryz.f3 false true false false W args v W' := by
 have hW' := hW
 obtain ⟨p, q, hA0, hV, rfl, hfz, hnd⟩ := hW
 have hA : DataW.TrodAll enc Tryz.prog W 0 (fun _ => true) true Tryz.f3.params.toList args.toList ds p := hA0
 rw [Tryz.params3] at hA hval
 obtain ⟨v0, vs0, d0, ds0, p0, q0, hargs, rfl, rfl, h0, r0⟩ := trodAll_cons hA
 obtain ⟨v1, vs1, d1, ds1, p1, q1, rfl, rfl, rfl, h1, r1⟩ := trodAll_cons r0
 obtain ⟨v2, vs2, d2, ds2, p2, q2, rfl, rfl, rfl, h2, r2⟩ := trodAll_cons r1
 obtain ⟨v3, vs3, d3, ds3, p3, q3, rfl, rfl, rfl, h3, r3⟩ := trodAll_cons r2
 obtain ⟨v4, vs4, d4, ds4, p4, q4, rfl, rfl, rfl, h4, r4⟩ := trodAll_cons r3
 obtain ⟨rfl, rfl, rfl⟩ := trodAll_nil r4
 obtain rfl : args = #[v0, v1, v2, v3, v4] := by cases args; simp_all
 obtain ⟨rfl, rfl⟩ := trodVars_none hV
 have hbulk : Rows.uptoBulkAll ([d0, d1, d2, d3, d4] ++ []) ≤ 1048576 := of_decide_eq_true hk
 simp only [List.append_nil, Rows.uptoBulkAll] at hbulk
 obtain ⟨a0, rfl, rfl, rfl, g0⟩ := open_int Tryz.underlying3 (hval 0 3 v0 rfl rfl) h0
 replace g0 := i64_of_wf g0
 obtain ⟨a1, rfl, rfl, rfl, g1⟩ := open_int Tryz.underlying3 (hval 1 3 v1 rfl rfl) h1
 replace g1 := i64_of_wf g1
 obtain ⟨a2, rfl, rfl, rfl, g2⟩ := open_int Tryz.underlying3 (hval 2 3 v2 rfl rfl) h2
 replace g2 := i64_of_wf g2
 obtain ⟨a4, b4, g4⟩ := steps5_of_trod (hval 4 22 v4 rfl rfl) h4 (by omega)
 obtain ⟨a3, rfl, rfl, rfl, g3⟩ := open_int Tryz.underlying5 (hval 3 5 v3 rfl rfl) h3
 replace g3 := u8_of_wf g3
 refine (does_walk a0 a1 a2 a3 v4 a4 W b4 g4).mono fun e W' ⟨he, hb⟩ => ⟨_, he, ?_⟩
 exact law_post (T := 4) laidOut (by rw [Tryz.params3]; decide +kernel) rfl rfl Tryz.underlying4 (fun gs h => by subst h; rfl) hW' hb
set_option maxRecDepth 100000 in
theorem lifted (os : Os) (started : os.Started) (H : Type) (enc : TypeId × Value → H) (F : Stop.Interp) :
  ReturnsInHanded {} Tryz.checked os 3 .any ((Rows.OpenSpec.upto Rows.pageDoesSpec).pre6 enc Tryz.prog Tryz.f3 Rows.pageDoesUptoRow.domain false) (((Rows.OpenSpec.upto Rows.pageDoesSpec).at F).post enc Tryz.prog Tryz.f3 false true false false) := by
 refine returnsInHanded_of_cond (C := Tryz.checked) (s := Rows.OpenSpec.upto Rows.pageDoesSpec) (k := Rows.uptoSmall) rfl own started (by kernel_rfl) Tryz.func3
  (OpenSpec.witness (enc := enc) (C := Tryz.checked) (s := Rows.OpenSpec.upto Rows.pageDoesSpec) (k := Rows.uptoSmall) rfl false ⟨#[], #[.int .i64 0, .int .i64 0, .int .i64 0, .int .u8 0, .slice none 0 0], []⟩ 8 (by kernel_rfl) (by kernel_rfl) (by kernel_rfl)
   (x := ([.lit (.int .i64 0), .lit (.int .i64 0), .lit (.int .i64 0), .lit (.int .u8 0), .nil], [], [])) (by kernel_rfl) rfl (by kernel_rfl)) ?_
 intro W base args ds gs before hval hW _ hk _
 exact contract H enc W base args ds gs before hval hW hk
theorem over : Rows.pageDoesUptoRow.holds Tryz.pinned (Rows.OpenSpec.upto Rows.pageDoesSpec) :=
 OpenClaim.holds_of_cond 3 Tryz.f3 rfl rfl rfl rfl rfl rfl rfl ⟨rfl, rfl, rfl, rfl, rfl⟩ rfl rfl rfl rfl rfl (by kernel_rfl) Tryz.func3 (by kernel_rfl)
  (of_decide_eq_true (by kernel_rfl)) (by unfold Func.isWrapper; first | (rw [if_pos (by decide +kernel)]; kernel_rfl) | (rw [if_neg (by decide +kernel)]; exact ⟨rfl, rfl⟩))
  (fun os started H enc _ F => lifted os started H enc F)
/-- the statement, its second form -/
theorem proved : Rows.PageDoesUptoSaid := over
end plainPageDoes
theorem pageDoesUpto : Rows.PageDoesUptoSaid := plainPageDoes.proved
end Go.Proofs.YtfknlheflaccaaaGreat
