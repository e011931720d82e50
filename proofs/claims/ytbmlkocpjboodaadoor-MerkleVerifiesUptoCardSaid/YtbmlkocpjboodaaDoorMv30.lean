/-
 MerkleVerifies: for any digest, range and bytes (of bulk at most 1048576): what is taken as a proof, and what is wrong with it first, is as the document says. Conditions: the second form's bound; the table sha.constants as the program's text lays it (the card ties it).
-/
import Derived.Test.YtbmlkocpjboodaaDoorMv19
import Derived.Test.YtbmlkocpjboodaaDoorMv29
import Derived.Test.YtbmlkocpjboodaaDoorCards
import Derived.Test.YtbmlkocpjboodaaDoorTie
namespace Go.Proofs.YtbmlkocpjboodaaDoor
open Go.RowKit
open Go.Lib (hid)
def codeO : Int ⊕ List (List Int × Nat) → Int
 | .inl c => c
 | .inr _ => 0
def listO : Int ⊕ List (List Int × Nat) → List (List Int × Nat)
 | .inl _ => []
 | .inr es => es
theorem VEndW.both {w w' : World} {d : Ending} {r : Int ⊕ List (List Int × Nat)} (h : VEndW w d w' r) : ∃ v, d = .returned (.tuple #[v, .int .i64 (codeO r)]) ∧ EnNW w w' v (listO r) ∧ Below w.heap.size w w' := by
 cases r with
 | inl c => exact ⟨_, h.2.1, ⟨fun _ => False, EnRW.nil _ _ _, fun _ h => h.elim⟩, h.2.2⟩
 | inr es => exact h
theorem VEndR.both {w w' : World} {d : Ending} {r : Int ⊕ List (List Int × Nat)} (h : VEndR w d w' r) : ∃ v, d = .returned (.tuple #[v, .int .i64 (codeO r)]) ∧ RfO w' w.heap.size v (listO r) ∧ Below w.heap.size w w' := by
 cases r with
 | inl c => exact ⟨_, h.2.1, RfO.nil _ _, h.2.2⟩
 | inr es => exact h
theorem ino_klen : ∀ t : MT, t.Good → ∀ x ∈ t.ino, x.1.length ≤ 65535
 | .nil, _, x, h => by cases h
 | .cut _, _, x, h => by cases h
 | .nd k n rk d l r, g, x, h => by
  obtain ⟨-, gl, gr, hk, -⟩ := g
  have h' : x ∈ l.ino ++ (k, n) :: r.ino := h
  rcases List.mem_append.1 h' with h1 | h1
  ·exact ino_klen l gl x h1
  ·rcases List.mem_cons.1 h1 with rfl | h1
   ·exact hk
   ·exact ino_klen r gr x h1
theorem listO_ok (root fr to : List Int) (e : Bool) (pf : List Int) (gp : Rng pf) (hl : pf.length ≤ 1048576) : (∀ x ∈ listO (verO root fr to e pf), Rng x.1 ∧ x.1.length ≤ 65535) ∧ (listO (verO root fr to e pf)).length ≤ 1048576 := by
 cases hv : verO root fr to e pf with
 | inl c => exact ⟨fun x hx => (by cases hx), Nat.zero_le _⟩
 | inr es =>
  obtain ⟨t, ht, rfl⟩ := verO_inr hv
  have hg := rdAll_ok gp ht
  refine ⟨fun x hx => ?_, Nat.le_trans (MT.ents_le fr to e t) (Nat.le_trans (rdAll_len ht) hl)⟩
  have hx' : x ∈ t.ents fr to e := hx
  rw [ents_ino] at hx'
  have h2 := (List.mem_filter.1 hx').1
  exact ⟨ino_rng t hg x h2, ino_klen t hg x h2⟩
theorem own_nil0 (u : World) (B : Nat) (hB : B ≤ u.heap.size) : Own (u.alloc (.cells #[] 5)) B (.slice (some ⟨u.heap.size, 0, none⟩) 0 0) [] := ⟨rfl, .inr ⟨_, 0, #[], rfl, hB, heap_alloc_new _ _, Nat.le_refl _, Nat.zero_le _, rfl, rfl⟩⟩
theorem ens_below {w w' : World} {v : Value} {es : List (List Int × Nat)} (h : EnS w v es) (hb : Below w.heap.size w w') : EnS w' v es := by
 obtain ⟨a, c, e, h⟩ := h
 refine ⟨a, c, e, fun i x hx => ?_⟩
 obtain ⟨g, kv, h1, h2, h3, h4, h5⟩ := h i x hx
 exact ⟨g, kv, h1, Nat.lt_of_lt_of_le h2 hb.size, (World.cell?_of_block (a := ⟨g, i * 2, none⟩) (hb.block g h2)).trans h3, (World.cell?_of_block (a := ⟨g, i * 2 + 1, none⟩) (hb.block g h2)).trans h4, h5.below hb⟩
set_option maxRecDepth 100000 in
set_option maxHeartbeats 8000000 in
theorem verifies_walk (w : World) (root fr to : List Int) (e : Bool) (vp : Value) (pf : List Int) (hr : root.length = 32) (hp : Bs w vp pf) (gp : Rng pf) (hl : pf.length ≤ 1048576) (g1 : Rng fr) (g2 : Rng to) (hK : KC w) :
  Calls Tryd.prog 5 #[.agg (ArrU8 root), .agg #[.string (str fr), .string (str to), .bool e], vp] w fun d w' => d = .returned (.bool true) ∧ Below w.heap.size w w' := by
 obtain ⟨ap, np, cp, rfl, hnp⟩ : ∃ a n c, vp = .slice a n c ∧ pf.length = n := by obtain ⟨a, c, h, _⟩ := hp; exact ⟨a, _, c, h, rfl⟩
 have HKG := hid hK.1
 have HLV := hid (fun u (hu : Below w.heap.size w u) v (hv : Bs u v pf) => lawVerifyW_any u root fr to e v pf hr hv g1 g2 gp (hK.below hu hK.1) (fun t ht => by have := MT.ents_le fr to e t; have := rdAll_len ht; omega))
 have HRV := hid (fun u (hu : Below w.heap.size w u) => refVerify_any u root fr to e ap cp np pf hr hnp (hp.below hu) g1 g2 gp hl)
 have hok := listO_ok root fr to e pf gp hl
 generalize verO root fr to e pf = VO at *
 have HOK := hid hok
 have HPR0 := hid hp.kis
 have HIM := hid (show (Tryd.prog.info? 35).map (·.size) = some (root.map (Value.int .u8)).length by rw [List.length_map, hr]; exact (info_re32 root hr).trans (by rw [sz32 root hr]))
 have HLN := hid (show (0 : Nat) + pf.length ≤ 1099511627776 by omega)
 have HKC := hid hK
 have hb0 : Below w.heap.size w ((w.alloc (.cells (ArrU8 root) 35)).alloc (.cells #[.string (str fr), .string (str to), .bool e] 24)) := ((Below.refl _ _).alloc (Nat.le_refl _) _).alloc (by simp) _
 have hx0 : ((w.alloc (.cells (ArrU8 root) 35)).alloc (.cells #[.string (str fr), .string (str to), .bool e] 24)).heap[w.heap.size]? = some (.cells (ArrU8 root) 35 (0, 0)) := (heap_alloc_old _ _ (by simp)).trans (heap_alloc_new _ _)
 have hx1 : ((w.alloc (.cells (ArrU8 root) 35)).alloc (.cells #[.string (str fr), .string (str to), .bool e] 24)).heap[w.heap.size + 1]? = some (.cells #[.string (str fr), .string (str to), .bool e] 24 (0, 0)) := by
  have q := heap_alloc_new (w.alloc (.cells (ArrU8 root) 35)) (.cells #[.string (str fr), .string (str to), .bool e] 24)
  rwa [World.size_alloc] at q
 have HB0 := hid (And.intro hb0 (And.intro hx0 hx1))
 clear hr hp gp hl g1 g2 hK hok hnp hb0 hx0 hx1
 go_enter Tryd.func5, Tryd.ntmps5
 go_wp2_with fail
 generalize (w.alloc (.cells (ArrU8 root) 35)).alloc (.cells #[.string (str fr), .string (str to), .bool e] 24) = w0 at *
 refine (fixed_any w0 (HKC.out.below HB0.out.1 HKG.out)).mono ?_
 rintro d w1 ⟨rfl, hb1⟩
 have HB1 := hid (HB0.out.1.trans (hb1.mono HB0.out.1.size))
 have HX1 := hid (And.intro ((hb1.block _ (blk_lt HB0.out.2.1)).trans HB0.out.2.1) ((hb1.block _ (blk_lt HB0.out.2.2)).trans HB0.out.2.2))
 clear hb1 HB0
 go_wp2_with (first
  | (at_builtin; refine wpList_append_OwnT (o := ⟨some 18, _, _, _, _, _⟩) rfl (Operand.tmp 16) (Operand.tmp 17) rfl w1.heap.size (.slice (some ⟨w1.heap.size, 0, none⟩) 0 0) [] rfl (own_nil0 w1 _ (Nat.le_refl _)) (.slice ap np cp) pf rfl ((HPR0.out.1.below HB1.out).below ((Below.refl _ _).alloc (Nat.le_refl _) _)) HLN.out (by rw [World.size_alloc]; omega) ?_; intro v2 w2 ho2 hc2 ht2; have HB2' := hid (show Below w1.heap.size w1 w2 from ((Below.refl _ _).alloc (Nat.le_refl _) _).trans (hc2.below (B := w1.heap.size) (fun q h => by injection h with h; have h : w1.heap.size = q := h; omega) (by rw [World.size_alloc]; omega))); obtain ⟨ao, no, co, rfl⟩ := Own.slc ho2; have HO2 := hid ho2; have HX2 := hid (And.intro ((HB2'.out.block _ (blk_lt HX1.out.1)).trans HX1.out.1) ((HB2'.out.block _ (blk_lt HX1.out.2)).trans HX1.out.2)); have HB2 := hid (HB1.out.trans (HB2'.out.mono HB1.out.size)); have HRG := hid (show w2.rangeAt w.heap.size 0 (root.map (Value.int .u8)) from fun q x hq => by rw [cell_of_row w2 w.heap.size (0 + q) _ _ _ HX2.out.1, Nat.zero_add]; unfold ArrU8; rw [List.getElem?_toArray]; exact hq); have HRB := hid (show w2.rangeAt (w.heap.size + 1) 0 [.string (str fr), .string (str to), .bool e] from fun j x hj => by rw [cell_of_row w2 (w.heap.size + 1) (0 + j) _ _ _ HX2.out.2, Nat.zero_add]; simpa using hj); clear ho2 hc2 ht2)
  | (refine wpList_load_mid rfl 35 (Operand.tmp 3) rfl w.heap.size 0 rfl (root.map (Value.int .u8)) _ HRG.out Tryd.underlying35 rfl HIM.out ?_)
  | (refine wpList_load_mid rfl 24 (Operand.tmp 4) rfl (w.heap.size + 1) 0 rfl [.string (str fr), .string (str to), .bool e] _ HRB.out Tryd.underlying24 rfl (by kernel_rfl) ?_))
 refine (HLV.out w2 HB2.out (.slice ao no co) HO2.out.bs).mono ?_
 rintro d w5 hve
 obtain ⟨vl, rfl, ⟨K, hez, hKq⟩, hb5⟩ := hve.both
 have hsp := hez.z.spr
 have hnb : (((listO VO).map toI).map (fun x => x.1.length)).length ≤ 1048576 ∧ ∀ n ∈ ((listO VO).map toI).map (fun x => x.1.length), n ≤ 1048576 := ⟨by rw [List.length_map, List.length_map]; exact HOK.out.2, fun n hn => by obtain ⟨x, hx, rfl⟩ := List.mem_map.1 hn; obtain ⟨y, hy, rfl⟩ := List.mem_map.1 hx; have := (HOK.out.1 y hy).2; show y.1.length ≤ _; omega⟩
 generalize hns : ((listO VO).map toI).map (fun x => x.1.length) = ns at hsp hnb
 have HNB := hid hnb
 clear hns hnb hve
 obtain ⟨av, cv, rfl⟩ := hsp.form
 have HSP5 := hid hsp
 have HES5 := hid (hez.z.ens).ens
 have HKQ := hid hKq
 have HOWN5 := hid ((HO2.out.bs.kis).below hb5)
 have HB5 := hid (HB2.out.trans (hb5.mono HB2.out.size))
 have HX5 := hid (And.intro ((hb5.block _ (blk_lt HX2.out.1)).trans HX2.out.1) ((hb5.block _ (blk_lt HX2.out.2)).trans HX2.out.2))
 have HSZ := hid HB2.out.size
 have HRG5 := hid (show w5.rangeAt w.heap.size 0 (root.map (Value.int .u8)) from fun q x hq => by
  rw [cell_of_row w5 w.heap.size (0 + q) _ _ _ HX5.out.1, Nat.zero_add]
  unfold ArrU8
  rw [List.getElem?_toArray]
  exact hq)
 have k0 : w5.cell? ⟨w.heap.size + 1, 0, none⟩ = some (.string (str fr)) := cell_of_row _ _ 0 _ _ _ HX5.out.2
 have k1 : w5.cell? ⟨w.heap.size + 1, 1, none⟩ = some (.string (str to)) := cell_of_row _ _ 1 _ _ _ HX5.out.2
 have k2 : w5.cell? ⟨w.heap.size + 1, 2, none⟩ = some (.bool e) := cell_of_row _ _ 2 _ _ _ HX5.out.2
 clear hez hKq hsp hb5 HRG HRB HLV
 go_wp2_with (first
  | (refine wpList_load_mid rfl 35 (Operand.tmp 3) rfl w.heap.size 0 rfl (root.map (Value.int .u8)) _ HRG5.out Tryd.underlying35 rfl HIM.out ?_))
 refine (HRV.out w5 HB5.out).mono ?_
 rintro d w6 hve
 obtain ⟨vm, rfl, hom, hb6⟩ := hve.both
 obtain ⟨am, nm, cm, rfl⟩ : ∃ a n c, vm = .slice a n c := by obtain ⟨a, c, e⟩ := hom.slc; exact ⟨a, _, c, e⟩
 have HB6 := hid (And.intro hb6 (HB5.out.trans (hb6.mono HB5.out.size)))
 have HOM := hid hom.rfs
 have HBK := hid (back_any w6 _ (listO VO) (show EnS w6 (.slice av ns.length cv) (listO VO) from ens_below HES5.out hb6) HOK.out.2)
 generalize codeO VO = cd at *
 clear hve hom hb6 k0 k1 k2 HRV HRG5
 go_wp2_with fail
 refine HBK.out.mono ?_
 rintro d w7 ⟨vb, rfl, hob, hb7⟩
 obtain ⟨ab, nb, cb, rfl⟩ : ∃ a n c, vb = .slice a n c := by obtain ⟨a, c, e⟩ := hob.slc; exact ⟨a, _, c, e⟩
 have HB7 := hid (And.intro (HB6.out.1.trans (hb7.mono HB6.out.1.size)) (HB6.out.2.trans (hb7.mono HB6.out.2.size)))
 have hsm := refSame_any w7 (.slice ab nb cb) (.slice am nm cm) ((listO VO).map toI) ((listO VO).map toI) hob.rfs (HOM.out.below hb7) (toI_rng (fun x hx => (HOK.out.1 x hx).1)) (toI_rng (fun x hx => (HOK.out.1 x hx).1)) (by rw [List.length_map]; have := HOK.out.2; omega)
 rw [decide_eq_true (rfl : (listO VO).map toI = (listO VO).map toI)] at hsm
 have HSM := hid hsm
 clear hob hb7 hsm HBK HOM
 go_wp2_with fail
 refine HSM.out.mono ?_
 rintro d w8 ⟨rfl, hb8⟩
 have HB58 := hid (HB7.out.1.trans (hb8.mono HB7.out.1.size))
 have HB8 := hid (HB7.out.2.trans (hb8.mono HB7.out.2.size))
 have HSP8 := hid (HSP5.out.below HB58.out)
 have HOWN := hid (HOWN5.out.below HB58.out)
 have HPRF := hid (HPR0.out.below HB8.out)
 clear hb8 HSM HB7 HB6
 go_wp2_with (first
  | (refine wpList_of_runG (o := ⟨some 50, _, _, _, _, _⟩) (by rfl) (exec_convP 31 9 (Operand.tmp 49) rfl _ rfl _ (conv_bs _ ao no co pf HOWN.out.1)) ?_)
  | (refine wpList_of_runG (o := ⟨some 52, _, _, _, _, _⟩) (by rfl) (exec_convP 31 9 (Operand.tmp 51) rfl _ rfl _ (conv_bs _ ap np cp pf HPRF.out.1)) ?_))
 go_loopw [57] (fun iv wr => ∃ j : Nat, j ≤ ns.length ∧ iv = .int .i64 (j : Int) ∧ SpI (w8) (fun q => K q ∧ q < w5.heap.size) (.slice av ns.length cv) ns wr) (fun iv _ => ns.length - (intOf iv).toNat)
 case atStart => exact ⟨0, Nat.zero_le _, rfl, ⟨HSP8.out, Chg.refl _ _⟩⟩
 case round =>
  obtain ⟨j, hj, rfl, hsp⟩ := hrel
  by_cases hjl : j < ns.length
  ·obtain ⟨n, hn⟩ : ∃ n, ns[j]? = some n := ⟨_, List.getElem?_eq_getElem hjl⟩
   obtain ⟨a0, c0, e0, hat⟩ := id hsp.1
   injection e0 with e1 e9 e2
   clear e9
   subst e1 e2
   obtain ⟨g, a', c', hag, hFg, hgl, hcell, hw⟩ := hat j n hn
   subst hag
   have HSP1 := hid hsp
   have HJ := hid (And.intro hjl hn)
   have hnb := HNB.out.1
   have hnn := HNB.out.2 n (List.mem_of_getElem? hn)
   have hj0 : (0 : Int) ≤ (j : Int) := by omega
   have hj1 : (j : Int) < (ns.length : Int) := by omega
   clear hat hw hFg hgl hsp hn hjl hj
   go_wp2_with fail
   clear hcell
   go_loopw [66] (fun nv wk => ∃ k : Nat, k ≤ n ∧ nv = .int .i64 (k : Int) ∧ SpI (w8) (fun q => K q ∧ q < w5.heap.size) (.slice (some ⟨g, 0, none⟩) ns.length cv) ns wk) (fun nv _ => n - (intOf nv).toNat)
   case atStart => exact ⟨0, Nat.zero_le _, rfl, HSP1.out⟩
   case round =>
    obtain ⟨k, hk, rfl, hsp⟩ := hrel
    by_cases hkn : k < n
    ·obtain ⟨a1, c1, e1, hat⟩ := id hsp.1
     injection e1 with e1 e9 e2
     clear e9
     subst e1 e2
     obtain ⟨g', a2, c2, hag, hFg, hgl, hcell, hw⟩ := hat j n HJ.out.2
     injection hag with hag
     injection hag with hg1 _ _
     subst hg1
     obtain hw | ⟨b, e3, hFb, hsf⟩ := hw
     ·omega
     subst e3
     obtain ⟨vb, d0⟩ := hsf.get hkn
     have f0 := hsf.frozen hkn
     have hk0 : (0 : Int) ≤ (k : Int) := by omega
     have hk1 : (k : Int) < (n : Int) := by omega
     have HX := hid (And.intro hsp (And.intro hFb hkn))
     clear hat hFg hgl hsf hsp hFb hkn hk
     go_wp2_with fail
     go_roundw
     case rel => exact ⟨k + 1, HX.out.2.2, by go_num, HX.out.1.set HX.out.2.1 k _⟩
     case measure => have := HX.out.2.2; simp [intOf]; omega
    ·have HX := hid hsp
     clear hsp
     go_wp2_with fail
     go_roundw
     case rel => exact ⟨j + 1, HJ.out.1, by go_num, HX.out⟩
     case measure => have := HJ.out.1; simp [intOf]; omega
  ·have HSP := hid hsp
   clear hsp
   have hch := HSP.out.2
   have HOW := hid (HOWN.out.cg hch (fun q hq hs h => by have := HKQ.out q h.1; omega))
   have HPR := hid (HPRF.out.cg hch (fun q hq hs h => by have := HKQ.out q h.1; have := HSZ.out; omega))
   have HBZ := hid (HB8.out.trans (hch.below (B := w.heap.size) (fun q h => by have := HKQ.out q h.1; have := HSZ.out; omega) HB8.out.size))
   clear hch HSP
   go_wp2_with (first
    | (refine wpList_of_run (o := ⟨some 82, _, _, _, _, _⟩) rfl (exec_convP 31 9 (Operand.tmp 81) rfl _ rfl _ (conv_bs _ ao no co pf HOW.out.1)) ?_)
    | (refine wpList_of_run (o := ⟨some 84, _, _, _, _, _⟩) rfl (exec_convP 31 9 (Operand.tmp 83) rfl _ rfl _ (conv_bs _ ap np cp pf HPR.out.1)) ?_))
   go_ret
   exact ⟨rfl, HBZ.out⟩
end Go.Proofs.YtbmlkocpjboodaaDoor
namespace Go.Proofs.YtbmlkocpjboodaaDoor
open Go.ChangeShapes Go.WideShapes Go.ChangeAt Go.RowKit Go.Deep
open Go.Lib (hid)
namespace lawVerifies
theorem laidIt {W : World} (h : laidMetH Tryd.prog Rows.merkleVerifiesUptoRow.laid W) : KC W := by
  have h1 : Lib.TabIs Tryd.prog W "touchmark/sha.constants" .u32 Kt := Lib.tabIs_of_head (rest := []) gTab gTabType Tryd.underlying160 Tryd.underlying97 cells49 cells65 h
  have hc : ∀ t, t < 64 → W.cell? ⟨1, t, none⟩ = some (.int .u32 (Kt[t]?.getD 0)) := fun t ht => by
    have := h1.cell gTab t (by simpa [Kt] using ht)
    rw [this]
    simp [List.getD]
  exact ⟨World.block_lt_of_cell? _ _ (hc 0 (by omega)), hc⟩
set_option maxRecDepth 100000 in
theorem contract (H : Type) (enc : TypeId × Value → H) (W : World) (base : Nat) (args : Array Value) (ds gs : List (DataW H)) (before : List MemPlace)
  (hval : ∀ (j : Nat) t v, Tryd.f5.params[j]? = some t → args[j]? = some v → Value.okWide Tryd.prog W .any base t v)
  (hW : DataW.Whole enc Tryd.prog Tryd.f5.params.toList Rows.merkleVerifiesSpec.vars false W args.toList ds gs before) (hL : laidMetH Tryd.prog Rows.merkleVerifiesUptoRow.laid W) (hk : Rows.uptoSmall H (ds ++ gs) = true) :
  Calls Tryd.prog 5 args W fun e W' => ∃ v, e = .returned v ∧ Rows.merkleVerifiesSpec.post enc Tryd.prog Tryd.f5 false true false false W args v W' := by
 have hW' := hW
 obtain ⟨p, q, hA0, hV, rfl, hfz, hnd⟩ := hW
 have hA : DataW.TrodAll enc Tryd.prog W 0 (fun _ => true) true Tryd.f5.params.toList args.toList ds p := hA0
 rw [Tryd.params5] at hA hval
 obtain ⟨v0, vs0, d0, ds0, p0, q0, hargs, rfl, rfl, h0, r0⟩ := trodAll_cons hA
 obtain ⟨v1, vs1, d1, ds1, p1, q1, rfl, rfl, rfl, h1, r1⟩ := trodAll_cons r0
 obtain ⟨v2, vs2, d2, ds2, p2, q2, rfl, rfl, rfl, h2, r2⟩ := trodAll_cons r1
 obtain ⟨rfl, rfl, rfl⟩ := trodAll_nil r2
 obtain rfl : args = #[v0, v1, v2] := by cases args; simp_all
 obtain ⟨rfl, rfl⟩ := trodVars_none hV
 obtain ⟨a2, b2, g2, j2⟩ := bs_of_trod Tryd.underlying31 Tryd.underlying5 cells5 (hval 2 31 v2 rfl rfl) h2
 have hbulk : Rows.uptoBulkAll ([d0, d1, d2] ++ []) ≤ 1048576 := of_decide_eq_true hk
 simp only [List.append_nil, Rows.uptoBulkAll] at hbulk
 obtain ⟨a0, rfl, -, b0⟩ := dig_of_trod (hval 0 35 v0 rfl rfl) h0
 obtain ⟨f1, t1, e1, rfl, g1, k1, -, -⟩ := rng_of_trod (hval 1 24 v1 rfl rfl) h1 (by omega)
 refine (verifies_walk W a0 f1 t1 e1 v2 a2 b0 b2 g2 (by omega) g1 k1 (laidIt hL)).mono fun e W' ⟨he, hb⟩ => ⟨_, he, ?_⟩
 exact law_post (T := 4) laidOut (by rw [Tryd.params5]; decide +kernel) rfl rfl Tryd.underlying4 (fun gs h => by subst h; rfl) hW' hb
theorem laid_met (os : Os) : laidMet Tryd.prog Rows.merkleVerifiesUptoRow.laid ((laidWorld os).forCall (fun _ _ => 0) ⟨#[], #[.agg (ArrU8 (zeros 32)), .agg #[.string ⟨#[]⟩, .string ⟨#[]⟩, .bool false], .slice none 0 0], []⟩).memory :=
 laidMet_of_run' 8 (by kernel_rfl) (by kernel_rfl)
theorem reads (os : Os) {H : Type} (enc : TypeId × Value → H) : ∃ places, DataW.whole enc Tryd.prog ((laidWorld os).forCall (fun _ _ => 0) ⟨#[], #[.agg (ArrU8 (zeros 32)), .agg #[.string ⟨#[]⟩, .string ⟨#[]⟩, .bool false], .slice none 0 0], []⟩).memory Tryd.f5.params.toList Rows.merkleVerifiesSpec.vars false #[Value.agg (ArrU8 (zeros 32)), Value.agg #[.string ⟨#[]⟩, .string ⟨#[]⟩, .bool false], Value.slice none 0 0].toList 8 = some ([.agg (List.replicate 32 (.lit (.int .u8 0))), .agg [.lit (.string []), .lit (.string []), .lit (.bool false)], .nil], [], places) :=
 ⟨[], by kernel_rfl⟩
set_option maxRecDepth 100000 in
theorem liftedUpto (os : Os) (started : os.Started) (H : Type) (enc : TypeId × Value → H) (F : Stop.Interp) :
  ReturnsInHanded {} Tryd.checked os 5 .any ((Rows.OpenSpec.upto Rows.merkleVerifiesSpec).preRow enc Tryd.prog Tryd.f5 Rows.merkleVerifiesUptoRow.domain false Rows.merkleVerifiesUptoRow.laid) (((Rows.OpenSpec.upto Rows.merkleVerifiesSpec).at F).post enc Tryd.prog Tryd.f5 false true false false) := by
 obtain ⟨places, hx⟩ := reads os enc
 refine returnsInHanded_of_row (C := Tryd.checked) (s := Rows.OpenSpec.upto Rows.merkleVerifiesSpec) own started (by kernel_rfl) Tryd.func5
  (witness_row_at (enc := enc) (C := Tryd.checked) false (laidWorld os) #[.agg (ArrU8 (zeros 32)), .agg #[.string ⟨#[]⟩, .string ⟨#[]⟩, .bool false], .slice none 0 0] rfl (by kernel_rfl) (by kernel_rfl) (by kernel_rfl)
   (OpenSpec.preRow_of_cond 8 hx (by kernel_rfl) (fun k hk => by cases hk; kernel_rfl) (by kernel_rfl) (laid_met os))) ?_
 intro W base args ds gs before hval hW _ hcond _ hL _ _
 exact contract H enc W base args ds gs before hval hW hL (hcond _ rfl)
theorem saidUpto : Rows.MerkleVerifiesUptoSaid :=
 OpenClaim.holds_of_cond 5 Tryd.f5 rfl rfl rfl rfl rfl rfl rfl ⟨rfl, rfl, rfl, rfl, rfl⟩ rfl rfl rfl rfl rfl (by kernel_rfl) Tryd.func5 (by kernel_rfl)
  (of_decide_eq_true (by kernel_rfl)) (by unfold Func.isWrapper; first | (rw [if_pos (by decide +kernel)]; kernel_rfl) | (rw [if_neg (by decide +kernel)]; exact ⟨rfl, rfl⟩))
  (fun os started H enc _ F => by rw [OpenClaim.pre_eq_preRow]; exact liftedUpto os started H enc F)
theorem plain (f : FuncId) (fn : Func) (hf : Tryd.pinned.checked.prog.funcNamed "touchmark/touchmarklaw07.MerkleVerifies" = some f) (hfn : Tryd.pinned.checked.prog.funcs[f]? = some fn) :
  false = Tryd.pinned.checked.prog.looks [] ∧ ∀ (j : Nat) t, fn.params[j]? = some t → Tryd.pinned.checked.prog.wantsStandIn t = false := by
 obtain rfl : f = 5 := Option.some.inj ((show Tryd.prog.funcNamed "touchmark/touchmarklaw07.MerkleVerifies" = some 5 by kernel_rfl).symm.trans hf) |>.symm
 obtain rfl : fn = Tryd.f5 := (Option.some.inj (Tryd.func5.symm.trans hfn)).symm
 refine ⟨by kernel_rfl, fun j t ht => ?_⟩
 have hm := Array.mem_of_getElem? ht
 rw [Tryd.params5] at hm
 have w0 : Tryd.prog.wantsStandIn 35 = false := by kernel_rfl
 have w1 : Tryd.prog.wantsStandIn 24 = false := by kernel_rfl
 have w2 : Tryd.prog.wantsStandIn 31 = false := by kernel_rfl
 simp at hm
 rcases hm with rfl | rfl | rfl
 ·exact w0
 ·exact w1
 ·exact w2
/-- the card of the second form -/
theorem cardUpto : Rows.MerkleVerifiesUptoCardSaid :=
 Claim7.holds_tied_plain_at .later [] _ _ _ _ saidUpto (fun _ h => by cases h) (by kernel_rfl) (fun _ h => by cases h) merkleVerifiesUpto_row_tie rfl ⟨rfl, rfl⟩ (by kernel_rfl) rfl plain (by kernel_rfl)
end lawVerifies
end Go.Proofs.YtbmlkocpjboodaaDoor
