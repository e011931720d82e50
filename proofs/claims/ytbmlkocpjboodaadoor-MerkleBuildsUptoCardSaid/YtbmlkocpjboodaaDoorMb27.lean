/-
 MerkleBuilds: for any entries and range (of bulk at most 1048576): their tree has the root, the entries and the proofs that the document says, or there is none. Conditions: the second form's bound; the table sha.constants as the program's text lays it (the card ties it).
-/
import Derived.Test.YtbmlkocpjboodaaDoorMb19
import Derived.Test.YtbmlkocpjboodaaDoorMb26
import Derived.Test.YtbmlkocpjboodaaDoorCards
import Derived.Test.YtbmlkocpjboodaaDoorTie
namespace Go.Proofs.YtbmlkocpjboodaaDoor
open Go.RowKit
open Go.Lib (hid)
theorem SpR.form {w : World} {F : Nat → Prop} {v : Value} {ns : List Nat} (h : SpR w F v ns) : ∃ a c, v = .slice a ns.length c := by
 obtain ⟨a, c, e, -⟩ := h
 exact ⟨a, c, e⟩
theorem SpR.below {w w' : World} {F : Nat → Prop} {v : Value} {ns : List Nat} (h : SpR w F v ns) (hb : Below w.heap.size w w') : SpR w' F v ns := by
 obtain ⟨a, c, e, h⟩ := h
 refine ⟨a, c, e, fun i n hn => ?_⟩
 obtain ⟨g, a', c', h1, h2, h3, h4, h5⟩ := h i n hn
 refine ⟨g, a', c', h1, h2, Nat.lt_of_lt_of_le h3 hb.size, (World.cell?_of_block (a := ⟨g, i * 2, none⟩) (hb.block g h3)).trans h4, h5.imp id ?_⟩
 rintro ⟨b, e1, e2, e3⟩
 exact ⟨b, e1, e2, e3.of (hb.block b e3.lt)⟩
theorem RfC.below' {w w' : World} {v : Value} {l : List (List Int × Nat)} (h : RfC w v l) (hb : Below w.heap.size w w') : RfC w' v l := h.below hb
theorem RfS.rfc {w : World} {a : Option Addr} {n c : Nat} {es : List (List Int × Nat)} (h : RfS w (.slice a n c) (es.map toI)) (hc : n ≤ c) : RfC w (.slice a n c) es := by
 obtain ⟨a', c', e, h⟩ := h
 injection e with e1 e2 e3
 subst e1 e3
 rw [List.length_map] at e2
 subst e2
 exact ⟨a, c, rfl, hc, fun i x hx => h i (toI x) (by rw [List.getElem?_map, hx]; rfl)⟩
theorem rPv_len (fr to : List Int) (e : Bool) (l : List (List Int × Nat)) (lo hi : List Int) (low up : Bool) (h : ∀ x ∈ l, x.1.length ≤ 65535) : (rPv fr to e l lo hi low up).length ≤ 65600 * l.length + 33 := pvF_len fr to e l.length l lo hi low up h
/-- the law's state: a tree, and the range's box -/
structure BSt (w : World) (X n : Nat) (S : Nat → Prop) (p : Value) (t : MT) (bx : Array Value) (u : World) : Prop where
 tis : TIs u X p
 mis : MIs u S p t
 kc : KC u
 bel : Below w.heap.size w u
 box : u.heap[w.heap.size]? = some (.cells bx 24 (0, 0))
 sz : n ≤ u.heap.size
theorem BSt.chg {w : World} {X n : Nat} {S F : Nat → Prop} {p : Value} {t : MT} {bx : Array Value} {u u' : World} (h : BSt w X n S p t bx u) (hc : Chg F u u') (hF : ∀ q, F q → w.heap.size < q ∧ q ≠ X ∧ ¬ S q) (hK : 1 < w.heap.size) : BSt w X n S p t bx u' :=
 ⟨(hc.block X (blk_lt h.tis) (fun q => (hF X q).2.1 rfl)).trans h.tis, h.mis.chg hc.size (fun b hb hs => hc.block b hb (fun q => (hF b q).2.2 hs)), h.kc.below (hc.below (B := w.heap.size) (fun q e => Nat.le_of_lt (hF q e).1) h.bel.size) hK, h.bel.trans (hc.below (fun q e => Nat.le_of_lt (hF q e).1) h.bel.size), (hc.block _ (blk_lt h.box) (fun q => Nat.lt_irrefl _ (hF _ q).1)).trans h.box, Nat.le_trans h.sz hc.size⟩
theorem BSt.below {w : World} {X n : Nat} {S : Nat → Prop} {p : Value} {t : MT} {bx : Array Value} {u u' : World} (h : BSt w X n S p t bx u) (hb : Below u.heap.size u u') (hK : 1 < w.heap.size) : BSt w X n S p t bx u' :=
 h.chg (F := fun _ => False) (Chg.fresh hb) (fun _ q => q.elim) hK
set_option maxRecDepth 100000 in
set_option maxHeartbeats 8000000 in
theorem builds_walk (w : World) (vl : Value) (l : List (List Int × Int)) (fr to : List Int) (e : Bool) (hl : RfS w vl l) (hcap : ∀ a n c, vl = .slice a n c → n ≤ c) (gl : ∀ x ∈ l, EOk x) (hll : l.length ≤ 1048576) (g1 : Rng fr) (g2 : Rng to) (hK : KC w) :
  Calls Tryd.prog 3 #[vl, .agg #[.string (str fr), .string (str to), .bool e]] w fun d w' => d = .returned (.bool true) ∧ Below w.heap.size w w' := by
 have hlb := hl
 obtain ⟨al, cl, rfl, -⟩ := hlb
 have HKG := hid hK.1
 have hcp := hcap _ _ _ rfl
 have HVL0 := hid (fun es (h : l = es.map toI) u (hu : Below w.heap.size w u) => (show RfC u (.slice al l.length cl) es from by subst h; exact (RfS.rfc hl hcp).below' hu))
 have HH := hid (And.intro hl (And.intro gl (And.intro hll hK)))
 generalize hln : l.length = ln at *
 have HLL := hid (show l.length ≤ 1048576 by rw [hln]; exact HH.out.2.2.1)
 clear hcp hln
 have HG := hid (And.intro g1 g2)
 clear hl gl hll hK g1 g2 hcap
 go_enter Tryd.func3, Tryd.ntmps3
 go_wp2_with fail
 have HB0 := hid (show Below w.heap.size w (w.alloc (.cells #[.string (str fr), .string (str to), .bool e] 24)) from (Below.refl _ _).alloc (Nat.le_refl _) _)
 have HX0 := hid (show (w.alloc (.cells #[.string (str fr), .string (str to), .bool e] 24)).heap[w.heap.size]? = some (.cells #[.string (str fr), .string (str to), .bool e] 24 (0, 0)) from heap_alloc_new _ _)
 generalize w.alloc (.cells #[.string (str fr), .string (str to), .bool e] 24) = w0 at *
 refine (fixed_any w0 (HH.out.2.2.2.below HB0.out HKG.out)).mono ?_
 rintro d w1 ⟨rfl, hb1⟩
 have HB1 := hid (And.intro (HB0.out.trans (hb1.mono HB0.out.size)) ((hb1.block _ (blk_lt HX0.out)).trans HX0.out))
 clear hb1
 go_wp2_with fail
 refine (lawListZ_any w1 _ l (HH.out.1.below HB1.out.1) (fun x hx => (HH.out.2.1 x hx).1) HLL.out).mono ?_
 rintro d w2 ⟨v2, rfl, ⟨K, hez, hKq⟩, hb2⟩
 have hsp := hez.spr
 have hnb : (l.map (fun x => x.1.length)).length ≤ 1048576 ∧ ∀ n ∈ l.map (fun x => x.1.length), n ≤ 1048576 := ⟨by rw [List.length_map]; exact HLL.out, fun n hn => by obtain ⟨x, hx, rfl⟩ := List.mem_map.1 hn; exact (HH.out.2.1 x hx).2.1⟩
 generalize hns : l.map (fun x => x.1.length) = ns at hsp hnb
 have HNB := hid hnb
 clear hns hnb
 obtain ⟨av, cv, rfl⟩ := hsp.form
 have HSP2 := hid hsp
 have HES2 := hid hez.ens
 have HKQ := hid (And.intro hKq (blk_lt HB1.out.2))
 have HB2 := hid (And.intro (HB1.out.1.trans (hb2.mono HB1.out.1.size)) ((hb2.block _ (blk_lt HB1.out.2)).trans HB1.out.2))
 have HV := hid (validZ_any w2 _ l hez.ens (fun x hx => (HH.out.2.1 x hx).1) HLL.out)
 have HMAY := hid (fun u (hu : Below w.heap.size w u) => refMay_any u _ l (HH.out.1.below hu) (fun x hx => (HH.out.2.1 x hx).1) (by have := HLL.out; omega))
 clear hsp hez hKq hb2
 have hq0 : ∀ es, mayF none l = true → l = es → l = es := fun _ _ h => h
 clear hq0
 generalize hq : mayF none l = q at *
 cases q with
 | false =>
  go_wp2_with fail
  refine (build_no w2 _ l HES2.out HV.out).mono ?_
  rintro d w3 ⟨rfl, hb3⟩
  have HB3 := hid (HB2.out.1.trans (hb3.mono HB2.out.1.size))
  clear hb3
  go_wp2_with fail
  refine (HMAY.out w3 HB3.out).mono ?_
  rintro d w4 ⟨rfl, hb4⟩
  have HB4 := hid (HB3.out.trans (hb4.mono HB3.out.size))
  clear hb4
  go_wp2_with fail
  go_ret
  exact ⟨rfl, HB4.out⟩
 | true =>
  obtain ⟨es, rfl, hch, hpos⟩ := mayF_asc l none hq
  have HVL := hid (HVL0.out es rfl)
  clear HVL0
  have hasc : Asc es := ((chn_asc es none).1 hch).1
  have hes : ∀ x ∈ es, Rng x.1 ∧ x.1.length ≤ 65535 ∧ x.2 < 9223372036854775808 := fun x hx => by
   have h1 := HH.out.2.1 (toI x) (List.mem_map.2 ⟨x, hx, rfl⟩)
   have h2 : ((x.2 : Nat) : Int) ≤ 9223372036854775807 := h1.2.2.2
   exact ⟨h1.1, (hpos x hx).2, by omega⟩
  have hlen : es.length ≤ 1048576 := by have h9 := HLL.out; rwa [List.length_map] at h9
  have HBL := hid (build_low w2 _ es HES2.out.ens HV.out hlen (fun x hx => ⟨(hes x hx).2.1, (hes x hx).1, (hes x hx).2.2⟩) ((HH.out.2.2.2).below HB2.out.1 HKG.out))
  have hino : (MT.of (es.map rkOf)).ino = es := (of_ino _).trans (rkE_rkOf es)
  obtain ⟨hF, hR, hHp⟩ := of_ok (es.map rkOf) (fun x hx => by obtain ⟨y, -, rfl⟩ := List.mem_map.1 hx; rfl) (by rw [rkE_rkOf]; exact hasc)
  clear hq hch hpos
  generalize MT.of (es.map rkOf) = t at *
  subst hino
  go_wp2_with fail
  refine HBL.out.mono ?_
  rintro d w3 ⟨X, p, rfl, ht, hm, hg, hX, hb3⟩
  have HT := hid (show t.Good ∧ t.Full ∧ t.Rkd ∧ t.Heap ∧ Asc t.ino ∧ t.dg = rRoot t.ino ∧ t.prove fr to e = rPv fr to e t.ino [] [] false false from ⟨hg, hF, hR, hHp, hasc, dg_root t hg hF hR hasc hHp, prove_rPv fr to e t hg hF hR hasc hHp⟩)
  have HES := hid hes
  have HIL := hid hlen
  have HPL := hid (show (rPv fr to e t.ino [] [] false false).length ≤ 1099511627776 by have := rPv_len fr to e t.ino [] [] false false (fun x hx => (hes x hx).2.1); omega)
  have hs2 := HB2.out.1.size
  have hb13 := HB2.out.1.trans (hb3.mono HB2.out.1.size)
  have HST3' := hid (show BSt w X w3.heap.size (fun q => w2.heap.size ≤ q ∧ q < w3.heap.size ∧ q ≠ X) p t #[.string (str fr), .string (str to), .bool e] w3 from ⟨ht, hm.mono (fun q hq => ⟨hq.2.2, hq.1, hq.2.1⟩), HH.out.2.2.2.below hb13 HKG.out, hb13, (hb3.block _ (blk_lt HB2.out.2)).trans HB2.out.2, Nat.le_refl _⟩)
  have HXW := hid (show X < w3.heap.size ∧ w2.heap.size ≤ X ∧ w2.heap.size ≤ w3.heap.size ∧ w.heap.size < w2.heap.size from ⟨blk_lt ht, hX, hb3.size, blk_lt HB2.out.2⟩)
  have HSP3 := hid (HSP2.out.below hb3)
  clear hF hR hHp hasc hes hlen ht hm hg hX hb3 hs2 hb13 HBL
  go_wp2_with fail
  refine (HMAY.out w3 HST3'.out.bel).mono ?_
  rintro d w4 ⟨rfl, hb4⟩
  have HST3 := hid (HST3'.out.below hb4 HKG.out)
  have HSP4 := hid (HSP3.out.below hb4)
  have HF1 := hid (show ∀ q, (K q ∧ q < w2.heap.size) → w.heap.size < q ∧ q ≠ X ∧ ¬ (w2.heap.size ≤ q ∧ q < w3.heap.size ∧ q ≠ X) from fun q hq => by
   have q1 := HKQ.out.1 q hq.1
   have q2 := HKQ.out.2
   have q3 := HXW.out
   exact ⟨by omega, by omega, fun h => by omega⟩)
  clear hb4 HST3' HSP3 HSP2
  go_wp2_with fail
  go_loopw [37] (fun iv wr => ∃ j : Nat, j ≤ ns.length ∧ iv = .int .i64 (j : Int) ∧ SpI (w4) (fun q => K q ∧ q < w2.heap.size) (.slice av ns.length cv) ns wr) (fun iv _ => ns.length - (intOf iv).toNat)
  case atStart => exact ⟨0, Nat.zero_le _, rfl, ⟨HSP4.out, Chg.refl _ _⟩⟩
  case round =>
   obtain ⟨j, hj, rfl, hsp⟩ := hrel
   by_cases hjl : j < ns.length
   ·obtain ⟨n, hn⟩ : ∃ n, ns[j]? = some n := ⟨_, List.getElem?_eq_getElem hjl⟩
    obtain ⟨a0, c0, e0, hat⟩ := id hsp.1
    injection e0 with e1 e9 e2
    clear e9
    subst e1 e2
    obtain ⟨g, a', c', hag, hFg, hgl, hcell, hw⟩ := hat j n hn
    subst hag
    have HSP1 := hid hsp
    have HJ := hid (And.intro hjl hn)
    have hnb := HNB.out.1
    have hnn := HNB.out.2 n (List.mem_of_getElem? hn)
    have hj0 : (0 : Int) ≤ (j : Int) := by omega
    have hj1 : (j : Int) < (ns.length : Int) := by omega
    clear hat hw hFg hgl hsp hn hjl hj
    go_wp2_with fail
    clear hcell
    go_loopw [46] (fun nv wk => ∃ k : Nat, k ≤ n ∧ nv = .int .i64 (k : Int) ∧ SpI (w4) (fun q => K q ∧ q < w2.heap.size) (.slice (some ⟨g, 0, none⟩) ns.length cv) ns wk) (fun nv _ => n - (intOf nv).toNat)
    case atStart => exact ⟨0, Nat.zero_le _, rfl, HSP1.out⟩
    case round =>
     obtain ⟨k, hk, rfl, hsp⟩ := hrel
     by_cases hkn : k < n
     ·obtain ⟨a1, c1, e1, hat⟩ := id hsp.1
      injection e1 with e1 e9 e2
      clear e9
      subst e1 e2
      obtain ⟨g', a2, c2, hag, hFg, hgl, hcell, hw⟩ := hat j n HJ.out.2
      injection hag with hag
      injection hag with hg1 _ _
      subst hg1
      obtain hw | ⟨b, e3, hFb, hsf⟩ := hw
      ·omega
      subst e3
      obtain ⟨vb, d0⟩ := hsf.get hkn
      have f0 := hsf.frozen hkn
      have hk0 : (0 : Int) ≤ (k : Int) := by omega
      have hk1 : (k : Int) < (n : Int) := by omega
      have HX := hid (And.intro hsp (And.intro hFb hkn))
      clear hat hFg hgl hsf hsp hFb hkn hk
      go_wp2_with fail
      go_roundw
      case rel => exact ⟨k + 1, HX.out.2.2, by go_num, HX.out.1.set HX.out.2.1 k _⟩
      case measure => have := HX.out.2.2; simp [intOf]; omega
     ·have HX := hid hsp
      clear hsp
      go_wp2_with fail
      go_roundw
      case rel => exact ⟨j + 1, HJ.out.1, by go_num, HX.out⟩
      case measure => have := HJ.out.1; simp [intOf]; omega
   ·have HSP := hid hsp
    clear hsp
    have HST4 := hid (HST3.out.chg HSP.out.2 (fun q hq => HF1.out q hq) HKG.out)
    have hall := treeAllW_any X wr p t HST4.out.tis HST4.out.mis HT.out.1 (by rw [ents_all]; have := HIL.out; omega)
    rw [ents_all] at hall
    go_wp2_with fail
    refine hall.mono ?_
    rintro d w5 ⟨v5, rfl, ⟨K2, hez5, hK5⟩, hb5⟩
    have hsp5 := hez5.z.spr
    have hnb5 : ((t.ino.map toI).map (fun x => x.1.length)).length ≤ 1048576 ∧ ∀ n ∈ (t.ino.map toI).map (fun x => x.1.length), n ≤ 1048576 := ⟨by rw [List.length_map, List.length_map]; exact HIL.out, fun n hn => by obtain ⟨x, hx, rfl⟩ := List.mem_map.1 hn; exact (HH.out.2.1 x hx).2.1⟩
    generalize hns2 : (t.ino.map toI).map (fun x => x.1.length) = ns2 at hsp5 hnb5
    have HNB5 := hid hnb5
    clear hns2 hnb5
    obtain ⟨av5, cv5, rfl⟩ := hsp5.form
    have HST5 := hid (HST4.out.below hb5 HKG.out)
    have HSP5 := hid hsp5
    have HF2 := hid (show ∀ q, (K2 q ∧ q < w5.heap.size) → w.heap.size < q ∧ q ≠ X ∧ ¬ (w2.heap.size ≤ q ∧ q < w3.heap.size ∧ q ≠ X) from fun q hq => by
     have q1 := hK5 q hq.1
     have q2 := HST4.out.sz
     have q3 := HXW.out
     exact ⟨by omega, by omega, fun h => by omega⟩)
    clear hsp5 hez5 hK5 hb5 hall HSP
    go_wp2_with fail
    go_loopw [65] (fun iv wr => ∃ j : Nat, j ≤ ns2.length ∧ iv = .int .i64 (j : Int) ∧ SpI (w5) (fun q => K2 q ∧ q < w5.heap.size) (.slice av5 ns2.length cv5) ns2 wr) (fun iv _ => ns2.length - (intOf iv).toNat)
    case atStart => exact ⟨0, Nat.zero_le _, rfl, ⟨HSP5.out, Chg.refl _ _⟩⟩
    case round =>
     obtain ⟨j, hj, rfl, hsp⟩ := hrel
     by_cases hjl : j < ns2.length
     ·obtain ⟨n, hn⟩ : ∃ n, ns2[j]? = some n := ⟨_, List.getElem?_eq_getElem hjl⟩
      obtain ⟨a0, c0, e0, hat⟩ := id hsp.1
      injection e0 with e1 e9 e2
      clear e9
      subst e1 e2
      obtain ⟨g, a', c', hag, hFg, hgl, hcell, hw⟩ := hat j n hn
      subst hag
      have HSP1 := hid hsp
      have HJ := hid (And.intro hjl hn)
      have hnb := HNB5.out.1
      have hnn := HNB5.out.2 n (List.mem_of_getElem? hn)
      have hj0 : (0 : Int) ≤ (j : Int) := by omega
      have hj1 : (j : Int) < (ns2.length : Int) := by omega
      clear hat hw hFg hgl hsp hn hjl hj
      go_wp2_with fail
      clear hcell
      go_loopw [74] (fun nv wk => ∃ k : Nat, k ≤ n ∧ nv = .int .i64 (k : Int) ∧ SpI (w5) (fun q => K2 q ∧ q < w5.heap.size) (.slice (some ⟨g, 0, none⟩) ns2.length cv5) ns2 wk) (fun nv _ => n - (intOf nv).toNat)
      case atStart => exact ⟨0, Nat.zero_le _, rfl, HSP1.out⟩
      case round =>
       obtain ⟨k, hk, rfl, hsp⟩ := hrel
       by_cases hkn : k < n
       ·obtain ⟨a1, c1, e1, hat⟩ := id hsp.1
        injection e1 with e1 e9 e2
        clear e9
        subst e1 e2
        obtain ⟨g', a2, c2, hag, hFg, hgl, hcell, hw⟩ := hat j n HJ.out.2
        injection hag with hag
        injection hag with hg1 _ _
        subst hg1
        obtain hw | ⟨b, e3, hFb, hsf⟩ := hw
        ·omega
        subst e3
        obtain ⟨vb, d0⟩ := hsf.get hkn
        have f0 := hsf.frozen hkn
        have hk0 : (0 : Int) ≤ (k : Int) := by omega
        have hk1 : (k : Int) < (n : Int) := by omega
        have HX := hid (And.intro hsp (And.intro hFb hkn))
        clear hat hFg hgl hsf hsp hFb hkn hk
        go_wp2_with fail
        go_roundw
        case rel => exact ⟨k + 1, HX.out.2.2, by go_num, HX.out.1.set HX.out.2.1 k _⟩
        case measure => have := HX.out.2.2; simp [intOf]; omega
       ·have HX := hid hsp
        clear hsp
        go_wp2_with fail
        go_roundw
        case rel => exact ⟨j + 1, HJ.out.1, by go_num, HX.out⟩
        case measure => have := HJ.out.1; simp [intOf]; omega
     ·have HSP := hid hsp
      clear hsp
      have HB7 := hid (HST5.out.chg HSP.out.2 (fun q hq => HF2.out q hq) HKG.out)
      have hrt := treeRoot_any X t wr p HB7.out.tis HB7.out.mis HT.out.1 HB7.out.kc
      go_wp2_with fail
      refine hrt.mono ?_
      rintro d w8 ⟨rfl, hb8⟩
      have HB8 := hid (HB7.out.below hb8 HKG.out)
      have HDL := hid (show t.dg.length = 32 by rw [HT.out.2.2.2.2.2.1]; exact rRoot_len _)
      have HDR := hid (HT.out.2.2.2.2.2.1)
      generalize hdg : t.dg = dg at *
      clear hdg hb8 hrt
      obtain ⟨Z, hZ, hz⟩ : ∃ Z : Array Value, Z.size = 32 ∧ ∀ u : World, (zeroValue 36).run Tryd.prog u = .ok (.agg Z) u := ⟨_, sz32 _ (zeros_len _), zeroDg⟩
      have HZ := hid (hZ.trans (sz32 dg HDL.out).symm)
      have HI := hid (show (Tryd.prog.info? 36).map (·.size) = some (ArrU8 dg).size by rw [sz32 dg HDL.out]; exact info_dg)
      have HIM := hid (show (Tryd.prog.info? 36).map (·.size) = some (dg.map (Value.int .u8)).length by rw [List.length_map, HDL.out]; exact info_dg)
      clear hZ
      go_wp2_with (first
       | (refine wpList_store_nw rfl 36 (Operand.tmp 13) (Operand.tmp 90) rfl w8 _ 36 rfl w8.heap.size (ArrU8 dg) rfl rfl rfl HI.out HZ.out (ArrU8_one _) ?_; intro w9 hd9 hb9 hs9; have HD9 := hid hd9; have HB9 := hid (HB8.out.below hb9 HKG.out); have HRB := hid (show w9.rangeAt w.heap.size 0 [.string (str fr), .string (str to), .bool e] from fun j x hj => by rw [cell_of_row w9 w.heap.size (0 + j) _ _ _ HB9.out.box, Nat.zero_add]; simpa using hj); clear hd9 hb9 hs9)
       | (refine wpList_load_mid rfl 24 (Operand.tmp 3) rfl w.heap.size 0 rfl [.string (str fr), .string (str to), .bool e] _ HRB.out Tryd.underlying24 rfl (by kernel_rfl) ?_))
      refine (lawProve_any X w9 p fr to e t HB9.out.tis HB9.out.mis HT.out.1 HG.out.1 HG.out.2 (by rw [HT.out.2.2.2.2.2.2]; exact HPL.out)).mono ?_
      rintro d w10 ⟨v10, rfl, ho10, hb10⟩
      rw [HT.out.2.2.2.2.2.2] at ho10
      obtain ⟨a10, c10, rfl⟩ := ownsRow_slc ho10
      have HB10 := hid (HB9.out.below hb10 HKG.out)
      have HD10 := hid ((hb10.block _ (blk_lt HD9.out)).trans HD9.out)
      have HO10 := hid ho10.bs
      clear ho10 hb10 HD9 HB8 HB9 HRB HI HZ hz HSP HST5
      have HRD := hid (fun u (hu : Below w10.heap.size w10 u) => (show u.rangeAt w8.heap.size 0 (dg.map (Value.int .u8)) from fun j x hj => by
       rw [cell_of_row u w8.heap.size (0 + j) _ _ _ ((hu.block _ (blk_lt HD10.out)).trans HD10.out), Nat.zero_add]
       unfold ArrU8
       rw [List.getElem?_toArray]
       exact hj))
      have HRX := hid (fun u (hu : Below w10.heap.size w10 u) => (show u.cell? ⟨w.heap.size, 0, none⟩ = some (.string (str fr)) ∧ u.cell? ⟨w.heap.size, 1, none⟩ = some (.string (str to)) ∧ u.cell? ⟨w.heap.size, 2, none⟩ = some (.bool e) from by
       have q := (hu.block _ (blk_lt HB10.out.box)).trans HB10.out.box
       exact ⟨cell_of_row _ _ 0 _ _ _ q, cell_of_row _ _ 1 _ _ _ q, cell_of_row _ _ 2 _ _ _ q⟩))
      have HRF := hid (fun u (hu : Below w10.heap.size w10 u) => (show Calls Tryd.prog 16 #[.slice al ln cl] u fun d w' => d = .returned (.agg (ArrU8 dg)) ∧ Below u.heap.size u w' from by
       rw [HDR.out]
       exact refRoot_any t.ino.length u _ t.ino (Nat.le_refl _) (HVL.out u (HB10.out.bel.trans (hu.mono HB10.out.bel.size))) HES.out HIL.out))
      have HAL := hid (fun u (hu : Below w10.heap.size w10 u) => (show Calls Tryd.prog 13 #[.pointer (some ⟨X, 0, none⟩)] u fun d w' => ∃ v', d = .returned v' ∧ EnN u w' v' t.ino ∧ Below u.heap.size u w' from by
       have q := treeAll_any X u p t (HB10.out.below hu HKG.out).tis (HB10.out.below hu HKG.out).mis HT.out.1 (by rw [ents_all]; have := HIL.out; omega)
       rw [ents_all] at q
       exact q))
      have HSM := hid (fun u (hu : Below w10.heap.size w10 u) v (hv : RfS u v (t.ino.map toI)) => (show Calls Tryd.prog 17 #[v, .slice al ln cl] u fun d w' => d = .returned (.bool true) ∧ Below u.heap.size u w' from by
       have q := refSame_any u v (.slice al ln cl) (t.ino.map toI) (t.ino.map toI) hv ((HVL.out u (HB10.out.bel.trans (hu.mono HB10.out.bel.size))).rfs) (toI_rng (fun x hx => (HES.out x hx).1)) (toI_rng (fun x hx => (HES.out x hx).1)) (by rw [List.length_map]; have := HIL.out; omega)
       rw [decide_eq_true (rfl : t.ino.map toI = t.ino.map toI)] at q
       exact q))
      have HPV := hid (fun u (hu : Below w10.heap.size w10 u) => (show Calls Tryd.prog 19 #[.slice al ln cl, .string ⟨#[]⟩, .string ⟨#[]⟩, .bool false, .bool false, .string (str fr), .string (str to), .bool e] u fun d w' => ∃ v', d = .returned v' ∧ Own w' u.heap.size v' (rPv fr to e t.ino [] [] false false) ∧ Below u.heap.size u w' from
       refProve_any fr to e HG.out.1 HG.out.2 t.ino.length u _ t.ino [] [] false false (Nat.le_refl _) (HVL.out u (HB10.out.bel.trans (hu.mono HB10.out.bel.size))) HES.out HIL.out (fun x hx => by cases hx) (fun x hx => by cases hx)))
      generalize rPv fr to e t.ino [] [] false false = PV at *
      have hb : Below w10.heap.size w10 w10.drew := (Below.refl _ _).drew
      clear HPL HD10
      go_wp2_with fail
      refine wp_region_held_drew (S := fun u => Below w10.heap.size w10 u) (by kernel_rfl) (hb) (fun hHeld => ?_)
      refine tk (i := 0) (oi := ⟨some 94, .load 36 (.tmp 13), 36, "law.go:83", #[], none⟩) (v := .agg (ArrU8 dg)) (Or.inl ⟨by rfl, ?_⟩) ?_
      ·intro u hSw
       exact exec_load_mid 36 (Operand.tmp 13) rfl w8.heap.size 0 rfl (dg.map (Value.int .u8)) _ (HRD.out _ hSw) Tryd.underlying36 rfl HIM.out
      try simp only [Act.put, sA, sB, sC]
      refine tk (i := 1) (oi := ⟨some 95, .move (.tmp 0), 22, "law.go:83", #[], none⟩) (v := ?_) (Or.inl ⟨by rfl, ?_⟩) ?_
      rotate_left 1
      ·(intro u hSw; go_simp; try with_reducible rfl)
      try simp only [Act.put, sA, sB, sC]
      refine wpAnyH_ready (rs := [2]) (by kernel_rfl) (by simp) ?_
      refine (AllReadyH.cons (o := ⟨some 96, .call ⟨.value (.func 16), #[.tmp 95], #[22]⟩, 35, "law.go:83", #[⟨1, .data⟩], none⟩) rfl (fun K hK => ?_) AllReadyH.nil)
      try (generalize World.drew w10 = ud at *)
      go_simp
      refine (HRF.out _ hb).mono ?_
      rintro d cu ⟨rfl, hb4⟩
      have hb := hb.trans (hb4.mono hb.size)
      clear hb4
      go_wp2_with fail
      refine hK.out _ _ hb (fun hHeld => ?_)
      clear hK K
      try simp only [Act.put, sA, sB, sC]
      refine tk (i := 3) (oi := ⟨some 97, .binOp BinOp.eql 36 (.tmp 94) (.tmp 96) 36, 4, "law.go:83", #[⟨0, .data⟩, ⟨2, .data⟩], none⟩) (v := .bool true) (Or.inl ⟨by rfl, ?_⟩) ?_
      ·intro u hSw
       exact exec_eql_dg (Operand.tmp 94) (Operand.tmp 96) _ rfl dg dg rfl rfl HDL.out HDL.out true (decide_eq_true rfl)
      try simp only [Act.put, sA, sB, sC]
      refine tk (i := 4) (oi := ⟨some 98, .move (.tmp 97), 4, "law.go:83", #[⟨3, .data⟩, ⟨2, .chain⟩], none⟩) (v := ?_) (Or.inl ⟨by rfl, ?_⟩) ?_
      rotate_left 1
      ·(intro u hSw; go_simp; try with_reducible rfl)
      try simp only [Act.put, sA, sB, sC]
      refine tk (i := 5) (oi := ⟨some 99, .move (.tmp 6), 28, "law.go:83", #[⟨4, .guard⟩], some (4, true)⟩) (v := ?_) (Or.inl ⟨by rfl, ?_⟩) ?_
      rotate_left 1
      ·(intro u hSw; go_simp; try with_reducible rfl)
      try simp only [Act.put, sA, sB, sC]
      refine tk (i := 8) (oi := ⟨some 102, .move (.tmp 0), 22, "law.go:83", #[⟨4, .guard⟩], some (4, true)⟩) (v := ?_) (Or.inl ⟨by rfl, ?_⟩) ?_
      rotate_left 1
      ·(intro u hSw; go_simp; try with_reducible rfl)
      try simp only [Act.put, sA, sB, sC]
      refine wpAnyH_ready (rs := [6]) (by kernel_rfl) (by simp) ?_
      refine (AllReadyH.cons (o := ⟨some 100, .call ⟨.value (.func 13), #[.tmp 99], #[28]⟩, 26, "law.go:83", #[⟨5, .data⟩, ⟨4, .chain⟩, ⟨4, .guard⟩], some (4, true)⟩) rfl (fun K hK => ?_) AllReadyH.nil)
      go_simp
      refine (HAL.out _ hb).mono ?_
      rintro d cu ⟨v100, rfl, hen, hb4⟩
      have HEN := hid hen.ens
      obtain ⟨a100, c100, rfl⟩ := hen.slc
      have hb := hb.trans (hb4.mono hb.size)
      clear hb4 hen
      go_wp2_with fail
      refine hK.out _ _ hb (fun hHeld => ?_)
      clear hK K
      try simp only [Act.put, sA, sB, sC]
      refine wpAnyH_ready (rs := [7]) (by kernel_rfl) (by simp) ?_
      refine (AllReadyH.cons (o := ⟨some 101, .call ⟨.value (.func 18), #[.tmp 100], #[26]⟩, 22, "law.go:83", #[⟨6, .data⟩, ⟨6, .chain⟩, ⟨4, .guard⟩], some (4, true)⟩) rfl (fun K hK => ?_) AllReadyH.nil)
      go_simp
      refine (back_any _ _ t.ino HEN.out HIL.out).mono ?_
      rintro d cu ⟨v101, rfl, ho, hb4⟩
      have HO101 := hid ho.rfs
      obtain ⟨a101, c101, rfl⟩ := ho.slc
      have hb := hb.trans (hb4.mono hb.size)
      clear hb4 ho
      go_wp2_with fail
      refine hK.out _ _ hb (fun hHeld => ?_)
      clear hK K
      try simp only [Act.put, sA, sB, sC]
      refine wpAnyH_ready (rs := [9]) (by kernel_rfl) (by simp) ?_
      refine (AllReadyH.cons (o := ⟨some 103, .call ⟨.value (.func 17), #[.tmp 101, .tmp 102], #[22, 22]⟩, 4, "law.go:83", #[⟨7, .data⟩, ⟨8, .data⟩, ⟨7, .chain⟩, ⟨4, .guard⟩], some (4, true)⟩) rfl (fun K hK => ?_) AllReadyH.nil)
      go_simp
      refine (HSM.out _ hb _ HO101.out).mono ?_
      rintro d cu ⟨rfl, hb4⟩
      have hb := hb.trans (hb4.mono hb.size)
      clear hb4
      go_wp2_with fail
      refine hK.out _ _ hb (fun hHeld => ?_)
      clear hK K
      try simp only [Act.put, sA, sB, sC]
      refine tk (i := 10) (oi := ⟨some 104, .pick (.tmp 98) (.tmp 103) (.const (Value.bool false)), 4, "law.go:83", #[⟨4, .data⟩, ⟨9, .data⟩], none⟩) (v := ?_) (Or.inl ⟨by rfl, ?_⟩) ?_
      rotate_left 1
      ·(intro u hSw; go_simp; try with_reducible rfl)
      try simp only [Act.put, sA, sB, sC]
      refine tk (i := 11) (oi := ⟨some 105, .move (.tmp 104), 4, "law.go:83", #[⟨10, .data⟩, ⟨9, .chain⟩], none⟩) (v := ?_) (Or.inl ⟨by rfl, ?_⟩) ?_
      rotate_left 1
      ·(intro u hSw; go_simp; try with_reducible rfl)
      try simp only [Act.put, sA, sB, sC]
      refine tk (i := 12) (oi := ⟨some 106, .move (.tmp 14), 31, "law.go:83", #[⟨11, .guard⟩], some (11, true)⟩) (v := ?_) (Or.inl ⟨by rfl, ?_⟩) ?_
      rotate_left 1
      ·(intro u hSw; go_simp; try with_reducible rfl)
      try simp only [Act.put, sA, sB, sC]
      refine tk (i := 13) (oi := ⟨some 107, .convert 31 9 (.tmp 106), 9, "law.go:83", #[⟨12, .data⟩, ⟨11, .guard⟩], some (11, true)⟩) (v := .string (str PV)) (Or.inl ⟨by rfl, ?_⟩) ?_
      ·intro u hSw
       exact exec_convP 31 9 (Operand.tmp 106) rfl _ rfl _ (conv_bs u a10 _ c10 PV (HO10.out.below hSw))
      try simp only [Act.put, sA, sB, sC]
      refine tk (i := 14) (oi := ⟨some 108, .move (.tmp 0), 22, "law.go:83", #[⟨11, .guard⟩], some (11, true)⟩) (v := ?_) (Or.inl ⟨by rfl, ?_⟩) ?_
      rotate_left 1
      ·(intro u hSw; go_simp; try with_reducible rfl)
      try simp only [Act.put, sA, sB, sC]
      refine tk (i := 15) (oi := ⟨some 109, .fieldAddr 24 (.tmp 3) 0, 0, "law.go:83", #[⟨11, .guard⟩], some (11, true)⟩) (v := ?_) (Or.inl ⟨by rfl, ?_⟩) ?_
      rotate_left 1
      ·(intro u hSw; go_simp; try with_reducible rfl)
      try simp only [Act.put, sA, sB, sC]
      refine tk (i := 16) (oi := ⟨some 110, .load 9 (.tmp 109), 9, "law.go:83", #[⟨15, .data⟩, ⟨11, .guard⟩], some (11, true)⟩) (v := ?_) (Or.inl ⟨by rfl, ?_⟩) ?_
      rotate_left 1
      ·(intro u hSw; have y0 := (HRX.out _ hSw).1; have y1 := (HRX.out _ hSw).2.1; have y2 := (HRX.out _ hSw).2.2; go_simp; try with_reducible rfl)
      try simp only [Act.put, sA, sB, sC]
      refine tk (i := 17) (oi := ⟨some 111, .fieldAddr 24 (.tmp 3) 1, 0, "law.go:83", #[⟨11, .guard⟩], some (11, true)⟩) (v := ?_) (Or.inl ⟨by rfl, ?_⟩) ?_
      rotate_left 1
      ·(intro u hSw; go_simp; try with_reducible rfl)
      try simp only [Act.put, sA, sB, sC]
      refine tk (i := 18) (oi := ⟨some 112, .load 9 (.tmp 111), 9, "law.go:83", #[⟨17, .data⟩, ⟨11, .guard⟩], some (11, true)⟩) (v := ?_) (Or.inl ⟨by rfl, ?_⟩) ?_
      rotate_left 1
      ·(intro u hSw; have y0 := (HRX.out _ hSw).1; have y1 := (HRX.out _ hSw).2.1; have y2 := (HRX.out _ hSw).2.2; go_simp; try with_reducible rfl)
      try simp only [Act.put, sA, sB, sC]
      refine tk (i := 19) (oi := ⟨some 113, .fieldAddr 24 (.tmp 3) 2, 0, "law.go:83", #[⟨11, .guard⟩], some (11, true)⟩) (v := ?_) (Or.inl ⟨by rfl, ?_⟩) ?_
      rotate_left 1
      ·(intro u hSw; go_simp; try with_reducible rfl)
      try simp only [Act.put, sA, sB, sC]
      refine tk (i := 20) (oi := ⟨some 114, .load 4 (.tmp 113), 4, "law.go:83", #[⟨19, .data⟩, ⟨11, .guard⟩], some (11, true)⟩) (v := ?_) (Or.inl ⟨by rfl, ?_⟩) ?_
      rotate_left 1
      ·(intro u hSw; have y0 := (HRX.out _ hSw).1; have y1 := (HRX.out _ hSw).2.1; have y2 := (HRX.out _ hSw).2.2; go_simp; try with_reducible rfl)
      try simp only [Act.put, sA, sB, sC]
      refine wpAnyH_ready (rs := [21]) (by kernel_rfl) (by simp) ?_
      refine (AllReadyH.cons (o := ⟨some 115, .call ⟨.value (.func 19), #[.tmp 108, .const (Value.string { data := #[] }), .const (Value.string { data := #[] }), .const (Value.bool false), .const (Value.bool false), .tmp 110, .tmp 112, .tmp 114], #[22, 9, 9, 4, 4, 9, 9, 4]⟩, 31, "law.go:83", #[⟨14, .data⟩, ⟨16, .data⟩, ⟨18, .data⟩, ⟨20, .data⟩, ⟨11, .chain⟩, ⟨11, .guard⟩], some (11, true)⟩) rfl (fun K hK => ?_) AllReadyH.nil)
      go_simp
      refine (HPV.out _ hb).mono ?_
      rintro d cu ⟨v115, rfl, ho, hb4⟩
      have HO115 := hid ho.bs
      obtain ⟨a115, c115, rfl⟩ := ownsRow_slc ho
      have hb := hb.trans (hb4.mono hb.size)
      clear hb4 ho
      go_wp2_with fail
      refine hK.out _ _ hb (fun hHeld => ?_)
      clear hK K
      try simp only [Act.put, sA, sB, sC]
      refine wpAnyH_ready (rs := [22]) (by kernel_rfl) (by simp) ?_
      refine (AllReadyH.cons (o := ⟨some 116, .convert 31 9 (.tmp 115), 9, "law.go:83", #[⟨21, .data⟩, ⟨11, .guard⟩], some (11, true)⟩) rfl (fun K hK => ?_) AllReadyH.nil)
      refine step_of_runP (by rfl) (exec_convP 31 9 (Operand.tmp 115) (by rfl) _ (by rfl) _ (conv_bs _ a115 _ c115 PV HO115.out)) ?_
      refine hK.out _ _ hb (fun hHeld => ?_)
      clear hK K
      try simp only [Act.put, sA, sB, sC]
      refine tk (i := 23) (oi := ⟨some 117, .binOp BinOp.eql 9 (.tmp 107) (.tmp 116) 9, 4, "law.go:83", #[⟨13, .data⟩, ⟨22, .data⟩, ⟨11, .guard⟩], some (11, true)⟩) (v := .bool true) (Or.inl ⟨by rfl, ?_⟩) ?_
      ·intro u hSw
       go_simp
      try simp only [Act.put, sA, sB, sC]
      refine tk (i := 24) (oi := ⟨some 118, .pick (.tmp 105) (.tmp 117) (.const (Value.bool false)), 4, "law.go:83", #[⟨11, .data⟩, ⟨23, .data⟩], none⟩) (v := ?_) (Or.inl ⟨by rfl, ?_⟩) ?_
      rotate_left 1
      ·(intro u hSw; go_simp; try with_reducible rfl)
      try simp only [Act.put, sA, sB, sC]
      refine tk (i := 25) (oi := ⟨some 4, .assign (.tmp 118), 4, "law.go:83", #[⟨24, .data⟩, ⟨21, .chain⟩, ⟨0, .phase⟩, ⟨1, .phase⟩, ⟨2, .phase⟩, ⟨3, .phase⟩, ⟨4, .phase⟩, ⟨5, .phase⟩, ⟨6, .phase⟩, ⟨7, .phase⟩, ⟨8, .phase⟩, ⟨9, .phase⟩, ⟨10, .phase⟩, ⟨11, .phase⟩, ⟨12, .phase⟩, ⟨13, .phase⟩, ⟨14, .phase⟩, ⟨15, .phase⟩, ⟨16, .phase⟩, ⟨17, .phase⟩, ⟨18, .phase⟩, ⟨19, .phase⟩, ⟨20, .phase⟩, ⟨21, .phase⟩, ⟨22, .phase⟩, ⟨23, .phase⟩, ⟨24, .phase⟩], none⟩) (v := ?_) (Or.inl ⟨by rfl, ?_⟩) ?_
      rotate_left 1
      ·(intro u hSw; go_simp; try with_reducible rfl)
      try simp only [Act.put, sA, sB, sC]
      refine wpAnyH_done (by kernel_rfl) ?_ _
      have HE := hid (HB10.out.bel.trans (hb.mono HB10.out.bel.size))
      clear hb hHeld
      go_wp2_with fail
      go_ret
      exact ⟨rfl, HE.out⟩
end Go.Proofs.YtbmlkocpjboodaaDoor
namespace Go.Proofs.YtbmlkocpjboodaaDoor
open Go.ChangeShapes Go.WideShapes Go.ChangeAt Go.RowKit Go.Deep
open Go.Lib (hid)
namespace lawBuilds
theorem laidIt {W : World} (h : laidMetH Tryd.prog Rows.merkleBuildsUptoRow.laid W) : KC W := by
  have h1 : Lib.TabIs Tryd.prog W "touchmark/sha.constants" .u32 Kt := Lib.tabIs_of_head (rest := []) gTab gTabType Tryd.underlying160 Tryd.underlying97 cells49 cells65 h
  have hc : ∀ t, t < 64 → W.cell? ⟨1, t, none⟩ = some (.int .u32 (Kt[t]?.getD 0)) := fun t ht => by
    have := h1.cell gTab t (by simpa [Kt] using ht)
    rw [this]
    simp [List.getD]
  exact ⟨World.block_lt_of_cell? _ _ (hc 0 (by omega)), hc⟩
set_option maxRecDepth 100000 in
theorem contract (H : Type) (enc : TypeId × Value → H) (W : World) (base : Nat) (args : Array Value) (ds gs : List (DataW H)) (before : List MemPlace)
  (hval : ∀ (j : Nat) t v, Tryd.f3.params[j]? = some t → args[j]? = some v → Value.okWide Tryd.prog W .any base t v)
  (hW : DataW.Whole enc Tryd.prog Tryd.f3.params.toList Rows.merkleBuildsSpec.vars false W args.toList ds gs before) (hL : laidMetH Tryd.prog Rows.merkleBuildsUptoRow.laid W) (hk : Rows.uptoSmall H (ds ++ gs) = true) :
  Calls Tryd.prog 3 args W fun e W' => ∃ v, e = .returned v ∧ Rows.merkleBuildsSpec.post enc Tryd.prog Tryd.f3 false true false false W args v W' := by
 have hW' := hW
 obtain ⟨p, q, hA0, hV, rfl, hfz, hnd⟩ := hW
 have hA : DataW.TrodAll enc Tryd.prog W 0 (fun _ => true) true Tryd.f3.params.toList args.toList ds p := hA0
 rw [Tryd.params3] at hA hval
 obtain ⟨v0, vs0, d0, ds0, p0, q0, hargs, rfl, rfl, h0, r0⟩ := trodAll_cons hA
 obtain ⟨v1, vs1, d1, ds1, p1, q1, rfl, rfl, rfl, h1, r1⟩ := trodAll_cons r0
 obtain ⟨rfl, rfl, rfl⟩ := trodAll_nil r1
 obtain rfl : args = #[v0, v1] := by cases args; simp_all
 obtain ⟨rfl, rfl⟩ := trodVars_none hV
 have hbulk : Rows.uptoBulkAll ([d0, d1] ++ []) ≤ 1048576 := of_decide_eq_true hk
 simp only [List.append_nil, Rows.uptoBulkAll] at hbulk
 have c0 := cap_of_trod (hval 0 22 v0 rfl rfl) h0
 obtain ⟨a0, b0, g0, l0⟩ := ents_of_trod (hval 0 22 v0 rfl rfl) h0 (by omega)
 obtain ⟨f1, t1, e1, rfl, g1, k1, -, -⟩ := rng_of_trod (hval 1 24 v1 rfl rfl) h1 (by omega)
 refine (builds_walk W v0 a0 f1 t1 e1 b0 c0 g0 l0 g1 k1 (laidIt hL)).mono fun e W' ⟨he, hb⟩ => ⟨_, he, ?_⟩
 exact law_post (T := 4) laidOut (by rw [Tryd.params3]; decide +kernel) rfl rfl Tryd.underlying4 (fun gs h => by subst h; rfl) hW' hb
theorem laid_met (os : Os) : laidMet Tryd.prog Rows.merkleBuildsUptoRow.laid ((laidWorld os).forCall (fun _ _ => 0) ⟨#[], #[.slice none 0 0, .agg #[.string ⟨#[]⟩, .string ⟨#[]⟩, .bool false]], []⟩).memory :=
 laidMet_of_run' 8 (by kernel_rfl) (by kernel_rfl)
theorem reads (os : Os) {H : Type} (enc : TypeId × Value → H) : ∃ places, DataW.whole enc Tryd.prog ((laidWorld os).forCall (fun _ _ => 0) ⟨#[], #[.slice none 0 0, .agg #[.string ⟨#[]⟩, .string ⟨#[]⟩, .bool false]], []⟩).memory Tryd.f3.params.toList Rows.merkleBuildsSpec.vars false #[Value.slice none 0 0, Value.agg #[.string ⟨#[]⟩, .string ⟨#[]⟩, .bool false]].toList 8 = some ([.nil, .agg [.lit (.string []), .lit (.string []), .lit (.bool false)]], [], places) :=
 ⟨[], by kernel_rfl⟩
set_option maxRecDepth 100000 in
theorem liftedUpto (os : Os) (started : os.Started) (H : Type) (enc : TypeId × Value → H) (F : Stop.Interp) :
  ReturnsInHanded {} Tryd.checked os 3 .any ((Rows.OpenSpec.upto Rows.merkleBuildsSpec).preRow enc Tryd.prog Tryd.f3 Rows.merkleBuildsUptoRow.domain false Rows.merkleBuildsUptoRow.laid) (((Rows.OpenSpec.upto Rows.merkleBuildsSpec).at F).post enc Tryd.prog Tryd.f3 false true false false) := by
 obtain ⟨places, hx⟩ := reads os enc
 refine returnsInHanded_of_row (C := Tryd.checked) (s := Rows.OpenSpec.upto Rows.merkleBuildsSpec) own started (by kernel_rfl) Tryd.func3
  (witness_row_at (enc := enc) (C := Tryd.checked) false (laidWorld os) #[.slice none 0 0, .agg #[.string ⟨#[]⟩, .string ⟨#[]⟩, .bool false]] rfl (by kernel_rfl) (by kernel_rfl) (by kernel_rfl)
   (OpenSpec.preRow_of_cond 8 hx (by kernel_rfl) (fun k hk => by cases hk; kernel_rfl) (by kernel_rfl) (laid_met os))) ?_
 intro W base args ds gs before hval hW _ hcond _ hL _ _
 exact contract H enc W base args ds gs before hval hW hL (hcond _ rfl)
theorem saidUpto : Rows.MerkleBuildsUptoSaid :=
 OpenClaim.holds_of_cond 3 Tryd.f3 rfl rfl rfl rfl rfl rfl rfl ⟨rfl, rfl, rfl, rfl, rfl⟩ rfl rfl rfl rfl rfl (by kernel_rfl) Tryd.func3 (by kernel_rfl)
  (of_decide_eq_true (by kernel_rfl)) (by unfold Func.isWrapper; first | (rw [if_pos (by decide +kernel)]; kernel_rfl) | (rw [if_neg (by decide +kernel)]; exact ⟨rfl, rfl⟩))
  (fun os started H enc _ F => by rw [OpenClaim.pre_eq_preRow]; exact liftedUpto os started H enc F)
theorem plain (f : FuncId) (fn : Func) (hf : Tryd.pinned.checked.prog.funcNamed "touchmark/touchmarklaw07.MerkleBuilds" = some f) (hfn : Tryd.pinned.checked.prog.funcs[f]? = some fn) :
  false = Tryd.pinned.checked.prog.looks [] ∧ ∀ (j : Nat) t, fn.params[j]? = some t → Tryd.pinned.checked.prog.wantsStandIn t = false := by
 obtain rfl : f = 3 := Option.some.inj ((show Tryd.prog.funcNamed "touchmark/touchmarklaw07.MerkleBuilds" = some 3 by kernel_rfl).symm.trans hf) |>.symm
 obtain rfl : fn = Tryd.f3 := (Option.some.inj (Tryd.func3.symm.trans hfn)).symm
 refine ⟨by kernel_rfl, fun j t ht => ?_⟩
 have hm := Array.mem_of_getElem? ht
 rw [Tryd.params3] at hm
 have w0 : Tryd.prog.wantsStandIn 22 = false := by kernel_rfl
 have w1 : Tryd.prog.wantsStandIn 24 = false := by kernel_rfl
 simp at hm
 rcases hm with rfl | rfl
 ·exact w0
 ·exact w1
/-- the card of the second form -/
theorem cardUpto : Rows.MerkleBuildsUptoCardSaid :=
 Claim7.holds_tied_plain_at .later [] _ _ _ _ saidUpto (fun _ h => by cases h) (by kernel_rfl) (fun _ h => by cases h) merkleBuildsUpto_row_tie rfl ⟨rfl, rfl⟩ (by kernel_rfl) rfl plain (by kernel_rfl)
end lawBuilds
end Go.Proofs.YtbmlkocpjboodaaDoor
