/- stage 7: finish -/
import Derived.Test.YtbmlkocpjboodaaDoorMv16
import Derived.Laws.MakeOwn
namespace Go.Proofs.YtbmlkocpjboodaaDoor
open Go.RowKit
open Go.Lib (hid)
/-- what finish makes of the nodes that wait (the last one first) and a right tree -/
def fin (rdy : List Int → List Int → Bool) : List Wt → MT → List Wt × MT
 | [], r => ([], r)
 | x :: s, r => if rdy x.k x.rk = true then fin rdy s (mkN x.k x.n x.rk x.l r) else (x :: s, r)
theorem MIs.both {w : World} {S : Nat → Prop} : ∀ {t : MT} {p : Value}, MIs w S p t → MIs w (fun b => S b ∧ b < w.heap.size) p t
 | .nil, _, h => h
 | .cut _, _, ⟨b, e, hs, hl, hx⟩ => ⟨b, e, ⟨hs, blk_lt hx⟩, hl, hx⟩
 | .nd .., _, ⟨b, kv, lp, rp, e, hs, h1, h2, hx, hk, hl, hr⟩ => ⟨b, kv, lp, rp, e, ⟨hs, blk_lt hx⟩, h1, h2, hx, hk.bound, MIs.both hl, MIs.both hr⟩
/-- finish under way -/
structure FI (A0 B Sb : Nat) (u : World) (G : Nat → Prop) (v : Value) (s : List Wt) (p : Value) (r : MT) : Prop where
 box : u.heap[Sb]? = some (.cells #[v] 106 (0, 0))
 row : WtR u B G v s.reverse
 ok : ∀ z ∈ s, WtOk z
 p : MIs u G p r
 good : r.Good
 low : ∀ q, G q → q < u.heap.size ∧ q ≠ Sb ∧ A0 ≤ q
 nb : ∀ g, v.ownBlock = some g → g ≠ Sb
 kc : KC u
 sb : B ≤ u.heap.size
def boxN (Sb : Nat) (u : World) : Nat := match u.cell? ⟨Sb, 0, none⟩ with | some (.slice _ n _) => n | _ => 0
theorem FI.below {A0 B Sb : Nat} {u u' : World} {G : Nat → Prop} {v : Value} {s : List Wt} {p : Value} {r : MT} (h : FI A0 B Sb u G v s p r) (hb : Below u.heap.size u u') : FI A0 B Sb u' G v s p r :=
 ⟨(hb.block Sb (blk_lt h.box)).trans h.box, h.row.below hb, h.ok, h.p.below hb, h.good, fun q hq => ⟨Nat.lt_of_lt_of_le (h.low q hq).1 hb.size, (h.low q hq).2⟩, h.nb, h.kc.below hb h.kc.1, Nat.le_trans h.sb hb.size⟩
set_option maxRecDepth 100000 in
theorem zeroWt (u : World) : (zeroValue 109).run Tryd.prog u = .ok (.agg (wtL ⟨[], 0, zeros 32, .nil⟩ ⟨.slice none 0 0, .pointer none⟩).toArray) u := by kernel_rfl
set_option maxRecDepth 100000 in
set_option maxHeartbeats 8000000 in
theorem finish_any {F : FuncId} {pre cap : Array Value} (rdy : List Int → List Int → Bool) (goF : ∀ args u, (callFunc F args).run Tryd.prog u = .ok (.enter F args) u) (A0 B Sb : Nat) (hA0 : A0 ≤ B) (hKS : 1 < Sb) (w : World) (G : Nat → Prop) (v : Value) (s : List Wt)
    (h : FI A0 B Sb w G v s (.pointer none) .nil)
    (hf : ∀ u, Chg (fun q => q = Sb) w u → ∀ kv k n rk, Bs u kv k → Rng k → rk.length = 32 → Rng rk → Calls Tryd.prog F (pre.push (.agg (rkL kv n rk).toArray) ++ cap) u fun d u' => d = .returned (.bool (rdy k rk)) ∧ Below u.heap.size u u') :
    Calls Tryd.prog 58 #[.func (.func F) pre cap, .pointer (some ⟨Sb, 0, none⟩)] w fun d w' => ∃ p v' G', d = .returned p ∧ FI A0 B Sb w' G' v' (fin rdy s .nil).1 p (fin rdy s .nil).2 ∧ (∀ q, G q → G' q) ∧ Chg (fun q => q = Sb) w w' := by
  obtain ⟨Z, hZ, hz⟩ : ∃ Z : Array Value, Z.size = 35 ∧ ∀ u : World, (zeroValue 109).run Tryd.prog u = .ok (.agg Z) u := ⟨_, by rw [List.size_toArray]; exact wtL_len _ (zeros_len _), zeroWt⟩
  have HZ := hid hZ
  clear hZ
  have GF := hid goF
  have HF := hid hf
  have HH := hid h
  generalize hR : fin rdy s .nil = R at *
  have HR := hid hR
  clear goF hf h hR
  go_enter Tryd.func58, Tryd.ntmps58
  go_wp2_with fail
  go_loopw [4] (fun p wr => ∃ G' v' s' r', FI A0 B Sb wr G' v' s' p r' ∧ fin rdy s' r' = R ∧ (∀ q, G q → G' q) ∧ Chg (fun q => q = Sb) w wr) (fun _ wr => boxN Sb wr)
  case atStart => exact ⟨G, v, s, .nil, HH.out, HR.out, fun _ h => h, Chg.refl _ _⟩
  case round =>
    obtain ⟨G', v', s', r', h1, h2, h3, h4⟩ := hrel
    obtain ⟨pa, rfl⟩ := h1.p.form
    have hbx := h1.box
    have hrow := h1.row
    cases s' with
    | nil =>
      obtain ⟨av, cv, rfl⟩ := hrow.slc
      have c0 : wr.cell? ⟨Sb, 0, none⟩ = some (.slice av 0 cv) := cell_of_row _ Sb 0 _ _ _ hbx
      have HX := hid (And.intro h1 (And.intro h2 (And.intro h3 h4)))
      clear h1 h2 h3 h4 hbx hrow
      go_wp2_with fail
      go_ret
      obtain ⟨h1, h2, h3, h4⟩ := HX.out
      have e : R = ([], r') := h2.symm
      subst e
      exact ⟨_, _, G', rfl, h1, h3, h4⟩
    | cons x s' =>
      have hx := h1.ok x List.mem_cons_self
      rw [List.reverse_cons] at hrow
      obtain ⟨g, cp, y, rfl, hcp, hBg, hgl, hgG, hk, hl, hrg, hrow'⟩ := hrow.pop (fun z hz => (h1.ok z (List.mem_cons_of_mem _ (List.mem_reverse.1 hz))).2.2.2.1)
      simp only [List.length_reverse] at hcp hrg hrow'
      obtain ⟨kx, ckx, hkx⟩ := hk.form
      obtain ⟨px, hpx⟩ := hl.form
      obtain ⟨kv, lp⟩ := y
      dsimp only at hk hl hrg hkx hpx
      subst hkx hpx
      have hm : s'.reverse.length = s'.length := List.length_reverse
      rw [hm] at hbx
      generalize hml : s'.length = m at *
      clear hm
      have hmx : m + 1 ≤ cp := hcp
      have hcm : cp ≤ maxLen := by
        obtain ⟨_, _, ⟨_, h⟩, _⟩ := hrow'
        rcases h with ⟨h, _⟩ | ⟨g', cap', cur', h, _, _, _, h5, _⟩
        · cases h
        · injection h with _ _ h6
          rw [h6]; exact h5
      unfold maxLen at hcm
      have c0 : wr.cell? ⟨Sb, 0, none⟩ = some (.slice (some ⟨g, 0, none⟩) (m + 1) cp) := cell_of_row _ Sb 0 _ _ _ hbx
      have hrk : wr.rangeAt g (m * 35) (rkL (.slice kx x.k.length ckx) x.n x.rk) := fun j u hj => hrg j u (by
        unfold wtL
        rw [List.getElem?_append_left (List.getElem?_eq_some_iff.1 hj).1]
        exact hj)
      have HRK := hid hrk
      have HRG := hid hrg
      have HWL := hid (wtL_len (x := x) ⟨.slice kx x.k.length ckx, .pointer px⟩ hx.2.2.2.1)
      have HIR := hid (rkL_info (kv := .slice kx x.k.length ckx) (n := x.n) hx.2.2.2.1)
      have HC := hid (HF.out wr h4 (.slice kx x.k.length ckx) x.k x.n x.rk hk.1 hx.2.1 hx.2.2.2.1 hx.2.2.2.2.1)
      have HX := hid (And.intro h1 (And.intro h2 (And.intro h3 (And.intro h4 (And.intro hx (And.intro hk (And.intro hl hrow')))))))
      have HN := hid (And.intro hml (And.intro hBg (And.intro hgl (And.intro hgG hmx))))
      have hm0 : (0 : Int) < ((m + 1 : Nat) : Int) := by omega
      have hm1 : (0 : Int) ≤ ((m + 1 : Nat) : Int) - 1 := by omega
      have hm2 : ((m + 1 : Nat) : Int) - 1 < 9223372036854775808 := by omega
      have hgS : g ≠ Sb := h1.nb g rfl
      have hm3 : (m : Int) ≤ (cp : Int) := by omega
      have hm4 : m ≤ cp := by omega
      clear h1 h2 h3 h4 hbx hrow hrow' hrk hrg hx hk hl hml hBg hgl hgG hmx hcp
      go_wp2_with (first
        | (refine wpList_of_runG (o := ⟨some 17, _, _, _, _, _⟩) rfl (exec_load_mid 66 (Operand.tmp 16) rfl g (m * 35) rfl (rkL (.slice kx x.k.length ckx) x.n x.rk) _ HRK.out Tryd.underlying66 rfl HIR.out) ?_))
      rw [GF.out, Oper.upon_enter]
      refine HC.out.mono ?_
      rintro d w1 ⟨rfl, hb1⟩
      have c1 : w1.cell? ⟨Sb, 0, none⟩ = some (.slice (some ⟨g, 0, none⟩) (m + 1) cp) := (World.cell?_of_block (a := ⟨Sb, 0, none⟩) (hb1.block Sb (blk_lt HX.out.1.box))).trans c0
      have hrg1 : w1.rangeAt g (m * 35) (wtL x ⟨.slice kx x.k.length ckx, .pointer px⟩) := fun j u hj => (World.cell?_of_block (a := ⟨g, m * 35 + j, none⟩) (hb1.block g HN.out.2.2.1)).trans (HRG.out j u hj)
      have HB1 := hid hb1
      have HRG1 := hid hrg1
      clear hb1 hrg1 c0 HC
      have HRQ := hid (show fin rdy (x :: s') r' = if rdy x.k x.rk = true then fin rdy s' (mkN x.k x.n x.rk x.l r') else (x :: s', r') from rfl)
      generalize rdy x.k x.rk = q at *
      cases q with
      | false =>
        go_wp2_with fail
        go_ret
        obtain ⟨h1, h2, h3, h4, -⟩ := HX.out
        have e : R = (x :: s', r') := h2.symm.trans (HRQ.out.trans (if_neg (by decide)))
        subst e
        exact ⟨_, _, G', rfl, h1.below HB1.out, h3, h4.trans (Chg.fresh (F := fun q => q = Sb) HB1.out) (fun _ h => .inl h)⟩
      | true =>
        have hSb1 : Sb < w1.heap.size := Nat.lt_of_lt_of_le (blk_lt HX.out.1.box) HB1.out.size
        have hSw : ¬ w1.heap.size = Sb := by omega
        have HBX1 := hid ((HB1.out.block Sb (blk_lt HX.out.1.box)).trans HX.out.1.box)
        have HSR := hid (fun (u : World) (hu : u.heap[w1.heap.size]? = some (.cells (wtL x ⟨.slice kx x.k.length ckx, .pointer px⟩).toArray 109 (0, 0))) => (show (u.setCell ⟨Sb, 0, none⟩ (.slice (some ⟨g, 0, none⟩) m cp)).rangeAt w1.heap.size 0 (rkL (.slice kx x.k.length ckx) x.n x.rk) from fun j v hj => by
          rw [World.cell?_of_block (a := ⟨w1.heap.size, 0 + j, none⟩) (w := u) (heap_setCell_other u ⟨Sb, 0, none⟩ w1.heap.size _ hSw), cell_of_row u w1.heap.size (0 + j) _ _ _ hu, Nat.zero_add, List.getElem?_toArray]
          unfold wtL
          rw [List.getElem?_append_left (List.getElem?_eq_some_iff.1 hj).1]
          exact hj))
        have CR := hid (fun (u : World) (hu : u.heap[w1.heap.size]? = some (.cells (wtL x ⟨.slice kx x.k.length ckx, .pointer px⟩).toArray 109 (0, 0))) => (show u.cell? ⟨w1.heap.size, 34, none⟩ = some (.pointer px) from by
          rw [cell_of_row u w1.heap.size 34 _ _ _ hu, List.getElem?_toArray]
          unfold wtL
          rw [List.getElem?_append_right (by rw [rkL_len HX.out.2.2.2.2.1.2.2.2.1]; exact Nat.le_refl _), rkL_len HX.out.2.2.2.2.1.2.2.2.1]
          rfl))
        have HIW := hid (show (Tryd.prog.info? 109).map (·.size) = some (wtL x ⟨.slice kx x.k.length ckx, .pointer px⟩).length by rw [HWL.out]; kernel_rfl)
        go_wp2_with (first
          | (refine wpList_load_mid rfl 109 (Operand.tmp 24) rfl g (m * 35) rfl (wtL x ⟨.slice kx x.k.length ckx, .pointer px⟩) _ HRG1.out Tryd.underlying109 rfl HIW.out ?_)
          | (refine wpList_store_nw rfl 109 (Operand.tmp 5) (Operand.tmp 25) rfl w1 _ 109 rfl w1.heap.size (wtL x ⟨.slice kx x.k.length ckx, .pointer px⟩).toArray rfl rfl rfl (by rw [List.size_toArray]; exact HIW.out) (by rw [HZ.out, List.size_toArray, HWL.out]) (all_oneCell_toArray (wtL_one _ _ rfl rfl)) ?_; intro w2 hd2 hb2 hs2; have HD2 := hid hd2; have HB2 := hid hb2; have HS2 := hid hs2; have c2 := (World.cell?_of_block (a := ⟨Sb, 0, none⟩) (hb2.block Sb hSb1)).trans c1; have c34 := CR.out w2 hd2; have f2 := frozen_of_row w2 Sb 0 _ _ ((hb2.block Sb hSb1).trans HBX1.out); have hne := hSw; clear hd2 hb2 hs2 c1)
          | (refine wpList_load_mid rfl 66 (Operand.tmp 31) rfl w1.heap.size 0 rfl (rkL (.slice kx x.k.length ckx) x.n x.rk) _ (HSR.out _ HD2.out) Tryd.underlying66 rfl HIR.out ?_))
        have hbx2 := (HB2.out.block Sb hSb1).trans HBX1.out
        have hb12 : Below wr.heap.size wr w2 := HB1.out.trans (HB2.out.mono HB1.out.size)
        obtain ⟨h1, h2, h3, h4, hx, hk, hl, hrow'⟩ := HX.out
        have hch : Chg (fun q => q = Sb) wr (w2.setCell ⟨Sb, 0, none⟩ (.slice (some ⟨g, 0, none⟩) m cp)) := (Chg.fresh hb12).setCell _ _ (.inl rfl)
        have hbx3 := heap_setCell_same w2 Sb 0 _ _ (.slice (some ⟨g, 0, none⟩) m cp) hbx2
        have hlow : ∀ q, q < wr.heap.size → G' q → ¬ q = Sb := fun q _ hq => (h1.low q hq).2.1
        have hsz3 : w1.heap.size < (w2.setCell ⟨Sb, 0, none⟩ (.slice (some ⟨g, 0, none⟩) m cp)).heap.size := by rw [World.size_setCell, HS2.out]; omega
        generalize w2.setCell ⟨Sb, 0, none⟩ (.slice (some ⟨g, 0, none⟩) m cp) = w3 at *
        have hKC3 : KC w3 := h1.kc.chg hch (by omega)
        have HNN := hid (show Calls Tryd.prog 59 #[.agg (rkL (.slice kx x.k.length ckx) x.n x.rk).toArray, .pointer px, .pointer pa] w3 fun e w' => ∃ p, e = .returned p ∧ MIs w' (fun q => G' q ∨ w3.heap.size ≤ q) p (mkN x.k x.n x.rk x.l r') ∧ Below w3.heap.size w3 w' from newNode_any (S := fun q => G' q ∨ w3.heap.size ≤ q) w3 (.slice kx x.k.length ckx) (.pointer px) (.pointer pa) x.k x.n x.rk x.l r' (fun b h => .inr h) hx.2.2.2.1 ((hk.cg hch hlow).mono (fun _ h => .inl h)) ((hl.chg hch.size (fun b hb hs => hch.block b hb (hlow b hb hs))).mono (fun _ h => .inl h)) ((h1.p.chg hch.size (fun b hb hs => hch.block b hb (hlow b hb hs))).mono (fun _ h => .inl h)) hx.2.2.2.2.2 h1.good hKC3 hx.1 hx.2.2.1)
        have HE := hid (And.intro hch (And.intro hbx3 (And.intro hlow (And.intro hsz3 hKC3))))
        clear hbx2 hb12 h1 h2 h3 h4 hx hk hl hrow' hch hbx3 hlow hsz3 hKC3
        refine HNN.out.mono ?_
        rintro d w4 ⟨p4, rfl, hp4, hb4⟩
        obtain ⟨a4, rfl⟩ := hp4.form
        have H4 := hid (And.intro hp4 hb4)
        clear hp4 hb4 HNN
        go_wp2_with fail
        go_roundw
        case rel =>
          obtain ⟨h1, h2, h3, h4, hx, hk, hl, hrow'⟩ := HX.out
          obtain ⟨hch, hbx3, hlow, hsz3, hKC3⟩ := HE.out
          obtain ⟨hp4, hb4⟩ := H4.out
          obtain ⟨hml, hBg, hgl, hgG, hmx⟩ := HN.out
          have hch4 : Chg (fun q => q = Sb) wr w4 := hch.trans (Chg.fresh (F := fun q => q = Sb) hb4) (fun _ h => .inl h)
          refine ⟨fun q => (G' q ∨ w3.heap.size ≤ q) ∧ q < w4.heap.size, .slice (some ⟨g, 0, none⟩) m cp, s', mkN x.k x.n x.rk x.l r', ⟨(hb4.block Sb (blk_lt hbx3)).trans hbx3, ?_, fun z hz => h1.ok z (List.mem_cons_of_mem _ hz), hp4.both, mkN_good hx.2.2.2.2.2 h1.good hx.1 hx.2.1 hx.2.2.1 hx.2.2.2.1 hx.2.2.2.2.1, ?_, ?_, hKC3.below hb4 hKC3.1, Nat.le_trans h1.sb hch4.size⟩, ?_, ?_, h4.trans hch4 (fun _ h => .inl h)⟩
          · refine (hrow'.cg hch4 (fun g' hg' => ?_) hlow).more (fun q hq => ⟨.inl hq, Nat.lt_of_lt_of_le (h1.low q hq).1 hch4.size⟩) (fun g' hg' hq => ?_)
            · injection hg' with hg'
              have hg2 : g = g' := hg'
              omega
            · injection hg' with hg'
              subst hg'
              have := hch.size
              rcases hq.1 with h | h
              · exact hgG h
              · have h5 : g < wr.heap.size := hgl
                have h6 : w3.heap.size ≤ g := h
                omega
          · intro q hq
            refine ⟨hq.2, ?_⟩
            rcases hq.1 with h | h
            · exact (h1.low q h).2
            · have q1 := blk_lt hbx3
              have q2 := h1.sb
              have q3 := hch.size
              have q4 : w3.heap.size ≤ q := h
              exact ⟨by omega, by omega⟩
          · intro g' hg'
            injection hg' with hg'
            have hg2 : g = g' := hg'
            omega
          · exact (show fin rdy (x :: s') r' = fin rdy s' (mkN x.k x.n x.rk x.l r') from HRQ.out.trans (if_pos trivial)).symm.trans h2
          · exact fun q hq => ⟨.inl (h3 q hq), Nat.lt_of_lt_of_le (h1.low q (h3 q hq)).1 hch4.size⟩
        case measure =>
          have e1 : wr.cell? ⟨Sb, 0, none⟩ = some (.slice (some ⟨g, 0, none⟩) (s'.reverse.length + 1) cp) := cell_of_row _ Sb 0 _ _ _ HX.out.1.box
          have e2 : w4.cell? ⟨Sb, 0, none⟩ = some (.slice (some ⟨g, 0, none⟩) m cp) := cell_of_row _ Sb 0 _ _ _ ((H4.out.2.block Sb (blk_lt HE.out.2.1)).trans HE.out.2.1)
          unfold boxN
          rw [e1, e2]
          have := HN.out.1
          simp only [List.length_reverse]
          omega
end Go.Proofs.YtbmlkocpjboodaaDoor
/- stage 7: treeOf -/
namespace Go.Proofs.YtbmlkocpjboodaaDoor
open Go.RowKit
open Go.Lib (hid)
/-- an entry with its rank -/
structure Rk where
 k : List Int
 n : Nat
 rk : List Int
/-- the nodes that wait behind so many entries -/
def bld : List Rk → List Wt → List Wt
 | [], s => s
 | x :: l, s => bld l (⟨x.k, x.n, x.rk, (fin (fun k rk => abv x.k x.rk k rk) s .nil).2⟩ :: (fin (fun k rk => abv x.k x.rk k rk) s .nil).1)
/-- the tree of a list of entries -/
def MT.of (l : List Rk) : MT := (fin (fun _ _ => true) (bld l []) .nil).2
def RkOk (x : Rk) : Prop := x.k.length ≤ 65535 ∧ Rng x.k ∧ x.n < 9223372036854775808 ∧ x.rk.length = 32 ∧ Rng x.rk
theorem fin_len (rdy : List Int → List Int → Bool) : ∀ (s : List Wt) (r : MT), (fin rdy s r).1.length ≤ s.length
 | [], _ => Nat.le_refl _
 | x :: s, r => by
  unfold fin
  split
  ·exact Nat.le_succ_of_le (fin_len rdy s _)
  ·exact Nat.le_refl _
/-- a list of entries with their ranks in memory -/
def RkS (w : World) (G : Nat → Prop) (v : Value) (l : List Rk) : Prop :=
 ∃ a c, v = .slice a l.length c ∧ ∀ (i : Nat) (x : Rk), l[i]? = some x → ∃ g kv, a = some ⟨g, 0, none⟩ ∧ g < w.heap.size ∧ w.rangeAt g (i * 34) (rkL kv x.n x.rk) ∧ KIs w G kv x.k
theorem RkS.below {w w' : World} {G : Nat → Prop} {v : Value} {l : List Rk} (h : RkS w G v l) (hb : Below w.heap.size w w') : RkS w' G v l := by
 obtain ⟨a, c, e, h⟩ := h
 refine ⟨a, c, e, fun i x hx => ?_⟩
 obtain ⟨g, kv, h1, h2, h3, h4⟩ := h i x hx
 exact ⟨g, kv, h1, Nat.lt_of_lt_of_le h2 hb.size, fun j u hj => (World.cell?_of_block (a := ⟨g, i * 34 + j, none⟩) (hb.block g h2)).trans (h3 j u hj), h4.below hb⟩
theorem fill_wt (kv kv0 : Value) (n n0 : Nat) (rk rk0 : List Int) (p p0 : Value) (hp : p.cells = #[p]) (h : rk.length = 32) (h0 : rk0.length = 32) :
  Instr.fill (fun x => (#[(0, 34), (34, 1)] : Array (Nat × Nat))[x]?) (rkL kv0 n0 rk0 ++ [p0]).toArray [(0, .agg (rkL kv n rk).toArray), (1, p)] = some (rkL kv n rk ++ [p]).toArray := by
 have e1 := fill_at (place := fun x => (#[(0, 34), (34, 1)] : Array (Nat × Nat))[x]?) [] (rkL kv0 n0 rk0) [p0] (rkL kv n rk) (i := 0) (v := .agg (rkL kv n rk).toArray) (rest := [(1, p)]) rfl (by rw [rkL_len h]; rfl) (by rw [rkL_len h, rkL_len h0])
 have e2 := fill_at (place := fun x => (#[(0, 34), (34, 1)] : Array (Nat × Nat))[x]?) (rkL kv n rk) [p0] [] [p] (i := 1) (v := p) (rest := []) hp (by rw [rkL_len h]; rfl) rfl
 rw [List.nil_append] at e1
 rw [e1, List.nil_append]
 rw [show (rkL kv n rk ++ [p0] : List Value) = rkL kv n rk ++ ([p0] ++ []) by simp, e2, Instr.fill]
 congr 2
set_option maxRecDepth 100000 in
theorem run_build_wt (u : World) (kv : Value) (n : Nat) (rk : List Int) (pl : Option Addr) (h : rk.length = 32) :
  (Instr.build 109 #[(0, .agg (rkL kv n rk).toArray), (1, .pointer pl)]).run Tryd.prog u = .ok (.agg (rkL kv n rk ++ [Value.pointer pl]).toArray) u := by
 have hz : (zeroValue 109).run Tryd.prog u = .ok (.agg (rkL (.slice none 0 0) 0 (zeros 32) ++ [Value.pointer none]).toArray) u := by kernel_rfl
 have hpl : ∀ fs, Tryd.prog.underlying 109 = some (.struct fs) → (fs.mapM fun f => do pure (f.offset, ← sizeOf f.type) : Sem (Array (Nat × Nat))).run Tryd.prog u = .ok #[(0, 34), (34, 1)] u := by
  intro fs h
  rw [Tryd.underlying109] at h
  injection h with h
  injection h with h
  subst h
  kernel_rfl
 have hp2 := hpl _ Tryd.underlying109
 have hf := fill_wt kv (.slice none 0 0) n 0 rk (zeros 32) (.pointer pl) (.pointer none) rfl h (zeros_len _)
 generalize (rkL (.slice none 0 0) 0 (zeros 32) ++ [Value.pointer none]).toArray = Z at *
 unfold Instr.build
 simp only [Sem.run_bind, hz, run_underlying Tryd.underlying109, Result.andThen_ok, agg_cells, hp2, hf]
 rfl
theorem run_bslice_wt (u : World) (cs : List Value) (hl : cs.length = 35) :
  (Instr.buildSlice 106 1 #[(0, .agg cs.toArray)]).run Tryd.prog u = .ok (.slice (some ⟨u.heap.size, 0, none⟩) 1 1) (u.alloc (.cells cs.toArray 109)) := by
 obtain ⟨ie, hie, hsz, z, hz, hzs⟩ : ∃ ie, Tryd.prog.info? 109 = some ie ∧ ie.size = 35 ∧ ∃ z, ie.zero = some z ∧ z.cells.size = 35 := by
  have h1 : (Tryd.prog.info? 109).map (fun ie => (ie.size, (ie.zero.map fun z => z.cells.size))) = some (35, some 35) := by kernel_rfl
  cases hie : Tryd.prog.info? 109 with
  | none => rw [hie] at h1; cases h1
  | some ie =>
   rw [hie] at h1
   simp only [Option.map_some, Option.some.injEq, Prod.mk.injEq] at h1
   cases hz : ie.zero with
   | none => rw [hz] at h1; exact absurd h1.2 (by simp)
   | some z => rw [hz] at h1; exact ⟨ie, rfl, h1.1, z, hz, by simpa using h1.2⟩
 refine run_buildSlice u 106 109 1 _ _ ie z Tryd.underlying106 hie hz (by rw [hsz]; decide) (by rw [hsz]; decide) ?_
 show Instr.fill _ _ [(0, Value.agg cs.toArray)] = _
 rw [fill_cons 0 cs rfl (by rw [hsz, hl]) (by simp [hsz, hl]), Instr.fill]
 simp [hsz, hl]
theorem exec_bsliceP {P : Program} {ρ : Operand → Value} {o : Oper} {w w' : World} (T : TypeId) (len : Nat) (parts : Array (Nat × Operand)) (ho : o.op = .buildSlice T len parts) (vs : Array (Nat × Value)) (hv : (parts.map fun (i, x) => (i, ρ x)) = vs) (r : Value) (h : (Instr.buildSlice T len vs).run P w = .ok r w') :
  (execOp ρ o).run P w = .ok (.value r) w' := by
 unfold execOp
 simp only [ho, hv, Sem.run_bind, h, Result.andThen_ok]
 rfl
theorem wpList_append_wt {ops : Array Oper} {rest : List Oper} {o : Oper} {a : Act} {w : World} {Q : Exit → Act → World → Prop} (hgd : o.guard = none) (s x : Operand)
  (ho : o.op = .call { callee := .builtin .append, args := #[s, x], argTypes := #[106, 106] }) (v v2 : Value) (hs : a.eval s = v) (hx : a.eval x = v2)
  {v' : Value} {w' : World} (h1 : (Builtin.append_ #[106, 106] o.type #[v, v2]).run Tryd.prog w = .ok v' w')
  (h : wpList Tryd.prog ops Q rest (a.put o.dst v') w') : wpList Tryd.prog ops Q (o :: rest) a w := by
 refine wpList_plain hgd fun K hK => ?_
 unfold Oper.wp
 simp [execOp, ho, resolve, invoke, builtin, hs, hx, h1, Result.andThen]
 exact hK _ _ h
set_option maxRecDepth 100000 in
theorem goAbv (args : Array Value) (u : World) : (callFunc 60 args).run Tryd.prog u = .ok (.enter 60 args) u := by kernel_rfl
set_option maxRecDepth 100000 in
theorem goTru (args : Array Value) (u : World) : (callFunc 61 args).run Tryd.prog u = .ok (.enter 61 args) u := by kernel_rfl
set_option maxRecDepth 100000 in
set_option maxHeartbeats 8000000 in
theorem tru_any (w : World) (v : Value) (hv : ∃ c, v = .agg c) : Calls Tryd.prog 61 #[v] w fun d w' => d = .returned (.bool true) ∧ Below w.heap.size w w' := by
 obtain ⟨c, rfl⟩ := hv
 go_enter Tryd.func61, Tryd.ntmps61
 go_wp2_with fail
 go_ret
 exact ⟨rfl, (Below.refl _ _).alloc (Nat.le_refl _) _⟩
end Go.Proofs.YtbmlkocpjboodaaDoor
/- stage 7: treeOf -/
namespace Go.Proofs.YtbmlkocpjboodaaDoor
open Go.RowKit
open Go.Lib (hid)
theorem FI.drop {A0 B Sb : Nat} {u : World} {G : Nat → Prop} {v : Value} {s : List Wt} {p : Value} {r : MT} (h : FI A0 B Sb u G v s p r) : FI A0 B Sb u G v s (.pointer none) .nil :=
 ⟨h.box, h.row, h.ok, rfl, trivial, h.low, h.nb, h.kc, h.sb⟩
/-- treeOf under way, behind j entries -/
def TOI (A0 : Nat) (w : World) (G : Nat → Prop) (l : List Rk) (R : List Wt) (j : Nat) (wr : World) : Prop := ∃ G' v' s', FI A0 w.heap.size w.heap.size wr G' v' s' (.pointer none) .nil ∧ bld (l.drop j) s' = R ∧ s'.length ≤ j ∧ (∀ q, G q → G' q) ∧ Below w.heap.size w wr
set_option maxRecDepth 100000 in
theorem zeroRk (u : World) : (zeroValue 66).run Tryd.prog u = .ok (.agg (rkL (.slice none 0 0) 0 (zeros 32)).toArray) u := by kernel_rfl
theorem exec_buildP {P : Program} {ρ : Operand → Value} {o : Oper} {w w' : World} (T : TypeId) (parts : Array (Nat × Operand)) (ho : o.op = .build T parts) (vs : Array (Nat × Value)) (hv : (parts.map fun (i, x) => (i, ρ x)) = vs) (r : Value) (h : (Instr.build T vs).run P w = .ok r w') :
  (execOp ρ o).run P w = .ok (.value r) w' := by
 unfold execOp
 simp only [ho, hv, Sem.run_bind, h, Result.andThen_ok]
 rfl
theorem rkL_one {kv : Value} {n : Nat} {rk : List Int} (h : kv.oneCell' = true) : ∀ v ∈ rkL kv n rk, v.oneCell' = true := by
 intro v hv
 unfold rkL at hv
 simp only [List.mem_append, List.mem_cons, List.not_mem_nil, or_false, List.mem_map] at hv
 rcases hv with (rfl | rfl) | ⟨_, _, rfl⟩
 ·exact h
 ·rfl
 ·rfl
set_option maxRecDepth 100000 in
set_option maxHeartbeats 8000000 in
theorem treeOf_any (A0 : Nat) (w : World) (G : Nat → Prop) (v : Value) (l : List Rk) (hl : RkS w G v l) (hok : ∀ x ∈ l, RkOk x) (hn : l.length ≤ 1048576) (hlow : ∀ q, G q → q < w.heap.size) (hA0 : A0 ≤ w.heap.size) (hA : ∀ q, G q → A0 ≤ q) (hK : KC w) :
  Calls Tryd.prog 32 #[v] w fun d w' => ∃ p, d = .returned p ∧ MIs w' (fun q => q < w'.heap.size ∧ A0 ≤ q) p (MT.of l) ∧ (MT.of l).Good ∧ Below w.heap.size w w' := by
 have hmf : ∀ (fn : Fn) (first cap : Array Value) (w : World), (Instr.makeFunc fn first cap).run Tryd.prog w = .ok (.func fn first cap) w := fun _ _ _ _ => rfl
 obtain ⟨Z, hZ, hz⟩ : ∃ Z : Array Value, Z.size = 34 ∧ ∀ u : World, (zeroValue 66).run Tryd.prog u = .ok (.agg Z) u := ⟨_, by rw [List.size_toArray]; exact rkL_len (zeros_len _), zeroRk⟩
 have HZ := hid hZ
 clear hZ
 have hlc := hl
 obtain ⟨al, cl, rfl, -⟩ := hl
 have hbx : (w.alloc (.cells #[.slice none 0 0] 106)).heap[w.heap.size]? = some (.cells #[.slice none 0 0] 106 (0, 0)) := heap_alloc_new _ _
 have hb0 : Below w.heap.size w (w.alloc (.cells #[.slice none 0 0] 106)) := (Below.refl _ _).alloc (Nat.le_refl _) _
 have hfi : FI A0 w.heap.size w.heap.size (w.alloc (.cells #[.slice none 0 0] 106)) G (.slice none 0 0) [] (.pointer none) .nil :=
  ⟨hbx, WtR.nil _ _ _, fun z hz => (by cases hz), rfl, trivial, fun q hq => ⟨Nat.lt_of_lt_of_le (hlow q hq) hb0.size, Nat.ne_of_lt (hlow q hq), hA q hq⟩, fun g hg => by (cases hg), hK.below hb0 hK.1, hb0.size⟩
 have HH := hid (And.intro hlc (And.intro hok (And.intro hlow (And.intro hK (And.intro hfi hb0)))))
 have hK1 := hK.1
 generalize hR : bld l [] = R
 have HR := hid hR
 have HO := hid (show MT.of l = (fin (fun _ _ => true) R .nil).2 by rw [← hR]; rfl)
 generalize MT.of l = T at *
 clear hlc hok hlow hK hfi hb0 hbx hR
 go_enter Tryd.func32, Tryd.ntmps32
 go_wp2_with fail
 go_loopw [11] (fun iv wr => ∃ j : Nat, j ≤ l.length ∧ iv = .int .i64 (j : Int) ∧ TOI A0 w G l R j wr) (fun iv _ => l.length - (intOf iv).toNat)
 case atStart => exact ⟨0, Nat.zero_le _, rfl, G, .slice none 0 0, [], HH.out.2.2.2.2.1, HR.out, Nat.le_refl _, fun _ h => h, HH.out.2.2.2.2.2⟩
 case round =>
  obtain ⟨j, hj, rfl, G', v', s', h1, h2, h3, h4, h5⟩ := hrel
  by_cases hjl : j < l.length
  ·have hx : l[j]? = some (l[j]'hjl) := List.getElem?_eq_getElem hjl
   generalize l[j]'hjl = x at hx
   obtain ⟨a', c', he, hall⟩ := HH.out.1
   injection he with e1 _ e2
   subst e1 e2
   obtain ⟨g, kv, hag, hgl, hrg, hk⟩ := hall j x hx
   subst hag
   obtain ⟨ak, ck, rfl⟩ := hk.form
   have hxo := HH.out.2.1 x (List.mem_of_getElem? hx)
   have hrg' : wr.rangeAt g (j * 34) (rkL (.slice ak x.k.length ck) x.n x.rk) := fun q u hq => (World.cell?_of_block (a := ⟨g, j * 34 + q, none⟩) (h5.block g hgl)).trans (hrg q u hq)
   have hkw : KIs wr G' (.slice ak x.k.length ck) x.k := (hk.below h5).mono h4
   have HRG := hid hrg'
   have HIR := hid (rkL_info (kv := .slice ak x.k.length ck) (n := x.n) hxo.2.2.2.1)
   have HRL := hid (rkL_len (kv := .slice ak x.k.length ck) (n := x.n) hxo.2.2.2.1)
   have hdr : l.drop j = x :: l.drop (j + 1) := by
    rw [List.drop_eq_getElem_cons hjl]
    rw [List.getElem?_eq_getElem hjl] at hx
    injection hx with hx
    rw [hx]
   rw [hdr] at h2
   have h2' : bld (l.drop (j + 1)) (⟨x.k, x.n, x.rk, (fin (fun k rk => abv x.k x.rk k rk) s' .nil).2⟩ :: (fin (fun k rk => abv x.k x.rk k rk) s' .nil).1) = R := h2
   have h3' := fin_len (fun k rk => abv x.k x.rk k rk) s' .nil
   have hj0 : (0 : Int) ≤ (j : Int) := by omega
   have hj1 : (j : Int) < (l.length : Int) := by omega
   have HX := hid (And.intro h1 (And.intro h2' (And.intro (Nat.le_trans h3' h3) (And.intro h4 (And.intro h5 (And.intro hxo (And.intro hkw hjl)))))))
   clear h1 h2 h2' h3 h3' h4 h5 hx hall hrg hrg' hk hxo hkw hdr
   go_wp2_with (first
    | (refine wpList_load_mid rfl 66 (Operand.tmp 13) rfl g (j * 34) rfl (rkL (.slice ak x.k.length ck) x.n x.rk) _ HRG.out Tryd.underlying66 rfl HIR.out ?_)
    | (refine wpList_store_nw rfl 66 (Operand.tmp 6) (Operand.tmp 14) rfl wr _ 66 rfl wr.heap.size (rkL (.slice ak x.k.length ck) x.n x.rk).toArray rfl rfl rfl (by rw [List.size_toArray]; exact HIR.out) (by rw [HZ.out, List.size_toArray, HRL.out]) (all_oneCell_toArray (rkL_one rfl)) ?_; intro w2 hd2 hb2 hs2; have HD2 := hid hd2; have HB2 := hid hb2; have HS2 := hid hs2; clear hd2 hb2 hs2)
    | (refine wpList_load_row rfl 66 (Operand.tmp 6) rfl wr.heap.size rfl 66 (rkL (.slice ak x.k.length ck) x.n x.rk).toArray (0, 0) _ HD2.out Tryd.underlying66 rfl (by rw [List.size_toArray]; exact HIR.out) ?_))
   obtain ⟨h1, h2, h3, h4, h5, hxo, hkw, -⟩ := HX.out
   have hkw2 := hkw.below HB2.out
   have HF := hid (finish_any (F := 60) (pre := #[.agg (rkL (.slice ak x.k.length ck) x.n x.rk).toArray]) (cap := #[]) (fun k rk => abv x.k x.rk k rk) goAbv A0 w.heap.size w.heap.size hA0 hK1 w2 G' v' s' (h1.below HB2.out) (fun u hu kv k n rk q1 q2 q3 q4 => (show Calls Tryd.prog 60 #[.agg (rkC (.slice ak x.k.length ck) x.n x.rk), .agg (rkC kv n rk)] u fun d u' => d = .returned (.bool (abv x.k x.rk k rk)) ∧ Below u.heap.size u u' from above_any u _ kv x.n n x.k x.rk k rk (hkw2.cg hu (fun q hq hg => (h1.low q hg).2.1)).1 q1 hxo.2.1 q2 hxo.2.2.2.1 q3 hxo.2.2.2.2 q4)))
   have HKW2 := hid hkw2
   clear h1 h2 h3 h4 h5 hxo hkw hkw2
   generalize fin (fun k rk => abv x.k x.rk k rk) s' .nil = FR at *
   obtain ⟨s3, t3⟩ := FR
   refine HF.out.mono ?_
   rintro d w3 ⟨p3, v3, G3, rfl, hf3, hg3, hc3⟩
   obtain ⟨pa, rfl⟩ := hf3.p.form
   obtain ⟨a3, c3, rfl⟩ := hf3.row.slc
   obtain ⟨h1, h2, h3, h4, h5, hxo, hkw, hjl⟩ := HX.out
   have hsl : s3.reverse.length = s3.length := List.length_reverse
   have hxb : w3.heap[wr.heap.size]? = some (.cells (rkL (.slice ak x.k.length ck) x.n x.rk).toArray 66 (0, 0)) := (hc3.block _ (blk_lt HD2.out) (fun e => by have := blk_lt h1.box; omega)).trans HD2.out
   have hk3 : KIs w3 G3 (.slice ak x.k.length ck) x.k := (HKW2.out.cg hc3 (fun q hq hg => (h1.low q hg).2.1)).mono hg3
   have hcb : w3.cell? ⟨w.heap.size, 0, none⟩ = some (.slice a3 s3.reverse.length c3) := cell_of_row w3 w.heap.size 0 _ _ _ hf3.box
   have hfz := frozen_of_row w3 w.heap.size 0 _ _ hf3.box
   have hb34 : Below w3.heap.size w3 (w3.alloc (.cells (wtL ⟨x.k, x.n, x.rk, t3⟩ ⟨.slice ak x.k.length ck, .pointer pa⟩).toArray 109)) := (Below.refl _ _).alloc (Nat.le_refl _) _
   have hw35 : (wtL ⟨x.k, x.n, x.rk, t3⟩ ⟨.slice ak x.k.length ck, .pointer pa⟩).length = 35 := wtL_len (x := ⟨x.k, x.n, x.rk, t3⟩) _ hxo.2.2.2.1
   have hn3 : s3.length ≤ 1073741824 := by have h3' : s3.length ≤ j := h3; omega
   obtain ⟨v5, w5, hr5, hrow5, hc5, ho5⟩ := WtR.app (hf3.row.below hb34) (Nat.le_trans hf3.sb hb34.size) w3.heap.size ⟨x.k, x.n, x.rk, t3⟩ ⟨.slice ak x.k.length ck, .pointer pa⟩ (heap_alloc_new _ _) (hk3.below hb34) (hf3.p.below hb34) (by rw [List.length_reverse]; exact hn3) 106 rfl rfl hxo.2.2.2.1 (fun q hq => Nat.lt_of_lt_of_le (hf3.low q hq).1 hb34.size)
   obtain ⟨a5, c5, rfl⟩ := hrow5.slc
   have hnb5 : ∀ g, (Value.slice a5 (s3.reverse ++ [(⟨x.k, x.n, x.rk, t3⟩ : Wt)]).length c5).ownBlock = some g → g ≠ w.heap.size := fun g hg => (ho5 g hg).elim (fun h => hf3.nb g h) (fun h => by have h8 := blk_lt hf3.box; have h9 := hb34.size; omega)
   have hbx5 := (hc5.block w.heap.size (Nat.lt_of_lt_of_le (blk_lt hf3.box) hb34.size) (fun e => hf3.nb _ e rfl)).trans ((hb34.block w.heap.size (blk_lt hf3.box)).trans hf3.box)
   have hcb5 : w5.cell? ⟨w.heap.size, 0, none⟩ = some (.slice a3 s3.reverse.length c3) := cell_of_row w5 w.heap.size 0 _ _ _ hbx5
   have hfz5 := frozen_of_row w5 w.heap.size 0 _ _ hbx5
   generalize (s3.reverse ++ [(⟨x.k, x.n, x.rk, t3⟩ : Wt)]).length = n5 at *
   generalize s3.reverse.length = n3 at *
   have HBD := hid (fun u => (show (Instr.build 109 #[(0, .agg (rkL (.slice ak x.k.length ck) x.n x.rk).toArray), (1, .pointer pa)]).run Tryd.prog u = .ok (.agg (wtL ⟨x.k, x.n, x.rk, t3⟩ ⟨.slice ak x.k.length ck, .pointer pa⟩).toArray) u from run_build_wt u _ x.n x.rk pa hxo.2.2.2.1))
   generalize wtL ⟨x.k, x.n, x.rk, t3⟩ ⟨.slice ak x.k.length ck, .pointer pa⟩ = cs at *
   have HBS := hid (fun u => run_bslice_wt u cs hw35)
   have HR5 := hid hr5
   have HXB := hid hxb
   have HW35 := hid hw35
   have HXR := hid hxo.2.2.2.1
   have H3 := hid (And.intro hf3 (And.intro hg3 (And.intro hc3 (And.intro hb34 (And.intro hrow5 (And.intro hc5 (And.intro hnb5 hbx5)))))))
   clear h1 h2 h3 h4 h5 hxo hkw hf3 hg3 hc3 hsl hxb hk3 hb34 hw35 hr5 hrow5 hc5 ho5 hnb5 hbx5 HF
   go_wp2_with (first
    | (refine wpList_load_row rfl 66 (Operand.tmp 6) rfl wr.heap.size rfl 66 (rkL (.slice ak x.k.length ck) x.n x.rk).toArray (0, 0) _ HXB.out Tryd.underlying66 rfl (by rw [List.size_toArray]; exact HIR.out) ?_)
    | (refine wpList_of_run (o := ⟨some 22, _, _, _, _, _⟩) rfl (exec_buildP 109 #[(0, Operand.tmp 20), (1, Operand.tmp 21)] rfl #[(0, .agg (rkL (.slice ak x.k.length ck) x.n x.rk).toArray), (1, .pointer pa)] (by simp only [List.map_toArray, List.map_cons, List.map_nil]; rfl) _ (HBD.out _)) ?_)
    | (refine wpList_of_run (o := ⟨some 23, _, _, _, _, _⟩) rfl (exec_bsliceP 106 1 #[(0, Operand.tmp 22)] rfl #[(0, .agg cs.toArray)] (by simp only [List.map_toArray, List.map_cons, List.map_nil]; rfl) _ (HBS.out _)) ?_)
    | (at_builtin; refine wpList_append_wt (o := ⟨some 24, _, _, _, _, _⟩) rfl (Operand.tmp 19) (Operand.tmp 23) rfl _ _ rfl rfl HR5.out ?_))
   go_roundw
   case rel =>
    obtain ⟨h1, h2, h3, h4, h5, hxo, hkw, hjl⟩ := HX.out
    obtain ⟨hf3, hg3, hc3, hb34, hrow5, hc5, hnb5, hbx5⟩ := H3.out
    have hB3 : Below w.heap.size w w3 := (h5.trans (HB2.out.mono h5.size)).trans (hc3.below (fun q e => by omega) (by have := h5.size; have := HB2.out.size; omega))
    have hlt3 := hf3.row.lt
    have hB35 : Below w.heap.size w3 w5 := (hb34.mono hB3.size).trans (hc5.below (fun q e => (hlt3 q e).1) (Nat.le_trans hB3.size hb34.size))
    have hch6 : Chg (fun q => q = w.heap.size) w5 (w5.setCell ⟨w.heap.size, 0, none⟩ (.slice a5 n5 c5)) := (Chg.refl _ _).setCell _ _ (.inl rfl)
    have hB36 : Below w.heap.size w3 (w5.setCell ⟨w.heap.size, 0, none⟩ (.slice a5 n5 c5)) := hB35.trans (hch6.below (fun q e => by omega) (Nat.le_trans hB3.size hB35.size))
    refine ⟨j + 1, hjl, by go_num, G3, .slice a5 n5 c5, ⟨x.k, x.n, x.rk, t3⟩ :: s3, ⟨heap_setCell_same w5 w.heap.size 0 _ _ (.slice a5 n5 c5) hbx5, ?_, ?_, rfl, trivial, fun q hq => ⟨Nat.lt_of_lt_of_le (hf3.low q hq).1 hB36.size, (hf3.low q hq).2⟩, hnb5, hf3.kc.below hB36 hK1, Nat.le_trans hB3.size hB36.size⟩, h2, by simp only [List.length_cons]; omega, fun q hq => hg3 q (h4 q hq), hB3.trans hB36⟩
    ·rw [List.reverse_cons]
     exact hrow5.cg hch6 hnb5 (fun q _ hq => (hf3.low q hq).2.1)
    ·intro z hz
     rcases List.mem_cons.1 hz with rfl | hz
     ·exact ⟨hxo.1, hxo.2.1, hxo.2.2.1, hxo.2.2.2.1, hxo.2.2.2.2, hf3.good⟩
     ·exact hf3.ok z hz
   case measure => simp [intOf]; omega
  ·have hj2 : j = l.length := by omega
   subst hj2
   have HF := hid (finish_any (F := 61) (pre := #[]) (cap := #[]) (fun _ _ => true) goTru A0 w.heap.size w.heap.size hA0 hK1 wr G' v' s' h1 (fun u _ kv k n rk _ _ _ _ => tru_any u _ ⟨_, rfl⟩))
   have HX := hid (And.intro h2 (And.intro h4 h5))
   clear h1 h2 h3 h4 h5
   go_wp2_with fail
   refine HF.out.mono ?_
   rintro d w1 ⟨p, v2, G2, rfl, hf, hg, hc⟩
   obtain ⟨pa, rfl⟩ := hf.p.form
   have H2 := hid (And.intro hf hc)
   clear hf hg hc HF
   go_wp2_with fail
   go_ret
   obtain ⟨h2, h4, h5⟩ := HX.out
   obtain ⟨hf, hc⟩ := H2.out
   rw [List.drop_length] at h2
   have e : R = s' := h2.symm
   subst e
   rw [HO.out]
   exact ⟨_, rfl, hf.p.mono (fun q hq => ⟨(hf.low q hq).1, (hf.low q hq).2.2⟩), hf.good, h5.trans (hc.below (fun q e => by omega) h5.size)⟩
end Go.Proofs.YtbmlkocpjboodaaDoor
/- stage 7: Build -/
namespace Go.Proofs.YtbmlkocpjboodaaDoor
open Go.RowKit
open Go.Lib (hid)
theorem setArr_size : ∀ (vs : List Value) (C : Array Value) (o : Nat), (setArr C o vs).size = C.size
 | [], _, _ => rfl
 | v :: r, C, o => by unfold setArr; rw [setArr_size r]; simp
theorem setArr_out (j : Nat) : ∀ (vs : List Value) (C : Array Value) (o : Nat), j < o ∨ o + vs.length ≤ j → (setArr C o vs)[j]? = C[j]?
 | [], _, _, _ => rfl
 | v :: r, C, o, h => by
  unfold setArr
  rw [setArr_out j r _ (o + 1) (by simp only [List.length_cons] at h; omega), Array.getElem?_setIfInBounds_ne (by simp only [List.length_cons] at h; omega)]
theorem setArr_in (t : Nat) (u : Value) : ∀ (vs : List Value) (C : Array Value) (o : Nat), o + vs.length ≤ C.size → vs[t]? = some u → (setArr C o vs)[o + t]? = some u := by
 induction t with
 | zero =>
  intro vs C o h1 h2
  cases vs with
  | nil => simp at h2
  | cons v r =>
   unfold setArr
   simp only [List.length_cons] at h1
   rw [setArr_out _ r _ (o + 1) (by omega), Nat.add_zero, Array.getElem?_setIfInBounds_self_of_lt (by omega)]
   simpa using h2
 | succ t ih =>
  intro vs C o h1 h2
  cases vs with
  | nil => simp at h2
  | cons v r =>
   unfold setArr
   simp only [List.length_cons] at h1
   rw [show o + (t + 1) = (o + 1) + t by omega]
   exact ih r _ (o + 1) (by simp; omega) (by simpa using h2)
def rkOf (x : List Int × Nat) : Rk := ⟨x.1, x.2, rnk x.1⟩
/-- a list of entries in memory -/
def EnS (w : World) (v : Value) (es : List (List Int × Nat)) : Prop :=
 ∃ a c, v = .slice a es.length c ∧ ∀ (i : Nat) (x : List Int × Nat), es[i]? = some x → ∃ g kv, a = some ⟨g, 0, none⟩ ∧ g < w.heap.size ∧ w.cell? ⟨g, i * 2, none⟩ = some kv ∧ w.cell? ⟨g, i * 2 + 1, none⟩ = some (.int .i64 (x.2 : Int)) ∧ Bs w kv x.1
/-- Build's ranks under way -/
def BLd (w : World) (A : Nat) (es : List (List Int × Nat)) (j : Nat) (wr : World) : Prop :=
 ∃ (G : Nat → Prop) (C : Array Value), wr.heap[A]? = some (.cells C 66 (0, 0)) ∧ C.size = es.length * 34 ∧ (∀ q x, q < j → es[q]? = some x → ∃ kv, (∀ t u, (rkL kv x.2 (rnk x.1))[t]? = some u → C[q * 34 + t]? = some u) ∧ KIs wr G kv x.1) ∧ ¬ G A ∧ (∀ q, G q → q < wr.heap.size ∧ w.heap.size ≤ q) ∧ Below w.heap.size w wr
theorem infoRk : ∃ i, Tryd.prog.info? 66 = some i ∧ (∃ z, i.zero = some z) ∧ i.size = 34 ∧ i.bytes ≤ 128 := by
 have h : (Tryd.prog.info? 66).map (fun i => (i.zero.isSome, i.size, decide (i.bytes ≤ 128))) = some (true, 34, true) := by kernel_rfl
 cases hi : Tryd.prog.info? 66 with
 | none => rw [hi] at h; cases h
 | some i =>
  rw [hi] at h
  simp only [Option.map_some, Option.some.injEq, Prod.mk.injEq] at h
  exact ⟨i, rfl, Option.isSome_iff_exists.1 h.1, h.2.1, of_decide_eq_true h.2.2⟩
theorem make_rk (u : World) (n : Nat) (hn : n ≤ 1048576) : ∃ C : Array Value, C.size = n * 34 ∧ (Instr.makeSlice 64 (.int .i64 (n : Int)) (.int .i64 (n : Int))).run Tryd.prog u = .ok (.slice (some ⟨u.heap.size, 0, none⟩) n n) (u.alloc (.cells C 66)) := by
 obtain ⟨i, hi, ⟨z, hz⟩, hs, hby⟩ := infoRk
 have hm : (i.bytes : Int) * (n : Int) ≤ 281474976710656 := by
  have h1 : i.bytes * n ≤ 128 * 1048576 := Nat.mul_le_mul hby hn
  have h2 : ((i.bytes * n : Nat) : Int) ≤ 281474976710656 := by omega
  rwa [Int.natCast_mul] at h2
 have h := run_make (P := Tryd.prog) (w := u) 64 66 i z Tryd.underlying64 hi hz .i64 .i64 n n (by omega) (Int.le_refl _) hm (by omega)
 rw [Int.toNat_natCast, hs] at h
 exact ⟨_, size_madeCells _ _, h⟩
theorem rnk_len (k : List Int) : (rnk k).length = 32 := sha_len _
theorem rnk_rng (k : List Int) : Rng (rnk k) := sha_rng _
set_option maxRecDepth 100000 in
set_option maxHeartbeats 8000000 in
theorem build_low (w : World) (v : Value) (es : List (List Int × Nat)) (hes : EnS w v es) (hv : Calls Tryd.prog 30 #[v] w fun d w' => d = .returned (.bool true) ∧ Below w.heap.size w w') (hn : es.length ≤ 1048576) (hok : ∀ x ∈ es, x.1.length ≤ 65535 ∧ Rng x.1 ∧ x.2 < 9223372036854775808) (hK : KC w) :
  Calls Tryd.prog 11 #[v] w fun d w' => ∃ X p, d = .returned (.pointer (some ⟨X, 0, none⟩)) ∧ TIs w' X p ∧ MIs w' (fun q => q < w'.heap.size ∧ q ≠ X ∧ w.heap.size ≤ q) p (MT.of (es.map rkOf)) ∧ (MT.of (es.map rkOf)).Good ∧ w.heap.size ≤ X ∧ Below w.heap.size w w' := by
 have hes' := hes
 obtain ⟨al, cl, rfl, -⟩ := hes'
 have HV := hid hv
 have HH := hid (And.intro hes (And.intro hok hK))
 have hK1 := hK.1
 generalize hTT : MT.of (es.map rkOf) = TT
 have HTT := hid hTT
 clear hes hv hok hK hTT
 go_enter Tryd.func11, Tryd.ntmps11
 go_wp2_with fail
 refine HV.out.mono ?_
 rintro d w1 ⟨rfl, hb1⟩
 obtain ⟨C0, hC0, hmk⟩ := make_rk w1 es.length hn
 have HB1 := hid hb1
 have HC0 := hid hC0
 have HB2 := hid (show Below w.heap.size w (w1.alloc (.cells C0 66)) from hb1.alloc hb1.size _)
 have HX2 := hid (heap_alloc_new w1 (.cells C0 66))
 have hA : w.heap.size ≤ w1.heap.size := hb1.size
 clear hb1 hC0
 go_wp2_with fail
 clear hmk
 generalize hw2 : w1.alloc (.cells C0 66) = w2 at *
 clear hw2
 generalize hAA : w1.heap.size = A at *
 clear hAA
 go_loopw [14] (fun iv wr => ∃ j : Nat, j ≤ es.length ∧ iv = .int .i64 (j : Int) ∧ BLd w A es j wr) (fun iv _ => es.length - (intOf iv).toNat)
 case atStart => exact ⟨0, Nat.zero_le _, rfl, fun q => q < w.heap.size ∧ False, C0, HX2.out, HC0.out, fun q x h => absurd h (Nat.not_lt_zero _), fun h => h.2, fun q h => h.2.elim, HB2.out⟩
 case round =>
  obtain ⟨j, hj, rfl, G, C, h1, h2, h3, h4, h5, h6⟩ := hrel
  by_cases hjl : j < es.length
  ·have hx : es[j]? = some (es[j]'hjl) := List.getElem?_eq_getElem hjl
   generalize es[j]'hjl = x at hx
   obtain ⟨a', c', he, hall⟩ := HH.out.1
   injection he with e1 _ e2
   subst e1 e2
   obtain ⟨g, kv, hag, hgl, hc0, hc1, hk⟩ := hall j x hx
   subst hag
   obtain ⟨ak, ck, rfl⟩ := (show ∃ a c, kv = .slice a x.1.length c from by obtain ⟨a, c, e, -⟩ := hk; exact ⟨a, c, e⟩)
   have hxo := HH.out.2.1 x (List.mem_of_getElem? hx)
   have c0 : wr.cell? ⟨g, j * 2, none⟩ = some (.slice ak x.1.length ck) := (World.cell?_of_block (a := ⟨g, j * 2, none⟩) (h6.block g hgl)).trans hc0
   have c1 : wr.cell? ⟨g, j * 2 + 1, none⟩ = some (.int .i64 (x.2 : Int)) := (World.cell?_of_block (a := ⟨g, j * 2 + 1, none⟩) (h6.block g hgl)).trans hc1
   have hj0 : (0 : Int) ≤ (j : Int) := by omega
   have hj1 : (j : Int) < (es.length : Int) := by omega
   have hb3 : Below wr.heap.size wr (wr.alloc (.cells #[.slice ak x.1.length ck, .int .i64 (x.2 : Int)] 33)) := (Below.refl _ _).alloc (Nat.le_refl _) _
   have HWR := hid (withRank_any (wr.alloc (.cells #[.slice ak x.1.length ck, .int .i64 (x.2 : Int)] 33)) (.slice ak x.1.length ck) x.2 x.1 ((hk.below h6).below hb3) hxo.1 ((HH.out.2.2.below h6 hK1).below hb3 (Nat.lt_of_lt_of_le hK1 h6.size)))
   have HX := hid (And.intro h1 (And.intro h2 (And.intro h3 (And.intro h4 (And.intro h5 (And.intro h6 (And.intro hx (And.intro hxo (And.intro hb3 hjl)))))))))
   clear h1 h2 h3 h4 h5 h6 hx hall hc0 hc1 hk hxo hb3
   go_wp2_with fail
   refine HWR.out.mono ?_
   rintro d w3 ⟨kv3, rfl, hk3, hb3'⟩
   obtain ⟨a3, c3, rfl⟩ := hk3.form
   obtain ⟨h1, h2, h3, h4, h5, h6, hx, hxo, hb3, hjl⟩ := HX.out
   have hb4 : Below wr.heap.size wr w3 := hb3.trans (hb3'.mono hb3.size)
   have hx3 := (hb4.block A (blk_lt h1)).trans h1
   have hsz := rkC_size (kv := .slice a3 x.1.length c3) (n := x.2) (rnk_len x.1)
   have HTH := hid (show w3.there A (j * 34) (rkC (.slice a3 x.1.length c3) x.2 (rnk x.1)).size from fun q hq => by
    rw [hsz] at hq
    rw [cell_of_row _ _ _ _ _ _ hx3]
    refine ⟨?_, frozen_of_row _ _ _ _ _ hx3⟩
    rw [Array.getElem?_eq_getElem (by rw [h2]; omega)]
    rfl)
   have HI := hid (show (Tryd.prog.info? 66).map (·.size) = some (rkC (.slice a3 x.1.length c3) x.2 (rnk x.1)).size by rw [hsz]; kernel_rfl)
   have H3 := hid (And.intro hk3 (And.intro hb4 (And.intro hx3 hsz)))
   clear h1 h2 h3 h4 h5 h6 hx hxo hb3 hb3' hk3 hb4 hx3 hsz HWR
   go_wp2_with (refine wpList_store_mid rfl 66 (Operand.tmp 23) (Operand.tmp 22) rfl A (j * 34) (rkC (.slice a3 x.1.length c3) x.2 (rnk x.1)) rfl rfl HTH.out HI.out (rkC_one _ _ _) ?_; generalize hW4 : w3.setCells A (j * 34) (rkC (.slice a3 x.1.length c3) x.2 (rnk x.1)).toList = w4; have HW4 := hid hW4; clear hW4)
   go_roundw
   case rel =>
    obtain ⟨h1, h2, h3, h4, h5, h6, hx, hxo, hb3, -⟩ := HX.out
    obtain ⟨hk3, hb4, hx3, hsz⟩ := H3.out
    have hch : Chg (fun q => q = A) w3 (w3.setCells A (j * 34) (rkC (.slice a3 x.1.length c3) x.2 (rnk x.1)).toList) := Chg.setCells A _ (j * 34) w3 (Chg.refl _ _) rfl
    have hhp := heap_setCells A 66 (rkC (.slice a3 x.1.length c3) x.2 (rnk x.1)).toList (j * 34) w3 C hx3
    rw [HW4.out] at hch hhp
    have hAlt : A < wr.heap.size := blk_lt h1
    have hs3 := hb3.size
    rw [World.size_alloc] at hs3
    have hlen : (rkC (.slice a3 x.1.length c3) x.2 (rnk x.1)).toList.length = 34 := by rw [Array.length_toList, hsz]
    refine ⟨j + 1, hjl, by go_num, fun q => (G q ∨ wr.heap.size ≤ q) ∧ q < w3.heap.size, _, hhp, by rw [setArr_size]; exact h2, fun q y hq hy => ?_, fun h => h.1.elim h4 (fun h => by omega), fun q hq => ⟨Nat.lt_of_lt_of_le hq.2 hch.size, hq.1.elim (fun h => (h5 q h).2) (fun h => Nat.le_trans h6.size h)⟩, (h6.trans (hb4.mono h6.size)).trans (hch.below (fun q e => by omega) (Nat.le_trans h6.size hb4.size))⟩
    by_cases hqj : q = j
    ·subst hqj
     have hyx : y = x := by rw [hx] at hy; injection hy with hy; exact hy.symm
     subst hyx
     refine ⟨_, fun t u htu => setArr_in t u _ C (q * 34) (by rw [hlen, h2]; omega) htu, (hk3.bound.mono (fun b hb => ⟨.inr (by have h9 := hb.1; rw [World.size_alloc] at h9; omega), hb.2⟩)).cg hch (fun b _ hb e => ?_)⟩
     subst e
     rcases hb.1 with h | h
     ·exact h4 h
     ·omega
    ·obtain ⟨kq, hq1, hq2⟩ := h3 q y (by omega) hy
     refine ⟨kq, fun t u htu => ?_, ((hq2.below hb4).bound.mono (fun b hb => ⟨.inl hb.1, hb.2⟩)).cg hch (fun b _ hb e => ?_)⟩
     ·have ht : t < 34 := by
       have h := (List.getElem?_eq_some_iff.1 htu).1
       rwa [rkL_len (rnk_len _)] at h
      rw [setArr_out _ _ C (j * 34) (by rw [hlen]; omega)]
      exact hq1 t u htu
     ·subst e
      rcases hb.1 with h | h
      ·exact h4 h
      ·omega
   case measure => simp [intOf]; omega
  ·have hj2 : j = es.length := by omega
   subst hj2
   have hrk : RkS wr G (.slice (some ⟨A, 0, none⟩) (es.map rkOf).length es.length) (es.map rkOf) := ⟨_, _, rfl, fun i x hx => by
    rw [List.getElem?_map, Option.map_eq_some_iff] at hx
    obtain ⟨y, hy, rfl⟩ := hx
    obtain ⟨kq, hq1, hq2⟩ := h3 i y (List.getElem?_eq_some_iff.1 hy).1 hy
    exact ⟨A, kq, rfl, blk_lt h1, fun t u htu => by rw [cell_of_row _ _ _ _ _ _ h1]; exact hq1 t u htu, hq2⟩⟩
   have HT := hid (treeOf_any w.heap.size wr G (.slice (some ⟨A, 0, none⟩) (es.map rkOf).length es.length) (es.map rkOf) hrk (fun x hx => by
    obtain ⟨y, hy, rfl⟩ := List.mem_map.1 hx
    obtain ⟨q1, q2, q3⟩ := HH.out.2.1 y hy
    exact ⟨q1, q2, q3, rnk_len _, rnk_rng _⟩) (by rw [List.length_map]; exact hn) (fun q hq => (h5 q hq).1) h6.size (fun q hq => (h5 q hq).2) (HH.out.2.2.below h6 hK1))
   have HX := hid h6
   rw [List.length_map] at HT
   rw [HTT.out] at HT
   clear h1 h2 h3 h4 h5 h6 hrk
   go_wp2_with fail
   refine HT.out.mono ?_
   rintro d w3 ⟨p, rfl, hp, hg, hb3⟩
   obtain ⟨pa, rfl⟩ := hp.form
   have H3 := hid (And.intro hp (And.intro hg hb3))
   clear hp hg hb3 HT
   go_wp2_with fail
   go_ret
   obtain ⟨hp, hg, hb3⟩ := H3.out
   have hb4 := HX.out.trans (hb3.mono HX.out.size)
   have hb5 : Below w3.heap.size w3 (w3.alloc (.cells #[.pointer pa] 71)) := (Below.refl _ _).alloc (Nat.le_refl _) _
   exact ⟨_, _, rfl, heap_alloc_new _ _, (hp.below hb5).mono (fun q hq => ⟨Nat.lt_of_lt_of_le hq.1 hb5.size, Nat.ne_of_lt hq.1, hq.2⟩), hg, hb4.size, hb4.trans (hb5.mono hb4.size)⟩
theorem build_ok (w : World) (v : Value) (es : List (List Int × Nat)) (hes : EnS w v es) (hv : Calls Tryd.prog 30 #[v] w fun d w' => d = .returned (.bool true) ∧ Below w.heap.size w w') (hn : es.length ≤ 1048576) (hok : ∀ x ∈ es, x.1.length ≤ 65535 ∧ Rng x.1 ∧ x.2 < 9223372036854775808) (hK : KC w) :
  Calls Tryd.prog 11 #[v] w fun d w' => ∃ X p, d = .returned (.pointer (some ⟨X, 0, none⟩)) ∧ TIs w' X p ∧ MIs w' (fun q => q < w'.heap.size ∧ q ≠ X) p (MT.of (es.map rkOf)) ∧ (MT.of (es.map rkOf)).Good ∧ w.heap.size ≤ X ∧ Below w.heap.size w w' := by
 refine (build_low w v es hes hv hn hok hK).mono ?_
 rintro d w' ⟨X, p, h1, h2, h3, h4, h5, h6⟩
 exact ⟨X, p, h1, h2, h3.mono (fun q hq => ⟨hq.1, hq.2.1⟩), h4, h5, h6⟩
end Go.Proofs.YtbmlkocpjboodaaDoor
/- stage 7: the law's fixed tree, plain; Build of one entry -/
namespace Go.Proofs.YtbmlkocpjboodaaDoor
open Go.RowKit
open Go.Lib (hid)
/-- the tree of one entry -/
def Tone : MT := mkN [97] 1 (rnk [97]) .nil .nil
theorem rng97 : Rng [97] := fun x hx => by
 simp only [List.mem_cons, List.not_mem_nil, or_false] at hx
 omega
theorem Tone_good : Tone.Good := mkN_good trivial trivial (by decide) rng97 (by decide) (rnk_len _) (rnk_rng _)
theorem Tone_full : Tone.Full := ⟨trivial, trivial⟩
theorem Tone_pos : Tone.Pos := ⟨Nat.le_refl _, trivial, trivial⟩
theorem Tone_dg : Tone.dg = sha (txtN [97] 1 (sha txt0) (sha txt0)) := rfl
/-- its proof -/
def Pone : List Int := Tone.prove [] [] false
theorem Pone_eq : Pone = [2, 0, 0, 1, 97, 0, 0, 0, 0, 0, 0, 0, 1, 0] := by
 unfold Pone
 rw [prove_eq]
 rfl
theorem Pone_rng : Rng Pone := by
 rw [Pone_eq]
 intro x hx
 simp only [List.mem_cons, List.not_mem_nil, or_false] at hx
 omega
theorem Pone_rd : rdAll Pone = .inr (mkN [97] 1 (zeros 32) .nil .nil) := rdAll_pr [] [] false Tone Tone_good Tone_full Tone_pos (by decide)
set_option maxRecDepth 100000 in
theorem Pone_ver : verO Tone.dg [] [] false Pone = .inr [([97], 1)] := by
 have h1 : (mkN [97] 1 (zeros 32) .nil .nil).ascends = true := rfl
 have h2 : (mkN [97] 1 (zeros 32) .nil .nil).tells [] [] false = true := rfl
 have h3 : (mkN [97] 1 (zeros 32) .nil .nil).dg = Tone.dg := rfl
 have h4 : (mkN [97] 1 (zeros 32) .nil .nil).ents [] [] false = [([97], 1)] := rfl
 unfold verO
 rw [Pone_rd]
 generalize mkN [97] 1 (zeros 32) .nil .nil = t at *
 show (if t.ascends = false then (.inl 9 : Int ⊕ List (List Int × Nat)) else if t.tells [] [] false = false then .inl 50 else if t.dg = Tone.dg then .inr (t.ents [] [] false) else .inl 51) = _
 rw [h1, h2, if_neg (by decide), if_neg (by decide), if_pos h3, h4]
set_option maxRecDepth 100000 in
theorem cut_ver (d : List Int) (h : d.length = 32) : verO d [] [] false ([1] ++ d) = .inl 50 := by
 have h1 : rdAll ([1] ++ d) = .inr (.cut d) := by
  unfold rdAll
  show (match rdP d with | .inl c => (.inl c : Int ⊕ MT) | .inr (t, r) => if r = [] then .inr t else .inl 7) = _
  unfold rdP
  rw [if_neg (by omega)]
  have h2 : d.take 32 = d := List.take_of_length_le (by omega)
  have h3 : d.drop 32 = [] := List.drop_eq_nil_of_le (by omega)
  rw [h2, h3]
  rfl
 unfold verO
 rw [h1]
 rfl
theorem Pone_clash : clashO Pone Pone = none := by
 unfold clashO
 rw [Pone_rd]
 simp only [clashM, mkN, if_true]
theorem nil_prove : MT.prove [] [] false .nil = [0] := rfl
theorem Tone_ents : (Tone.ents [] [] false).length = 1 := rfl
theorem cells_bs {u : World} {L : Nat} {ak : Option Addr} {ck n : Nat} (h : u.heap[L]? = some (.cells #[.slice ak 1 ck, .int .i64 (n : Int)] 33 (0, 0))) (hb : Bs u (.slice ak 1 ck) [97]) : EnS u (.slice (some ⟨L, 0, none⟩) 1 1) [([97], n)] := by
 refine ⟨some ⟨L, 0, none⟩, 1, rfl, fun i x hx => ?_⟩
 cases i with
 | zero =>
  injection hx with hx
  subst hx
  exact ⟨L, .slice ak 1 ck, rfl, blk_lt h, cell_of_row _ L 0 _ _ _ h, cell_of_row _ L 1 _ _ _ h, hb⟩
 | succ i => simp at hx
theorem build_one (u : World) (L : Nat) (ak : Option Addr) (ck : Nat) (h : u.heap[L]? = some (.cells #[.slice ak 1 ck, .int .i64 1] 33 (0, 0))) (hb : Bs u (.slice ak 1 ck) [97]) (hK : KC u) :
  Calls Tryd.prog 11 #[.slice (some ⟨L, 0, none⟩) 1 1] u fun d w' => ∃ X p, d = .returned (.pointer (some ⟨X, 0, none⟩)) ∧ TIs w' X p ∧ MIs w' (fun q => q < w'.heap.size ∧ q ≠ X) p Tone ∧ u.heap.size ≤ X ∧ Below u.heap.size u w' := by
 refine (build_ok u _ [([97], 1)] (cells_bs (n := 1) h hb) (valid_one u L 1 ak 1 ck 1 h (Nat.le_refl _) (by decide)) (by decide) (fun x hx => ?_) hK).mono ?_
 ·simp only [List.mem_cons, List.not_mem_nil, or_false] at hx
  subst hx
  exact ⟨by decide, rng97, by decide⟩
 ·rintro d w' ⟨X, p, hd, h1, h2, -, h4, h5⟩
  exact ⟨X, p, hd, h1, h2, h4, h5⟩
end Go.Proofs.YtbmlkocpjboodaaDoor
