import Derived.Test.YtaibminomehppaaLog8
import Derived.WalkKit
import Derived.ProofKit
import Derived.BigQuiet
import Derived.Deep.QuietTactic
import Derived.WalkSpells
import Derived.WalkLawsBesides
import Derived.Lib.Hide
import Derived.Deep.MidRow
import Derived.Deep.RegionLaw
import Derived.BigRegion
import Derived.Laws.AppendOwnNone
import Derived.Deep.DeepMust
import Derived.Deep.AppendLies
import Derived.RegionTactic
import Derived.Deep.WholeRow
import Derived.BigFrame
import Derived.Deep.RegionWith
import Derived.Deep.RegionHeld3
import Derived.Maps.RangeWalk
import Derived.Laws.CopyOwn
import Derived.StillTailTactics

namespace Go.Proofs.Ytaibminomehppaa
open Go.RowKit
theorem Own.chg {w w' : World} {B : Nat} {v : Value} {l : List Int} {F : Nat → Prop} (h : Own w B v l) (hc : Chg F w w') (hF : ∀ g, v.ownBlock = some g → ¬ F g) : Own w' B v l := by
  obtain ⟨h1, h2⟩ := h
  refine ⟨h1, h2.imp id ?_⟩
  rintro ⟨g, cap, cur, hv, hb, hg, hr⟩
  exact ⟨g, cap, cur, hv, hb, (hc.block g (Array.getElem?_eq_some_iff.1 hg).1 (hF g (by rw [hv]; rfl))).trans hg, hr⟩
theorem zeros_map_drop (n m : Nat) : ((zeros n).map (Value.int .u8)).drop m = (zeros (n - m)).map (Value.int .u8) := by rw [← List.map_drop]; simp [zeros, List.drop_replicate]
theorem wrap_i64 (n : Int) (h1 : -9223372036854775808 ≤ n) (h2 : n ≤ 9223372036854775807) : IntKind.i64.wrap n = n := by
  rw [IntKind.wrap_i64]; omega
/-- a block that begins with bytes -/
def padB (l : List Int) : List Int := l.take 256 ++ zeros (256 - l.length)
theorem padB_len (l : List Int) : (padB l).length = 256 := by
  unfold padB; rw [List.length_append, List.length_take, zeros, List.length_replicate]; omega
theorem padB_rng {l : List Int} (h : Rng l) : Rng (padB l) := rng_append (h.take _) (zeros_rng _)
theorem pad_copy (l : List Int) : ((zeros 256).map (Value.int .u8)).take 0 ++ (l.take 256).map (Value.int .u8) ++ ((zeros 256).map (Value.int .u8)).drop (0 + ((l.take 256).map (Value.int .u8)).length) = (padB l).map (Value.int .u8) := by
  rw [List.take_zero, List.nil_append, zeros_map_drop, Nat.zero_add, List.length_map, List.length_take, padB, List.map_append]
  congr 3
  omega
/-- the writes that lay bytes from a block on, the last block first -/
def wl (n : Int) (all : List Int) : Nat → List (Int × List Int)
  | 0 => []
  | k + 1 => (n + k, padB (all.drop (256 * k))) :: wl n all k
theorem wsy_nil (nb rm : Int) (s : DS) : s.wsy nb rm [] = (s.sy, s.se) := rfl
theorem wsy_cons (nb rm : Int) (s : DS) (x : Int × List Int) (r : List (Int × List Int)) : s.wsy nb rm (x :: r) = if s.we nb rm x.1 = 0 then (s.wr nb rm x.1 x.2).wsy nb rm r else (s.wr nb rm x.1 x.2, s.we nb rm x.1) := by
  conv => lhs; unfold DS.wsy DS.ws
  by_cases h : s.we nb rm x.1 = 0
  · simp only [if_pos h]; rfl
  · simp only [if_neg h]
theorem wr_L (nb rm : Int) (s : DS) (n : Int) (b : List Int) : (s.wr nb rm n b).L.length ≤ s.L.length + 1 := by
  unfold DS.wr; simp only; split <;> simp
set_option maxRecDepth 100000 in
theorem wpList_append_any62 {ops : Array Oper} {rest : List Oper} {o : Oper} {a : Act} {w : World} {Q : Exit → Act → World → Prop} (i0 : TypeInfo) (hi : Try.prog.info? 5 = some i0) (hz0 : i0.zero = some (.int .u8 0)) (hz1 : i0.size = 1) (hz2 : i0.bytes = 1)
    (hgd : o.guard = none) (s x : Operand) (ho : o.op = .call { callee := .builtin .append, args := #[s, x], argTypes := #[39, 39] }) (X ins : Nat) (l : List Int) (T : TypeId) (hX : w.heap[X]? = some (.cells (ArrU8 l) T (0, 0))) (hs : a.eval s = .slice (some ⟨X, 0, none⟩) ins ins) (hin : ins ≤ l.length)
    (v2 : Value) (m : List Int) (hx : a.eval x = v2) (hbs : Bs w v2 m) (hm : 0 < m.length) (hlen : m.length ≤ 1048576)
    (h : ∀ v' w', Own w' w.heap.size v' (l.take ins ++ m) → Below w.heap.size w w' → wpList Try.prog ops Q rest (a.put o.dst v') w') (hl2 : l.length ≤ 256 := by omega) : wpList Try.prog ops Q (o :: rest) a w := by
  obtain ⟨ad, cap, rfl, hcap, hc⟩ := hbs
  obtain ⟨pb, po, rfl, hpb, hcell⟩ := hc hm
  have hlt : (l.take ins).length = ins := by rw [List.length_take]; omega
  refine wpList_append_grows w hgd s x 39 ho 5 i0 (.int .u8 0) 1 1 Try.underlying39 hi hz0 hz1 hz2 rfl (by decide) (some ⟨X, 0, none⟩) ins ins ((l.take ins).map (Value.int .u8)) hs (fun e => by cases e) (by rw [List.length_map, hlt]; omega) (fun b hb j u hu => by
    injection hb with hb
    subst hb
    rw [List.getElem?_map, Option.map_eq_some_iff] at hu
    obtain ⟨y, hy, rfl⟩ := hu
    have hj : j < ins := by have := (List.getElem?_eq_some_iff.1 hy).1; omega
    rw [Addr.add_mid, cell_of_row _ _ _ _ _ _ hX]
    rw [List.getElem?_take, if_pos hj] at hy
    unfold ArrU8
    simp [hy]) ⟨pb, po, none⟩ m.length cap (m.map (Value.int .u8)) hx (by simp) (fun j u hu => by
    rw [List.getElem?_map, Option.map_eq_some_iff] at hu
    obtain ⟨y, hy, rfl⟩ := hu
    have hq : j < m.length := (List.getElem?_eq_some_iff.1 hy).1
    have e4 := hcell j hq
    rw [hy] at e4
    rw [Addr.add_mid]
    exact e4) (by intro v hv; obtain ⟨x, _, rfl⟩ := List.mem_map.1 hv; rfl) (by omega) (by unfold maxLen; omega) (by omega) fun v' w' h1 h2 => h v' w' ?_ ?_
  · unfold Own
    rw [List.length_append, hlt, List.map_append]
    exact h1
  · exact ⟨h2.os, h2.tape, h2.output, h2.size, fun k hk => h2.block k hk (by simp)⟩
set_option maxRecDepth 100000 in
set_option maxHeartbeats 8000000 in
theorem writeArea_any (B D M : Nat) (nb rm fi sz : Int) (s : DS) (lv v2 : Value) (at_ : Nat) (rec : List Int) (w : World) (h : DkS w B D M nb rm s lv) (hdn : s.dn = false) (h1 : 0 ≤ fi) (h2 : fi + sz ≤ nb) (h3 : 3 ≤ sz) (hnb : nb ≤ 4096)
    (hv : BsB w w.heap.size v2 rec) (h0 : 0 < rec.length) (hen : ((at_ + rec.length : Nat) : Int) ≤ (sz - 2) * 256) (hL : s.L.length ≤ 268431000) :
    Calls Try.prog 82 #[.agg #[Value.pointer (some ⟨D, 0, none⟩), .int .i64 fi, .int .i64 sz], .int .i64 (at_ : Int), v2] w
      (LEnds B D M nb rm (s.wsy nb rm (wl (fi + (2 + (at_ / 256 : Nat))) ((s.f (fi + (2 + (at_ / 256 : Nat)))).take (at_ % 256) ++ rec) ((at_ % 256 + rec.length - 1) / 256 + 1))).1 (s.wsy nb rm (wl (fi + (2 + (at_ / 256 : Nat))) ((s.f (fi + (2 + (at_ / 256 : Nat)))).take (at_ % 256) ++ rec) ((at_ % 256 + rec.length - 1) / 256 + 1))).2 lv w) := by
  have hz35 := zero35
  have HI35 := Lib.hid (show (Try.prog.info? 52).map (·.size) = some 256 by kernel_rfl)
  have SZ := Lib.hid (show (ArrU8 (zeros 256)).size = 256 by rw [ArrU8_size, zeros, List.length_replicate])
  obtain ⟨fz, dn, f, L⟩ := s
  dsimp only at hdn hL ⊢
  subst hdn
  replace h : Dk w B D M nb rm fz false f L lv := h
  have hdiv : (at_ : Int).tdiv 256 = ((at_ / 256 : Nat) : Int) := by rw [Int.tdiv_eq_ediv_of_nonneg (by omega)]; omega
  have hmod : (at_ : Int).tmod 256 = ((at_ % 256 : Nat) : Int) := by rw [Int.tmod_eq_emod_of_nonneg (by omega)]; omega
  have hins : at_ % 256 < 256 := Nat.mod_lt _ (by decide)
  have hat : at_ = 256 * (at_ / 256) + at_ % 256 := (Nat.div_add_mod _ _).symm
  generalize at_ / 256 = q at *
  generalize at_ % 256 = ins at *
  obtain ⟨p, hp⟩ : ∃ p : Int, 2 + (q : Int) = p := ⟨_, rfl⟩
  rw [hp]
  have hpr : 2 ≤ p ∧ p < sz ∧ p ≤ 4096 := by omega
  have HFL := Lib.hid h.2.2.2.2.2.2.1
  have hb1 : Below w.heap.size w (w.alloc (.cells #[Value.pointer (some ⟨D, 0, none⟩), .int .i64 fi, .int .i64 sz] 79)) := (Below.refl _ _).alloc (Nat.le_refl _) _
  have HB1 := Lib.hid hb1
  have HX0 := Lib.hid (heap_alloc_new w (.cells #[Value.pointer (some ⟨D, 0, none⟩), .int .i64 fi, .int .i64 sz] 79))
  have HD1 := Lib.hid (h.chg (Chg.fresh (F := fun _ => False) hb1) (fun _ _ h => h))
  have HFT := Lib.hid (show ∀ k, Foot D M lv k → k < w.heap.size from fun k hk => (h.foot k hk).2)
  have HS1 := Lib.hid (show (w.alloc (.cells #[Value.pointer (some ⟨D, 0, none⟩), .int .i64 fi, .int .i64 sz] 79)).heap.size = w.heap.size + 1 by simp)
  have HBS := Lib.hid hv
  have HRD := fun u (h : Dk u B D M nb rm fz false f L lv) => lread_any B D M nb rm fz fi sz p false f L lv u h (by omega) (by omega)
  rw [show rdF nb (fi + p) false f = f (fi + p) by rw [rdF, if_neg (by simp), if_pos (by simp [hasB]; omega)], show readErr nb (fi + p) false = 0 by rw [readErr, if_neg (by simp), if_pos (by simp [hasB]; omega)]] at HRD
  have HRD := Lib.hid HRD
  have HF0 := Lib.hid (HFL.out (fi + p))
  generalize hl0 : f (fi + p) = l0 at *
  obtain ⟨all, hall⟩ : ∃ all, l0.take ins ++ rec = all := ⟨_, rfl⟩
  have hal : all.length = ins + rec.length := by rw [← hall, List.length_append, List.length_take, HF0.out]; omega
  rw [hall]
  have HALL := Lib.hid hall
  have HAL := Lib.hid hal
  obtain ⟨cnt, hcnt⟩ : ∃ cnt, (ins + rec.length - 1) / 256 = cnt := ⟨_, rfl⟩
  have hc1 : 256 * cnt ≤ ins + rec.length - 1 := by rw [← hcnt]; exact Nat.mul_div_le _ _
  have hc2 : ((all.length : Int) - 1).tdiv 256 = (cnt : Int) := by rw [Int.tdiv_eq_ediv_of_nonneg (by omega), hal]; omega
  rw [hcnt]
  have HC1 := Lib.hid hc1
  have HEN := Lib.hid (And.intro hen hat)
  obtain ⟨W, hW⟩ : ∃ W, DS.wsy nb rm ⟨fz, false, f, L⟩ (wl (fi + p) all (cnt + 1)) = W := ⟨_, rfl⟩
  rw [hW]
  have HW := Lib.hid hW
  have hpq := hp
  obtain ⟨va, vc, hvv⟩ : ∃ va vc, v2 = .slice va rec.length vc := by
    obtain ⟨a, c, e, _⟩ := hv.1
    exact ⟨a, c, e⟩
  subst hvv
  have hrl : ((rec.length : Nat) : Int) ≤ 1048576 := by omega
  have hrm : rec.length ≤ 1048576 := by omega
  have H0 := Lib.hid h0
  clear hb1 h hv hall hal hc1 hen hW hcnt hat hl0
  go_enter Try.func82, Try.ntmps82
  have b0 := (cell_of_row _ (w.heap.size) 0 _ _ _ HX0.out).trans (show (#[Value.pointer (some ⟨D, 0, none⟩), .int .i64 fi, .int .i64 sz] : Array Value)[0]? = some (.pointer (some ⟨D, 0, none⟩)) from rfl)
  have b1 := (cell_of_row _ (w.heap.size) 1 _ _ _ HX0.out).trans (show (#[Value.pointer (some ⟨D, 0, none⟩), .int .i64 fi, .int .i64 sz] : Array Value)[1]? = some (.int .i64 fi) from rfl)
  have b2 := (cell_of_row _ (w.heap.size) 2 _ _ _ HX0.out).trans (show (#[Value.pointer (some ⟨D, 0, none⟩), .int .i64 fi, .int .i64 sz] : Array Value)[2]? = some (.int .i64 sz) from rfl)
  go_wp2_with fail
  refine (HRD.out _ HD1.out).mono ?_
  rintro e wa ⟨rfl, hb⟩
  have XA := Lib.hid (HB1.out.trans (hb.mono HB1.out.size))
  have XA1 := Lib.hid hb
  have HXA0 := Lib.hid ((hb.block w.heap.size (by rw [HS1.out]; omega)).trans HX0.out)
  have HAS := Lib.hid (show w.heap.size < wa.heap.size by have := hb.size; have := HS1.out; omega)
  clear hb b0 b1 b2
  have SL := Lib.hid (show (ArrU8 l0).size = 256 by rw [ArrU8_size, HF0.out])
  have hsl := fun u => slice35_hm u wa.heap.size (ins : Int) ins rfl (by omega)
  have HBSA := Lib.hid (HBS.out.kept XA.out)
  obtain ⟨i0, hi, hz0, hz1, hz2⟩ := info_parts info5
  have hall1 : 1 ≤ all.length := by have := HAL.out; have := H0.out; omega
  have hcs : (cnt : Int) ≤ 1048832 := by have := HC1.out; omega
  have hall2 : all.length ≤ 1048832 := by have := HAL.out; omega
  go_wp2_with (first
    | (refine wpList_store_nwL rfl 52 (Operand.tmp 9) (Operand.tmp 24) rfl wa _ 52 rfl wa.heap.size (ArrU8 l0) rfl rfl rfl (by rw [HI35.out, SL.out]) (by rw [SZ.out, SL.out]) (ArrU8_one _) ?_; intro wb hd hb hs; have QB := Lib.hid hd; have XB := Lib.hid hb; have SB := Lib.hid hs; have HBSB := Lib.hid (HBSA.out.kept (hb.mono (by have := HAS.out; omega))); clear hd hb hs)
    | (at_builtin; refine wpList_append_any62 i0 hi hz0 hz1 hz2 rfl (Operand.tmp 31) (Operand.tmp 32) rfl wa.heap.size ins l0 _ QB.out rfl (by rw [HF0.out]; omega) _ rec rfl HBSB.out.1 H0.out (by omega) ?_ (by rw [HF0.out]; omega); intro v' w4 hown4 hg4; rw [HALL.out] at hown4; have HO4 := Lib.hid hown4; have X4 := Lib.hid hg4; obtain ⟨aa, ac, haf⟩ := own_form hown4; subst haf; clear hown4 hg4))
  have XB4 := Lib.hid (show Below w.heap.size w w4 from (XA.out.trans (XB.out.mono (by have := HAS.out; omega))).trans (X4.out.mono (by have := HAS.out; have := SB.out; omega)))
  have HX04 := Lib.hid ((X4.out.block w.heap.size (by have := HAS.out; have := SB.out; omega)).trans ((XB.out.block w.heap.size HAS.out).trans HXA0.out))
  have HG4 := Lib.hid (show ∀ g, (Value.slice aa all.length ac).ownBlock = some g → w.heap.size < g ∧ g < w4.heap.size from fun g hg => by have := HO4.out.lt g hg; have := HAS.out; have := SB.out; omega)
  have HD4 := Lib.hid (show DkS w4 B D M nb rm ⟨fz, false, f, L⟩ lv from (HD1.out.chg (Chg.fresh (F := fun _ => False) XA1.out) (fun _ _ h => h)).chg (F := fun k => w.heap.size ≤ k) ⟨((XB.out.mono (Nat.zero_le _)).trans (X4.out.mono (Nat.zero_le _))).os, ((XB.out.mono (Nat.zero_le _)).trans (X4.out.mono (Nat.zero_le _))).tape, ((XB.out.mono (Nat.zero_le _)).trans (X4.out.mono (Nat.zero_le _))).output, ((XB.out.mono (Nat.zero_le _)).trans (X4.out.mono (Nat.zero_le _))).size, fun k hk hn => by have := HAS.out; have := SB.out; exact (X4.out.block k (by omega)).trans (XB.out.block k (by omega))⟩ (fun k hk e => by have := HFT.out k hk; omega))
  have HS4 := Lib.hid (show w.heap.size < w4.heap.size by have := XB4.out.size; have := X4.out.size; have := SB.out; have := HAS.out; omega)
  clear hsl hc2
  go_wp2_with fail
  go_loopw [12] (fun iv wr => ∃ (k : Nat) (sk : DS) (lvk : Value), iv = .int .i64 ((k : Int) - 1) ∧ k ≤ cnt + 1 ∧ sk.wsy nb rm (wl (fi + p) all k) = W ∧ DkS wr B D M nb rm sk lvk ∧ sk.L.length + k ≤ L.length + cnt + 1 ∧ Chg (Foot D M lv) w4 wr ∧ (∀ g, Foot D M lvk g → Foot D M lv g ∨ w4.heap.size ≤ g)) (fun iv _ => (intOf iv + 1).toNat)
  case atStart => exact ⟨cnt + 1, ⟨fz, false, f, L⟩, lv, by congr 1; omega, Nat.le_refl _, HW.out, HD4.out, by show L.length + (cnt + 1) ≤ _; omega, Chg.refl _ _, fun _ h => .inl h⟩
  case round =>
    obtain ⟨k, sk, lvk, rfl, hk, hws, hdk, hLk, hch, hft⟩ := hrel
    have HWS := Lib.hid hws
    have HDK := Lib.hid hdk
    have HLK := Lib.hid hLk
    have HCH := Lib.hid hch
    have HFT2 := Lib.hid hft
    have HX0W := Lib.hid ((hch.block w.heap.size HS4.out (fun e => by have := HFT.out _ e; omega)).trans HX04.out)
    have HSW := Lib.hid (show w.heap.size < wr.heap.size by have := hch.size; have := HS4.out; omega)
    have HNX := Lib.hid (show ¬ Foot D M lvk w.heap.size from fun e => (hft _ e).elim (fun h => by have := HFT.out _ h; omega) (fun h => by have := HS4.out; omega))
    have b0 := (cell_of_row _ (w.heap.size) 0 _ _ _ HX0W.out).trans (show (#[Value.pointer (some ⟨D, 0, none⟩), .int .i64 fi, .int .i64 sz] : Array Value)[0]? = some (.pointer (some ⟨D, 0, none⟩)) from rfl)
    have b1 := (cell_of_row _ (w.heap.size) 1 _ _ _ HX0W.out).trans (show (#[Value.pointer (some ⟨D, 0, none⟩), .int .i64 fi, .int .i64 sz] : Array Value)[1]? = some (.int .i64 fi) from rfl)
    have b2 := (cell_of_row _ (w.heap.size) 2 _ _ _ HX0W.out).trans (show (#[Value.pointer (some ⟨D, 0, none⟩), .int .i64 fi, .int .i64 sz] : Array Value)[2]? = some (.int .i64 sz) from rfl)
    clear hws hdk hLk hch hft
    by_cases hk0 : k = 0
    · subst hk0
      rw [show (((0 : Nat) : Int) - 1) = -1 from rfl]
      go_wp2_with fail
      refine (dsync_any B D M nb rm sk lvk wr HDK.out).mono ?_
      intro e w6 hl
      have HL6 := Lib.hid (LEnds.seq2 XB4.out HCH.out HFT2.out (Below.refl _ _) hl)
      have hl' := hl
      obtain ⟨rfl, _⟩ := hl'
      clear hl
      have HR := Lib.hid (show W = (sk.sy, sk.se) by rw [← HWS.out]; rfl)
      generalize sk.se = E6 at *
      go_wp2_with fail
      go_ret
      rw [HR.out]
      exact HL6.out
    · obtain ⟨i, rfl⟩ : ∃ i, k = i + 1 := ⟨k - 1, by omega⟩
      rw [show (((i + 1 : Nat) : Int) - 1) = (i : Int) by omega]
      have hi0 : (0 : Int) ≤ (i : Int) := by omega
      have hic : (i : Int) ≤ 1048832 := by omega
      have him : (i : Int) * 256 ≤ 1048832 := by have := HC1.out; have := HAL.out; omega
      have hwr : IntKind.i64.wrap ((i : Int) * 256) = (i : Int) * 256 := wrap_i64 _ (by omega) (by omega)
      have hi256 : 256 * i < all.length := by have := HC1.out; have := HAL.out; have := H0.out; omega
      have hpi : p + (i : Int) ≤ 4096 := by have := HEN.out; have := HC1.out; omega
      have HOW := Lib.hid (HO4.out.chg HCH.out (fun g hg e => by have := HFT.out g e; have := HG4.out g hg; omega))
      have hbs : BsB wr wr.heap.size (.slice aa all.length ac) all := ⟨HOW.out.bs, fun ad n c e h0 => by
        have h := HOW.out.lt ad.block (by rw [e]; rfl)
        exact h.2⟩
      obtain ⟨sa, sn, sc, hsl2, hs2⟩ := slice_bsb_l hbs (256 * i) (by omega)
      rw [show ((256 * i : Nat) : Int) = (i : Int) * 256 by omega] at hsl2
      have hb5 : Below wr.heap.size wr (wr.alloc (.cells (ArrU8 (zeros 256)) 52)) := (Below.refl _ _).alloc (Nat.le_refl _) _
      have hs5 := hs2.kept hb5
      obtain ⟨ad, cap5, hv5, hcp5, hcell5⟩ := hs5.1
      injection hv5 with e1 e2 e3
      subst e1 e2 e3
      obtain ⟨pb, po, rfl, hpb, hcell5⟩ := hcell5 (by rw [List.length_drop]; omega)
      obtain ⟨dr, hdr⟩ : ∃ dr, all.drop (256 * i) = dr := ⟨_, rfl⟩
      rw [hdr] at hcell5 hsl2 hcp5
      have hwl : wl (fi + p) all (i + 1) = (fi + p + i, padB dr) :: wl (fi + p) all i := by rw [wl, hdr]
      have HWS2 := Lib.hid (show (if sk.we nb rm (fi + p + i) = 0 then (sk.wr nb rm (fi + p + i) (padB dr)).wsy nb rm (wl (fi + p) all i) else (sk.wr nb rm (fi + p + i) (padB dr), sk.we nb rm (fi + p + i))) = W from by rw [← HWS.out, hwl, wsy_cons])
      have HCELL := Lib.hid hcell5
      have HX13 := Lib.hid (heap_alloc_new wr (.cells (ArrU8 (zeros 256)) 52))
      have hall35 := fun u => slice35_all u wr.heap.size
      have HCUR := Lib.hid (show (wr.alloc (.cells (ArrU8 (zeros 256)) 52)).heap[wr.heap.size]? = some (.cells ((zeros 256).map (Value.int .u8)).toArray 52 (0, 0)) from HX13.out)
      have HUU := Lib.hid (show (Try.prog.info? 5).map (·.size) = some 1 by kernel_rfl)
      have HDRL := Lib.hid (show 0 < dr.length by rw [← hdr, List.length_drop]; omega)
      have HB5 := Lib.hid hb5
      clear hs2 hs5 hbs hb5 hcell5 hcp5 hdr hwl hpb
      go_wp2_with fail
      refine wp_region_held_drew (S := fun _ => True) (by kernel_rfl) (trivial) (fun hHeld => ?_)
      refine wpAnyH_take (i := 0) (oi := ({ dst := some 42, op := Op.slice 52 (Operand.tmp 13) none none none, type := 39, pos := "blocks.go:93", after := #[], guard := none } : Oper)) (v := ?_) rfl (by kernel_rfl) (by kernel_rfl) (by kernel_rfl) (fun _ _ _ h => h) (Or.inl ⟨by rfl, ?_⟩) (by assumption) ?_
      rotate_left 1
      · (intro u hSw; go_simp; try with_reducible rfl)
      try simp only [Act.put, List.setIfInBounds_toArray, List.set_cons_zero, List.set_cons_succ]
      refine wpAnyH_take (i := 1) (oi := ({ dst := some 43, op := Op.move (Operand.tmp 11), type := 39, pos := "blocks.go:93", after := #[], guard := none } : Oper)) (v := ?_) rfl (by kernel_rfl) (by kernel_rfl) (by kernel_rfl) (fun _ _ _ h => h) (Or.inl ⟨by rfl, ?_⟩) (by assumption) ?_
      rotate_left 1
      · (intro u hSw; go_simp; try with_reducible rfl)
      try simp only [Act.put, List.setIfInBounds_toArray, List.set_cons_zero, List.set_cons_succ]
      refine wpAnyH_take (i := 2) (oi := ({ dst := some 44, op := Op.move (Operand.tmp 12), type := 3, pos := "blocks.go:93", after := #[], guard := none } : Oper)) (v := ?_) rfl (by kernel_rfl) (by kernel_rfl) (by kernel_rfl) (fun _ _ _ h => h) (Or.inl ⟨by rfl, ?_⟩) (by assumption) ?_
      rotate_left 1
      · (intro u hSw; go_simp; try with_reducible rfl)
      try simp only [Act.put, List.setIfInBounds_toArray, List.set_cons_zero, List.set_cons_succ]
      refine wpAnyH_take (i := 3) (oi := ({ dst := some 45, op := Op.binOp BinOp.mul 3 (Operand.tmp 44) (Operand.const (Value.int IntKind.i64 256)) 3, type := 3, pos := "blocks.go:93", after := #[{ on := 2, ground := Ground.data }], guard := none } : Oper)) (v := ?_) rfl (by kernel_rfl) (by kernel_rfl) (by kernel_rfl) (fun _ _ _ h => h) (Or.inl ⟨by rfl, ?_⟩) (by assumption) ?_
      rotate_left 1
      · (intro u hSw; go_simp; try with_reducible rfl)
      try simp only [Act.put, List.setIfInBounds_toArray, List.set_cons_zero, List.set_cons_succ]
      refine wpAnyH_take (i := 4) (oi := ({ dst := some 46, op := Op.slice 39 (Operand.tmp 43) (some (Operand.tmp 45)) none none, type := 39, pos := "blocks.go:93", after := #[{ on := 1, ground := Ground.data }, { on := 3, ground := Ground.data }], guard := none } : Oper)) (v := ?_) rfl (by kernel_rfl) (by kernel_rfl) (by kernel_rfl) (fun _ _ _ h => h) (Or.inl ⟨by rfl, ?_⟩) (by assumption) ?_
      rotate_left 1
      · (intro u hSw; go_simp; try with_reducible rfl)
      try simp only [Act.put, List.setIfInBounds_toArray, List.set_cons_zero, List.set_cons_succ]
      refine wpAnyH_ready (rs := [5]) (by kernel_rfl) (by simp) ?_
      refine AllReadyH.cons (o := ({ dst := some 47, op := Op.call { callee := Callee.builtin Builtin.copy, args := #[Operand.tmp 42, Operand.tmp 46], argTypes := #[39, 39] }, type := 3, pos := "blocks.go:93", after := #[{ on := 0, ground := Ground.data }, { on := 4, ground := Ground.data }], guard := none } : Oper)) rfl (fun K hK => ?_) AllReadyH.nil
      refine step_copy_row (by rfl) (Operand.tmp 42) (Operand.tmp 46) 39 39 (by rfl) 5 Try.underlying39 HUU.out wr.heap.size 0 256 256 dr.length _ ⟨pb, po, none⟩ (by rfl) (by rfl) ((zeros 256).map (Value.int .u8)) ((padB dr).map (Value.int .u8)) 52 HCUR.out ((dr.take 256).map (Value.int .u8)) (by rw [List.length_map, List.length_take]; exact Nat.min_comm _ _) (by
      intro j v hv
      rw [List.getElem?_map, Option.map_eq_some_iff] at hv
      obtain ⟨y, hy, rfl⟩ := hv
      have hj : j < 256 ∧ j < dr.length := by have := (List.getElem?_eq_some_iff.1 hy).1; rw [List.length_take] at this; omega
      rw [List.getElem?_take, if_pos hj.1] at hy
      have e4 := HCELL.out j hj.2
      rw [hy] at e4
      rw [Addr.add_mid]
      exact e4) (by rw [List.length_map, List.length_map, List.length_take, zeros, List.length_replicate]; omega) (by intro v hv; obtain ⟨x, _, rfl⟩ := List.mem_map.1 hv; rfl) (pad_copy dr) ?_
      intro w6 hd6 hg6
      have HD6 := Lib.hid hd6
      have HG6 := Lib.hid hg6
      clear hd6 hg6
      refine hK.out _ _ trivial (fun hHeld => ?_)
      clear hK K
      try simp only [Act.put, List.setIfInBounds_toArray, List.set_cons_zero, List.set_cons_succ]
      refine wpAnyH_done (by kernel_rfl) ?_ _
      have HB6 := Lib.hid (show Below wr.heap.size wr w6 from by
        have hg := HG6.out
        have h5 := HB5.out.drew
        exact h5.trans ⟨hg.os, hg.tape, hg.output, hg.size, fun k hk => hg.block k (by simp; omega) (fun e => by injection e with e; omega)⟩)
      have HX06 := Lib.hid ((HB6.out.block _ HSW.out).trans HX0W.out)
      have b0 := (cell_of_row _ (w.heap.size) 0 _ _ _ HX06.out).trans (show (#[Value.pointer (some ⟨D, 0, none⟩), .int .i64 fi, .int .i64 sz] : Array Value)[0]? = some (.pointer (some ⟨D, 0, none⟩)) from rfl)
      have b1 := (cell_of_row _ (w.heap.size) 1 _ _ _ HX06.out).trans (show (#[Value.pointer (some ⟨D, 0, none⟩), .int .i64 fi, .int .i64 sz] : Array Value)[1]? = some (.int .i64 fi) from rfl)
      have b2 := (cell_of_row _ (w.heap.size) 2 _ _ _ HX06.out).trans (show (#[Value.pointer (some ⟨D, 0, none⟩), .int .i64 fi, .int .i64 sz] : Array Value)[2]? = some (.int .i64 sz) from rfl)
      have SP := Lib.hid (show (ArrU8 (padB dr)).size = 256 by rw [ArrU8_size, padB_len])
      have HD6A := Lib.hid (show w6.heap[wr.heap.size]? = some (.cells (ArrU8 (padB dr)) 52 (0, 0)) from HD6.out)
      have hLL : sk.L.length ≤ 268435456 := by have := HLK.out; have := HC1.out; omega
      clear hsl2 hall35 hwr him
      go_wp2_with (refine wpList_load_row rfl 52 (Operand.tmp 13) rfl wr.heap.size rfl 52 (ArrU8 (padB dr)) (0, 0) _ HD6A.out Try.underlying52 rfl (by rw [HI35.out, SP.out]) ?_)
      have HD6K := Lib.hid (HDK.out.chg (Chg.fresh (F := fun _ => False) HB6.out) (fun _ _ h => h))
      refine (dwrite_any B D M nb rm (fi + p + i) sk lvk (padB dr) w6 HD6K.out (padB_len dr) hLL fi sz (p + i) (by omega) ⟨h1, by omega⟩ ⟨by omega, hpi⟩).mono ?_
      rintro e w7 ⟨rfl, lv7, hdk, hch, hft⟩
      obtain ⟨E, hE⟩ : ∃ E, sk.we nb rm (fi + p + i) = E := ⟨_, rfl⟩
      rw [hE]
      have HW7 := Lib.hid HWS2.out
      rw [hE] at HW7
      have HDK7 := Lib.hid hdk
      have HC7 := Lib.hid (show Chg (Foot D M lv) w4 w7 from (HCH.out.trans (Chg.fresh (F := fun _ => False) HB6.out) (fun _ h => h.elim)).trans hch (fun g hg => HFT2.out g hg))
      have HF7 := Lib.hid (show ∀ g, Foot D M lv7 g → Foot D M lv g ∨ w4.heap.size ≤ g from fun g hg => (hft g hg).elim (fun h => HFT2.out g h) (fun h => .inr (by have := HCH.out.size; have := HB6.out.size; omega)))
      have HL7 := Lib.hid (wr_L nb rm sk (fi + p + i) (padB dr))
      have HX07 := Lib.hid ((hch.block _ (Array.getElem?_eq_some_iff.1 HX06.out).1 HNX.out).trans HX06.out)
      clear hdk hch hft hE b0 b1 b2
      by_cases hE0 : E = 0
      · rw [if_pos hE0] at HW7
        go_wp2_with fail
        go_roundw
        case rel => exact ⟨i, sk.wr nb rm (fi + p + i) (padB dr), lv7, rfl, by omega, HW7.out, HDK7.out, by have := HL7.out; have := HLK.out; omega, HC7.out, HF7.out⟩
        case measure => simp [intOf]
      · rw [if_neg hE0] at HW7
        go_wp2_with fail
        go_ret
        rw [← HW7.out]
        exact LEnds.seq2 XB4.out (Chg.refl _ _) (fun _ h => .inl h) (Below.refl _ _) ⟨rfl, lv7, HDK7.out, HC7.out, fun g hg => HF7.out g hg⟩
end Go.Proofs.Ytaibminomehppaa
