import Derived.Test.YtaibminomehppaaLdx
import Derived.Test.YtaibminomehppaaDiskZa
import Derived.WalkKit
import Derived.ProofKit
import Derived.BigQuiet
import Derived.Deep.QuietTactic
import Derived.WalkSpells
import Derived.WalkLawsBesides
import Derived.Lib.Hide
import Derived.Deep.MidRow
import Derived.Deep.RegionLaw
import Derived.BigRegion
import Derived.Laws.AppendOwnNone
import Derived.Deep.DeepMust
import Derived.Deep.AppendLies
import Derived.RegionTactic
import Derived.Deep.WholeRow
import Derived.BigFrame
import Derived.Deep.RegionWith
import Derived.Deep.RegionHeld3
import Derived.Maps.RangeWalk
import Derived.Laws.CopyOwn
import Derived.StillTailTactics
namespace Go.Proofs.Ytaibminomehppaa
open Go.RowKit
set_option maxHeartbeats 400000 in
theorem rnum_any (k : Nat) (w : World) (hk : k < 18446744073709551616) :
    Calls Try.prog 89 #[.int .u64 k] w fun e w' => ∃ v, e = .returned v ∧ Own w' w.heap.size v (be8 k) ∧ Below w.heap.size w w' := by
  have HK := Lib.hid hk
  have h8 := be8_len k
  clear hk
  go_enter Try.func89, Try.ntmps89
  go_wp2_with fail
  have hb0 : Below w.heap.size w (w.alloc (.cells #[] 5)) := (Below.refl _ _).alloc (Nat.le_refl _) _
  have HB0 := Lib.hid hb0
  have HO0 := Lib.hid (show Own (w.alloc (.cells #[] 5)) w.heap.size (.slice (some ⟨w.heap.size, 0, none⟩) 0 0) [] from World.ownsRow_lit w #[] 0 (Nat.le_refl _) (Nat.zero_le _) (by simp))
  clear hb0
  generalize w.alloc (.cells #[] 5) = w0 at *
  go_loopw [3, 4] (fun v0 s wr => ∃ j : Nat, j ≤ 8 ∧ s = .int .i64 (j : Int) ∧ Own wr w.heap.size v0 ((be8 k).take j) ∧ Below w.heap.size w wr) (fun _ s _ => 8 - (intOf s).toNat)
  case atStart => exact ⟨0, by omega, by simp, by simpa using HO0.out, HB0.out⟩
  case round =>
    obtain ⟨j, hj, rfl, hown, hbw⟩ := hrel
    have HBW := Lib.hid hbw
    have HOW := Lib.hid hown
    have H8 := Lib.hid h8
    have hwB : w.heap.size ≤ wr.heap.size := hbw.size
    by_cases hlt : j < 8
    · have HB := Lib.hid (be8_succ k j hlt)
      have hsh : (56 - 8 * (j : Int)).toNat = 56 - 8 * j := by omega
      clear hbw hown h8
      go_wp2_with (at_builtin; refine wpList_append_OwnT rfl (Operand.tmp 10) (Operand.tmp 17) rfl w.heap.size _ ((be8 k).take j) rfl (HOW.out.alloc _) _ [(k : Int) / 2 ^ (56 - 8 * j) % 256] rfl (lit_bs wr _ [_] _ 1 1 rfl (Nat.le_refl 1)) (by simp; omega) (by simp; omega) ?_; intro v' w1 hown' hgrow hto; have HO1 := Lib.hid hown'; have HG1 := Lib.hid hgrow; clear hown' hgrow hto)
      go_roundw
      case rel =>
        refine ⟨j + 1, by omega, by go_num, ?_, ?_⟩
        · rw [HB.out]; exact HO1.out
        · refine HBW.out.trans ((((Chg.refl (fun g => u3.ownBlock = some g) wr).alloc _).trans HG1.out (fun g hg => .inl hg)).below (fun g hg => (HOW.out.lt g hg).1) hwB)
      case measure => simp [intOf]; omega
    · have hj8 : j = 8 := by omega
      subst hj8
      rw [List.take_of_length_le (by omega)] at hown
      have HOW := Lib.hid hown
      clear hbw hown h8 hlt
      go_wp2_with fail
      go_ret
      exact ⟨_, rfl, HOW.out, HBW.out⟩
set_option maxHeartbeats 400000 in
theorem rrd_any (v : Value) (l : List Int) (w : World) (hv : Bs w v l) (hr : Rng l) (h8 : 8 ≤ l.length) (hl : l.length ≤ 1099511627776) :
    Calls Try.prog 92 #[v] w fun e w' => w = w' ∧ e = .returned (.int .u64 (beI (l.take 8))) := by
  obtain ⟨a, cap, rfl, hcap, hcells⟩ := hv
  obtain ⟨b, off, rfl, hbw, hc⟩ := hcells (by omega)
  have HC := Lib.hid hc
  have HR := Lib.hid hr
  have hcap8 : 8 ≤ cap := by omega
  clear hc hr hcells
  generalize hn : l.length = n at *
  have HN := Lib.hid hn
  clear hn
  go_enter Try.func92, Try.ntmps92
  go_wp2_with fail
  go_loop [3, 4] (fun t i => ∃ k : Nat, k ≤ 8 ∧ i = .int .i64 k ∧ t = .int .u64 (beI (l.take k))) (fun _ i => 8 - (intOf i).toNat)
  case atStart => exact ⟨0, Nat.zero_le _, rfl, rfl⟩
  case round =>
    obtain ⟨k, hk, rfl, rfl⟩ := hrel
    by_cases hlt : k < 8
    · have hce := HC.out k (by omega)
      have HST := Lib.hid (be_step l HR.out k hlt (by rw [HN.out]; omega))
      have hkn : k < n := by omega
      go_wp2
      go_round
      case rel => exact ⟨k + 1, by omega, by go_num, by rw [HST.out]⟩
      case measure => simp [intOf]; omega
    · have hk8 : 8 ≤ k := by omega
      have hk8' : k = 8 := by omega
      have HK := Lib.hid hk8'
      clear hlt hk8'
      go_wp2
      go_ret
      rw [HK.out]
      exact ⟨rfl, rfl⟩
/-- the reference's log -/
def RLg (R : Nat) (fi sz : Int) (a b c : Nat) (bv mv : Value) : Array Value := #[.pointer (some ⟨R, 0, none⟩), .int .i64 fi, .int .i64 sz, .int .u64 (a : Int), .int .u64 (b : Int), .int .u64 (c : Int), bv, mv]
def RLgIs (w : World) (Q : Nat) (C : Array Value) : Prop := w.heap[Q]? = some (.cells C 92 (0, 0))
theorem RLgIs.cell {w : World} {Q : Nat} {c : Array Value} (h : RLgIs w Q c) (i : Nat) : w.cell? ⟨Q, i, none⟩ = c[i]? := cell_of_row w Q i c 92 (0, 0) h
theorem RLgIs.frozen {w : World} {Q : Nat} {c : Array Value} (h : RLgIs w Q c) (i : Nat) : w.frozen? ⟨Q, i, none⟩ = false := frozen_of_row w Q i c 92 h
theorem RLgIs.set {w : World} {Q : Nat} {c : Array Value} (h : RLgIs w Q c) (i : Nat) (v : Value) : RLgIs (w.setCell ⟨Q, i, none⟩ v) Q (c.setIfInBounds i v) := heap_setCell_same w Q i c 92 v h
theorem RLgIs.lt {w : World} {Q : Nat} {c : Array Value} (h : RLgIs w Q c) : Q < w.heap.size := (Array.getElem?_eq_some_iff.1 h).1
theorem RLgIs.chg {w w' : World} {Q : Nat} {c : Array Value} {F : Nat → Prop} (h : RLgIs w Q c) (hc : Chg F w w') (hF : ¬ F Q) : RLgIs w' Q c := (hc.block Q h.lt hF).trans h
set_option maxHeartbeats 400000 in
theorem rgroom_any (Q R : Nat) (fi sz : Int) (a b c bn mn bc mc : Nat) (ba ma : Option Addr) (w : World) (h : RLgIs w Q (RLg R fi sz a b c (.slice ba bn bc) (.slice ma mn mc))) (h1 : 0 ≤ sz) (h2 : sz ≤ 4096) (hb : bn ≤ 1099511627776) (hm : mn ≤ 1099511627776) :
    Calls Try.prog 93 #[.pointer (some ⟨Q, 0, none⟩)] w fun e w' => Below w.heap.size w w' ∧ e = .returned (.int .i64 (256 * (sz - 2) - bn - mn)) := by
  have c2 : w.cell? ⟨Q, 2, none⟩ = some (.int .i64 sz) := h.cell 2
  have c6 : w.cell? ⟨Q, 6, none⟩ = some (.slice ba bn bc) := h.cell 6
  have c7 : w.cell? ⟨Q, 7, none⟩ = some (.slice ma mn mc) := h.cell 7
  clear h
  go_enter Try.func93, Try.ntmps93
  go_wp2_with fail
  go_quiet (fail)
  go_wp2_with fail
  go_ret
  exact ⟨below_drewN (Below.refl _ _) _, rfl⟩
theorem rgleft_any (Q R : Nat) (fi sz : Int) (a b c bn mn bc mc : Nat) (ba ma : Option Addr) (w : World) (h : RLgIs w Q (RLg R fi sz a b c (.slice ba bn bc) (.slice ma mn mc))) (h1 : 0 ≤ sz) (h2 : sz ≤ 4096) (hb : bn ≤ 1099511627776) (hm : mn ≤ 1099511627776) :
    Calls Try.prog 58 #[.pointer (some ⟨Q, 0, none⟩)] w fun e w' => Below w.heap.size w w' ∧ e = .returned (.int .i64 (if 0 ≤ 256 * (sz - 2) - bn - mn - 8 then 256 * (sz - 2) - bn - mn - 8 else 0)) := by
  have hr := rgroom_any Q R fi sz a b c bn mn bc mc ba ma w h h1 h2 hb hm
  obtain ⟨X, hX⟩ : ∃ X : Int, 256 * (sz - 2) - bn - mn = X := ⟨_, rfl⟩
  rw [hX] at hr ⊢
  have hXb : -4398046511104 ≤ X ∧ X ≤ 4398046511104 := by omega
  have HR := Lib.hid hr
  clear hr h hX
  by_cases h0 : 0 ≤ X - 8
  · rw [if_pos h0]
    have h0n : ¬ (X - 8 < 0) := by omega
    go_enter Try.func58, Try.ntmps58
    go_wp2_with fail
    refine HR.out.mono ?_
    rintro e w' ⟨hb, rfl⟩
    have HB := Lib.hid hb
    clear hb
    go_wp2
    all_goals go_ret
    all_goals first | exact ⟨HB.out, rfl⟩ | (exfalso; omega) | (refine ⟨HB.out, ?_⟩; show Ending.returned (Value.int .i64 0) = _; rw [show X - 8 = 0 by omega])
  · rw [if_neg h0]
    have h0n : X - 8 < 0 := by omega
    go_enter Try.func58, Try.ntmps58
    go_wp2_with fail
    refine HR.out.mono ?_
    rintro e w' ⟨hb, rfl⟩
    have HB := Lib.hid hb
    clear hb
    go_wp2
    all_goals go_ret
    all_goals first | exact ⟨HB.out, rfl⟩ | (exfalso; omega) | (refine ⟨HB.out, ?_⟩; show Ending.returned (Value.int .i64 0) = _; rw [show X - 8 = 0 by omega])
theorem rgdrop_any (Q R : Nat) (fi sz : Int) (a b c : Nat) (bv mv : Value) (w : World) (h : RLgIs w Q (RLg R fi sz a b c bv mv)) :
    Calls Try.prog 49 #[.pointer (some ⟨Q, 0, none⟩)] w fun e w' => e = .returned (.tuple #[]) ∧ RLgIs w' Q (RLg R fi sz a b c bv (.slice none 0 0)) ∧ Chg (fun k => k = Q) w w' := by
  have H := Lib.hid h
  have f7 := h.frozen 7
  have c7 : w.cell? ⟨Q, 7, none⟩ = some mv := h.cell 7
  clear h
  go_enter Try.func49, Try.ntmps49
  go_wp2_with fail
  go_end0
  exact ⟨rfl, H.out.set 7 _, (Chg.refl (fun k => k = Q) w).setCell _ _ (.inl rfl)⟩
theorem rfits_any (B R gf nb fcap : Nat) (rv : Value) (rm fz : Int) (dn : Bool) (bs : List (List Int)) (K : List RW) (fi sz : Int) (w : World) (h : RS w B R gf nb fcap rv rm fz dn bs K) (hn : nb ≤ 4096) (hfi : -9223372036854775808 ≤ fi ∧ fi ≤ 9223372036854775807) :
    Calls Try.prog 38 #[.pointer (some ⟨R, 0, none⟩), .int .i64 fi, .int .i64 sz] w fun e w' => w = w' ∧ e = .returned (.bool (decide (0 ≤ fi ∧ 3 ≤ sz ∧ sz ≤ nb ∧ fi ≤ nb - sz))) := by
  have c0 : w.cell? ⟨R, 0, none⟩ = some (.slice (some ⟨gf, 0, none⟩) nb fcap) := h.1.cell 0
  clear h
  by_cases h1 : 0 ≤ fi
  · by_cases h2 : 3 ≤ sz
    · by_cases h3 : sz ≤ nb
      · by_cases h4 : fi ≤ nb - sz
        · rw [show decide (0 ≤ fi ∧ 3 ≤ sz ∧ sz ≤ nb ∧ fi ≤ nb - sz) = true from decide_eq_true ⟨h1, h2, h3, h4⟩]
          go_enter Try.func38, Try.ntmps38
          go_wp2
          go_ret
          exact ⟨rfl, rfl⟩
        · rw [show decide (0 ≤ fi ∧ 3 ≤ sz ∧ sz ≤ nb ∧ fi ≤ nb - sz) = false from decide_eq_false (fun h => h4 h.2.2.2)]
          go_enter Try.func38, Try.ntmps38
          go_wp2
          go_ret
          exact ⟨rfl, rfl⟩
      · rw [show decide (0 ≤ fi ∧ 3 ≤ sz ∧ sz ≤ nb ∧ fi ≤ nb - sz) = false from decide_eq_false (fun h => h3 h.2.2.1)]
        go_enter Try.func38, Try.ntmps38
        go_wp2
        go_ret
        exact ⟨rfl, rfl⟩
    · rw [show decide (0 ≤ fi ∧ 3 ≤ sz ∧ sz ≤ nb ∧ fi ≤ nb - sz) = false from decide_eq_false (fun h => h2 h.2.1)]
      go_enter Try.func38, Try.ntmps38
      go_wp2
      go_ret
      exact ⟨rfl, rfl⟩
  · rw [show decide (0 ≤ fi ∧ 3 ≤ sz ∧ sz ≤ nb ∧ fi ≤ nb - sz) = false from decide_eq_false (fun h => h1 h.1)]
    go_enter Try.func38, Try.ntmps38
    go_wp2
    go_ret
    exact ⟨rfl, rfl⟩
end Go.Proofs.Ytaibminomehppaa
namespace Go.Proofs.Ytaibminomehppaa
open Go.RowKit
/-- the reference's mark, when i of its bytes are laid -/
def mkF (al : List Int) : Nat → List Int
  | 0 => zeros 256
  | i + 1 => ((mkF al i).set i (al[i]?.getD 0)).set (40 - i + i % 8 * 2) (al[i]?.getD 0)
theorem mkF_len (al : List Int) : ∀ i, (mkF al i).length = 256
  | 0 => by unfold mkF zeros; exact List.length_replicate
  | i + 1 => by simp only [mkF, List.length_set]; exact mkF_len al i
theorem be8_eight (a : Nat) : be8 a = [beAt a 0, beAt a 1, beAt a 2, beAt a 3, beAt a 4, beAt a 5, beAt a 6, beAt a 7] := rfl
set_option maxRecDepth 100000 in
theorem mkF_all (x0 x1 x2 x3 x4 x5 x6 x7 y0 y1 y2 y3 y4 y5 y6 y7 z0 z1 z2 z3 z4 z5 z6 z7 : Int) :
    mkF [x0, x1, x2, x3, x4, x5, x6, x7, y0, y1, y2, y3, y4, y5, y6, y7, z0, z1, z2, z3, z4, z5, z6, z7] 24 =
      [x0, x1, x2, x3, x4, x5, x6, x7, y0, y1, y2, y3, y4, y5, y6, y7, z0, z1, z2, z3, z4, z5, z6, z7, z0, z1, z2, z3, z4, z5, z6, z7, y0, y1, y2, y3, y4, y5, y6, y7, x0, x1, x2, x3, x4, x5, x6, x7] ++ zeros 208 := by kernel_rfl
theorem mkF_mb (a b c : Nat) : mkF (be8 a ++ be8 b ++ be8 c) 24 = mb a b c := by
  rw [be8_eight, be8_eight, be8_eight]
  exact mkF_all _ _ _ _ _ _ _ _ _ _ _ _ _ _ _ _ _ _ _ _ _ _ _ _
theorem al_len (a b c : Nat) : (be8 a ++ be8 b ++ be8 c).length = 24 := by simp [be8_len]
theorem run_store_u8 (w : World) (b k : Nat) (l : List Int) (T : TypeId) (v : Int) (hb : w.heap[b]? = some (.cells (l.map (Value.int .u8)).toArray T (0, 0))) (hk : k < l.length) : (Instr.storeAt 5 (.pointer (some ⟨b, k, none⟩)) (.int .u8 v)).run Try.prog w = .ok () (w.setCell ⟨b, k, none⟩ (.int .u8 v)) := by
  have f := frozen_of_row w b k _ _ hb
  have c := cell_of_row w b k _ _ _ hb
  obtain ⟨cv, hcv⟩ : ∃ cv, ((l.map (Value.int .u8)).toArray)[k]? = some cv := ⟨_, Array.getElem?_eq_getElem (by simpa using hk)⟩
  rw [hcv] at c
  clear hcv hb hk
  go_simp
/-- a byte stored into an array or a row: the world behind is opaque -/
theorem wpList_store_u8 {ops : Array Oper} {rest : List Oper} {o : Oper} {a : Act} {w : World} {Q : Exit → Act → World → Prop} (hgd : o.guard = none) (x y : Operand) (ho : o.op = .store 5 x y) (b k : Nat) (l : List Int) (T : TypeId) (v : Int)
    (hx : a.eval x = .pointer (some ⟨b, k, none⟩)) (hy : a.eval y = .int .u8 v) (hb : w.heap[b]? = some (.cells (l.map (Value.int .u8)).toArray T (0, 0))) (hk : k < l.length)
    (h : ∀ w', w'.heap[b]? = some (.cells ((l.set k v).map (Value.int .u8)).toArray T (0, 0)) → Chg (fun g => g = b) w w' → wpList Try.prog ops Q rest (a.put o.dst undef) w') : wpList Try.prog ops Q (o :: rest) a w := by
  refine wpList_plain hgd fun K hK => ?_
  have hx' := (heap_setCell_same w b k _ _ (.int .u8 v) hb).trans (show _ = some (.cells ((l.set k v).map (Value.int .u8)).toArray T (0, 0)) by rw [map_set_arr])
  have hQ := hK _ _ (h (w.setCell ⟨b, k, none⟩ (.int .u8 v)) hx' ((Chg.refl _ _).setCell _ _ (.inl rfl)))
  unfold Oper.wp execOp
  simp only [ho, hx, hy]
  simp [run_store_u8 w b k l T v hb hk]
  exact hQ
set_option maxRecDepth 100000 in
set_option maxHeartbeats 4000000 in
theorem rmark_any (a b c : Nat) (w : World) (ha : a < 18446744073709551616) (hb : b < 18446744073709551616) (hc : c < 18446744073709551616) :
    Calls Try.prog 40 #[.int .u64 a, .int .u64 b, .int .u64 c] w fun e w' => e = .returned (.agg (ArrU8 (mb a b c))) ∧ Below w.heap.size w w' := by
  have hz := zero35
  have hbz : ∀ u : World, (Instr.build 52 #[]).run Try.prog u = .ok (.agg (ArrU8 (zeros 256))) u := fun u => by kernel_rfl
  have HI35 := Lib.hid (show (Try.prog.info? 52).map (·.size) = some 256 by kernel_rfl)
  have SZ := Lib.hid (show (ArrU8 (zeros 256)).size = 256 by rw [ArrU8_size, zeros, List.length_replicate])
  have SM := Lib.hid (show (ArrU8 (mb a b c)).size = 256 by rw [ArrU8_size, mb_len])
  have HABC := Lib.hid (And.intro ha (And.intro hb hc))
  clear ha hb hc
  go_enter Try.func40, Try.ntmps40
  have hb1 : Below w.heap.size w (w.alloc (.cells (ArrU8 (zeros 256)) 52)) := (Below.refl _ _).alloc (Nat.le_refl _) _
  have X1 := Lib.hid hb1
  have Q1 := Lib.hid (heap_alloc_new w (.cells (ArrU8 (zeros 256)) 52))
  have S1 := Lib.hid (show (w.alloc (.cells (ArrU8 (zeros 256)) 52)).heap.size = w.heap.size + 1 by simp)
  clear hb1
  go_wp2_with (refine wpList_store_nwL rfl 52 (Operand.tmp 7) (Operand.tmp 10) rfl (w.alloc (.cells (ArrU8 (zeros 256)) 52)) _ 52 rfl (w.heap.size + 1) (ArrU8 (zeros 256)) rfl rfl S1.out (by rw [HI35.out, SZ.out]) (by rw [SZ.out]) (ArrU8_one _) ?_; intro wb hd hb hs; have QB := Lib.hid hd; have XB := Lib.hid hb; have SB := Lib.hid hs; clear hd hb hs)
  have XW := Lib.hid (X1.out.trans (XB.out.mono (by omega)))
  have QA := Lib.hid ((XB.out.block w.heap.size (by omega)).trans Q1.out)
  clear Q1 S1 X1
  refine (rnum_any a wb HABC.out.1).mono ?_
  rintro e w2 ⟨v2, rfl, ho2, hb2⟩
  have HO2 := Lib.hid ho2
  have X2 := Lib.hid hb2
  clear ho2 hb2
  go_wp2_with fail
  refine (rnum_any b w2 HABC.out.2.1).mono ?_
  rintro e w3 ⟨v3, rfl, ho3, hb3⟩
  have HO3 := Lib.hid ho3
  have X3 := Lib.hid hb3
  have HO23 := Lib.hid (HO2.out.below hb3 (Nat.le_refl _))
  clear ho3 hb3
  go_wp2_with (at_builtin; refine wpList_append_OwnT rfl (Operand.tmp 12) (Operand.tmp 14) rfl wb.heap.size _ (be8 a) rfl HO23.out _ (be8 b) rfl HO3.out.bs (by simp [be8_len]) (by have := X2.out.size; have := X3.out.size; omega) ?_; intro v4 w4 hown' hgrow hto; have HO4 := Lib.hid hown'; have HG4 := Lib.hid hgrow; clear hown' hgrow hto)
  have X4 := Lib.hid (show Below wb.heap.size wb w4 from (X2.out.trans (X3.out.mono X2.out.size)).trans (HG4.out.below (fun g hg => (HO23.out.lt g hg).1) (by have := X2.out.size; have := X3.out.size; omega)))
  refine (rnum_any c w4 HABC.out.2.2).mono ?_
  rintro e w5 ⟨v5, rfl, ho5, hb5⟩
  have HO5 := Lib.hid ho5
  have X5 := Lib.hid hb5
  have HO45 := Lib.hid (HO4.out.below hb5 (Nat.le_refl _))
  clear ho5 hb5
  go_wp2_with (at_builtin; refine wpList_append_OwnT rfl (Operand.tmp 15) (Operand.tmp 17) rfl wb.heap.size _ (be8 a ++ be8 b) rfl HO45.out _ (be8 c) rfl HO5.out.bs (by simp [be8_len]) (by have := X4.out.size; have := X5.out.size; omega) ?_; intro v6 w6 hown' hgrow hto; have HO6 := Lib.hid hown'; have HG6 := Lib.hid hgrow; clear hown' hgrow hto)
  have X6 := Lib.hid (show Below wb.heap.size wb w6 from (X4.out.trans (X5.out.mono X4.out.size)).trans (HG6.out.below (fun g hg => (HO45.out.lt g hg).1) (by have := X4.out.size; have := X5.out.size; omega)))
  have hal : (be8 a ++ be8 b ++ be8 c).length = 24 := al_len a b c
  have HLT := Lib.hid (HO6.out.lt)
  obtain ⟨aa, ac, hv6, hcap, hcl⟩ := HO6.out.bs
  obtain ⟨bl, off, haa, hblt, hcell⟩ := hcl (by omega)
  rw [hal] at hv6 hcap
  subst hv6 haa
  have HBL := Lib.hid (show wb.heap.size ≤ bl from (HLT.out bl rfl).1)
  have HBL2 := Lib.hid hblt
  have HCE := Lib.hid hcell
  have Q7 := Lib.hid ((X6.out.block (w.heap.size + 1) (by have := SB.out; omega)).trans QB.out)
  have QA6 := Lib.hid ((X6.out.block w.heap.size (by have := SB.out; omega)).trans QA.out)
  have HME := Lib.hid (show ∀ n, n = 24 → mkF (be8 a ++ be8 b ++ be8 c) n = mb a b c from fun n hn => by rw [hn]; exact mkF_mb a b c)
  have HLE := Lib.hid hal
  have hcap2 : 24 ≤ ac := hcap.1
  have hne : bl ≠ w.heap.size + 1 := by have := HBL.out; have := SB.out; omega
  clear hcl hcell hcap hblt hal HO6 HO45 HO5 HO4 HO23 HO3 HO2 X2 X3 X4 X5 HG4 HG6 HLT
  generalize hX7 : w.heap.size + 1 = X7 at *
  have HX7 := Lib.hid hX7
  clear hX7
  generalize be8 a ++ be8 b ++ be8 c = al at *
  go_loopw [9] (fun iv wr => ∃ i : Nat, i ≤ 24 ∧ iv = .int .i64 (i : Int) ∧ wr.heap[X7]? = some (.cells ((mkF al i).map (Value.int .u8)).toArray 52 (0, 0)) ∧ Chg (fun g => g = X7) w6 wr) (fun iv _ => 24 - (intOf iv).toNat)
  case atStart => exact ⟨0, by omega, rfl, Q7.out, Chg.refl _ _⟩
  case round =>
    obtain ⟨i, hi, rfl, hx, hch⟩ := hrel
    have HX := Lib.hid hx
    have HC := Lib.hid hch
    by_cases hlt : i < 24
    · obtain ⟨y, hy⟩ : ∃ y, al[i]?.getD 0 = y := ⟨_, rfl⟩
      have cj := (World.cell?_of_block (a := ⟨bl, off + i, none⟩) (hch.block bl HBL2.out hne)).trans (HCE.out i (by rw [HLE.out]; exact hlt))
      rw [hy] at cj
      obtain ⟨k, hk⟩ : ∃ k, 40 - i + i % 8 * 2 = k := ⟨_, rfl⟩
      obtain ⟨m, hm⟩ : ∃ m, i % 8 = m := ⟨_, rfl⟩
      have hmi : ((i : Int)).tmod 8 = (m : Int) := by rw [Int.tmod_eq_emod_of_nonneg (by omega)]; omega
      have hki : 40 - (i : Int) + (m : Int) * 2 = (k : Int) := by omega
      have hm8 : m < 8 := by omega
      have hk256 : k < 256 := by omega
      have hi256 : i < 256 := by omega
      obtain ⟨l, hl⟩ : ∃ l, mkF al i = l := ⟨_, rfl⟩
      have HN := Lib.hid (show mkF al (i + 1) = (l.set i y).set k y by rw [mkF, hl, hk, hy])
      have HLL := Lib.hid (show l.length = 256 by rw [← hl, mkF_len])
      rw [hl] at hx
      have HXL := Lib.hid hx
      clear hy hk hl hx hch hz hbz HX hm
      go_wp2_with (first
        | (refine wpList_store_u8 rfl (Operand.tmp 28) (Operand.tmp 27) rfl X7 i l _ y rfl rfl HXL.out (by rw [HLL.out]; omega) ?_; intro wz hd hc; have HX2 := Lib.hid hd; have HC2 := Lib.hid (HC.out.trans hc (fun k hk => .inl hk)); have cj2 := (World.cell?_of_block (a := ⟨bl, off + i, none⟩) (hc.block bl (by have := HC.out.size; have := HBL2.out; omega) hne)).trans cj; clear hd hc)
        | (refine wpList_store_u8 rfl (Operand.tmp 39) (Operand.tmp 38) rfl X7 k (l.set i y) _ y rfl rfl HX2.out (by rw [List.length_set, HLL.out]; omega) ?_; intro wz2 hd hc; have HX3 := Lib.hid hd; have HC3 := Lib.hid (HC2.out.trans hc (fun k hk => .inl hk)); clear hd hc))
      go_roundw
      case rel => exact ⟨i + 1, by omega, by go_num, by rw [HN.out]; exact HX3.out, HC3.out⟩
      case measure => simp [intOf]; omega
    · have hi24 : i = 24 := by omega
      rw [HME.out i hi24] at hx
      have HXM := Lib.hid hx
      have HX1W := Lib.hid ((HC.out.block w.heap.size (by have := X6.out.size; have := SB.out; have := HX7.out; omega) (by have := HX7.out; omega)).trans QA6.out)
      have hi25 : ¬ ((i : Int) < 24) := by omega
      clear hz hx hch hi hi24 hlt
      go_wp2_with (first
        | (refine wpList_load_row rfl 52 (Operand.tmp 7) rfl X7 rfl 52 (ArrU8 (mb a b c)) (0, 0) _ HXM.out Try.underlying52 rfl (by rw [HI35.out, SM.out]) ?_)
        | (refine wpList_store_row rfl 52 (Operand.tmp 6) (Operand.tmp 40) rfl w.heap.size (ArrU8 (mb a b c)) rfl rfl 52 (ArrU8 (zeros 256)) HX1W.out (by rw [HI35.out, SM.out]) (by rw [SZ.out, SM.out]) (ArrU8_one _) ?_))
      have hq : Below w.heap.size w wr := (XW.out.trans (X6.out.mono (by have := SB.out; have := HX7.out; omega))).trans (HC.out.below (fun k hk => by subst hk; have := HX7.out; omega) (by have := X6.out.size; have := SB.out; have := HX7.out; omega))
      refine bodyPost_ret (results_cell_row rfl _ _ w.heap.size 52 (ArrU8 (mb a b c)) (0, 0) _ rfl (setRow_heap _ _ _ _ _ _ HX1W.out) Try.underlying52 rfl (by rw [HI35.out, SM.out])) rfl ⟨rfl, ?_⟩
      exact below_setRow hq (by omega) _
end Go.Proofs.Ytaibminomehppaa
namespace Go.Proofs.Ytaibminomehppaa
open Go.RowKit
/-- the place of a mark's byte in its mirror -/
def mir (k : Nat) : Nat := 40 - k + k % 8 * 2
def rOk (l : List Int) : Prop := ∀ k, k < 24 → l[k]?.getD 0 = l[mir k]?.getD 0
theorem slice35_lh (u : World) (X : Nat) (n m : Int) (o p : Nat) (hn : n = (o : Int)) (hm : m = (p : Int)) (h1 : o ≤ p) (h2 : p ≤ 256) (h3 : o < 256) : (Instr.sliceAt 52 (.pointer (some ⟨X, 0, none⟩)) (some (.int .i64 n)) (some (.int .i64 m)) none).run Try.prog u = .ok (.slice (some ⟨X, o, none⟩) (p - o) (256 - o)) u := by
  subst hn hm
  rw [run_sliceAt_array_lh u 52 ⟨X, 0, none⟩ und35 .i64 .i64 _ _ (by omega) (by omega) (by rw [len35]; omega), size35]
  have h : ¬ (256 = o) := by omega
  simp [Result.andThen, slicedAt, len35, h, Addr.add_mid]
/-- a part of an array, read -/
theorem bs_part {w : World} {X : Nat} {l : List Int} {T : TypeId} (hX : w.heap[X]? = some (.cells (l.map (Value.int .u8)).toArray T (0, 0))) (o n c : Nat) (h : o + n ≤ l.length) (hc : n ≤ c) : Bs w (.slice (some ⟨X, o, none⟩) n c) ((l.drop o).take n) := by
  have hl : ((l.drop o).take n).length = n := by rw [List.length_take, List.length_drop]; omega
  refine ⟨some ⟨X, o, none⟩, c, by rw [hl], ⟨by rw [hl]; exact hc, fun e => by cases e⟩, fun h0 => ⟨X, o, rfl, (Array.getElem?_eq_some_iff.1 hX).1, fun i hi => ?_⟩⟩
  rw [hl] at hi
  rw [cell_of_row _ _ _ _ _ _ hX]
  have h1 : o + i < l.length := by omega
  simp [hi, List.getElem?_drop, h1]
theorem rng_getD {l : List Int} (h : Rng l) (k : Nat) : 0 ≤ l[k]?.getD 0 ∧ l[k]?.getD 0 < 256 := h.get k
theorem row_cell {w : World} {X k : Nat} {l : List Int} {T : TypeId} (hX : w.heap[X]? = some (.cells (l.map (Value.int .u8)).toArray T (0, 0))) (hk : k < l.length) : w.cell? ⟨X, k, none⟩ = some (.int .u8 (l[k]?.getD 0)) := by
  rw [cell_of_row _ _ _ _ _ _ hX]
  simp [hk]
set_option maxRecDepth 100000 in
set_option maxHeartbeats 4000000 in
theorem rright_any (l : List Int) (odd : Nat) (w : World) (hl : l.length = 256) (hr : Rng l) (ho : odd < 2) :
    Calls Try.prog 91 #[.agg (ArrU8 l), .int .u64 (odd : Int)] w fun e w' => (∃ b : Bool, e = .returned (.bool b) ∧ (b = true ↔ rOk l ∧ 0 < nAt l 0 ∧ nAt l 0 % 2 = odd)) ∧ Below w.heap.size w w' := by
  have HL := Lib.hid hl
  have HR := Lib.hid hr
  have hb0 : Below w.heap.size w (w.alloc (.cells (ArrU8 l) 52)) := (Below.refl _ _).alloc (Nat.le_refl _) _
  have HB0 := Lib.hid hb0
  have HX0 := Lib.hid (show (w.alloc (.cells (ArrU8 l) 52)).heap[w.heap.size]? = some (.cells (l.map (Value.int .u8)).toArray 52 (0, 0)) from heap_alloc_new _ _)
  clear hl hr hb0
  go_enter Try.func91, Try.ntmps91
  go_wp2_with fail
  generalize w.alloc (.cells (ArrU8 l) 52) = w0 at *
  go_loopw [5] (fun iv wr => ∃ i : Nat, i ≤ 24 ∧ iv = .int .i64 (i : Int) ∧ (∀ k, k < i → l[k]?.getD 0 = l[mir k]?.getD 0) ∧ wr.heap[w.heap.size]? = some (.cells (l.map (Value.int .u8)).toArray 52 (0, 0)) ∧ Below w.heap.size w wr) (fun iv _ => 24 - (intOf iv).toNat)
  case atStart => exact ⟨0, by omega, rfl, fun k hk => by omega, HX0.out, HB0.out⟩
  case round =>
    obtain ⟨i, hi, rfl, hok, hx, hbw⟩ := hrel
    have HX := Lib.hid hx
    have HBW := Lib.hid hbw
    have HOK := Lib.hid hok
    by_cases hlt : i < 24
    · obtain ⟨k, hk⟩ : ∃ k, 40 - i + i % 8 * 2 = k := ⟨_, rfl⟩
      obtain ⟨m, hm⟩ : ∃ m, i % 8 = m := ⟨_, rfl⟩
      have hmi : ((i : Int)).tmod 8 = (m : Int) := by rw [Int.tmod_eq_emod_of_nonneg (by omega)]; omega
      have hki : 40 - (i : Int) + (m : Int) * 2 = (k : Int) := by omega
      have hm8 : m < 8 := by omega
      have hk256 : k < 256 := by omega
      have hi256 : i < 256 := by omega
      have c1 := row_cell hx (k := i) (by rw [HL.out]; omega)
      have c2 := row_cell hx (k := k) (by rw [HL.out]; omega)
      have HKM := Lib.hid (show mir i = k from hk)
      obtain ⟨x, hxx⟩ : ∃ x, l[i]?.getD 0 = x := ⟨_, rfl⟩
      obtain ⟨y, hyy⟩ : ∃ y, l[k]?.getD 0 = y := ⟨_, rfl⟩
      rw [hxx] at c1
      rw [hyy] at c2
      have HXX := Lib.hid hxx
      have HYY := Lib.hid hyy
      clear hx hbw hok hk hm hxx hyy
      by_cases hxy : x = y
      · subst hxy
        go_wp2_with fail
        go_quiet (fail)
        go_wp2_with fail
        go_roundw
        case rel =>
          refine ⟨i + 1, by omega, by go_num, fun j hj => ?_, HX.out, below_drewN HBW.out _⟩
          by_cases hji : j < i
          · exact HOK.out j hji
          · obtain rfl : j = i := by omega
            rw [HXX.out, HKM.out, HYY.out]
        case measure => simp [intOf]; omega
      · go_wp2_with fail
        go_quiet (fail)
        go_wp2_with fail
        go_ret
        refine ⟨⟨false, rfl, ⟨fun h => (by cases h), fun h => ?_⟩⟩, below_drewN HBW.out _⟩
        have := h.1 i (by omega)
        rw [HXX.out, HKM.out, HYY.out] at this
        exact absurd this hxy
    · have hi24 : i = 24 := by omega
      subst hi24
      have hsl := fun u => slice35_lh u w.heap.size 0 8 0 8 rfl rfl (by decide) (by decide) (by decide)
      have HBS := Lib.hid (bs_part hx 0 8 256 (by rw [HL.out]; decide) (by decide))
      have HNA := Lib.hid (show beI ((l.drop 0).take 8 |>.take 8) = nAt l 0 by unfold nAt; rw [Nat.mul_zero, List.take_take]; rfl)
      have HRN := Lib.hid (show Rng ((l.drop 0).take 8) ∧ 8 ≤ ((l.drop 0).take 8).length ∧ ((l.drop 0).take 8).length ≤ 256 from ⟨(HR.out.drop _).take _, by rw [List.drop_zero, List.length_take, HL.out]; decide, by rw [List.length_take]; omega⟩)
      clear hx hbw hok hlt hi
      go_wp2_with fail
      refine (rrd_any _ _ wr HBS.out HRN.out.1 HRN.out.2.1 (by have := HRN.out.2.2; omega)).mono ?_
      rintro e w1 ⟨rfl, rfl⟩
      rw [HNA.out]
      have HN64 := Lib.hid (nAt_lt l HR.out 0)
      obtain ⟨n, hn⟩ : ∃ n, nAt l 0 = n := ⟨_, rfl⟩
      rw [hn] at HN64 ⊢
      have HNN := Lib.hid hn
      obtain ⟨m, hm⟩ : ∃ m, n % 2 = m := ⟨_, rfl⟩
      have hmi : ((n : Int)).tmod 2 = (m : Int) := by rw [Int.tmod_eq_emod_of_nonneg (by omega)]; omega
      have HMM := Lib.hid hm
      have hnb := HN64.out
      clear hn hm hsl
      by_cases h0 : 0 < n
      · go_wp2_with fail
        go_ret
        refine ⟨⟨((m : Int) == (odd : Int)), rfl, ⟨fun h => ?_, fun h => ?_⟩⟩, HBW.out⟩
        · have h1 : (m : Int) = (odd : Int) := by simpa using h
          exact ⟨HOK.out, by rw [HNN.out]; exact h0, by rw [HNN.out, HMM.out]; omega⟩
        · have h1 := h.2.2
          rw [HNN.out, HMM.out] at h1
          subst h1
          simp
      · go_wp2_with fail
        go_ret
        exact ⟨⟨false, rfl, ⟨fun h => (by cases h), fun h => absurd h.2.1 (by rw [HNN.out]; exact h0)⟩⟩, HBW.out⟩
theorem seg_eq {l : List Int} (hl : l.length = 256) (i j : Nat) (hi : i < 32) (hj : j < 32) : (l.drop (8 * i)).take 8 = (l.drop (8 * j)).take 8 ↔ ∀ r, r < 8 → l[8 * i + r]?.getD 0 = l[8 * j + r]?.getD 0 := by
  constructor
  · intro h r hr
    have := congrArg (fun s => s[r]?) h
    simp only [List.getElem?_take, hr, if_true, List.getElem?_drop] at this
    rw [this]
  · intro h
    apply List.ext_getElem?
    intro r
    rw [List.getElem?_take, List.getElem?_take]
    by_cases hr : r < 8
    · rw [if_pos hr, if_pos hr, List.getElem?_drop, List.getElem?_drop]
      have h1 := h r hr
      rw [List.getElem?_eq_getElem (by omega : 8 * i + r < l.length), List.getElem?_eq_getElem (by omega : 8 * j + r < l.length)] at h1 ⊢
      simpa using h1
    · rw [if_neg hr, if_neg hr]
theorem nAt_eq {l : List Int} (hl : l.length = 256) (hr : Rng l) (i j : Nat) (hi : i < 32) (hj : j < 32) : nAt l i = nAt l j ↔ ∀ r, r < 8 → l[8 * i + r]?.getD 0 = l[8 * j + r]?.getD 0 := by
  rw [← seg_eq hl i j hi hj]
  unfold nAt
  constructor
  · intro h
    rw [← be8_beI (l := (l.drop (8 * i)).take 8) (by rw [List.length_take, List.length_drop]; omega) ((hr.drop _).take _), h, be8_beI (by rw [List.length_take, List.length_drop]; omega) ((hr.drop _).take _)]
  · intro h; rw [h]
theorem rok_okB {l : List Int} (hl : l.length = 256) (hr : Rng l) : rOk l ↔ okB l = true := by
  unfold okB
  rw [decide_eq_true_iff, nAt_eq hl hr 0 5 (by decide) (by decide), nAt_eq hl hr 1 4 (by decide) (by decide), nAt_eq hl hr 2 3 (by decide) (by decide)]
  unfold rOk mir
  constructor
  · intro h
    refine ⟨fun r h8 => ?_, fun r h8 => ?_, fun r h8 => ?_⟩
    · have := h (8 * 0 + r) (by omega)
      rwa [show 40 - (8 * 0 + r) + (8 * 0 + r) % 8 * 2 = 8 * 5 + r by omega] at this
    · have := h (8 * 1 + r) (by omega)
      rwa [show 40 - (8 * 1 + r) + (8 * 1 + r) % 8 * 2 = 8 * 4 + r by omega] at this
    · have := h (8 * 2 + r) (by omega)
      rwa [show 40 - (8 * 2 + r) + (8 * 2 + r) % 8 * 2 = 8 * 3 + r by omega] at this
  · rintro ⟨h1, h2, h3⟩ k hk
    by_cases k1 : k < 8
    · have := h1 k k1
      rwa [show 8 * 0 + k = k by omega, show 8 * 5 + k = 40 - k + k % 8 * 2 by omega] at this
    · by_cases k2 : k < 16
      · have := h2 (k - 8) (by omega)
        rwa [show 8 * 1 + (k - 8) = k by omega, show 8 * 4 + (k - 8) = 40 - k + k % 8 * 2 by omega] at this
      · have := h3 (k - 16) (by omega)
        rwa [show 8 * 2 + (k - 16) = k by omega, show 8 * 3 + (k - 16) = 40 - k + k % 8 * 2 by omega] at this
/-- THE REFERENCE'S DISK, by the state of a disk that may fail -/
def RD (w : World) (B R gf nb fcap : Nat) (rm : Int) (s : DS) (rv : Value) : Prop := ∃ bs K, RS w B R gf nb fcap rv rm s.fz s.dn bs K ∧ Rel nb s.f s.L bs K ∧ K.length ≤ 268435000
section
variable {w w' : World} {B R gf nb fcap : Nat} {rm : Int} {s : DS} {rv : Value}
theorem RD.foot (h : RD w B R gf nb fcap rm s rv) : ∀ k, RFoot R gf rv k → B ≤ k ∧ k < w.heap.size := by
  obtain ⟨bs, K, h, _⟩ := h
  exact h.foot
theorem RD.chg {F : Nat → Prop} (h : RD w B R gf nb fcap rm s rv) (hc : Chg F w w') (hF : ∀ k, RFoot R gf rv k → ¬ F k) : RD w' B R gf nb fcap rm s rv := by
  obtain ⟨bs, K, h1, h2, h3⟩ := h
  exact ⟨bs, K, h1.chg hc hF, h2, h3⟩
theorem RD.fresh (h : RD w B R gf nb fcap rm s rv) (hb : Below w.heap.size w w') : RD w' B R gf nb fcap rm s rv := h.chg (Chg.fresh (F := fun _ => False) hb) (fun _ _ h => h)
def RDEnds (B R gf nb fcap : Nat) (rm : Int) (s' : DS) (E : Int) (rv : Value) (w : World) (e : Ending) (w' : World) : Prop :=
  e = .returned (.int .i64 E) ∧ ∃ rv', RD w' B R gf nb fcap rm s' rv' ∧ Chg (RFoot R gf rv) w w' ∧ (∀ k, RFoot R gf rv' k → RFoot R gf rv k ∨ w.heap.size ≤ k)
theorem rd_write (h : RD w B R gf nb fcap rm s rv) (n : Int) (b : List Int) (hb : b.length = 256) (hL : s.L.length ≤ 268434000) :
    Calls Try.prog 39 #[.pointer (some ⟨R, 0, none⟩), .int .i64 n, .agg (ArrU8 b)] w (RDEnds B R gf nb fcap rm (s.wr nb rm n b) (s.we nb rm n) rv w) := by
  obtain ⟨bs, K, h1, h2, h3⟩ := h
  refine (rwrite_rs B R gf nb fcap rv rm s.fz n s.dn bs K b w h1 hb (by omega)).mono ?_
  rintro e w' ⟨rfl, rv', hrs, hc, hf⟩
  refine ⟨rfl, rv', ⟨bs, (if wErr nb rm s.fz n s.dn = 0 then K ++ [(n, b)] else K), hrs, ?_, ?_⟩, hc, hf⟩
  · unfold DS.wr
    dsimp only
    unfold DS.we
    by_cases he : wErr nb rm s.fz n s.dn = 0
    · simp only [if_pos he]
      exact h2.write n b (wErr_has he)
    · simp only [if_neg he]
      exact h2
  · have := h2.len
    split
    · rw [List.length_append, List.length_singleton]; omega
    · omega
theorem rd_sync (h : RD w B R gf nb fcap rm s rv) :
    Calls Try.prog 41 #[.pointer (some ⟨R, 0, none⟩)] w (RDEnds B R gf nb fcap rm s.sy s.se rv w) := by
  obtain ⟨bs, K, h1, h2, h3⟩ := h
  refine (rsync_rs B R gf nb fcap rv rm s.fz s.dn bs K w h1 (by omega)).mono ?_
  rintro e w' ⟨rfl, rv', hrs, hc, hf⟩
  refine ⟨rfl, rv', ⟨(if opOk s.fz s.dn = true then firmL bs K else bs), (if opOk s.fz s.dn = true then [] else K), hrs, ?_, ?_⟩, hc, hf⟩
  · unfold DS.sy
    dsimp only
    by_cases he : opOk s.fz s.dn = true
    · simp only [if_pos he]
      exact h2.sync
    · simp only [if_neg he]
      exact h2
  · split
    · exact Nat.zero_le _
    · exact h3
theorem rd_read (h : RD w B R gf nb fcap rm s rv) (n : Int) :
    Calls Try.prog 43 #[.pointer (some ⟨R, 0, none⟩), .int .i64 n] w fun e w' => e = .returned (.tuple #[.agg (ArrU8 (rdF nb n s.dn s.f)), .int .i64 (readErr nb n s.dn)]) ∧ Below w.heap.size w w' := by
  obtain ⟨bs, K, h1, h2, h3⟩ := h
  exact rread_rs B R gf nb fcap rv rm s.fz n s.dn bs K s.f s.L w h1 h2 (by omega)
theorem rd_up {kv : Value} {ks : List Bool} {t : Int} (h : RD w B R gf nb fcap rm s rv) (hkb : Bools w kv ks) (hkd : ∀ b o n c, kv = .slice (some ⟨b, o, none⟩) n c → 0 < ks.length → b ≠ gf) (hkl : ks.length ≤ 1048576) :
    Calls Try.prog 57 #[.pointer (some ⟨R, 0, none⟩), kv, .int .i64 t] w fun e w' => e = .returned (.tuple #[]) ∧ RD w' B R gf nb fcap rm ⟨-1, false, upF s.f s.L ks t, []⟩ (.slice none 0 0) ∧ Chg (fun k => k = R ∨ k = gf) w w' := by
  obtain ⟨bs, K, h1, h2, h3⟩ := h
  refine (rup_rs B R gf nb fcap rv kv rm s.fz t s.dn bs K ks w h1 hkb hkd (by omega) (by omega)).mono ?_
  rintro e w' ⟨rfl, hrs, hc⟩
  exact ⟨rfl, ⟨_, _, hrs, h2.up ks t, by simp⟩, hc⟩
end
end Go.Proofs.Ytaibminomehppaa
namespace Go.Proofs.Ytaibminomehppaa
open Go.RowKit
def RTEnds (B R gf nb fcap : Nat) (rm : Int) (Q : Nat) (fi sz : Int) (a b c : Nat) (bv mv : Value) (s : DS) (E : Int) (a' b' c' : Nat) (rv : Value) (w : World) (e : Ending) (w' : World) : Prop :=
  e = .returned (.int .i64 E) ∧ ∃ rv', RD w' B R gf nb fcap rm s rv' ∧ RLgIs w' Q (RLg R fi sz (if E = 0 then a' else a) (if E = 0 then b' else b) (if E = 0 then c' else c) bv mv) ∧ Chg (fun k => RFoot R gf rv k ∨ k = Q) w w' ∧ (∀ k, RFoot R gf rv' k → RFoot R gf rv k ∨ w.heap.size ≤ k)
set_option maxRecDepth 100000 in
set_option maxHeartbeats 2000000 in
theorem rturn_any (B R gf nb fcap : Nat) (rm : Int) (Q : Nat) (fi sz : Int) (a b c ep en : Nat) (bv mv : Value) (s : DS) (rv : Value) (w : World) (hd : RD w B R gf nb fcap rm s rv) (h : RLgIs w Q (RLg R fi sz a b c bv mv)) (hQ : ¬ RFoot R gf rv Q) (hfi : 0 ≤ fi ∧ fi ≤ 4096)
    (ha : a < 4611686018427387904) (hep : ep < 4611686018427387904) (hen : en < 4611686018427387904) (hL : s.L.length ≤ 268433000) :
    Calls Try.prog 94 #[.pointer (some ⟨Q, 0, none⟩), .int .u64 (ep : Int), .int .u64 (en : Int)] w
      (RTEnds B R gf nb fcap rm Q fi sz a b c bv mv (s.wsy nb rm (mw fi (a + 1) ep en)).1 (s.wsy nb rm (mw fi (a + 1) ep en)).2 (a + 1) ep en rv w) := by
  have hmk := fun u => rmark_any (a + 1) ep en u (by omega) (by omega) (by omega)
  obtain ⟨a1, ha1⟩ : ∃ a1, a + 1 = a1 := ⟨_, rfl⟩
  rw [ha1] at hmk ⊢
  obtain ⟨m, hm⟩ : ∃ m, a1 % 2 = m := ⟨_, rfl⟩
  have haa : (a : Int) + 1 = (a1 : Int) := by omega
  have hmi : ((a1 : Int)).tmod 2 = (m : Int) := by rw [Int.tmod_eq_emod_of_nonneg (by omega)]; omega
  have hm2 : m < 2 := by omega
  have ha1b : a1 < 4611686018427387905 := by omega
  have hws : s.wsy nb rm (mw fi a1 ep en) = if s.we nb rm (fi + (m : Int)) = 0 then ((s.wr nb rm (fi + (m : Int)) (mb a1 ep en)).sy, (s.wr nb rm (fi + (m : Int)) (mb a1 ep en)).se) else (s.wr nb rm (fi + (m : Int)) (mb a1 ep en), s.we nb rm (fi + (m : Int))) := by
    unfold mw
    rw [hm, wsy_cons, wsy_nil]
  have HMK := Lib.hid hmk
  have HD := Lib.hid hd
  have HQ := Lib.hid h
  have HNQ := Lib.hid hQ
  have HWL := Lib.hid (show (s.wr nb rm (fi + (m : Int)) (mb a1 ep en)).L.length ≤ 268434000 by have := wr_L (nb := nb) (rm := rm) (s := s) (n := fi + (m : Int)) (b := mb a1 ep en); omega)
  have HLQ := Lib.hid h.lt
  have HML := Lib.hid (mb_len a1 ep en)
  have HLL := Lib.hid hL
  have h3 : w.cell? ⟨Q, 3, none⟩ = some (.int .u64 (a : Int)) := h.cell 3
  have hw1 : IntKind.i64.wrap (m : Int) = (m : Int) := wrap_i64 _ (by omega) (by omega)
  have hw2 : IntKind.i64.wrap (fi + (m : Int)) = fi + (m : Int) := wrap_i64 _ (by omega) (by omega)
  obtain ⟨r, hr⟩ : ∃ r, s.wsy nb rm (mw fi a1 ep en) = r := ⟨_, rfl⟩
  rw [hr] at hws ⊢
  obtain ⟨rs, ER⟩ := r
  dsimp only
  have HRR := Lib.hid hws
  clear hd h hQ hmk hws ha1 hm hL ha hr
  go_enter Try.func94, Try.ntmps94
  go_wp2_with fail
  have HS := Lib.hid (show RLgIs w.drew Q (RLg R fi sz a b c bv mv) from HQ.out)
  clear h3
  refine wp_region_held_drew (S := fun u => RLgIs u Q (RLg R fi sz a b c bv mv)) (by kernel_rfl) (HS.out) (fun hHeld => ?_)
  refine wpAnyH_take (i := 0) (oi := ({ dst := some 14, op := Op.move (Operand.tmp 0), type := 30, pos := "ref.go:139", after := #[], guard := none } : Oper)) (v := ?_) rfl (by kernel_rfl) (by kernel_rfl) (by kernel_rfl) (fun _ _ _ h => h) (Or.inl ⟨by rfl, ?_⟩) (by assumption) ?_
  rotate_left 1
  · (intro u hSw; go_simp; try with_reducible rfl)
  try simp only [Act.put, List.setIfInBounds_toArray, List.set_cons_zero, List.set_cons_succ]
  refine wpAnyH_take (i := 1) (oi := ({ dst := some 15, op := Op.nilCheck (Operand.tmp 14), type := 0, pos := "ref.go:139", after := #[{ on := 0, ground := Ground.data }], guard := none } : Oper)) (v := ?_) rfl (by kernel_rfl) (by kernel_rfl) (by kernel_rfl) (fun _ _ _ h => h) (Or.inl ⟨by rfl, ?_⟩) (by assumption) ?_
  rotate_left 1
  · (intro u hSw; go_simp; try with_reducible rfl)
  try simp only [Act.put, List.setIfInBounds_toArray, List.set_cons_zero, List.set_cons_succ]
  refine wpAnyH_take (i := 2) (oi := ({ dst := some 16, op := Op.fieldAddr 92 (Operand.tmp 15) 0, type := 0, pos := "ref.go:139", after := #[{ on := 1, ground := Ground.data }], guard := none } : Oper)) (v := ?_) rfl (by kernel_rfl) (by kernel_rfl) (by kernel_rfl) (fun _ _ _ h => h) (Or.inl ⟨by rfl, ?_⟩) (by assumption) ?_
  rotate_left 1
  · (intro u hSw; go_simp; try with_reducible rfl)
  try simp only [Act.put, List.setIfInBounds_toArray, List.set_cons_zero, List.set_cons_succ]
  refine wpAnyH_take (i := 3) (oi := ({ dst := some 17, op := Op.load 27 (Operand.tmp 16), type := 27, pos := "ref.go:139", after := #[{ on := 2, ground := Ground.data }], guard := none } : Oper)) (v := ?_) rfl (by kernel_rfl) (by kernel_rfl) (by kernel_rfl) (fun _ _ _ h => h) (Or.inl ⟨by rfl, ?_⟩) (by assumption) ?_
  rotate_left 1
  · intro u hSw
    have p0 : u.cell? ⟨Q, 0, none⟩ = some (.pointer (some ⟨R, 0, none⟩)) := RLgIs.cell hSw 0
    go_simp
    try with_reducible rfl
  try simp only [Act.put, List.setIfInBounds_toArray, List.set_cons_zero, List.set_cons_succ]
  refine wpAnyH_take (i := 4) (oi := ({ dst := some 18, op := Op.move (Operand.tmp 0), type := 30, pos := "ref.go:139", after := #[], guard := none } : Oper)) (v := ?_) rfl (by kernel_rfl) (by kernel_rfl) (by kernel_rfl) (fun _ _ _ h => h) (Or.inl ⟨by rfl, ?_⟩) (by assumption) ?_
  rotate_left 1
  · (intro u hSw; go_simp; try with_reducible rfl)
  try simp only [Act.put, List.setIfInBounds_toArray, List.set_cons_zero, List.set_cons_succ]
  refine wpAnyH_take (i := 5) (oi := ({ dst := some 19, op := Op.nilCheck (Operand.tmp 18), type := 0, pos := "ref.go:139", after := #[{ on := 4, ground := Ground.data }], guard := none } : Oper)) (v := ?_) rfl (by kernel_rfl) (by kernel_rfl) (by kernel_rfl) (fun _ _ _ h => h) (Or.inl ⟨by rfl, ?_⟩) (by assumption) ?_
  rotate_left 1
  · (intro u hSw; go_simp; try with_reducible rfl)
  try simp only [Act.put, List.setIfInBounds_toArray, List.set_cons_zero, List.set_cons_succ]
  refine wpAnyH_take (i := 6) (oi := ({ dst := some 20, op := Op.fieldAddr 92 (Operand.tmp 19) 1, type := 0, pos := "ref.go:139", after := #[{ on := 5, ground := Ground.data }], guard := none } : Oper)) (v := ?_) rfl (by kernel_rfl) (by kernel_rfl) (by kernel_rfl) (fun _ _ _ h => h) (Or.inl ⟨by rfl, ?_⟩) (by assumption) ?_
  rotate_left 1
  · (intro u hSw; go_simp; try with_reducible rfl)
  try simp only [Act.put, List.setIfInBounds_toArray, List.set_cons_zero, List.set_cons_succ]
  refine wpAnyH_take (i := 7) (oi := ({ dst := some 21, op := Op.load 3 (Operand.tmp 20), type := 3, pos := "ref.go:139", after := #[{ on := 6, ground := Ground.data }], guard := none } : Oper)) (v := ?_) rfl (by kernel_rfl) (by kernel_rfl) (by kernel_rfl) (fun _ _ _ h => h) (Or.inl ⟨by rfl, ?_⟩) (by assumption) ?_
  rotate_left 1
  · intro u hSw
    have p1 : u.cell? ⟨Q, 1, none⟩ = some (.int .i64 fi) := RLgIs.cell hSw 1
    go_simp
    try with_reducible rfl
  try simp only [Act.put, List.setIfInBounds_toArray, List.set_cons_zero, List.set_cons_succ]
  refine wpAnyH_take (i := 8) (oi := ({ dst := some 22, op := Op.move (Operand.tmp 7), type := 60, pos := "ref.go:139", after := #[], guard := none } : Oper)) (v := ?_) rfl (by kernel_rfl) (by kernel_rfl) (by kernel_rfl) (fun _ _ _ h => h) (Or.inl ⟨by rfl, ?_⟩) (by assumption) ?_
  rotate_left 1
  · (intro u hSw; go_simp; try with_reducible rfl)
  try simp only [Act.put, List.setIfInBounds_toArray, List.set_cons_zero, List.set_cons_succ]
  refine wpAnyH_take (i := 9) (oi := ({ dst := some 23, op := Op.binOp BinOp.rem 60 (Operand.tmp 22) (Operand.const (Value.int IntKind.u64 2)) 60, type := 60, pos := "ref.go:139", after := #[{ on := 8, ground := Ground.data }], guard := none } : Oper)) (v := ?_) rfl (by kernel_rfl) (by kernel_rfl) (by kernel_rfl) (fun _ _ _ h => h) (Or.inl ⟨by rfl, ?_⟩) (by assumption) ?_
  rotate_left 1
  · (intro u hSw; go_simp; try with_reducible rfl)
  try simp only [Act.put, List.setIfInBounds_toArray, List.set_cons_zero, List.set_cons_succ]
  refine wpAnyH_take (i := 10) (oi := ({ dst := some 24, op := Op.convert 60 3 (Operand.tmp 23), type := 3, pos := "ref.go:139", after := #[{ on := 9, ground := Ground.data }], guard := none } : Oper)) (v := ?_) rfl (by kernel_rfl) (by kernel_rfl) (by kernel_rfl) (fun _ _ _ h => h) (Or.inl ⟨by rfl, ?_⟩) (by assumption) ?_
  rotate_left 1
  · (intro u hSw; go_simp; try with_reducible rfl)
  try simp only [Act.put, List.setIfInBounds_toArray, List.set_cons_zero, List.set_cons_succ]
  refine wpAnyH_take (i := 11) (oi := ({ dst := some 25, op := Op.binOp BinOp.add 3 (Operand.tmp 21) (Operand.tmp 24) 3, type := 3, pos := "ref.go:139", after := #[{ on := 7, ground := Ground.data }, { on := 10, ground := Ground.data }], guard := none } : Oper)) (v := ?_) rfl (by kernel_rfl) (by kernel_rfl) (by kernel_rfl) (fun _ _ _ h => h) (Or.inl ⟨by rfl, ?_⟩) (by assumption) ?_
  rotate_left 1
  · (intro u hSw; go_simp; try with_reducible rfl)
  try simp only [Act.put, List.setIfInBounds_toArray, List.set_cons_zero, List.set_cons_succ]
  refine wpAnyH_take (i := 12) (oi := ({ dst := some 26, op := Op.move (Operand.tmp 7), type := 60, pos := "ref.go:139", after := #[], guard := none } : Oper)) (v := ?_) rfl (by kernel_rfl) (by kernel_rfl) (by kernel_rfl) (fun _ _ _ h => h) (Or.inl ⟨by rfl, ?_⟩) (by assumption) ?_
  rotate_left 1
  · (intro u hSw; go_simp; try with_reducible rfl)
  try simp only [Act.put, List.setIfInBounds_toArray, List.set_cons_zero, List.set_cons_succ]
  refine wpAnyH_take (i := 13) (oi := ({ dst := some 27, op := Op.move (Operand.tmp 1), type := 60, pos := "ref.go:139", after := #[], guard := none } : Oper)) (v := ?_) rfl (by kernel_rfl) (by kernel_rfl) (by kernel_rfl) (fun _ _ _ h => h) (Or.inl ⟨by rfl, ?_⟩) (by assumption) ?_
  rotate_left 1
  · (intro u hSw; go_simp; try with_reducible rfl)
  try simp only [Act.put, List.setIfInBounds_toArray, List.set_cons_zero, List.set_cons_succ]
  refine wpAnyH_take (i := 14) (oi := ({ dst := some 28, op := Op.move (Operand.tmp 2), type := 60, pos := "ref.go:139", after := #[], guard := none } : Oper)) (v := ?_) rfl (by kernel_rfl) (by kernel_rfl) (by kernel_rfl) (fun _ _ _ h => h) (Or.inl ⟨by rfl, ?_⟩) (by assumption) ?_
  rotate_left 1
  · (intro u hSw; go_simp; try with_reducible rfl)
  try simp only [Act.put, List.setIfInBounds_toArray, List.set_cons_zero, List.set_cons_succ]
  refine wpAnyH_ready (rs := [15]) (by kernel_rfl) (by simp) ?_
  refine AllReadyH.cons (o := ({ dst := some 29, op := Op.call { callee := Callee.value (Operand.func 40), args := #[Operand.tmp 26, Operand.tmp 27, Operand.tmp 28], argTypes := #[60, 60, 60] }, type := 52, pos := "ref.go:139", after := #[{ on := 12, ground := Ground.data }, { on := 13, ground := Ground.data }, { on := 14, ground := Ground.data }], guard := none } : Oper)) rfl (fun K hK => ?_) AllReadyH.nil
  go_simp
  go_at_call 40
  refine (HMK.out _).mono ?_
  rintro e wc ⟨rfl, hb⟩
  have XC := Lib.hid (show Below w.heap.size w wc from ((Below.refl _ _).drew).trans hb)
  have HSC := Lib.hid (show RLgIs wc Q (RLg R fi sz a b c bv mv) from HQ.out.chg (Chg.fresh (F := fun _ => False) XC.out) (fun h => h))
  have HDC := Lib.hid (HD.out.fresh XC.out)
  clear hb
  go_wp2_with fail
  refine hK.out _ _ HSC.out (fun hHeld => ?_)
  clear hK K
  try simp only [Act.put, List.setIfInBounds_toArray, List.set_cons_zero, List.set_cons_succ]
  refine wpAnyH_ready (rs := [16]) (by kernel_rfl) (by simp) ?_
  refine AllReadyH.cons (o := ({ dst := some 30, op := Op.call { callee := Callee.value (Operand.func 39), args := #[Operand.tmp 17, Operand.tmp 25, Operand.tmp 29], argTypes := #[27, 3, 52] }, type := 33, pos := "ref.go:139", after := #[{ on := 3, ground := Ground.data }, { on := 11, ground := Ground.data }, { on := 15, ground := Ground.data }, { on := 15, ground := Ground.chain }], guard := none } : Oper)) rfl (fun K hK => ?_) AllReadyH.nil
  go_simp
  go_at_call 39
  refine (rd_write HDC.out _ _ HML.out (by have := HLL.out; omega)).mono ?_
  rintro e wd ⟨rfl, rvd, hrd, hch, hft⟩
  have HDD := Lib.hid hrd
  have HCD := Lib.hid hch
  have HFD := Lib.hid hft
  have HSD := Lib.hid (show RLgIs wd Q (RLg R fi sz a b c bv mv) from HSC.out.chg hch HNQ.out)
  clear hrd hch hft
  go_wp2_with fail
  refine hK.out _ _ HSD.out (fun hHeld => ?_)
  clear hK K
  try simp only [Act.put, List.setIfInBounds_toArray, List.set_cons_zero, List.set_cons_succ]
  refine wpAnyH_take (i := 17) (oi := ({ dst := some 8, op := Op.assign (Operand.tmp 30), type := 33, pos := "ref.go:139", after := #[{ on := 16, ground := Ground.data }, { on := 16, ground := Ground.chain }, { on := 0, ground := Ground.phase }, { on := 1, ground := Ground.phase }, { on := 2, ground := Ground.phase }, { on := 3, ground := Ground.phase }, { on := 4, ground := Ground.phase }, { on := 5, ground := Ground.phase }, { on := 6, ground := Ground.phase }, { on := 7, ground := Ground.phase }, { on := 8, ground := Ground.phase }, { on := 9, ground := Ground.phase }, { on := 10, ground := Ground.phase }, { on := 11, ground := Ground.phase }, { on := 12, ground := Ground.phase }, { on := 13, ground := Ground.phase }, { on := 14, ground := Ground.phase }, { on := 15, ground := Ground.phase }, { on := 16, ground := Ground.phase }], guard := none } : Oper)) (v := ?_) rfl (by kernel_rfl) (by kernel_rfl) (by kernel_rfl) (fun _ _ _ h => h) (Or.inl ⟨by rfl, ?_⟩) (by assumption) ?_
  rotate_left 1
  · (intro u hSw; go_simp; try with_reducible rfl)
  try simp only [Act.put, List.setIfInBounds_toArray, List.set_cons_zero, List.set_cons_succ]
  refine wpAnyH_done (by kernel_rfl) ?_ _
  generalize hs1 : s.wr nb rm (fi + (m : Int)) (mb a1 ep en) = s1 at *
  generalize hE1 : s.we nb rm (fi + (m : Int)) = E1 at *
  have CW := Lib.hid (show Chg (fun k => RFoot R gf rv k ∨ k = Q) w wd from (Chg.fresh (F := fun k => RFoot R gf rv k ∨ k = Q) XC.out).trans HCD.out (fun k hk => .inl (.inl hk)))
  have FW := Lib.hid (show ∀ k, RFoot R gf rvd k → RFoot R gf rv k ∨ w.heap.size ≤ k from fun k hk => (HFD.out k hk).imp id (fun h => by have := XC.out.size; omega))
  have NQD := Lib.hid (show ¬ RFoot R gf rvd Q from fun h => (FW.out Q h).elim HNQ.out (fun h => by have := HLQ.out; omega))
  clear hs1 hE1
  by_cases hE : E1 = 0
  · subst hE
    obtain ⟨hq1, hq2⟩ := Prod.mk.inj (HRR.out.trans (if_pos rfl))
    subst hq1
    have HQ2 := Lib.hid hq2
    clear hq2
    have p0 : wd.cell? ⟨Q, 0, none⟩ = some (.pointer (some ⟨R, 0, none⟩)) := RLgIs.cell HSD.out 0
    go_wp2_with fail
    refine (rd_sync HDD.out).mono ?_
    rintro e we ⟨rfl, rve, hre, hce, hfe⟩
    have HDE := Lib.hid hre
    have HSE := Lib.hid (show RLgIs we Q (RLg R fi sz a b c bv mv) from HSD.out.chg hce NQD.out)
    have CE := Lib.hid (CW.out.trans hce (fun k hk => (FW.out k hk).imp .inl id))
    have FE := Lib.hid (show ∀ k, RFoot R gf rve k → RFoot R gf rv k ∨ w.heap.size ≤ k from fun k hk => (hfe k hk).elim (fun h => FW.out k h) (fun h => .inr (by have := CW.out.size; omega)))
    have NQE := Lib.hid (show ¬ RFoot R gf rve Q from fun h => (FE.out Q h).elim HNQ.out (fun h => by have := HLQ.out; omega))
    clear hre hce hfe p0
    rw [← HQ2.out]
    by_cases hE : ER = 0
    · subst hE
      have f3 := RLgIs.frozen HSE.out 3
      have f4 := RLgIs.frozen HSE.out 4
      have f5 := RLgIs.frozen HSE.out 5
      have c3 : we.cell? ⟨Q, 3, none⟩ = some (.int .u64 (a : Int)) := RLgIs.cell HSE.out 3
      have c4 : we.cell? ⟨Q, 4, none⟩ = some (.int .u64 (b : Int)) := RLgIs.cell HSE.out 4
      have c5 : we.cell? ⟨Q, 5, none⟩ = some (.int .u64 (c : Int)) := RLgIs.cell HSE.out 5
      go_wp2_with fail
      go_ret
      have hc3 : Chg (fun k => RFoot R gf rv k ∨ k = Q) w (((we.setCell ⟨Q, 3, none⟩ (.int .u64 (a1 : Int))).setCell ⟨Q, 4, none⟩ (.int .u64 (ep : Int))).setCell ⟨Q, 5, none⟩ (.int .u64 (en : Int))) := ((CE.out.setCell _ _ (.inl (.inr rfl))).setCell _ _ (.inl (.inr rfl))).setCell _ _ (.inl (.inr rfl))
      have hc4 : Chg (fun k => k = Q) we (((we.setCell ⟨Q, 3, none⟩ (.int .u64 (a1 : Int))).setCell ⟨Q, 4, none⟩ (.int .u64 (ep : Int))).setCell ⟨Q, 5, none⟩ (.int .u64 (en : Int))) := (((Chg.refl (fun k => k = Q) we).setCell _ _ (.inl rfl)).setCell _ _ (.inl rfl)).setCell _ _ (.inl rfl)
      exact ⟨rfl, rve, HDE.out.chg hc4 (fun k hk e => NQE.out (by rw [← e]; exact hk)), ((HSE.out.set 3 _).set 4 _).set 5 _, hc3, FE.out⟩
    · go_wp2_with fail
      go_ret
      refine ⟨rfl, rve, HDE.out, ?_, CE.out, FE.out⟩
      rw [if_neg hE, if_neg hE, if_neg hE]
      exact HSE.out
  · obtain ⟨hq1, hq2⟩ := Prod.mk.inj (HRR.out.trans (if_neg hE))
    subst hq1 hq2
    go_wp2_with fail
    go_ret
    refine ⟨rfl, rvd, HDD.out, ?_, CW.out, FW.out⟩
    rw [if_neg hE, if_neg hE, if_neg hE]
    exact HSD.out
theorem rd_fits {w : World} {B R gf nb fcap : Nat} {rm : Int} {s : DS} {rv : Value} (h : RD w B R gf nb fcap rm s rv) (hn : nb ≤ 4096) (fi sz : Int) (hfi : -9223372036854775808 ≤ fi ∧ fi ≤ 9223372036854775807) :
    Calls Try.prog 38 #[.pointer (some ⟨R, 0, none⟩), .int .i64 fi, .int .i64 sz] w fun e w' => w = w' ∧ e = .returned (.bool (decide (0 ≤ fi ∧ 3 ≤ sz ∧ sz ≤ nb ∧ fi ≤ nb - sz))) := by
  obtain ⟨bs, K, h1, _⟩ := h
  exact rfits_any B R gf nb fcap rv rm s.fz s.dn bs K fi sz w h1 hn hfi
set_option maxRecDepth 100000 in
set_option maxHeartbeats 4000000 in
theorem rformat_any (B R gf nb fcap : Nat) (rm fi sz : Int) (s : DS) (rv : Value) (w : World) (hd : RD w B R gf nb fcap rm s rv) (h1 : 0 ≤ fi) (h2 : 3 ≤ sz) (h3 : fi ≤ nb - sz) (hnb : nb ≤ 4096) (hL : s.L.length ≤ 268433000) :
    Calls Try.prog 9 #[.pointer (some ⟨R, 0, none⟩), .int .i64 fi, .int .i64 sz] w (RDEnds B R gf nb fcap rm (s.wsy nb rm (fw fi)).1 (s.wsy nb rm (fw fi)).2 rv w) := by
  have hfit := rd_fits hd hnb fi sz (by omega)
  rw [show decide (0 ≤ fi ∧ 3 ≤ sz ∧ sz ≤ nb ∧ fi ≤ nb - sz) = true from decide_eq_true ⟨h1, h2, by omega, h3⟩] at hfit
  have hbz : ∀ u : World, (Instr.build 52 #[]).run Try.prog u = .ok (.agg (ArrU8 (zeros 256))) u := fun u => by kernel_rfl
  have hws : s.wsy nb rm (fw fi) = if s.we nb rm (fi + 1) = 0 then (if (s.wr nb rm (fi + 1) (mb 1 1 0)).we nb rm fi = 0 then (((s.wr nb rm (fi + 1) (mb 1 1 0)).wr nb rm fi (zeros 256)).sy, ((s.wr nb rm (fi + 1) (mb 1 1 0)).wr nb rm fi (zeros 256)).se) else ((s.wr nb rm (fi + 1) (mb 1 1 0)).wr nb rm fi (zeros 256), (s.wr nb rm (fi + 1) (mb 1 1 0)).we nb rm fi)) else (s.wr nb rm (fi + 1) (mb 1 1 0), s.we nb rm (fi + 1)) := by
    unfold fw
    rw [wsy_cons, wsy_cons, wsy_nil]
  obtain ⟨r, hr⟩ : ∃ r, s.wsy nb rm (fw fi) = r := ⟨_, rfl⟩
  rw [hr] at hws ⊢
  obtain ⟨rs, ER⟩ := r
  dsimp only
  have HRR := Lib.hid hws
  have HF := Lib.hid hfit
  have HD := Lib.hid hd
  have HWL := Lib.hid (show s.L.length ≤ 268434000 ∧ (s.wr nb rm (fi + 1) (mb 1 1 0)).L.length ≤ 268434000 by have := wr_L (nb := nb) (rm := rm) (s := s) (n := fi + 1) (b := mb 1 1 0); omega)
  have HML := Lib.hid (And.intro (mb_len 1 1 0) (show (zeros 256).length = 256 from List.length_replicate))
  have hw1 : IntKind.i64.wrap (fi + 1) = fi + 1 := wrap_i64 _ (by omega) (by omega)
  clear hws hr hd hfit hL
  go_enter Try.func9, Try.ntmps9
  go_wp2_with fail
  refine HF.out.mono ?_
  rintro e w' ⟨rfl, rfl⟩
  go_wp2_with fail
  refine (rmark_any 1 1 0 _ (by decide) (by decide) (by decide)).mono ?_
  rintro e wc ⟨rfl, hb⟩
  have XC := Lib.hid hb
  have HDC := Lib.hid (HD.out.fresh hb)
  clear hb
  go_wp2_with fail
  refine (rd_write HDC.out _ _ HML.out.1 HWL.out.1).mono ?_
  rintro e wd ⟨rfl, rvd, hrd, hch, hft⟩
  have HDD := Lib.hid hrd
  have CW := Lib.hid (show Chg (RFoot R gf rv) w wd from (Chg.fresh (F := RFoot R gf rv) XC.out).trans hch (fun k hk => .inl hk))
  have FW := Lib.hid (show ∀ k, RFoot R gf rvd k → RFoot R gf rv k ∨ w.heap.size ≤ k from fun k hk => (hft k hk).imp id (fun h => by have := XC.out.size; omega))
  clear hrd hch hft
  generalize hs1 : s.wr nb rm (fi + 1) (mb 1 1 0) = s1 at *
  generalize hE1 : s.we nb rm (fi + 1) = E1 at *
  clear hs1 hE1
  by_cases hE : E1 = 0
  · subst hE
    have hq := HRR.out.trans (if_pos rfl)
    have HRR2 := Lib.hid hq
    clear HRR hq
    go_wp2_with fail
    refine (rd_write HDD.out _ _ HML.out.2 HWL.out.2).mono ?_
    rintro e we ⟨rfl, rve, hre, hce, hfe⟩
    have HDE := Lib.hid hre
    have CE := Lib.hid (CW.out.trans hce FW.out)
    have FE := Lib.hid (show ∀ k, RFoot R gf rve k → RFoot R gf rv k ∨ w.heap.size ≤ k from fun k hk => (hfe k hk).elim (fun h => FW.out k h) (fun h => .inr (by have := CW.out.size; omega)))
    clear hre hce hfe
    generalize hs2 : s1.wr nb rm fi (zeros 256) = s2 at *
    generalize hE2 : s1.we nb rm fi = E2 at *
    clear hs2 hE2
    by_cases hE : E2 = 0
    · subst hE
      obtain ⟨hq1, hq2⟩ := Prod.mk.inj (HRR2.out.trans (if_pos rfl))
      subst hq1
      have HQ2 := Lib.hid hq2
      clear hq2
      go_wp2_with fail
      refine (rd_sync HDE.out).mono ?_
      rintro e wf ⟨rfl, rvf, hrf, hcf, hff⟩
      have HDF := Lib.hid hrf
      have CF := Lib.hid (CE.out.trans hcf FE.out)
      have FF := Lib.hid (show ∀ k, RFoot R gf rvf k → RFoot R gf rv k ∨ w.heap.size ≤ k from fun k hk => (hff k hk).elim (fun h => FE.out k h) (fun h => .inr (by have := CE.out.size; omega)))
      clear hrf hcf hff
      rw [← HQ2.out]
      go_wp2_with fail
      go_ret
      exact ⟨rfl, rvf, HDF.out, CF.out, FF.out⟩
    · obtain ⟨hq1, hq2⟩ := Prod.mk.inj (HRR2.out.trans (if_neg hE))
      subst hq1 hq2
      go_wp2_with fail
      go_ret
      exact ⟨rfl, rve, HDE.out, CE.out, FE.out⟩
  · obtain ⟨hq1, hq2⟩ := Prod.mk.inj (HRR.out.trans (if_neg hE))
    subst hq1 hq2
    go_wp2_with fail
    go_ret
    exact ⟨rfl, rvd, HDD.out, CW.out, FW.out⟩
theorem rformat_no (B R gf nb fcap : Nat) (rm fi sz : Int) (s : DS) (rv : Value) (w : World) (hd : RD w B R gf nb fcap rm s rv) (hn : ¬ (0 ≤ fi ∧ 3 ≤ sz ∧ sz ≤ nb ∧ fi ≤ nb - sz)) (hfi : -9223372036854775808 ≤ fi ∧ fi ≤ 9223372036854775807) (hnb : nb ≤ 4096) :
    Calls Try.prog 9 #[.pointer (some ⟨R, 0, none⟩), .int .i64 fi, .int .i64 sz] w fun e w' => w = w' ∧ e = .returned (.int .i64 1) := by
  have hfit := rd_fits hd hnb fi sz hfi
  rw [show decide (0 ≤ fi ∧ 3 ≤ sz ∧ sz ≤ nb ∧ fi ≤ nb - sz) = false from decide_eq_false hn] at hfit
  have HF := Lib.hid hfit
  clear hfit hn hd
  go_enter Try.func9, Try.ntmps9
  go_wp2_with fail
  refine HF.out.mono ?_
  rintro e w' ⟨rfl, rfl⟩
  go_wp2_with fail
  go_ret
  exact ⟨rfl, rfl⟩
end Go.Proofs.Ytaibminomehppaa
namespace Go.Proofs.Ytaibminomehppaa
open Go.RowKit
def RApEnds (B R : Nat) (Q : Nat) (fi sz : Int) (a b c : Nat) (bv mv : Value) (ml m : List Int) (n : Nat) (w : World) (e : Ending) (w' : World) : Prop :=
  e = .returned (.int .i64 (if fitsL sz n ml.length m.length = true then 0 else 42)) ∧ ∃ mv', RLgIs w' Q (RLg R fi sz a b c bv mv') ∧ Own w' B mv' (if fitsL sz n ml.length m.length = true then ml ++ be8 m.length ++ m else ml) ∧ Chg (fun k => k = Q) w w' ∧ OwnTo w mv mv'
set_option maxRecDepth 100000 in
set_option maxHeartbeats 2000000 in
theorem rappend_any (B R : Nat) (Q : Nat) (fi sz : Int) (a b c : Nat) (bv mv v2 : Value) (bl ml m : List Int) (w : World) (h : RLgIs w Q (RLg R fi sz a b c bv mv)) (hbo : Own w B bv bl) (hmo : Own w B mv ml) (hmQ : mv.ownBlock ≠ some Q) (hB : B ≤ w.heap.size)
    (hbs : Bs w v2 m) (h2 : ∀ ad n c, v2 = .slice (some ad) n c → 0 < m.length → ad.block ≠ Q) (h3 : 3 ≤ sz) (h4 : sz ≤ 4096) (hbl : bl.length ≤ 1048576) (hml : ml.length ≤ 1048576) (hm : m.length ≤ 16777216) :
    Calls Try.prog 46 #[.pointer (some ⟨Q, 0, none⟩), v2] w (RApEnds B R Q fi sz a b c bv mv ml m bl.length w) := by
  obtain ⟨ba, bc, hbv⟩ := own_form hbo
  obtain ⟨ma, mc, hmv⟩ := own_form hmo
  subst hbv hmv
  have hroom := rgroom_any Q R fi sz a b c bl.length ml.length bc mc ba ma w h (by omega) h4 (by omega) (by omega)
  have HRO := Lib.hid hroom
  have HQ := Lib.hid h
  have HM := Lib.hid hmo
  have HBS := Lib.hid hbs
  have HNQ := Lib.hid hmQ
  have HB := Lib.hid hB
  have hfl : fitsL sz bl.length ml.length m.length = decide (8 + (m.length : Int) ≤ (sz - 2) * 256 - bl.length - ml.length) := rfl
  obtain ⟨X, hX⟩ : ∃ X : Int, 256 * (sz - 2) - bl.length - ml.length = X := ⟨_, rfl⟩
  have hXb : -4398046511104 ≤ X ∧ X ≤ 4398046511104 := by omega
  have HLM := Lib.hid (And.intro hbl (And.intro hml hm))
  obtain ⟨xa, xc, hxv, _⟩ := hbs
  subst hxv
  have hml8 : (m.length : Int) ≤ 16777216 := by omega
  by_cases hf : 8 + (m.length : Int) ≤ X
  · have hfit : fitsL sz bl.length ml.length m.length = true := by rw [hfl]; exact decide_eq_true (by omega)
    unfold RApEnds
    rw [hfit, if_pos rfl, if_pos rfl]
    rw [hX] at HRO
    have hnf : ¬ (X < 8 + (m.length : Int)) := by omega
    have hw1 : IntKind.u64.wrap (m.length : Int) = (m.length : Int) := wrap_u64 _ (by omega) (by omega)
    have HLT := Lib.hid (show m.length < 18446744073709551616 by omega)
    clear hroom h hmo hbo hmQ hX hfl hfit hbl hml hm hf hB
    go_enter Try.func46, Try.ntmps46
    go_wp2_with fail
    refine HRO.out.mono ?_
    rintro e w1 ⟨hb, rfl⟩
    have X1 := Lib.hid hb
    have HQ1 := Lib.hid (HQ.out.chg (Chg.fresh (F := fun _ => False) hb) (fun h => h))
    have HM1 := Lib.hid (HM.out.below hb (Nat.le_refl _))
    have HBS1 := Lib.hid (HBS.out.below hb)
    clear hb
    have hb2 : Below w1.heap.size w1 (w1.alloc (.cells #[] 5)) := (Below.refl _ _).alloc (Nat.le_refl _) _
    have HO2 := Lib.hid (show Own (w1.alloc (.cells #[] 5)) w1.heap.size (.slice (some ⟨w1.heap.size, 0, none⟩) 0 0) [] from World.ownsRow_lit w1 #[] 0 (Nat.le_refl _) (Nat.zero_le _) (by simp))
    have X2 := Lib.hid hb2
    have HM2 := Lib.hid (HM1.out.below hb2 (Nat.le_refl _))
    have c7 : (w1.alloc (.cells #[] 5)).cell? ⟨Q, 7, none⟩ = some (.slice ma ml.length mc) := RLgIs.cell (HQ1.out.chg (Chg.fresh (F := fun _ => False) hb2) (fun h => h)) 7
    clear hb2
    go_wp2_with (at_builtin; refine wpList_append_OwnT rfl (Operand.tmp 12) (Operand.tmp 16) rfl w1.heap.size _ [] rfl HO2.out _ ml rfl HM2.out.bs (by have := HLM.out; rw [List.length_nil]; omega) (by simp) ?_; intro v3 w3 hown' hgrow hto; have HO3 := Lib.hid hown'; have HG3 := Lib.hid hgrow; clear hown' hgrow hto)
    have X3 := Lib.hid (show Below w1.heap.size w1 w3 from X2.out.trans (HG3.out.below (fun g hg => (HO2.out.lt g hg).1) X2.out.size))
    clear c7
    refine (rnum_any m.length w3 HLT.out).mono ?_
    rintro e w4 ⟨v4, rfl, ho4, hb4⟩
    have HO4 := Lib.hid ho4
    have X4 := Lib.hid (X3.out.trans (hb4.mono X3.out.size))
    have HO34 := Lib.hid (HO3.out.below hb4 (Nat.le_refl _))
    clear ho4 hb4
    go_wp2_with (first
      | (at_builtin; refine wpList_append_OwnT (o := ⟨some 22, _, _, _, _, _⟩) rfl (Operand.tmp 17) (Operand.tmp 21) rfl w1.heap.size _ ([] ++ ml) rfl HO34.out _ (be8 m.length) rfl HO4.out.bs (by have := HLM.out; rw [List.nil_append, be8_len]; omega) X4.out.size ?_; intro v5 w5 hown' hgrow hto; have HO5 := Lib.hid hown'; have HG5 := Lib.hid hgrow; have X5 := Lib.hid (show Below w1.heap.size w1 w5 from X4.out.trans (hgrow.below (fun g hg => (HO34.out.lt g hg).1) X4.out.size)); clear hown' hgrow hto)
      | (at_builtin; refine wpList_append_OwnT (o := ⟨some 24, _, _, _, _, _⟩) rfl (Operand.tmp 22) (Operand.tmp 23) rfl w1.heap.size _ ([] ++ ml ++ be8 m.length) rfl HO5.out _ m rfl (HBS1.out.below X5.out) (by have := HLM.out; rw [List.nil_append, List.length_append, be8_len]; omega) X5.out.size ?_; intro v6 w6 hown' hgrow hto; obtain ⟨MM, hMM⟩ : ∃ MM, [] ++ ml ++ be8 m.length ++ m = MM := ⟨_, rfl⟩; rw [hMM] at hown'; have HMM := Lib.hid hMM; clear hMM; obtain ⟨sa6, sc6, hv6⟩ := own_form hown'; subst hv6; have HO6 := Lib.hid hown'; have X6 := Lib.hid (show Below w1.heap.size w1 w6 from X5.out.trans (hgrow.below (fun g hg => (HO5.out.lt g hg).1) X5.out.size)); have HQ6 := Lib.hid (HQ1.out.chg (Chg.fresh (F := fun _ => False) X6.out) (fun h => h)); have f7 := RLgIs.frozen HQ6.out 7; have c7 : w6.cell? ⟨Q, 7, none⟩ = some (.slice ma ml.length mc) := RLgIs.cell HQ6.out 7; clear hown' hgrow hto))
    go_ret
    have hQl := HQ.out.lt
    have hge : ∀ g, (Value.slice sa6 MM.length sc6).ownBlock = some g → w1.heap.size ≤ g := fun g hg => (HO6.out.lt g hg).1
    refine ⟨rfl, _, HQ6.out.set 7 _, ?_, ?_, ?_⟩
    · have hc : Chg (fun k => k = Q) w6 (w6.setCell ⟨Q, 7, none⟩ (.slice sa6 MM.length sc6)) := (Chg.refl _ _).setCell _ _ (.inl rfl)
      have ho := HO6.out.chg hc (fun g hg e => by have := hge g hg; have := X1.out.size; omega)
      rw [show ml ++ be8 m.length ++ m = MM from by rw [← HMM.out, List.nil_append]]
      exact own_base' ho (by have := X1.out.size; have := HB.out; omega)
    · exact ((Chg.fresh (F := fun k => k = Q) (X1.out.trans (X6.out.mono X1.out.size))).setCell _ _ (.inl rfl))
    · intro g hg
      exact .inr (by have := hge g hg; have := X1.out.size; omega)
  · have hfit : fitsL sz bl.length ml.length m.length = false := by rw [hfl]; exact decide_eq_false (by omega)
    unfold RApEnds
    rw [hfit, if_neg (by decide), if_neg (by decide)]
    rw [hX] at HRO
    have hnf : X < 8 + (m.length : Int) := by omega
    clear hroom h hmo hbo hmQ hX hfl hfit hbl hml hm hf hB
    go_enter Try.func46, Try.ntmps46
    go_wp2_with fail
    refine HRO.out.mono ?_
    rintro e w1 ⟨hb, rfl⟩
    have X1 := Lib.hid hb
    clear hb
    go_wp2_with fail
    go_ret
    exact ⟨rfl, _, HQ.out.chg (Chg.fresh (F := fun _ => False) X1.out) (fun h => h), HM.out.below X1.out (Nat.le_refl _), Chg.fresh X1.out, OwnTo.refl _ _⟩
def RReEnds (B R gf nb fcap : Nat) (rm : Int) (Q : Nat) (fi sz : Int) (a b c : Nat) (bv mv : Value) (s : DS) (E : Int) (a' b' : Nat) (rv : Value) (w : World) (e : Ending) (w' : World) : Prop :=
  e = .returned (.int .i64 E) ∧ ∃ rv', RD w' B R gf nb fcap rm s rv' ∧ RLgIs w' Q (RLg R fi sz (if E = 0 then a' else a) (if E = 0 then b' else b) (if E = 0 then 0 else c) (if E = 0 then .slice none 0 0 else bv) mv) ∧ Chg (fun k => RFoot R gf rv k ∨ k = Q) w w' ∧ (∀ k, RFoot R gf rv' k → RFoot R gf rv k ∨ w.heap.size ≤ k)
set_option maxRecDepth 100000 in
set_option maxHeartbeats 2000000 in
theorem rrestart_any (B R gf nb fcap : Nat) (rm : Int) (Q : Nat) (fi sz : Int) (a b c : Nat) (bv : Value) (ma : Option Addr) (mc : Nat) (s : DS) (rv : Value) (w : World) (hd : RD w B R gf nb fcap rm s rv) (h : RLgIs w Q (RLg R fi sz a b c bv (.slice ma 0 mc))) (hQ : ¬ RFoot R gf rv Q) (hfi : 0 ≤ fi ∧ fi ≤ 4096)
    (ha : a < 4611686018427387904) (hb : b < 4611686018427387903) (hL : s.L.length ≤ 268433000) :
    Calls Try.prog 51 #[.pointer (some ⟨Q, 0, none⟩)] w
      (RReEnds B R gf nb fcap rm Q fi sz a b c bv (.slice ma 0 mc) (s.wsy nb rm (mw fi (a + 1) (b + 1) 0)).1 (s.wsy nb rm (mw fi (a + 1) (b + 1) 0)).2 (a + 1) (b + 1) rv w) := by
  have ht := rturn_any B R gf nb fcap rm Q fi sz a b c (b + 1) 0 bv (.slice ma 0 mc) s rv w hd h hQ hfi ha (by omega) (by decide) hL
  obtain ⟨b1, hb1⟩ : ∃ b1, b + 1 = b1 := ⟨_, rfl⟩
  rw [hb1] at ht ⊢
  have hbb : (b : Int) + 1 = (b1 : Int) := by omega
  have hb1b : b1 < 4611686018427387904 := by omega
  obtain ⟨r, hr⟩ : ∃ r, s.wsy nb rm (mw fi (a + 1) b1 0) = r := ⟨_, rfl⟩
  rw [hr] at ht ⊢
  obtain ⟨rs, E⟩ := r
  dsimp only at ht ⊢
  have HT := Lib.hid ht
  have c7 : w.cell? ⟨Q, 7, none⟩ = some (.slice ma 0 mc) := h.cell 7
  have c4 : w.cell? ⟨Q, 4, none⟩ = some (.int .u64 (b : Int)) := h.cell 4
  have HNQ := Lib.hid hQ
  have HLQ := Lib.hid h.lt
  clear ht hr hd h hQ hb1
  go_enter Try.func51, Try.ntmps51
  go_wp2_with fail
  refine HT.out.mono ?_
  rintro e w1 ⟨rfl, rv1, hrd, hq, hc, hf⟩
  have HD1 := Lib.hid hrd
  have HC1 := Lib.hid hc
  have HF1 := Lib.hid hf
  have HQ1 := Lib.hid hq
  have NQ1 := Lib.hid (show ¬ RFoot R gf rv1 Q from fun h => (hf Q h).elim HNQ.out (fun h => by have := HLQ.out; omega))
  clear hrd hc hf hq c7 c4
  by_cases hE : E = 0
  · subst hE
    have c6 : w1.cell? ⟨Q, 6, none⟩ = some bv := RLgIs.cell HQ1.out 6
    have f6 := RLgIs.frozen HQ1.out 6
    go_wp2_with fail
    go_ret
    exact ⟨rfl, rv1, HD1.out.chg ((Chg.refl (fun k => k = Q) w1).setCell _ _ (.inl rfl)) (fun k hk e => NQ1.out (by rw [← e]; exact hk)), HQ1.out.set 6 _, HC1.out.setCell _ _ (.inl (.inr rfl)), HF1.out⟩
  · go_wp2_with fail
    go_ret
    refine ⟨rfl, rv1, HD1.out, ?_, HC1.out, HF1.out⟩
    have := HQ1.out
    rw [if_neg hE, if_neg hE, if_neg hE] at this
    rw [if_neg hE, if_neg hE, if_neg hE, if_neg hE]
    exact this
theorem rrestart_busy (Q R : Nat) (fi sz : Int) (a b c n mc : Nat) (bv : Value) (ma : Option Addr) (w : World) (h : RLgIs w Q (RLg R fi sz a b c bv (.slice ma n mc))) (hn : 0 < n) (hn2 : n ≤ 1099511627776) :
    Calls Try.prog 51 #[.pointer (some ⟨Q, 0, none⟩)] w fun e w' => w = w' ∧ e = .returned (.int .i64 43) := by
  have c7 : w.cell? ⟨Q, 7, none⟩ = some (.slice ma n mc) := h.cell 7
  have hni : (0 : Int) < (n : Int) := by omega
  clear h
  go_enter Try.func51, Try.ntmps51
  go_wp2_with fail
  go_ret
  exact ⟨rfl, rfl⟩
end Go.Proofs.Ytaibminomehppaa
namespace Go.Proofs.Ytaibminomehppaa
open Go.RowKit
theorem run_empty_u8 (u : World) : (Instr.buildSlice 39 0 #[]).run Try.prog u = .ok (.slice (some ⟨u.heap.size, 0, none⟩) 0 0) (u.alloc (.cells #[] 5)) := by kernel_rfl
theorem step_empty_u8 {ops : Array Oper} {o : Oper} {a : Act} {w : World} {K : Act → World → Prop} {Q : Exit → Act → World → Prop} {E : Prop} (hg : o.guard = none) (ho : o.op = .buildSlice 39 0 #[])
    (hK : ∀ v w', Own w' w.heap.size v [] → Below w.heap.size w w' → K (a.put o.dst v) w') :
    if Region.wanted o (yielded ops a.tmps) = true then Oper.wp Try.prog o a w K Q else E :=
  step_of_run hg (exec_bslice _ _ _ ho #[] (by simp) _ (run_empty_u8 w)) (hK _ _ (World.ownsRow_lit w #[] 0 (Nat.le_refl _) (Nat.zero_le _) (by simp)) ((Below.refl _ _).alloc (Nat.le_refl _) _))
theorem step_append_OwnT {ops : Array Oper} {o : Oper} {a : Act} {w : World} {K : Act → World → Prop} {Q : Exit → Act → World → Prop} {E : Prop}
    (hg : o.guard = none) (s x : Operand) (hop : o.op = Op.call { callee := Callee.builtin Builtin.append, args := #[s, x], argTypes := #[39, 39] }) (B : Nat)
    (v : Value) (l : List Int) (hs : a.eval s = v) (hown : Own w B v l) (v2 : Value) (m : List Int) (hx : a.eval x = v2) (hbs : Bs w v2 m) (h63 : l.length + m.length ≤ 1099511627776) (hbase : B ≤ w.heap.size)
    (hK : ∀ v' w', Own w' B v' (l ++ m) → Chg (fun g => v.ownBlock = some g) w w' → K (a.put o.dst v') w') :
    if Region.wanted o (yielded ops a.tmps) = true then Oper.wp Try.prog o a w K Q else E := by
  obtain ⟨v', w', h1, h2, h3, _⟩ := run_append_OwnT hown hbs h63 hbase o.type
  exact step_of_run hg (exec_append s x _ hop _ _ hs hx h1) (hK v' w' h2 h3)
/-- a block, when i of its bytes are laid -/
def pF (d : List Int) (i : Nat) : List Int := d.take i ++ zeros (256 - i)
theorem pF_len (d : List Int) (i : Nat) (h : i ≤ d.length) (h2 : i ≤ 256) : (pF d i).length = 256 := by
  unfold pF; rw [List.length_append, List.length_take, zeros, List.length_replicate]; omega
theorem pF_zero (d : List Int) : pF d 0 = zeros 256 := by unfold pF; rw [List.take_zero, List.nil_append]
theorem pF_set (d : List Int) (i : Nat) (h : i < d.length) (h2 : i < 256) : (pF d i).set i (d[i]?.getD 0) = pF d (i + 1) := by
  unfold pF
  have hz : zeros (256 - i) = 0 :: zeros (256 - (i + 1)) := by
    unfold zeros
    rw [show 256 - i = (256 - (i + 1)) + 1 by omega, List.replicate_succ]
  rw [List.take_add_one, List.getElem?_eq_getElem h, hz, List.set_append_right _ _ (by rw [List.length_take]; omega), List.length_take, Nat.min_eq_left (by omega), Nat.sub_self, List.set_cons_zero]
  simp only [Option.getD_some, Option.toList_some, List.append_assoc, List.singleton_append]
theorem pF_end (d : List Int) (i : Nat) (h : i ≤ d.length) (h2 : i ≤ 256) (h3 : ¬ (i < 256 ∧ i < d.length)) : pF d i = padB d := by
  unfold pF padB
  by_cases h4 : i < 256
  · have : i = d.length := by omega
    rw [List.take_of_length_le (by omega), List.take_of_length_le (by omega), this]
  · have : i = 256 := by omega
    subst this
    rw [show 256 - d.length = 0 by omega]
/-- the number of the block that comes next -/
def ivq (q j : Nat) : Value := .int .i64 ((q : Int) + (j : Int) - 1)
/-- the writes of the reference's Sync -/
def aR (fi : Int) (n : Nat) (all : List Int) : List (Int × List Int) := wl (fi + (2 + (n / 256 : Nat))) (all.drop (256 * (n / 256))) ((all.length - 1) / 256 - n / 256 + 1)
def RSyEnds4 (B R gf nb fcap : Nat) (rm : Int) (Q : Nat) (fi sz : Int) (a b c : Nat) (bv : Value) (bl all : List Int) (s : DS) (rv : Value) (w : World) (e : Ending) (w' : World) : Prop :=
  ∃ (sF : DS) (E : Int) (aF cF : Nat) (rv' bv' : Value), e = .returned (.int .i64 E) ∧ RD w' B R gf nb fcap rm sF rv' ∧ RLgIs w' Q (RLg R fi sz aF b cF bv' (.slice none 0 0)) ∧ Chg (fun k => RFoot R gf rv k ∨ k = Q) w w' ∧ (∀ k, RFoot R gf rv' k → RFoot R gf rv k ∨ w.heap.size ≤ k) ∧
    (((s.wsy nb rm (aR fi bl.length all)).2 ≠ 0 ∧ sF = (s.wsy nb rm (aR fi bl.length all)).1 ∧ E = (s.wsy nb rm (aR fi bl.length all)).2 ∧ aF = a ∧ cF = c ∧ bv' = bv) ∨
     ((s.wsy nb rm (aR fi bl.length all)).2 = 0 ∧ sF = ((s.wsy nb rm (aR fi bl.length all)).1.wsy nb rm (mw fi (a + 1) b all.length)).1 ∧ E = ((s.wsy nb rm (aR fi bl.length all)).1.wsy nb rm (mw fi (a + 1) b all.length)).2 ∧
      aF = (if E = 0 then a + 1 else a) ∧ cF = (if E = 0 then all.length else c) ∧ (if E = 0 then Own w' B bv' all ∧ (∀ g, bv'.ownBlock = some g → w.heap.size ≤ g ∧ ¬ RFoot R gf rv' g) else bv' = bv)))
set_option maxRecDepth 100000 in
set_option maxHeartbeats 8000000 in
theorem rsync4_any (B R gf nb fcap : Nat) (rm : Int) (Q : Nat) (fi sz : Int) (a b c : Nat) (bv mv : Value) (bl ml : List Int) (s : DS) (rv : Value) (w : World) (hd : RD w B R gf nb fcap rm s rv) (h : RLgIs w Q (RLg R fi sz a b c bv mv)) (hQ : ¬ RFoot R gf rv Q)
    (hbo : Own w B bv bl) (hmo : Own w B mv ml) (hbn : ∀ g, bv.ownBlock = some g → ¬ RFoot R gf rv g ∧ g ≠ Q) (hB : B ≤ w.heap.size) (hfi : 0 ≤ fi ∧ fi ≤ 4096)
    (hml : 0 < ml.length) (hall : bl.length + ml.length ≤ 1048576) (ha : a < 4611686018427387904) (hb : b < 4611686018427387904) (hL : s.L.length ≤ 268400000) :
    Calls Try.prog 47 #[.pointer (some ⟨Q, 0, none⟩)] w (RSyEnds4 B R gf nb fcap rm Q fi sz a b c bv bl (bl ++ ml) s rv w) := by
  obtain ⟨ba, bc, hbv⟩ := own_form hbo
  obtain ⟨ma, mc, hmv⟩ := own_form hmo
  subst hbv hmv
  have HD := Lib.hid hd
  have HQ := Lib.hid h
  have HNQ := Lib.hid hQ
  have HLQ := Lib.hid h.lt
  have HBO := Lib.hid hbo
  have HMO := Lib.hid hmo
  have HBN := Lib.hid hbn
  have HB := Lib.hid hB
  have HLN := Lib.hid (And.intro hml hall)
  have HLL := Lib.hid hL
  have HAB := Lib.hid (And.intro ha hb)
  have hmln : ¬ ((ml.length : Int) = 0) := by omega
  have c7 : w.cell? ⟨Q, 7, none⟩ = some (.slice ma ml.length mc) := h.cell 7
  obtain ⟨all, hal⟩ : ∃ all, bl ++ ml = all := ⟨_, rfl⟩
  have hla : all.length = bl.length + ml.length := by rw [← hal, List.length_append]
  rw [hal]
  have HAL := Lib.hid hal
  have HLA := Lib.hid hla
  clear hd h hQ hbo hmo hbn hB hml hall ha hb hL hal hla
  go_enter Try.func47, Try.ntmps47
  go_wp2_with fail
  clear c7
  have HS := Lib.hid (show RLgIs w.drew Q (RLg R fi sz a b c (.slice ba bl.length bc) (.slice ma ml.length mc)) from HQ.out)
  have XD := Lib.hid (show Below w.heap.size w w.drew from (Below.refl _ _).drew)
  refine wp_region_held_drew (S := fun u => RLgIs u Q (RLg R fi sz a b c (.slice ba bl.length bc) (.slice ma ml.length mc))) (by kernel_rfl) (HS.out) (fun hHeld => ?_)
  refine wpAnyH_take (i := 1) (oi := ({ dst := some 16, op := Op.move (Operand.tmp 0), type := 30, pos := "ref.go:156", after := #[], guard := none } : Oper)) (v := ?_) rfl (by kernel_rfl) (by kernel_rfl) (by kernel_rfl) (fun _ _ _ h => h) (Or.inl ⟨by rfl, ?_⟩) (by assumption) ?_
  rotate_left 1
  · (intro u hSw; go_simp; try with_reducible rfl)
  try simp only [Act.put, List.setIfInBounds_toArray, List.set_cons_zero, List.set_cons_succ]
  refine wpAnyH_take (i := 2) (oi := ({ dst := some 17, op := Op.nilCheck (Operand.tmp 16), type := 0, pos := "ref.go:156", after := #[{ on := 1, ground := Ground.data }], guard := none } : Oper)) (v := ?_) rfl (by kernel_rfl) (by kernel_rfl) (by kernel_rfl) (fun _ _ _ h => h) (Or.inl ⟨by rfl, ?_⟩) (by assumption) ?_
  rotate_left 1
  · (intro u hSw; go_simp; try with_reducible rfl)
  try simp only [Act.put, List.setIfInBounds_toArray, List.set_cons_zero, List.set_cons_succ]
  refine wpAnyH_take (i := 3) (oi := ({ dst := some 18, op := Op.fieldAddr 92 (Operand.tmp 17) 6, type := 0, pos := "ref.go:156", after := #[{ on := 2, ground := Ground.data }], guard := none } : Oper)) (v := ?_) rfl (by kernel_rfl) (by kernel_rfl) (by kernel_rfl) (fun _ _ _ h => h) (Or.inl ⟨by rfl, ?_⟩) (by assumption) ?_
  rotate_left 1
  · (intro u hSw; go_simp; try with_reducible rfl)
  try simp only [Act.put, List.setIfInBounds_toArray, List.set_cons_zero, List.set_cons_succ]
  refine wpAnyH_take (i := 4) (oi := ({ dst := some 19, op := Op.load 39 (Operand.tmp 18), type := 39, pos := "ref.go:156", after := #[{ on := 3, ground := Ground.data }], guard := none } : Oper)) (v := ?_) rfl (by kernel_rfl) (by kernel_rfl) (by kernel_rfl) (fun _ _ _ h => h) (Or.inl ⟨by rfl, ?_⟩) (by assumption) ?_
  rotate_left 1
  · intro u hSw
    have p6 : u.cell? ⟨Q, 6, none⟩ = some (.slice ba bl.length bc) := RLgIs.cell hSw 6
    go_simp
    try with_reducible rfl
  try simp only [Act.put, List.setIfInBounds_toArray, List.set_cons_zero, List.set_cons_succ]
  refine wpAnyH_take (i := 6) (oi := ({ dst := some 21, op := Op.move (Operand.tmp 0), type := 30, pos := "ref.go:156", after := #[], guard := none } : Oper)) (v := ?_) rfl (by kernel_rfl) (by kernel_rfl) (by kernel_rfl) (fun _ _ _ h => h) (Or.inl ⟨by rfl, ?_⟩) (by assumption) ?_
  rotate_left 1
  · (intro u hSw; go_simp; try with_reducible rfl)
  try simp only [Act.put, List.setIfInBounds_toArray, List.set_cons_zero, List.set_cons_succ]
  refine wpAnyH_take (i := 7) (oi := ({ dst := some 22, op := Op.nilCheck (Operand.tmp 21), type := 0, pos := "ref.go:156", after := #[{ on := 6, ground := Ground.data }], guard := none } : Oper)) (v := ?_) rfl (by kernel_rfl) (by kernel_rfl) (by kernel_rfl) (fun _ _ _ h => h) (Or.inl ⟨by rfl, ?_⟩) (by assumption) ?_
  rotate_left 1
  · (intro u hSw; go_simp; try with_reducible rfl)
  try simp only [Act.put, List.setIfInBounds_toArray, List.set_cons_zero, List.set_cons_succ]
  refine wpAnyH_take (i := 8) (oi := ({ dst := some 23, op := Op.fieldAddr 92 (Operand.tmp 22) 7, type := 0, pos := "ref.go:156", after := #[{ on := 7, ground := Ground.data }], guard := none } : Oper)) (v := ?_) rfl (by kernel_rfl) (by kernel_rfl) (by kernel_rfl) (fun _ _ _ h => h) (Or.inl ⟨by rfl, ?_⟩) (by assumption) ?_
  rotate_left 1
  · (intro u hSw; go_simp; try with_reducible rfl)
  try simp only [Act.put, List.setIfInBounds_toArray, List.set_cons_zero, List.set_cons_succ]
  refine wpAnyH_take (i := 9) (oi := ({ dst := some 24, op := Op.load 39 (Operand.tmp 23), type := 39, pos := "ref.go:156", after := #[{ on := 8, ground := Ground.data }], guard := none } : Oper)) (v := ?_) rfl (by kernel_rfl) (by kernel_rfl) (by kernel_rfl) (fun _ _ _ h => h) (Or.inl ⟨by rfl, ?_⟩) (by assumption) ?_
  rotate_left 1
  · intro u hSw
    have p7 : u.cell? ⟨Q, 7, none⟩ = some (.slice ma ml.length mc) := RLgIs.cell hSw 7
    go_simp
    try with_reducible rfl
  try simp only [Act.put, List.setIfInBounds_toArray, List.set_cons_zero, List.set_cons_succ]
  refine wpAnyH_ready (rs := [0]) (by kernel_rfl) (by simp) ?_
  refine AllReadyH.cons (o := ({ dst := some 15, op := Op.buildSlice 39 0 #[], type := 39, pos := "ref.go:156", after := #[], guard := none } : Oper)) rfl (fun K hK => ?_) AllReadyH.nil
  refine step_empty_u8 rfl rfl ?_
  intro v1 w1 ho1 hb1
  have HO1 := Lib.hid ho1
  have X1 := Lib.hid (XD.out.trans (hb1.mono XD.out.size))
  have HQ1 := Lib.hid (HQ.out.chg (Chg.fresh (F := fun _ => False) X1.out) (fun h => h))
  clear ho1 hb1
  refine hK.out _ _ HQ1.out (fun hHeld => ?_)
  clear hK K
  try simp only [Act.put, List.setIfInBounds_toArray, List.set_cons_zero, List.set_cons_succ]
  refine wpAnyH_ready (rs := [5]) (by kernel_rfl) (by simp) ?_
  refine AllReadyH.cons (o := ({ dst := some 20, op := Op.call { callee := Callee.builtin Builtin.append, args := #[Operand.tmp 15, Operand.tmp 19], argTypes := #[39, 39] }, type := 39, pos := "ref.go:156", after := #[{ on := 0, ground := Ground.data }, { on := 4, ground := Ground.data }], guard := none } : Oper)) rfl (fun K hK => ?_) AllReadyH.nil
  refine step_append_OwnT rfl (Operand.tmp 15) (Operand.tmp 19) rfl w.heap.size v1 [] rfl HO1.out (.slice ba bl.length bc) bl rfl (HBO.out.bs.below X1.out) (by have := HLN.out; rw [List.length_nil]; omega) X1.out.size ?_
  intro v2 w2 ho2 hc2
  have HO2 := Lib.hid ho2
  have X2 := Lib.hid (X1.out.trans (hc2.below (fun g hg => (HO1.out.lt g hg).1) X1.out.size))
  have HQ2 := Lib.hid (HQ.out.chg (Chg.fresh (F := fun _ => False) X2.out) (fun h => h))
  clear ho2 hc2
  refine hK.out _ _ HQ2.out (fun hHeld => ?_)
  clear hK K
  try simp only [Act.put, List.setIfInBounds_toArray, List.set_cons_zero, List.set_cons_succ]
  refine wpAnyH_ready (rs := [10]) (by kernel_rfl) (by simp) ?_
  refine AllReadyH.cons (o := ({ dst := some 25, op := Op.call { callee := Callee.builtin Builtin.append, args := #[Operand.tmp 20, Operand.tmp 24], argTypes := #[39, 39] }, type := 39, pos := "ref.go:156", after := #[{ on := 5, ground := Ground.data }, { on := 9, ground := Ground.data }, { on := 5, ground := Ground.chain }], guard := none } : Oper)) rfl (fun K hK => ?_) AllReadyH.nil
  refine step_append_OwnT rfl (Operand.tmp 20) (Operand.tmp 24) rfl w.heap.size v2 ([] ++ bl) rfl HO2.out (.slice ma ml.length mc) ml rfl (HMO.out.bs.below X2.out) (by have := HLN.out; rw [List.nil_append]; omega) X2.out.size ?_
  intro v3 w3 ho3 hc3
  rw [List.nil_append, HAL.out] at ho3
  obtain ⟨aa, ac, hv3⟩ := own_form ho3
  subst hv3
  have HO3 := Lib.hid ho3
  have X3 := Lib.hid (X2.out.trans (hc3.below (fun g hg => (HO2.out.lt g hg).1) X2.out.size))
  have HQ3 := Lib.hid (HQ.out.chg (Chg.fresh (F := fun _ => False) X3.out) (fun h => h))
  clear ho3 hc3
  refine hK.out _ _ HQ3.out (fun hHeld => ?_)
  clear hK K
  try simp only [Act.put, List.setIfInBounds_toArray, List.set_cons_zero, List.set_cons_succ]
  refine wpAnyH_take (i := 11) (oi := ({ dst := some 3, op := Op.assign (Operand.tmp 25), type := 39, pos := "ref.go:156", after := #[{ on := 10, ground := Ground.data }, { on := 10, ground := Ground.chain }, { on := 0, ground := Ground.phase }, { on := 1, ground := Ground.phase }, { on := 2, ground := Ground.phase }, { on := 3, ground := Ground.phase }, { on := 4, ground := Ground.phase }, { on := 5, ground := Ground.phase }, { on := 6, ground := Ground.phase }, { on := 7, ground := Ground.phase }, { on := 8, ground := Ground.phase }, { on := 9, ground := Ground.phase }, { on := 10, ground := Ground.phase }], guard := none } : Oper)) (v := ?_) rfl (by kernel_rfl) (by kernel_rfl) (by kernel_rfl) (fun _ _ _ h => h) (Or.inl ⟨by rfl, ?_⟩) (by assumption) ?_
  rotate_left 1
  · (intro u hSw; go_simp; try with_reducible rfl)
  try simp only [Act.put, List.setIfInBounds_toArray, List.set_cons_zero, List.set_cons_succ]
  refine wpAnyH_done (by kernel_rfl) ?_ _
  have c7 : w3.cell? ⟨Q, 7, none⟩ = some (.slice ma ml.length mc) := RLgIs.cell HQ3.out 7
  have f7 := RLgIs.frozen HQ3.out 7
  have HC4 := Lib.hid (show Chg (fun k => k = Q) w (w3.setCell ⟨Q, 7, none⟩ (.slice none 0 0)) from (Chg.fresh (F := fun k => k = Q) X3.out).setCell _ _ (.inl rfl))
  have HO4 := Lib.hid (HO3.out.chg ((Chg.refl (fun k => k = Q) w3).setCell ⟨Q, 7, none⟩ (.slice none 0 0) (.inl rfl)) (fun g hg e => by have := (HO3.out.lt g hg).1; have := HLQ.out; omega))
  have HQ4 := Lib.hid (show RLgIs (w3.setCell ⟨Q, 7, none⟩ (.slice none 0 0)) Q (RLg R fi sz a b c (.slice ba bl.length bc) (.slice none 0 0)) from HQ3.out.set 7 _)
  have hT := HLA.out
  have hTb := HLN.out.2
  have hT1 := HLN.out.1
  obtain ⟨q, hq⟩ : ∃ q, bl.length / 256 = q := ⟨_, rfl⟩
  obtain ⟨p, hp⟩ : ∃ p, (all.length - 1) / 256 = p := ⟨_, rfl⟩
  have hqt : ((bl.length : Int)).tdiv 256 = (q : Int) := by rw [Int.tdiv_eq_ediv_of_nonneg (by omega)]; omega
  have hpt : ((all.length : Int) - 1).tdiv 256 = (p : Int) := by rw [Int.tdiv_eq_ediv_of_nonneg (by omega)]; omega
  have hqt2 : ((bl.length : Int)) / 256 = (q : Int) := by omega
  have hpt2 : ((all.length : Int) - 1) / 256 = (p : Int) := by omega
  have hTb2 : all.length ≤ 1048576 := by omega
  have hTb3 : 1 ≤ all.length := by omega
  have hqp : q ≤ p := by omega
  have hpb : p ≤ 4096 := by omega
  have HQP := Lib.hid (And.intro hq hp)
  have hp1 : ((all.length : Int) - 1) = ((all.length - 1 : Nat) : Int) := by omega
  have hcnt : p - q + 1 + q = p + 1 := by omega
  obtain ⟨cnt, hcn⟩ : ∃ cnt, p - q + 1 = cnt := ⟨_, rfl⟩
  have hcq : cnt + q = p + 1 := by omega
  have haR : aR fi bl.length all = wl (fi + (2 + (q : Int))) (all.drop (256 * q)) cnt := by unfold aR; rw [hq, hp, hcn]
  have HAR := Lib.hid haR
  have HCQ := Lib.hid hcq
  have BW4 := Lib.hid (show Below w.heap.size w3 w3 from Below.refl _ _)
  clear hT hTb hT1 haR hcnt hcn hcq hp hq hp1 HS HO3 HQ1 HO1 X1 HO2 X2 HQ2 XD BW4
  go_wp2_with fail
  have HD4 := Lib.hid (show RD (w3.setCell ⟨Q, 7, none⟩ (.slice none 0 0)) B R gf nb fcap rm s rv from HD.out.chg HC4.out (fun k hk e => HNQ.out (by rw [← e]; exact hk)))
  generalize w3.setCell ⟨Q, 7, none⟩ (.slice none 0 0) = w4 at *
  clear c7 f7 HQ3 X3
  obtain ⟨W, hW⟩ : ∃ W, s.wsy nb rm (wl (fi + (2 + (q : Int))) (all.drop (256 * q)) cnt) = W := ⟨_, rfl⟩
  have HW := Lib.hid hW
  have hpi : (p : Int) = (q : Int) + (cnt : Int) - 1 := by have := HCQ.out; omega
  rw [hpi]
  clear hW hpi hpt hpt2
  go_loopw [4] (fun iv wr => ∃ (j : Nat), iv = ivq q j ∧ j ≤ cnt ∧ ∃ (sj : DS) (rvj : Value), RD wr B R gf nb fcap rm sj rvj ∧ sj.wsy nb rm (wl (fi + (2 + (q : Int))) (all.drop (256 * q)) j) = W ∧ sj.L.length + j ≤ s.L.length + cnt ∧ Chg (RFoot R gf rv) w4 wr ∧ (∀ k, RFoot R gf rvj k → RFoot R gf rv k ∨ w4.heap.size ≤ k)) (fun iv _ => (intOf iv + 1 - q).toNat)
  case atStart => exact ⟨cnt, rfl, Nat.le_refl _, s, rv, HD4.out, HW.out, Nat.le_refl _, Chg.refl _ _, fun _ h => .inl h⟩
  case round =>
    obtain ⟨j, rfl, hj, sj, rvj, hrd, hws, hLj, hch, hft⟩ := hrel
    have HDJ := Lib.hid hrd
    have HWS := Lib.hid hws
    have HLJ := Lib.hid hLj
    have HCH := Lib.hid hch
    have HFT := Lib.hid hft
    have HQJ := Lib.hid (HQ4.out.chg hch HNQ.out)
    have HSZ := Lib.hid (show w.heap.size ≤ w4.heap.size ∧ w4.heap.size ≤ wr.heap.size from ⟨HC4.out.size, hch.size⟩)
    have HNJ := Lib.hid (show ¬ RFoot R gf rvj Q from fun h => (hft Q h).elim HNQ.out (fun h => by have := HLQ.out; have := HC4.out.size; omega))
    have HOJ := Lib.hid (HO4.out.chg hch (fun g hg e => by have := (HO4.out.lt g hg).1; have := (HD.out.foot g e).2; omega))
    have c6 : wr.cell? ⟨Q, 6, none⟩ = some (.slice ba bl.length bc) := RLgIs.cell HQJ.out 6
    clear hrd hws hLj hch hft
    by_cases hj0 : j = 0
    · subst hj0
      rw [show ivq q 0 = Value.int .i64 ((q : Int) - 1) from rfl]
      have hlt : ¬ ((q : Int) ≤ (q : Int) - 1) := by omega
      have p0 : wr.cell? ⟨Q, 0, none⟩ = some (.pointer (some ⟨R, 0, none⟩)) := RLgIs.cell HQJ.out 0
      have HR := Lib.hid (show W = (sj.sy, sj.se) by rw [← HWS.out]; rfl)
      have HW2 := Lib.hid (show s.wsy nb rm (aR fi bl.length all) = W by rw [HAR.out, HW.out])
      have hqb : (q : Int) ≤ 4096 := by omega
      go_wp2_with fail
      refine (rd_sync HDJ.out).mono ?_
      rintro e w5 ⟨rfl, rv5, hrd, hch, hft⟩
      have HD5 := Lib.hid hrd
      have HQ5 := Lib.hid (HQJ.out.chg hch HNJ.out)
      have HO5 := Lib.hid (HOJ.out.chg hch (fun g hg e => by have := (HO4.out.lt g hg); have h1 := HFT.out g e; have := HSZ.out; exact h1.elim (fun h2 => by have := (HD.out.foot g h2).2; omega) (fun h2 => by omega)))
      have HC5 := Lib.hid (show Chg (fun k => RFoot R gf rv k ∨ k = Q) w w5 from ((HC4.out.mono (fun k hk => .inr hk)).trans HCH.out (fun k hk => .inl (.inl hk))).trans hch (fun k hk => (HFT.out k hk).imp .inl (fun h => by have := HSZ.out; omega)))
      have HF5 := Lib.hid (show ∀ k, RFoot R gf rv5 k → RFoot R gf rv k ∨ w.heap.size ≤ k from fun k hk => (hft k hk).elim (fun h => (HFT.out k h).imp id (fun h => by have := HSZ.out; omega)) (fun h => .inr (by have := HSZ.out; omega)))
      have HS45 := Lib.hid (show w4.heap.size ≤ w5.heap.size from by have := HSZ.out; have := hch.size; omega)
      have HG5 := Lib.hid (show ∀ k, RFoot R gf rv5 k → RFoot R gf rv k ∨ w4.heap.size ≤ k from fun k hk => (hft k hk).elim (fun h => HFT.out k h) (fun h => .inr (by have := HSZ.out; omega)))
      have HN5 := Lib.hid (show ¬ RFoot R gf rv5 Q from fun h => (HF5.out Q h).elim HNQ.out (fun h => by have := HLQ.out; omega))
      have HL5 := Lib.hid (show sj.sy.L.length ≤ 268432000 from by
        have h1 : sj.sy.L.length ≤ sj.L.length := by unfold DS.sy; dsimp only; split <;> simp
        have := HLJ.out; have := HLL.out; have := HCQ.out; omega)
      clear hrd hch hft p0 c6
      generalize hs5 : sj.sy = s5 at *
      generalize hE5 : sj.se = E5 at *
      clear hs5 hE5
      have hw1 : IntKind.u64.wrap (all.length : Int) = (all.length : Int) := wrap_u64 _ (by omega) (by omega)
      by_cases hE : E5 = 0
      · subst hE
        have p4 : w5.cell? ⟨Q, 4, none⟩ = some (.int .u64 (b : Int)) := RLgIs.cell HQ5.out 4
        go_wp2_with fail
        refine (rturn_any B R gf nb fcap rm Q fi sz a b c b all.length (.slice ba bl.length bc) (.slice none 0 0) s5 rv5 w5 HD5.out HQ5.out HN5.out hfi HAB.out.1 HAB.out.2 (by omega) (by have := HL5.out; omega)).mono ?_
        rintro e w6 ⟨rfl, rv6, hrd, hq6, hc, hf⟩
        obtain ⟨r6, hr6⟩ : ∃ r6, s5.wsy nb rm (mw fi (a + 1) b all.length) = r6 := ⟨_, rfl⟩
        rw [hr6] at hrd hq6 ⊢
        obtain ⟨s6, E6⟩ := r6
        dsimp only at hrd hq6 ⊢
        have HR6 := Lib.hid hr6
        have HD6 := Lib.hid hrd
        have HQ6 := Lib.hid hq6
        have HC6 := Lib.hid (HC5.out.trans hc (fun k hk => hk.elim (fun h => (HF5.out k h).imp .inl id) (fun h => .inl (.inr h))))
        have HF6 := Lib.hid (show ∀ k, RFoot R gf rv6 k → RFoot R gf rv k ∨ w.heap.size ≤ k from fun k hk => (hf k hk).elim (fun h => HF5.out k h) (fun h => .inr (by have := HC5.out.size; omega)))
        have HG6 := Lib.hid (show ∀ k, RFoot R gf rv6 k → RFoot R gf rv k ∨ w4.heap.size ≤ k from fun k hk => (hf k hk).elim (fun h => HG5.out k h) (fun h => .inr (by have := HC5.out.size; have := HS45.out; omega)))
        have HN6 := Lib.hid (show ¬ RFoot R gf rv6 Q from fun h => (HF6.out Q h).elim HNQ.out (fun h => by have := HLQ.out; omega))
        have HO6 := Lib.hid (HO5.out.chg hc (fun g hg e => by
          have h1 := HO4.out.lt g hg
          rcases e with e | e
          · rcases HF5.out g e with h2 | h2
            · have := (HD.out.foot g h2).2; omega
            · rcases HG5.out g e with h3 | h3
              · have := (HD.out.foot g h3).2; omega
              · omega
          · have := HLQ.out; omega))
        clear hrd hq6 hc hf hr6 p4
        by_cases hE6 : E6 = 0
        · subst hE6
          have c6 : w6.cell? ⟨Q, 6, none⟩ = some (.slice ba bl.length bc) := RLgIs.cell HQ6.out 6
          have f6 := RLgIs.frozen HQ6.out 6
          go_wp2_with fail
          go_ret
          have hc7 : Chg (fun k => k = Q) w6 (w6.setCell ⟨Q, 6, none⟩ (.slice aa all.length ac)) := (Chg.refl _ _).setCell _ _ (.inl rfl)
          have hq7 : RLgIs (w6.setCell ⟨Q, 6, none⟩ (.slice aa all.length ac)) Q (RLg R fi sz (a + 1) b all.length (.slice aa all.length ac) (.slice none 0 0)) := HQ6.out.set 6 (.slice aa all.length ac)
          refine ⟨s6, 0, a + 1, all.length, rv6, .slice aa all.length ac, rfl, HD6.out.chg hc7 (fun k hk e => HN6.out (by rw [← e]; exact hk)), hq7, HC6.out.setCell _ _ (.inl (.inr rfl)), HF6.out, .inr ⟨?_, ?_, ?_, rfl, rfl, ?_⟩⟩
          · rw [HW2.out, HR.out]
          · rw [HW2.out, HR.out]; exact congrArg Prod.fst HR6.out.symm
          · rw [HW2.out, HR.out]; exact congrArg Prod.snd HR6.out.symm
          · rw [if_pos rfl]
            have ho7 := HO6.out.chg hc7 (fun g hg e => by have := (HO4.out.lt g hg).1; have := HLQ.out; omega)
            exact ⟨own_base' ho7 HB.out, fun g hg => ⟨(HO4.out.lt g hg).1, fun e => (HG6.out g e).elim (fun h => by have := (HO4.out.lt g hg).1; have := (HD.out.foot g h).2; omega) (fun h => by have := (HO4.out.lt g hg).2; omega)⟩⟩
        · go_wp2_with fail
          go_ret
          have hq7 := HQ6.out
          rw [if_neg hE6, if_neg hE6, if_neg hE6] at hq7
          refine ⟨s6, E6, a, c, rv6, .slice ba bl.length bc, rfl, HD6.out, hq7, HC6.out, HF6.out, .inr ⟨?_, ?_, ?_, by rw [if_neg hE6], by rw [if_neg hE6], by rw [if_neg hE6]⟩⟩
          · rw [HW2.out, HR.out]
          · rw [HW2.out, HR.out]; exact congrArg Prod.fst HR6.out.symm
          · rw [HW2.out, HR.out]; exact congrArg Prod.snd HR6.out.symm
      · go_wp2_with fail
        go_ret
        refine ⟨s5, E5, a, c, rv5, .slice ba bl.length bc, rfl, HD5.out, HQ5.out, HC5.out, HF5.out, .inl ⟨?_, ?_, ?_, rfl, rfl, rfl⟩⟩
        · rw [HW2.out, HR.out]; exact hE
        · rw [HW2.out, HR.out]
        · rw [HW2.out, HR.out]
    · obtain ⟨i, rfl⟩ : ∃ i, j = i + 1 := ⟨j - 1, by omega⟩
      rw [show ivq q (i + 1) = Value.int .i64 ((q + i : Nat) : Int) from by unfold ivq; congr 1; omega]
      obtain ⟨nn, hn⟩ : ∃ nn, q + i = nn := ⟨_, rfl⟩
      rw [hn]
      have hge : (q : Int) ≤ (nn : Int) := by omega
      have hnp : nn ≤ 4096 := by have := HCQ.out; omega
      obtain ⟨dr, hdr⟩ : ∃ dr, (all.drop (256 * q)).drop (256 * i) = dr := ⟨_, rfl⟩
      have hdn : all.drop (256 * nn) = dr := by rw [← hdr, List.drop_drop, ← hn]; congr 1; omega
      have hdl : dr.length = all.length - 256 * nn := by rw [← hdn, List.length_drop]
      have hN : fi + (2 + (q : Int)) + (i : Int) = fi + 2 + (nn : Int) := by omega
      have hwl : wl (fi + (2 + (q : Int))) (all.drop (256 * q)) (i + 1) = (fi + 2 + (nn : Int), padB dr) :: wl (fi + (2 + (q : Int))) (all.drop (256 * q)) i := by rw [wl, hdr, hN]
      have HWS2 := Lib.hid (show (if sj.we nb rm (fi + 2 + (nn : Int)) = 0 then (sj.wr nb rm (fi + 2 + (nn : Int)) (padB dr)).wsy nb rm (wl (fi + (2 + (q : Int))) (all.drop (256 * q)) i) else (sj.wr nb rm (fi + 2 + (nn : Int)) (padB dr), sj.we nb rm (fi + 2 + (nn : Int)))) = W from by rw [← HWS.out, hwl, wsy_cons])
      have HDN := Lib.hid hdn
      have HDL := Lib.hid hdl
      have HNI := Lib.hid hn
      obtain ⟨ad, cap, hv, hcap, hcl⟩ := HOJ.out.bs
      injection hv with e1 e2 e3
      subst e1 e3
      obtain ⟨pb, po, rfl, hpb2, hcell⟩ := hcl (by omega)
      have HCE := Lib.hid hcell
      have HPB := Lib.hid (show pb < wr.heap.size from hpb2)
      have HCAP := hcap.1
      have hbz : ∀ u : World, (Instr.build 52 #[]).run Try.prog u = .ok (.agg (ArrU8 (zeros 256))) u := fun u => by kernel_rfl
      have hz := zero35
      have HI35 := Lib.hid (show (Try.prog.info? 52).map (·.size) = some 256 by kernel_rfl)
      have SZ := Lib.hid (show (ArrU8 (zeros 256)).size = 256 by rw [ArrU8_size, zeros, List.length_replicate])
      clear hcl hcell hcap hpb2 hdr hwl hn hN hdn hdl e2
      obtain ⟨X, hX⟩ : ∃ X, wr.heap.size = X := ⟨_, rfl⟩
      have HXE := Lib.hid hX
      clear hX
      go_wp2_with (refine wpList_store_nwL rfl 52 (Operand.tmp 5) (Operand.tmp 43) rfl wr _ 52 rfl wr.heap.size (ArrU8 (zeros 256)) rfl rfl rfl (by rw [HI35.out, SZ.out]) (by rw [SZ.out]) (ArrU8_one _) ?_; intro wb hd hb hs; have QB := Lib.hid hd; have XB := Lib.hid hb; have SB := Lib.hid hs; clear hd hb hs)
      rw [HXE.out] at QB XB SB HPB ⊢
      have QB0 := Lib.hid (show wb.heap[X]? = some (.cells ((pF dr 0).map (Value.int .u8)).toArray 52 (0, 0)) from by rw [pF_zero]; exact QB.out)
      clear c6
      go_loopw [6] (fun iv wy => ∃ k : Nat, k ≤ 256 ∧ k ≤ dr.length ∧ iv = .int .i64 (k : Int) ∧ wy.heap[X]? = some (.cells ((pF dr k).map (Value.int .u8)).toArray 52 (0, 0)) ∧ Chg (fun g => g = X) wb wy) (fun iv _ => 256 - (intOf iv).toNat)
      case atStart => exact ⟨0, Nat.zero_le _, Nat.zero_le _, rfl, QB0.out, Chg.refl _ _⟩
      case round =>
        obtain ⟨k, hk1, hk2, rfl, hx, hc⟩ := hrel
        have HX := Lib.hid hx
        have HC := Lib.hid hc
        have hdll := HDL.out
        by_cases hgo : k < 256 ∧ k < dr.length
        · obtain ⟨hg1, hg2⟩ := hgo
          obtain ⟨z, hzz⟩ : ∃ z, 256 * nn + k = z := ⟨_, rfl⟩
          have hzi : 256 * (nn : Int) + (k : Int) = (z : Int) := by omega
          have hzl : z < all.length := by omega
          have hzl2 : (z : Int) < (all.length : Int) := by omega
          obtain ⟨y, hy⟩ : ∃ y, all[z]?.getD 0 = y := ⟨_, rfl⟩
          have HY := Lib.hid (show dr[k]?.getD 0 = y by rw [← hy, ← HDN.out, List.getElem?_drop, hzz])
          have cj := ((hc.block pb (by have := HPB.out; have := SB.out; omega) (by have := HPB.out; omega)).trans (XB.out.block pb HPB.out))
          have cj2 := (World.cell?_of_block (a := ⟨pb, po + z, none⟩) cj).trans (HCE.out z hzl)
          rw [hy] at cj2
          obtain ⟨l, hl⟩ : ∃ l, pF dr k = l := ⟨_, rfl⟩
          have HN := Lib.hid (show pF dr (k + 1) = l.set k y by rw [← HY.out, ← hl, pF_set dr k hg2 hg1])
          have HLL2 := Lib.hid (show l.length = 256 by rw [← hl, pF_len dr k hk2 hk1])
          rw [hl] at hx
          have HXL := Lib.hid hx
          clear hzz hy hl hx hc cj HX hz hbz
          go_wp2_with (refine wpList_store_u8 rfl (Operand.tmp 65) (Operand.tmp 64) rfl X k l _ y rfl rfl HXL.out (by rw [HLL2.out]; omega) ?_; intro wz hd hc; have HX2 := Lib.hid hd; have HC2 := Lib.hid (HC.out.trans hc (fun k hk => .inl hk)); clear hd hc)
          go_roundw
          case rel => exact ⟨k + 1, by omega, by omega, by go_num, by rw [HN.out]; exact HX2.out, HC2.out⟩
          case measure => simp [intOf]; omega
        · rw [pF_end dr k hk2 hk1 hgo] at hx
          have HXP := Lib.hid (show wr.heap[X]? = some (.cells (ArrU8 (padB dr)) 52 (0, 0)) from hx)
          have SP := Lib.hid (show (ArrU8 (padB dr)).size = 256 by rw [ArrU8_size, padB_len])
          have BX := Lib.hid (XB.out.trans (HC.out.below (B := X) (fun k hk => by omega) (by have := SB.out; omega)))
          have HQX := Lib.hid (HQJ.out.chg (Chg.fresh (F := fun _ => False) (by rw [HXE.out]; exact BX.out)) (fun h => h))
          have HDX := Lib.hid (HDJ.out.fresh (by rw [HXE.out]; exact BX.out))
          have hw1 : IntKind.i64.wrap (fi + 2) = fi + 2 := wrap_i64 _ (by omega) (by omega)
          have hw2 : IntKind.i64.wrap (fi + 2 + (nn : Int)) = fi + 2 + (nn : Int) := wrap_i64 _ (by omega) (by omega)
          have HLW := Lib.hid (show sj.L.length ≤ 268434000 by have := HLJ.out; have := HLL.out; have := HCQ.out; omega)
          clear hx hc HX hz hbz
          by_cases h256 : k < 256
          · have hnc : ¬ (256 * (nn : Int) + (k : Int) < (all.length : Int)) := by omega
            go_wp2_with fail
            have HSX := Lib.hid (show RLgIs wr.drew Q (RLg R fi sz a b c (.slice ba bl.length bc) (.slice none 0 0)) ∧ wr.drew.heap[X]? = some (.cells (ArrU8 (padB dr)) 52 (0, 0)) from ⟨HQX.out, HXP.out⟩)
            refine wp_region_held_drew (S := fun u => RLgIs u Q (RLg R fi sz a b c (.slice ba bl.length bc) (.slice none 0 0)) ∧ u.heap[X]? = some (.cells (ArrU8 (padB dr)) 52 (0, 0))) (by kernel_rfl) (HSX.out) (fun hHeld => ?_)
            refine wpAnyH_take (i := 0) (oi := ({ dst := some 66, op := Op.move (Operand.tmp 0), type := 30, pos := "ref.go:163", after := #[], guard := none } : Oper)) (v := ?_) rfl (by kernel_rfl) (by kernel_rfl) (by kernel_rfl) (fun _ _ _ h => h) (Or.inl ⟨by rfl, ?_⟩) (by assumption) ?_
            rotate_left 1
            · (intro u hSw; go_simp; try with_reducible rfl)
            try simp only [Act.put, List.setIfInBounds_toArray, List.set_cons_zero, List.set_cons_succ]
            refine wpAnyH_take (i := 1) (oi := ({ dst := some 67, op := Op.nilCheck (Operand.tmp 66), type := 0, pos := "ref.go:163", after := #[{ on := 0, ground := Ground.data }], guard := none } : Oper)) (v := ?_) rfl (by kernel_rfl) (by kernel_rfl) (by kernel_rfl) (fun _ _ _ h => h) (Or.inl ⟨by rfl, ?_⟩) (by assumption) ?_
            rotate_left 1
            · (intro u hSw; go_simp; try with_reducible rfl)
            try simp only [Act.put, List.setIfInBounds_toArray, List.set_cons_zero, List.set_cons_succ]
            refine wpAnyH_take (i := 2) (oi := ({ dst := some 68, op := Op.fieldAddr 92 (Operand.tmp 67) 0, type := 0, pos := "ref.go:163", after := #[{ on := 1, ground := Ground.data }], guard := none } : Oper)) (v := ?_) rfl (by kernel_rfl) (by kernel_rfl) (by kernel_rfl) (fun _ _ _ h => h) (Or.inl ⟨by rfl, ?_⟩) (by assumption) ?_
            rotate_left 1
            · (intro u hSw; go_simp; try with_reducible rfl)
            try simp only [Act.put, List.setIfInBounds_toArray, List.set_cons_zero, List.set_cons_succ]
            refine wpAnyH_take (i := 3) (oi := ({ dst := some 69, op := Op.load 27 (Operand.tmp 68), type := 27, pos := "ref.go:163", after := #[{ on := 2, ground := Ground.data }], guard := none } : Oper)) (v := ?_) rfl (by kernel_rfl) (by kernel_rfl) (by kernel_rfl) (fun _ _ _ h => h) (Or.inl ⟨by rfl, ?_⟩) (by assumption) ?_
            rotate_left 1
            · intro u hSw
              have p0 : u.cell? ⟨Q, 0, none⟩ = some (.pointer (some ⟨R, 0, none⟩)) := RLgIs.cell hSw.1 0
              go_simp
              try with_reducible rfl
            try simp only [Act.put, List.setIfInBounds_toArray, List.set_cons_zero, List.set_cons_succ]
            refine wpAnyH_take (i := 4) (oi := ({ dst := some 70, op := Op.move (Operand.tmp 0), type := 30, pos := "ref.go:163", after := #[], guard := none } : Oper)) (v := ?_) rfl (by kernel_rfl) (by kernel_rfl) (by kernel_rfl) (fun _ _ _ h => h) (Or.inl ⟨by rfl, ?_⟩) (by assumption) ?_
            rotate_left 1
            · (intro u hSw; go_simp; try with_reducible rfl)
            try simp only [Act.put, List.setIfInBounds_toArray, List.set_cons_zero, List.set_cons_succ]
            refine wpAnyH_take (i := 5) (oi := ({ dst := some 71, op := Op.nilCheck (Operand.tmp 70), type := 0, pos := "ref.go:163", after := #[{ on := 4, ground := Ground.data }], guard := none } : Oper)) (v := ?_) rfl (by kernel_rfl) (by kernel_rfl) (by kernel_rfl) (fun _ _ _ h => h) (Or.inl ⟨by rfl, ?_⟩) (by assumption) ?_
            rotate_left 1
            · (intro u hSw; go_simp; try with_reducible rfl)
            try simp only [Act.put, List.setIfInBounds_toArray, List.set_cons_zero, List.set_cons_succ]
            refine wpAnyH_take (i := 6) (oi := ({ dst := some 72, op := Op.fieldAddr 92 (Operand.tmp 71) 1, type := 0, pos := "ref.go:163", after := #[{ on := 5, ground := Ground.data }], guard := none } : Oper)) (v := ?_) rfl (by kernel_rfl) (by kernel_rfl) (by kernel_rfl) (fun _ _ _ h => h) (Or.inl ⟨by rfl, ?_⟩) (by assumption) ?_
            rotate_left 1
            · (intro u hSw; go_simp; try with_reducible rfl)
            try simp only [Act.put, List.setIfInBounds_toArray, List.set_cons_zero, List.set_cons_succ]
            refine wpAnyH_take (i := 7) (oi := ({ dst := some 73, op := Op.load 3 (Operand.tmp 72), type := 3, pos := "ref.go:163", after := #[{ on := 6, ground := Ground.data }], guard := none } : Oper)) (v := ?_) rfl (by kernel_rfl) (by kernel_rfl) (by kernel_rfl) (fun _ _ _ h => h) (Or.inl ⟨by rfl, ?_⟩) (by assumption) ?_
            rotate_left 1
            · intro u hSw
              have p1 : u.cell? ⟨Q, 1, none⟩ = some (.int .i64 fi) := RLgIs.cell hSw.1 1
              go_simp
              try with_reducible rfl
            try simp only [Act.put, List.setIfInBounds_toArray, List.set_cons_zero, List.set_cons_succ]
            refine wpAnyH_take (i := 8) (oi := ({ dst := some 74, op := Op.binOp BinOp.add 3 (Operand.tmp 73) (Operand.const (Value.int IntKind.i64 2)) 3, type := 3, pos := "ref.go:163", after := #[{ on := 7, ground := Ground.data }], guard := none } : Oper)) (v := ?_) rfl (by kernel_rfl) (by kernel_rfl) (by kernel_rfl) (fun _ _ _ h => h) (Or.inl ⟨by rfl, ?_⟩) (by assumption) ?_
            rotate_left 1
            · (intro u hSw; go_simp; try with_reducible rfl)
            try simp only [Act.put, List.setIfInBounds_toArray, List.set_cons_zero, List.set_cons_succ]
            refine wpAnyH_take (i := 9) (oi := ({ dst := some 75, op := Op.move (Operand.tmp 4), type := 3, pos := "ref.go:163", after := #[], guard := none } : Oper)) (v := ?_) rfl (by kernel_rfl) (by kernel_rfl) (by kernel_rfl) (fun _ _ _ h => h) (Or.inl ⟨by rfl, ?_⟩) (by assumption) ?_
            rotate_left 1
            · (intro u hSw; go_simp; try with_reducible rfl)
            try simp only [Act.put, List.setIfInBounds_toArray, List.set_cons_zero, List.set_cons_succ]
            refine wpAnyH_take (i := 10) (oi := ({ dst := some 76, op := Op.binOp BinOp.add 3 (Operand.tmp 74) (Operand.tmp 75) 3, type := 3, pos := "ref.go:163", after := #[{ on := 8, ground := Ground.data }, { on := 9, ground := Ground.data }], guard := none } : Oper)) (v := ?_) rfl (by kernel_rfl) (by kernel_rfl) (by kernel_rfl) (fun _ _ _ h => h) (Or.inl ⟨by rfl, ?_⟩) (by assumption) ?_
            rotate_left 1
            · (intro u hSw; go_simp; try with_reducible rfl)
            try simp only [Act.put, List.setIfInBounds_toArray, List.set_cons_zero, List.set_cons_succ]
            refine wpAnyH_take (i := 11) (oi := ({ dst := some 77, op := Op.load 52 (Operand.tmp 5), type := 52, pos := "ref.go:163", after := #[], guard := none } : Oper)) (v := ?_) rfl (by kernel_rfl) (by kernel_rfl) (by kernel_rfl) (fun _ _ _ h => h) (Or.inl ⟨by rfl, ?_⟩) (by assumption) ?_
            rotate_left 1
            · intro u hSw
              refine exec_load_row 52 (Operand.tmp 5) ?_ u X ?_ (ArrU8 (padB dr)) 52 (0, 0) _ hSw.2 Try.underlying52 rfl (by rw [HI35.out, SP.out]) <;> rfl
            try simp only [Act.put, List.setIfInBounds_toArray, List.set_cons_zero, List.set_cons_succ]
            refine wpAnyH_ready (rs := [12]) (by kernel_rfl) (by simp) ?_
            refine AllReadyH.cons (o := ({ dst := some 78, op := Op.call { callee := Callee.value (Operand.func 39), args := #[Operand.tmp 69, Operand.tmp 76, Operand.tmp 77], argTypes := #[27, 3, 52] }, type := 33, pos := "ref.go:163", after := #[{ on := 3, ground := Ground.data }, { on := 10, ground := Ground.data }, { on := 11, ground := Ground.data }], guard := none } : Oper)) rfl (fun K hK => ?_) AllReadyH.nil
            go_simp
            go_at_call 39
            refine (rd_write (HDX.out.fresh ((Below.refl _ _).drew)) _ _ (padB_len dr) HLW.out).mono ?_
            rintro e wd ⟨rfl, rvd, hrd, hch, hft⟩
            have HDD := Lib.hid hrd
            have HCD := Lib.hid hch
            have HFD := Lib.hid hft
            have HQD := Lib.hid (show RLgIs wd Q (RLg R fi sz a b c (.slice ba bl.length bc) (.slice none 0 0)) from HQX.out.chg (Chg.trans (Chg.fresh (F := RFoot R gf rvj) (show Below wr.heap.size wr wr.drew from (Below.refl _ _).drew)) hch (fun k hk => .inl hk)) HNJ.out)
            have HXD := Lib.hid ((hch.block X (by have := (Array.getElem?_eq_some_iff.1 HXP.out).1; exact this) (fun e => by have := (HDJ.out.foot X e).2; have := HXE.out; omega)).trans HXP.out)
            clear hrd hch hft
            go_wp2_with fail
            refine hK.out _ _ ⟨HQD.out, HXD.out⟩ (fun hHeld => ?_)
            clear hK K
            try simp only [Act.put, List.setIfInBounds_toArray, List.set_cons_zero, List.set_cons_succ]
            refine wpAnyH_take (i := 13) (oi := ({ dst := some 7, op := Op.assign (Operand.tmp 78), type := 33, pos := "ref.go:163", after := #[{ on := 12, ground := Ground.data }, { on := 12, ground := Ground.chain }, { on := 0, ground := Ground.phase }, { on := 1, ground := Ground.phase }, { on := 2, ground := Ground.phase }, { on := 3, ground := Ground.phase }, { on := 4, ground := Ground.phase }, { on := 5, ground := Ground.phase }, { on := 6, ground := Ground.phase }, { on := 7, ground := Ground.phase }, { on := 8, ground := Ground.phase }, { on := 9, ground := Ground.phase }, { on := 10, ground := Ground.phase }, { on := 11, ground := Ground.phase }, { on := 12, ground := Ground.phase }], guard := none } : Oper)) (v := ?_) rfl (by kernel_rfl) (by kernel_rfl) (by kernel_rfl) (fun _ _ _ h => h) (Or.inl ⟨by rfl, ?_⟩) (by assumption) ?_
            rotate_left 1
            · (intro u hSw; go_simp; try with_reducible rfl)
            try simp only [Act.put, List.setIfInBounds_toArray, List.set_cons_zero, List.set_cons_succ]
            refine wpAnyH_done (by kernel_rfl) ?_ _
            have HCW := Lib.hid (show Chg (RFoot R gf rv) w4 wd from (HCH.out.trans (Chg.fresh (F := fun _ => False) (by rw [HXE.out]; exact BX.out)) (fun k hk => hk.elim)).trans (Chg.trans (Chg.fresh (F := RFoot R gf rvj) (show Below wr.heap.size wr wr.drew from (Below.refl _ _).drew)) HCD.out (fun k hk => .inl hk)) (fun k hk => (HFT.out k hk)))
            have HFW := Lib.hid (show ∀ k, RFoot R gf rvd k → RFoot R gf rv k ∨ w4.heap.size ≤ k from fun k hk => (HFD.out k hk).elim (fun h => HFT.out k h) (fun h => .inr (by have h1 := BX.out.size; have h2 := HSZ.out; have h3 := HXE.out; have h4 : wr.heap.size ≤ k := h; omega)))
            have HLW2 := Lib.hid (wr_L nb rm sj (fi + 2 + (nn : Int)) (padB dr))
            generalize hs1 : sj.wr nb rm (fi + 2 + (nn : Int)) (padB dr) = s1 at *
            generalize hE1 : sj.we nb rm (fi + 2 + (nn : Int)) = E1 at *
            clear hs1 hE1
            by_cases hE : E1 = 0
            · subst hE
              have HWS3 := Lib.hid (HWS2.out.symm.trans (if_pos rfl)).symm
              go_wp2_with fail
              go_roundw
              case rel => exact ⟨i, by have := HNI.out; unfold ivq; congr 1; omega, by omega, s1, rvd, HDD.out, HWS3.out, by have := HLJ.out; have := HLW2.out; omega, HCW.out, HFW.out⟩
              case measure => have := HNI.out; simp [intOf]; omega
            · have HWS3 := Lib.hid (HWS2.out.symm.trans (if_neg hE))
              have HW2 := Lib.hid (show s.wsy nb rm (aR fi bl.length all) = W by rw [HAR.out, HW.out])
              go_wp2_with fail
              go_ret
              refine ⟨s1, E1, a, c, rvd, .slice ba bl.length bc, rfl, HDD.out, HQD.out, (HC4.out.mono (fun k hk => .inr hk)).trans HCW.out (fun k hk => .inl (.inl hk)), fun k hk => (HFW.out k hk).imp id (fun h => by have := HSZ.out; omega), .inl ⟨?_, ?_, ?_, rfl, rfl, rfl⟩⟩
              · rw [HW2.out, HWS3.out]; exact hE
              · rw [HW2.out, HWS3.out]
              · rw [HW2.out, HWS3.out]
          · go_wp2_with fail
            have HSX := Lib.hid (show RLgIs wr.drew Q (RLg R fi sz a b c (.slice ba bl.length bc) (.slice none 0 0)) ∧ wr.drew.heap[X]? = some (.cells (ArrU8 (padB dr)) 52 (0, 0)) from ⟨HQX.out, HXP.out⟩)
            refine wp_region_held_drew (S := fun u => RLgIs u Q (RLg R fi sz a b c (.slice ba bl.length bc) (.slice none 0 0)) ∧ u.heap[X]? = some (.cells (ArrU8 (padB dr)) 52 (0, 0))) (by kernel_rfl) (HSX.out) (fun hHeld => ?_)
            refine wpAnyH_take (i := 0) (oi := ({ dst := some 66, op := Op.move (Operand.tmp 0), type := 30, pos := "ref.go:163", after := #[], guard := none } : Oper)) (v := ?_) rfl (by kernel_rfl) (by kernel_rfl) (by kernel_rfl) (fun _ _ _ h => h) (Or.inl ⟨by rfl, ?_⟩) (by assumption) ?_
            rotate_left 1
            · (intro u hSw; go_simp; try with_reducible rfl)
            try simp only [Act.put, List.setIfInBounds_toArray, List.set_cons_zero, List.set_cons_succ]
            refine wpAnyH_take (i := 1) (oi := ({ dst := some 67, op := Op.nilCheck (Operand.tmp 66), type := 0, pos := "ref.go:163", after := #[{ on := 0, ground := Ground.data }], guard := none } : Oper)) (v := ?_) rfl (by kernel_rfl) (by kernel_rfl) (by kernel_rfl) (fun _ _ _ h => h) (Or.inl ⟨by rfl, ?_⟩) (by assumption) ?_
            rotate_left 1
            · (intro u hSw; go_simp; try with_reducible rfl)
            try simp only [Act.put, List.setIfInBounds_toArray, List.set_cons_zero, List.set_cons_succ]
            refine wpAnyH_take (i := 2) (oi := ({ dst := some 68, op := Op.fieldAddr 92 (Operand.tmp 67) 0, type := 0, pos := "ref.go:163", after := #[{ on := 1, ground := Ground.data }], guard := none } : Oper)) (v := ?_) rfl (by kernel_rfl) (by kernel_rfl) (by kernel_rfl) (fun _ _ _ h => h) (Or.inl ⟨by rfl, ?_⟩) (by assumption) ?_
            rotate_left 1
            · (intro u hSw; go_simp; try with_reducible rfl)
            try simp only [Act.put, List.setIfInBounds_toArray, List.set_cons_zero, List.set_cons_succ]
            refine wpAnyH_take (i := 3) (oi := ({ dst := some 69, op := Op.load 27 (Operand.tmp 68), type := 27, pos := "ref.go:163", after := #[{ on := 2, ground := Ground.data }], guard := none } : Oper)) (v := ?_) rfl (by kernel_rfl) (by kernel_rfl) (by kernel_rfl) (fun _ _ _ h => h) (Or.inl ⟨by rfl, ?_⟩) (by assumption) ?_
            rotate_left 1
            · intro u hSw
              have p0 : u.cell? ⟨Q, 0, none⟩ = some (.pointer (some ⟨R, 0, none⟩)) := RLgIs.cell hSw.1 0
              go_simp
              try with_reducible rfl
            try simp only [Act.put, List.setIfInBounds_toArray, List.set_cons_zero, List.set_cons_succ]
            refine wpAnyH_take (i := 4) (oi := ({ dst := some 70, op := Op.move (Operand.tmp 0), type := 30, pos := "ref.go:163", after := #[], guard := none } : Oper)) (v := ?_) rfl (by kernel_rfl) (by kernel_rfl) (by kernel_rfl) (fun _ _ _ h => h) (Or.inl ⟨by rfl, ?_⟩) (by assumption) ?_
            rotate_left 1
            · (intro u hSw; go_simp; try with_reducible rfl)
            try simp only [Act.put, List.setIfInBounds_toArray, List.set_cons_zero, List.set_cons_succ]
            refine wpAnyH_take (i := 5) (oi := ({ dst := some 71, op := Op.nilCheck (Operand.tmp 70), type := 0, pos := "ref.go:163", after := #[{ on := 4, ground := Ground.data }], guard := none } : Oper)) (v := ?_) rfl (by kernel_rfl) (by kernel_rfl) (by kernel_rfl) (fun _ _ _ h => h) (Or.inl ⟨by rfl, ?_⟩) (by assumption) ?_
            rotate_left 1
            · (intro u hSw; go_simp; try with_reducible rfl)
            try simp only [Act.put, List.setIfInBounds_toArray, List.set_cons_zero, List.set_cons_succ]
            refine wpAnyH_take (i := 6) (oi := ({ dst := some 72, op := Op.fieldAddr 92 (Operand.tmp 71) 1, type := 0, pos := "ref.go:163", after := #[{ on := 5, ground := Ground.data }], guard := none } : Oper)) (v := ?_) rfl (by kernel_rfl) (by kernel_rfl) (by kernel_rfl) (fun _ _ _ h => h) (Or.inl ⟨by rfl, ?_⟩) (by assumption) ?_
            rotate_left 1
            · (intro u hSw; go_simp; try with_reducible rfl)
            try simp only [Act.put, List.setIfInBounds_toArray, List.set_cons_zero, List.set_cons_succ]
            refine wpAnyH_take (i := 7) (oi := ({ dst := some 73, op := Op.load 3 (Operand.tmp 72), type := 3, pos := "ref.go:163", after := #[{ on := 6, ground := Ground.data }], guard := none } : Oper)) (v := ?_) rfl (by kernel_rfl) (by kernel_rfl) (by kernel_rfl) (fun _ _ _ h => h) (Or.inl ⟨by rfl, ?_⟩) (by assumption) ?_
            rotate_left 1
            · intro u hSw
              have p1 : u.cell? ⟨Q, 1, none⟩ = some (.int .i64 fi) := RLgIs.cell hSw.1 1
              go_simp
              try with_reducible rfl
            try simp only [Act.put, List.setIfInBounds_toArray, List.set_cons_zero, List.set_cons_succ]
            refine wpAnyH_take (i := 8) (oi := ({ dst := some 74, op := Op.binOp BinOp.add 3 (Operand.tmp 73) (Operand.const (Value.int IntKind.i64 2)) 3, type := 3, pos := "ref.go:163", after := #[{ on := 7, ground := Ground.data }], guard := none } : Oper)) (v := ?_) rfl (by kernel_rfl) (by kernel_rfl) (by kernel_rfl) (fun _ _ _ h => h) (Or.inl ⟨by rfl, ?_⟩) (by assumption) ?_
            rotate_left 1
            · (intro u hSw; go_simp; try with_reducible rfl)
            try simp only [Act.put, List.setIfInBounds_toArray, List.set_cons_zero, List.set_cons_succ]
            refine wpAnyH_take (i := 9) (oi := ({ dst := some 75, op := Op.move (Operand.tmp 4), type := 3, pos := "ref.go:163", after := #[], guard := none } : Oper)) (v := ?_) rfl (by kernel_rfl) (by kernel_rfl) (by kernel_rfl) (fun _ _ _ h => h) (Or.inl ⟨by rfl, ?_⟩) (by assumption) ?_
            rotate_left 1
            · (intro u hSw; go_simp; try with_reducible rfl)
            try simp only [Act.put, List.setIfInBounds_toArray, List.set_cons_zero, List.set_cons_succ]
            refine wpAnyH_take (i := 10) (oi := ({ dst := some 76, op := Op.binOp BinOp.add 3 (Operand.tmp 74) (Operand.tmp 75) 3, type := 3, pos := "ref.go:163", after := #[{ on := 8, ground := Ground.data }, { on := 9, ground := Ground.data }], guard := none } : Oper)) (v := ?_) rfl (by kernel_rfl) (by kernel_rfl) (by kernel_rfl) (fun _ _ _ h => h) (Or.inl ⟨by rfl, ?_⟩) (by assumption) ?_
            rotate_left 1
            · (intro u hSw; go_simp; try with_reducible rfl)
            try simp only [Act.put, List.setIfInBounds_toArray, List.set_cons_zero, List.set_cons_succ]
            refine wpAnyH_take (i := 11) (oi := ({ dst := some 77, op := Op.load 52 (Operand.tmp 5), type := 52, pos := "ref.go:163", after := #[], guard := none } : Oper)) (v := ?_) rfl (by kernel_rfl) (by kernel_rfl) (by kernel_rfl) (fun _ _ _ h => h) (Or.inl ⟨by rfl, ?_⟩) (by assumption) ?_
            rotate_left 1
            · intro u hSw
              refine exec_load_row 52 (Operand.tmp 5) ?_ u X ?_ (ArrU8 (padB dr)) 52 (0, 0) _ hSw.2 Try.underlying52 rfl (by rw [HI35.out, SP.out]) <;> rfl
            try simp only [Act.put, List.setIfInBounds_toArray, List.set_cons_zero, List.set_cons_succ]
            refine wpAnyH_ready (rs := [12]) (by kernel_rfl) (by simp) ?_
            refine AllReadyH.cons (o := ({ dst := some 78, op := Op.call { callee := Callee.value (Operand.func 39), args := #[Operand.tmp 69, Operand.tmp 76, Operand.tmp 77], argTypes := #[27, 3, 52] }, type := 33, pos := "ref.go:163", after := #[{ on := 3, ground := Ground.data }, { on := 10, ground := Ground.data }, { on := 11, ground := Ground.data }], guard := none } : Oper)) rfl (fun K hK => ?_) AllReadyH.nil
            go_simp
            go_at_call 39
            refine (rd_write (HDX.out.fresh ((Below.refl _ _).drew)) _ _ (padB_len dr) HLW.out).mono ?_
            rintro e wd ⟨rfl, rvd, hrd, hch, hft⟩
            have HDD := Lib.hid hrd
            have HCD := Lib.hid hch
            have HFD := Lib.hid hft
            have HQD := Lib.hid (show RLgIs wd Q (RLg R fi sz a b c (.slice ba bl.length bc) (.slice none 0 0)) from HQX.out.chg (Chg.trans (Chg.fresh (F := RFoot R gf rvj) (show Below wr.heap.size wr wr.drew from (Below.refl _ _).drew)) hch (fun k hk => .inl hk)) HNJ.out)
            have HXD := Lib.hid ((hch.block X (by have := (Array.getElem?_eq_some_iff.1 HXP.out).1; exact this) (fun e => by have := (HDJ.out.foot X e).2; have := HXE.out; omega)).trans HXP.out)
            clear hrd hch hft
            go_wp2_with fail
            refine hK.out _ _ ⟨HQD.out, HXD.out⟩ (fun hHeld => ?_)
            clear hK K
            try simp only [Act.put, List.setIfInBounds_toArray, List.set_cons_zero, List.set_cons_succ]
            refine wpAnyH_take (i := 13) (oi := ({ dst := some 7, op := Op.assign (Operand.tmp 78), type := 33, pos := "ref.go:163", after := #[{ on := 12, ground := Ground.data }, { on := 12, ground := Ground.chain }, { on := 0, ground := Ground.phase }, { on := 1, ground := Ground.phase }, { on := 2, ground := Ground.phase }, { on := 3, ground := Ground.phase }, { on := 4, ground := Ground.phase }, { on := 5, ground := Ground.phase }, { on := 6, ground := Ground.phase }, { on := 7, ground := Ground.phase }, { on := 8, ground := Ground.phase }, { on := 9, ground := Ground.phase }, { on := 10, ground := Ground.phase }, { on := 11, ground := Ground.phase }, { on := 12, ground := Ground.phase }], guard := none } : Oper)) (v := ?_) rfl (by kernel_rfl) (by kernel_rfl) (by kernel_rfl) (fun _ _ _ h => h) (Or.inl ⟨by rfl, ?_⟩) (by assumption) ?_
            rotate_left 1
            · (intro u hSw; go_simp; try with_reducible rfl)
            try simp only [Act.put, List.setIfInBounds_toArray, List.set_cons_zero, List.set_cons_succ]
            refine wpAnyH_done (by kernel_rfl) ?_ _
            have HCW := Lib.hid (show Chg (RFoot R gf rv) w4 wd from (HCH.out.trans (Chg.fresh (F := fun _ => False) (by rw [HXE.out]; exact BX.out)) (fun k hk => hk.elim)).trans (Chg.trans (Chg.fresh (F := RFoot R gf rvj) (show Below wr.heap.size wr wr.drew from (Below.refl _ _).drew)) HCD.out (fun k hk => .inl hk)) (fun k hk => (HFT.out k hk)))
            have HFW := Lib.hid (show ∀ k, RFoot R gf rvd k → RFoot R gf rv k ∨ w4.heap.size ≤ k from fun k hk => (HFD.out k hk).elim (fun h => HFT.out k h) (fun h => .inr (by have h1 := BX.out.size; have h2 := HSZ.out; have h3 := HXE.out; have h4 : wr.heap.size ≤ k := h; omega)))
            have HLW2 := Lib.hid (wr_L nb rm sj (fi + 2 + (nn : Int)) (padB dr))
            generalize hs1 : sj.wr nb rm (fi + 2 + (nn : Int)) (padB dr) = s1 at *
            generalize hE1 : sj.we nb rm (fi + 2 + (nn : Int)) = E1 at *
            clear hs1 hE1
            by_cases hE : E1 = 0
            · subst hE
              have HWS3 := Lib.hid (HWS2.out.symm.trans (if_pos rfl)).symm
              go_wp2_with fail
              go_roundw
              case rel => exact ⟨i, by have := HNI.out; unfold ivq; congr 1; omega, by omega, s1, rvd, HDD.out, HWS3.out, by have := HLJ.out; have := HLW2.out; omega, HCW.out, HFW.out⟩
              case measure => have := HNI.out; simp [intOf]; omega
            · have HWS3 := Lib.hid (HWS2.out.symm.trans (if_neg hE))
              have HW2 := Lib.hid (show s.wsy nb rm (aR fi bl.length all) = W by rw [HAR.out, HW.out])
              go_wp2_with fail
              go_ret
              refine ⟨s1, E1, a, c, rvd, .slice ba bl.length bc, rfl, HDD.out, HQD.out, (HC4.out.mono (fun k hk => .inr hk)).trans HCW.out (fun k hk => .inl (.inl hk)), fun k hk => (HFW.out k hk).imp id (fun h => by have := HSZ.out; omega), .inl ⟨?_, ?_, ?_, rfl, rfl, rfl⟩⟩
              · rw [HW2.out, HWS3.out]; exact hE
              · rw [HW2.out, HWS3.out]
              · rw [HW2.out, HWS3.out]
end Go.Proofs.Ytaibminomehppaa
namespace Go.Proofs.Ytaibminomehppaa
open Go.RowKit
theorem exec_load_u8s {ρ : Operand → Value} {o : Oper} {w : World} (x : Operand) (ho : o.op = .load 39 x) (b k : Nat) (hx : ρ x = .pointer (some ⟨b, k, none⟩)) (v : Value) (hc : w.cell? ⟨b, k, none⟩ = some v) :
    (execOp ρ o).run Try.prog w = .ok (.value v) w := by
  unfold execOp
  rw [ho]
  simp only [hx]
  go_simp
theorem rd_yes {w : World} {B R gf nb fcap : Nat} {rm : Int} {s : DS} {rv : Value} (h : RD w B R gf nb fcap rm s rv) (hdn : s.dn = false) (n : Int) (h1 : 0 ≤ n) (h2 : n < nb) :
    Calls Try.prog 43 #[.pointer (some ⟨R, 0, none⟩), .int .i64 n] w fun e w' => e = .returned (.tuple #[.agg (ArrU8 (s.f n)), .int .i64 0]) ∧ Below w.heap.size w w' := by
  have h3 := rd_read h n
  rw [hdn] at h3
  have hb : hasB nb n = true := by simp [hasB]; omega
  rw [show rdF nb n false s.f = s.f n by simp [rdF, hb], show readErr nb n false = 0 by simp [readErr, hb]] at h3
  exact h3
theorem exec_store_u8s {ρ : Operand → Value} {o : Oper} {w : World} (x y : Operand) (ho : o.op = .store 39 x y) (b k : Nat) (hx : ρ x = .pointer (some ⟨b, k, none⟩)) (va : Option Addr) (n c : Nat) (hy : ρ y = .slice va n c) (old : Value) (hc : w.cell? ⟨b, k, none⟩ = some old) (hf : w.frozen? ⟨b, k, none⟩ = false) :
    (execOp ρ o).run Try.prog w = .ok .skip (w.setCell ⟨b, k, none⟩ (.slice va n c)) := by
  unfold execOp
  rw [ho]
  simp only [hx, hy]
  go_simp

theorem exec_slice_u8s {ρ : Operand → Value} {o : Oper} {w : World} (x : Operand) (lo hi : Option Operand) (ho : o.op = .slice 39 x lo hi none) (va : Option Addr) (vn vc : Nat) (hx : ρ x = .slice va vn vc) (vlo vhi : Option Value) (hlo : lo.map ρ = vlo) (hhi : hi.map ρ = vhi) (r : Value) (h : (Instr.slice 39 (.slice va vn vc) vlo vhi none).run Try.prog w = .ok r w) :
    (execOp ρ o).run Try.prog w = .ok (.value r) w := by
  unfold execOp
  rw [ho]
  simp [hx, hlo, hhi, Instr.sliceAt, h]
theorem slice_bsb_u {w : World} {B : Nat} {v : Value} {l : List Int} (h : BsB w B v l) (lo hi : Nat) (h1 : lo ≤ hi) (h2 : hi ≤ l.length) :
    ∃ a n c, (∀ u : World, (Instr.slice 39 v (some (.int .u64 (lo : Int))) (some (.int .u64 (hi : Int))) none).run Try.prog u = .ok (.slice a n c) u) ∧ BsB w B (.slice a n c) ((l.drop lo).take (hi - lo)) := by
  obtain ⟨a, cap, hv, hc, hx⟩ := id h.1
  subst hv
  refine ⟨_, _, _, fun u => ?_, sub_bs h.1 lo hi h1 h2, fun ad n c e hl => ?_⟩
  · rw [run_slice_lh u 39 a l.length cap und62 .u64 .u64 (lo : Int) (hi : Int) (by omega) (by omega) (by omega), size62]
    rfl
  · have hl' : 0 < hi - lo := by rw [List.length_take, List.length_drop] at hl; omega
    obtain ⟨b, off, rfl, hbs, hcell⟩ := hx (by omega)
    have := h.2 _ _ _ rfl (by omega : 0 < l.length)
    rw [if_neg (by omega)] at e
    simp [Addr.add_mid] at e
    rw [← e.1]; exact this
theorem slice_bsb_lu {w : World} {B : Nat} {v : Value} {l : List Int} (h : BsB w B v l) (lo : Nat) (h1 : lo ≤ l.length) :
    ∃ a n c, (∀ u : World, (Instr.slice 39 v (some (.int .u64 (lo : Int))) none none).run Try.prog u = .ok (.slice a n c) u) ∧ BsB w B (.slice a n c) (l.drop lo) := by
  obtain ⟨a, cap, hv, hc, hx⟩ := id h.1
  subst hv
  have hs := sub_bs h.1 lo l.length h1 (Nat.le_refl _)
  rw [List.take_of_length_le (by rw [List.length_drop]; exact Nat.le_refl _)] at hs
  refine ⟨_, _, _, fun u => ?_, hs, fun ad n c e hl => ?_⟩
  · rw [run_slice_l u 39 a l.length cap und62 .u64 (lo : Int) (by omega) (by omega), size62]
    rfl
  · have hl' : 0 < l.length - lo := by rw [List.length_drop] at hl; omega
    obtain ⟨b, off, rfl, hbs, hcell⟩ := hx (by omega)
    have := h.2 _ _ _ rfl (by omega : 0 < l.length)
    rw [if_neg (by omega)] at e
    simp [Addr.add_mid] at e
    rw [← e.1]; exact this
theorem slice_h_u (u : World) (g n cap m : Nat) (h : m ≤ n) (hc : n ≤ cap) : (Instr.slice 39 (.slice (some ⟨g, 0, none⟩) n cap) none (some (.int .u64 (m : Int))) none).run Try.prog u = .ok (.slice (some ⟨g, 0, none⟩) m cap) u := by
  rw [run_slice_h u 39 (some ⟨g, 0, none⟩) n cap und62 .u64 (m : Int) (by omega) (by omega), size62]
  simp [sliced, Result.andThen, Addr.add_mid]
/-- own bytes, cut -/
theorem own_take {w : World} {B g n cap : Nat} {l : List Int} (h : Own w B (.slice (some ⟨g, 0, none⟩) n cap) l) (m : Nat) (hm : m ≤ l.length) : Own w B (.slice (some ⟨g, 0, none⟩) m cap) (l.take m) := by
  obtain ⟨h1, h2⟩ := h
  rcases h2 with ⟨h3, _⟩ | ⟨g', cap', cur, hv, hb, hg, hle, hcm, hcs, htake⟩
  · cases h3
  · injection hv with e1 e2 e3
    injection e1 with e1
    injection e1 with e1
    subst e1 e2 e3
    have hl : (l.take m).length = m := by rw [List.length_take]; omega
    unfold Own
    rw [hl]
    refine ⟨by rw [List.length_map, hl, Nat.mul_one], .inr ⟨g, cap, cur, rfl, hb, hg, by omega, hcm, hcs, ?_⟩⟩
    have h4 := congrArg (List.take m) htake
    rw [List.take_take] at h4
    rw [Nat.mul_one] at h4 ⊢
    rw [Nat.min_eq_left hm] at h4
    rw [h4, List.map_take]
theorem sub8 (l : List Int) (j : Nat) : beI (((l.drop (8 * j)).take 8).take 8) = nAt l j := by
  unfold nAt
  rw [List.take_take]
  rfl
set_option maxRecDepth 100000 in
set_option maxHeartbeats 16000000 in
theorem ropen_yes (B R gf nb fcap : Nat) (rm fi sz : Int) (s : DS) (rv : Value) (a b c : Nat) (rs : List (List Int)) (w : World) (hd : RD w B R gf nb fcap rm s rv) (hdn : s.dn = false) (h1 : 0 ≤ fi) (h2 : 3 ≤ sz) (h3 : fi ≤ nb - sz) (hnb : nb ≤ 4096) (hr : ∀ n, Rng (s.f n)) (hfl : ∀ n, (s.f n).length = 256)
    (hm : nst s.f fi 2 = (a, b, c)) (ha : a ≠ 0) (hab : a < 18446744073709551616 ∧ b < 18446744073709551616) (hc : (c : Int) ≤ (sz - 2) * 256) (har : areaB s.f (fi + 2) c = encs rs) (hrs : ∀ r ∈ rs, Rng r) :
    Calls Try.prog 45 #[.pointer (some ⟨R, 0, none⟩), .int .i64 fi, .int .i64 sz] w fun e w' =>
      ∃ Q v bv, e = .returned (.tuple #[.pointer (some ⟨Q, 0, none⟩), v, .int .i64 0]) ∧ RLgIs w' Q (RLg R fi sz a b c bv (.slice none 0 0)) ∧ Own w' w.heap.size bv (encs rs) ∧ bv.ownBlock ≠ some Q ∧ OwnPs 39 5 w' w.heap.size v rs ∧ w.heap.size ≤ Q ∧ Below w.heap.size w w' := by
  obtain ⟨i0, hinf, hz0, hz1, hz2⟩ := info_parts info62
  have hfit := rd_fits hd hnb fi sz (by omega)
  rw [show decide (0 ≤ fi ∧ 3 ≤ sz ∧ sz ≤ nb ∧ fi ≤ nb - sz) = true from decide_eq_true ⟨h1, h2, by omega, h3⟩] at hfit
  have HF := Lib.hid hfit
  have HD := Lib.hid hd
  have HDN := Lib.hid hdn
  have HRF := Lib.hid hr
  have HFL := Lib.hid hfl
  have HM := Lib.hid (show ∀ n, n = 2 → nst s.f fi n = (a, b, c) from fun n hn => by rw [hn]; exact hm)
  have HAR := Lib.hid har
  have HRS := Lib.hid hrs
  have hel : (encs rs).length = c := by rw [← har]; exact areaB_len _ _ hfl c
  have HEL := Lib.hid hel
  have hbd : ∀ u : World, (Instr.build 92 #[(0, .pointer (some ⟨R, 0, none⟩)), (1, .int .i64 fi), (2, .int .i64 sz)]).run Try.prog u = .ok (.agg #[Value.pointer (some ⟨R, 0, none⟩), .int .i64 fi, .int .i64 sz, .int .u64 0, .int .u64 0, .int .u64 0, .slice none 0 0, .slice none 0 0]) u := fun u => by kernel_rfl
  have HC := Lib.hid hc
  have HAB := Lib.hid (And.intro ha hab)
  have hz := zero35
  have HI35 := Lib.hid (show (Try.prog.info? 52).map (·.size) = some 256 by kernel_rfl)
  have SZ := Lib.hid (show (ArrU8 (zeros 256)).size = 256 by rw [ArrU8_size, zeros, List.length_replicate])
  have HQ0 := Lib.hid (show RLgIs (w.alloc (.cells #[Value.pointer (some ⟨R, 0, none⟩), .int .i64 fi, .int .i64 sz, .int .u64 0, .int .u64 0, .int .u64 0, .slice none 0 0, .slice none 0 0] 92)) w.heap.size (RLg R fi sz 0 0 0 (.slice none 0 0) (.slice none 0 0)) from heap_alloc_new _ _)
  have X0 := Lib.hid (show Below w.heap.size w (w.alloc (.cells #[Value.pointer (some ⟨R, 0, none⟩), .int .i64 fi, .int .i64 sz, .int .u64 0, .int .u64 0, .int .u64 0, .slice none 0 0, .slice none 0 0] 92)) from (Below.refl _ _).alloc (Nat.le_refl _) _)
  clear hfit hd hdn hr hfl hm har hrs hel hc ha hab
  go_enter Try.func45, Try.ntmps45
  go_wp2_with fail
  refine HF.out.mono ?_
  rintro e w' ⟨rfl, rfl⟩
  go_wp2_with fail
  clear hbd
  generalize w.alloc (.cells #[Value.pointer (some ⟨R, 0, none⟩), .int .i64 fi, .int .i64 sz, .int .u64 0, .int .u64 0, .int .u64 0, .slice none 0 0, .slice none 0 0] 92) = w0 at *
  have HQL := Lib.hid HQ0.out.lt
  go_loopw [10] (fun iv wr => ∃ i : Nat, i ≤ 2 ∧ iv = .int .i64 (i : Int) ∧ RLgIs wr w.heap.size (RLg R fi sz (nst s.f fi i).1 (nst s.f fi i).2.1 (nst s.f fi i).2.2 (.slice none 0 0) (.slice none 0 0)) ∧ Below w.heap.size w wr) (fun iv _ => 2 - (intOf iv).toNat)
  case atStart => exact ⟨0, by omega, rfl, HQ0.out, X0.out⟩
  case round =>
    obtain ⟨i, hi, rfl, hq, hbw⟩ := hrel
    have HBW := Lib.hid hbw
    by_cases hlt : i < 2
    · obtain ⟨x, y, z, hxyz⟩ : ∃ x y z, nst s.f fi i = (x, y, z) := ⟨_, _, _, rfl⟩
      rw [hxyz] at hq
      obtain ⟨l, hl⟩ : ∃ l, s.f (fi + (i : Int)) = l := ⟨_, rfl⟩
      have hll : l.length = 256 := by rw [← hl]; exact HFL.out _
      have hlr : Rng l := by rw [← hl]; exact HRF.out _
      have HNX := Lib.hid (show nst s.f fi (i + 1) = pk i l (x, y, z) by rw [nst, hl, hxyz])
      have hxb : x < 18446744073709551616 := by have := nst_lt s.f fi HRF.out i; rw [hxyz] at this; exact this
      have HQ1 := Lib.hid hq
      have HLL := Lib.hid hll
      have HLR := Lib.hid hlr
      have SL := Lib.hid (show (ArrU8 l).size = 256 by rw [ArrU8_size, hll])
      have hrd := rd_yes (HD.out.fresh hbw) HDN.out (fi + (i : Int)) (by omega) (by omega)
      rw [hl] at hrd
      have HRD := Lib.hid hrd
      have HRI := Lib.hid (fun u => rright_any l i u hll hlr hlt)
      have hw1 : IntKind.i64.wrap (fi + (i : Int)) = fi + (i : Int) := wrap_i64 _ (by omega) (by omega)
      clear hq hbw hl hxyz hrd hll hlr
      go_wp2_with fail
      refine HRD.out.mono ?_
      rintro e wa ⟨rfl, hb⟩
      have XA := Lib.hid hb
      clear hb
      obtain ⟨X, hX⟩ : ∃ X, wa.heap.size = X := ⟨_, rfl⟩
      have HXE := Lib.hid hX
      clear hX
      go_wp2_with (first
        | (refine wpList_store_nwL rfl 52 (Operand.tmp 11) (Operand.tmp 40) rfl wa _ 52 rfl wa.heap.size (ArrU8 l) rfl rfl rfl (by rw [HI35.out, SL.out]) (by rw [SZ.out, SL.out]) (ArrU8_one _) ?_; intro wb hd hb hs; have QB := Lib.hid hd; have XB := Lib.hid hb; have SB := Lib.hid hs; clear hd hb hs)
        | (refine wpList_load_row rfl 52 (Operand.tmp 11) rfl wa.heap.size rfl 52 (ArrU8 l) (0, 0) _ QB.out Try.underlying52 rfl (by rw [HI35.out, SL.out]) ?_))
      rw [HXE.out] at QB XB SB ⊢
      have XAB := Lib.hid (show Below w.heap.size w wb from (HBW.out.trans (XA.out.mono HBW.out.size)).trans (XB.out.mono (by have := HXE.out; have := XA.out.size; have := HBW.out.size; omega)))
      have HQB := Lib.hid (show RLgIs wb w.heap.size (RLg R fi sz x y z (.slice none 0 0) (.slice none 0 0)) from ((XB.out.block w.heap.size (by have := HXE.out; have := XA.out.size; have := HQ1.out.lt; omega)).trans (XA.out.block w.heap.size HQ1.out.lt)).trans HQ1.out)
      have HXW := Lib.hid (show w.heap.size < X by have := HXE.out; have := XA.out.size; have := HQ1.out.lt; omega)
      refine (HRI.out wb).mono ?_
      rintro e wc ⟨⟨bb, rfl, hbb⟩, hb⟩
      have HBB := Lib.hid hbb
      have XC := Lib.hid hb
      have QC := Lib.hid (show wc.heap[X]? = some (.cells (l.map (Value.int .u8)).toArray 52 (0, 0)) from (hb.block X (by have := SB.out; omega)).trans QB.out)
      have HQC := Lib.hid (HQB.out.chg (Chg.fresh (F := fun _ => False) hb) (fun h => h))
      have XWC := Lib.hid (XAB.out.trans (hb.mono XAB.out.size))
      clear hb hbb
      have h08 := fun u => slice35_lh u X 0 8 0 8 rfl rfl (by decide) (by decide) (by decide)
      have h816 := fun u => slice35_lh u X 8 16 8 16 rfl rfl (by decide) (by decide) (by decide)
      have h1624 := fun u => slice35_lh u X 16 24 16 24 rfl rfl (by decide) (by decide) (by decide)
      have HN0 := Lib.hid (sub8 l 0)
      have HN1 := Lib.hid (sub8 l 1)
      have HN2 := Lib.hid (sub8 l 2)
      have HRP := Lib.hid (show ∀ j, j < 3 → Rng ((l.drop (8 * j)).take 8) ∧ 8 ≤ ((l.drop (8 * j)).take 8).length ∧ ((l.drop (8 * j)).take 8).length ≤ 1099511627776 from fun j hj => ⟨(HLR.out.drop _).take _, by rw [List.length_take, List.length_drop, HLL.out]; omega, by rw [List.length_take]; omega⟩)
      cases bb
      · have HPK := Lib.hid (show pk i l (x, y, z) = (x, y, z) by
          unfold pk
          rw [if_neg (fun h => by
            have h5 : (0 : Nat) ≤ x := Nat.zero_le _
            have := HBB.out.2 ⟨(rok_okB HLL.out HLR.out).2 h.1, by have := h.2.2; show 0 < nAt l 0; have h6 : x < nAt l 0 := this; omega, h.2.1⟩
            cases this)])
        go_wp2_with fail
        go_quiet (fail)
        go_wp2_with fail
        go_roundw
        case rel => exact ⟨i + 1, by omega, by go_num, by rw [HNX.out, HPK.out]; exact HQC.out, below_drewN XWC.out _⟩
        case measure => simp [intOf]; omega
      · have HOK := Lib.hid (HBB.out.1 rfl)
        have c3 : wc.cell? ⟨w.heap.size, 3, none⟩ = some (.int .u64 (x : Int)) := RLgIs.cell HQC.out 3
        obtain ⟨n0, hn0⟩ : ∃ n0, nAt l 0 = n0 := ⟨_, rfl⟩
        have hn0b : n0 < 18446744073709551616 := by rw [← hn0]; exact nAt_lt l HLR.out 0
        have HNN0 := Lib.hid hn0
        rw [hn0] at HN0
        clear hn0
        go_wp2_with fail
        have HSX := Lib.hid (show RLgIs wc.drew w.heap.size (RLg R fi sz x y z (.slice none 0 0) (.slice none 0 0)) ∧ wc.drew.heap[X]? = some (.cells (l.map (Value.int .u8)).toArray 52 (0, 0)) from ⟨HQC.out, QC.out⟩)
        clear c3
        refine wp_region_held_drew (S := fun u => RLgIs u w.heap.size (RLg R fi sz x y z (.slice none 0 0) (.slice none 0 0)) ∧ u.heap[X]? = some (.cells (l.map (Value.int .u8)).toArray 52 (0, 0))) (by kernel_rfl) (HSX.out) (fun hHeld => ?_)
        refine wpAnyH_take (i := 0) (oi := ({ dst := some 49, op := Op.move (Operand.tmp 13), type := 4, pos := "ref.go:89", after := #[], guard := none } : Oper)) (v := ?_) rfl (by kernel_rfl) (by kernel_rfl) (by kernel_rfl) (fun _ _ _ h => h) (Or.inl ⟨by rfl, ?_⟩) (by assumption) ?_
        rotate_left 1
        · (intro u hSw; go_simp; try with_reducible rfl)
        try simp only [Act.put, List.setIfInBounds_toArray, List.set_cons_zero, List.set_cons_succ]
        refine wpAnyH_take (i := 1) (oi := ({ dst := some 50, op := Op.move (Operand.tmp 49), type := 4, pos := "ref.go:89", after := #[{ on := 0, ground := Ground.data }], guard := none } : Oper)) (v := ?_) rfl (by kernel_rfl) (by kernel_rfl) (by kernel_rfl) (fun _ _ _ h => h) (Or.inl ⟨by rfl, ?_⟩) (by assumption) ?_
        rotate_left 1
        · (intro u hSw; go_simp; try with_reducible rfl)
        try simp only [Act.put, List.setIfInBounds_toArray, List.set_cons_zero, List.set_cons_succ]
        refine wpAnyH_take (i := 2) (oi := ({ dst := some 51, op := Op.slice 52 (Operand.tmp 11) (some (Operand.const (Value.int IntKind.i64 0))) (some (Operand.const (Value.int IntKind.i64 8))) none, type := 39, pos := "ref.go:89", after := #[{ on := 1, ground := Ground.guard }], guard := some (1, true) } : Oper)) (v := ?_) rfl (by kernel_rfl) (by kernel_rfl) (by kernel_rfl) (fun _ _ _ h => h) (Or.inl ⟨by rfl, ?_⟩) (by assumption) ?_
        rotate_left 1
        · intro u hSw
          have hs := h08 u
          go_simp
          try with_reducible rfl
        try simp only [Act.put, List.setIfInBounds_toArray, List.set_cons_zero, List.set_cons_succ]
        refine wpAnyH_take (i := 4) (oi := ({ dst := some 53, op := Op.move (Operand.tmp 9), type := 30, pos := "ref.go:89", after := #[{ on := 1, ground := Ground.guard }], guard := some (1, true) } : Oper)) (v := ?_) rfl (by kernel_rfl) (by kernel_rfl) (by kernel_rfl) (fun _ _ _ h => h) (Or.inl ⟨by rfl, ?_⟩) (by assumption) ?_
        rotate_left 1
        · (intro u hSw; go_simp; try with_reducible rfl)
        try simp only [Act.put, List.setIfInBounds_toArray, List.set_cons_zero, List.set_cons_succ]
        refine wpAnyH_take (i := 5) (oi := ({ dst := some 54, op := Op.nilCheck (Operand.tmp 53), type := 0, pos := "ref.go:89", after := #[{ on := 4, ground := Ground.data }, { on := 1, ground := Ground.guard }], guard := some (1, true) } : Oper)) (v := ?_) rfl (by kernel_rfl) (by kernel_rfl) (by kernel_rfl) (fun _ _ _ h => h) (Or.inl ⟨by rfl, ?_⟩) (by assumption) ?_
        rotate_left 1
        · (intro u hSw; go_simp; try with_reducible rfl)
        try simp only [Act.put, List.setIfInBounds_toArray, List.set_cons_zero, List.set_cons_succ]
        refine wpAnyH_take (i := 6) (oi := ({ dst := some 55, op := Op.fieldAddr 92 (Operand.tmp 54) 3, type := 0, pos := "ref.go:89", after := #[{ on := 5, ground := Ground.data }, { on := 1, ground := Ground.guard }], guard := some (1, true) } : Oper)) (v := ?_) rfl (by kernel_rfl) (by kernel_rfl) (by kernel_rfl) (fun _ _ _ h => h) (Or.inl ⟨by rfl, ?_⟩) (by assumption) ?_
        rotate_left 1
        · (intro u hSw; go_simp; try with_reducible rfl)
        try simp only [Act.put, List.setIfInBounds_toArray, List.set_cons_zero, List.set_cons_succ]
        refine wpAnyH_take (i := 7) (oi := ({ dst := some 56, op := Op.load 60 (Operand.tmp 55), type := 60, pos := "ref.go:89", after := #[{ on := 6, ground := Ground.data }, { on := 1, ground := Ground.guard }], guard := some (1, true) } : Oper)) (v := ?_) rfl (by kernel_rfl) (by kernel_rfl) (by kernel_rfl) (fun _ _ _ h => h) (Or.inl ⟨by rfl, ?_⟩) (by assumption) ?_
        rotate_left 1
        · intro u hSw
          have p3 : u.cell? ⟨w.heap.size, 3, none⟩ = some (.int .u64 (x : Int)) := RLgIs.cell hSw.1 3
          go_simp
          try with_reducible rfl
        try simp only [Act.put, List.setIfInBounds_toArray, List.set_cons_zero, List.set_cons_succ]
        refine wpAnyH_ready (rs := [3]) (by kernel_rfl) (by simp) ?_
        refine AllReadyH.cons (o := ({ dst := some 52, op := Op.call { callee := Callee.value (Operand.func 92), args := #[Operand.tmp 51], argTypes := #[39] }, type := 60, pos := "ref.go:89", after := #[{ on := 2, ground := Ground.data }, { on := 1, ground := Ground.chain }, { on := 1, ground := Ground.guard }], guard := some (1, true) } : Oper)) rfl (fun K hK => ?_) AllReadyH.nil
        go_simp
        go_at_call 92
        refine (rrd_any _ _ _ (bs_part (show wc.drew.heap[X]? = _ from HSX.out.2) 0 8 256 (by rw [HLL.out]; decide) (by decide)) (HRP.out 0 (by decide)).1 (HRP.out 0 (by decide)).2.1 (HRP.out 0 (by decide)).2.2).mono ?_
        rintro e wd ⟨rfl, rfl⟩
        rw [HN0.out]
        go_wp2_with fail
        refine hK.out _ _ HSX.out (fun hHeld => ?_)
        clear hK K
        try simp only [Act.put, List.setIfInBounds_toArray, List.set_cons_zero, List.set_cons_succ]
        refine wpAnyH_take (i := 8) (oi := ({ dst := some 57, op := Op.binOp BinOp.gtr 60 (Operand.tmp 52) (Operand.tmp 56) 60, type := 4, pos := "ref.go:89", after := #[{ on := 3, ground := Ground.data }, { on := 7, ground := Ground.data }, { on := 1, ground := Ground.guard }], guard := some (1, true) } : Oper)) (v := ?_) rfl (by kernel_rfl) (by kernel_rfl) (by kernel_rfl) (fun _ _ _ h => h) (Or.inl ⟨by rfl, ?_⟩) (by assumption) ?_
        rotate_left 1
        · (intro u hSw; go_simp; try with_reducible rfl)
        try simp only [Act.put, List.setIfInBounds_toArray, List.set_cons_zero, List.set_cons_succ]
        refine wpAnyH_take (i := 9) (oi := ({ dst := some 58, op := Op.pick (Operand.tmp 50) (Operand.tmp 57) (Operand.const (Value.bool false)), type := 4, pos := "ref.go:89", after := #[{ on := 1, ground := Ground.data }, { on := 8, ground := Ground.data }], guard := none } : Oper)) (v := ?_) rfl (by kernel_rfl) (by kernel_rfl) (by kernel_rfl) (fun _ _ _ h => h) (Or.inl ⟨by rfl, ?_⟩) (by assumption) ?_
        rotate_left 1
        · (intro u hSw; go_simp; try with_reducible rfl)
        try simp only [Act.put, List.setIfInBounds_toArray, List.set_cons_zero, List.set_cons_succ]
        refine wpAnyH_done (by kernel_rfl) ?_ _
        have XWE := Lib.hid (show Below w.heap.size w wc.drew from XWC.out.drew)
        generalize wc.drew = we at *
        by_cases hgt : x < n0
        · have hgti : (x : Int) < (n0 : Int) := by omega
          have HPK := Lib.hid (show pk i l (x, y, z) = (n0, nAt l 1, nAt l 2) by
            unfold pk
            rw [if_pos ⟨(rok_okB HLL.out HLR.out).1 HOK.out.1, HOK.out.2.2, by rw [HNN0.out]; exact hgt⟩, HNN0.out])
          have hbs0 := bs_part HSX.out.2 0 8 256 (by rw [HLL.out]; decide) (by decide)
          have HBS0 := Lib.hid hbs0
          have c3 : we.cell? ⟨w.heap.size, 3, none⟩ = some (.int .u64 (x : Int)) := RLgIs.cell HSX.out.1 3
          have f3 := RLgIs.frozen HSX.out.1 3
          clear hbs0
          go_wp2_with fail
          refine (rrd_any _ _ _ HBS0.out (HRP.out 0 (by decide)).1 (HRP.out 0 (by decide)).2.1 (HRP.out 0 (by decide)).2.2).mono ?_
          rintro e wd ⟨rfl, rfl⟩
          rw [HN0.out]
          have hq4 := RLgIs.set HSX.out.1 3 (.int .u64 (n0 : Int))
          have hc4 : Chg (fun k => k = w.heap.size) we (we.setCell ⟨w.heap.size, 3, none⟩ (.int .u64 (n0 : Int))) := (Chg.refl _ _).setCell _ _ (.inl rfl)
          have HX4 := Lib.hid ((hc4.block X (by have := (Array.getElem?_eq_some_iff.1 HSX.out.2).1; exact this) (by have := HXW.out; omega)).trans HSX.out.2)
          have HQ4 := Lib.hid (show RLgIs (we.setCell ⟨w.heap.size, 3, none⟩ (.int .u64 (n0 : Int))) w.heap.size (RLg R fi sz n0 y z (.slice none 0 0) (.slice none 0 0)) from hq4)
          have X4 := Lib.hid (XWE.out.trans (hc4.below (fun k hk => by omega) XWE.out.size))
          clear hq4 hc4
          go_wp2_with fail
          clear c3 f3
          generalize we.setCell ⟨w.heap.size, 3, none⟩ (.int .u64 (n0 : Int)) = w4 at *
          refine (rrd_any _ _ _ (bs_part HX4.out 8 8 248 (by rw [HLL.out]; decide) (by decide)) (HRP.out 1 (by decide)).1 (HRP.out 1 (by decide)).2.1 (HRP.out 1 (by decide)).2.2).mono ?_
          rintro e wd ⟨rfl, rfl⟩
          rw [show beI (((l.drop 8).take 8).take 8) = nAt l 1 from HN1.out]
          have HN1b := Lib.hid (nAt_lt l HLR.out 1)
          have HN2b := Lib.hid (nAt_lt l HLR.out 2)
          generalize nAt l 1 = n1 at *
          generalize nAt l 2 = n2 at *
          have c4 : w4.cell? ⟨w.heap.size, 4, none⟩ = some (.int .u64 (y : Int)) := RLgIs.cell HQ4.out 4
          have f4 := RLgIs.frozen HQ4.out 4
          have hc5 : Chg (fun k => k = w.heap.size) w4 (w4.setCell ⟨w.heap.size, 4, none⟩ (.int .u64 (n1 : Int))) := (Chg.refl _ _).setCell _ _ (.inl rfl)
          have HX5 := Lib.hid ((hc5.block X (by have := (Array.getElem?_eq_some_iff.1 HX4.out).1; exact this) (by have := HXW.out; omega)).trans HX4.out)
          have HQ5 := Lib.hid (show RLgIs (w4.setCell ⟨w.heap.size, 4, none⟩ (.int .u64 (n1 : Int))) w.heap.size (RLg R fi sz n0 n1 z (.slice none 0 0) (.slice none 0 0)) from RLgIs.set HQ4.out 4 _)
          have X5 := Lib.hid (X4.out.trans (hc5.below (fun k hk => by omega) X4.out.size))
          clear hc5
          go_wp2_with fail
          clear c4 f4
          generalize w4.setCell ⟨w.heap.size, 4, none⟩ (.int .u64 (n1 : Int)) = w5 at *
          refine (rrd_any _ _ _ (bs_part HX5.out 16 8 240 (by rw [HLL.out]; decide) (by decide)) (HRP.out 2 (by decide)).1 (HRP.out 2 (by decide)).2.1 (HRP.out 2 (by decide)).2.2).mono ?_
          rintro e wd ⟨rfl, rfl⟩
          rw [show beI (((l.drop 16).take 8).take 8) = n2 from HN2.out]
          have c5 : w5.cell? ⟨w.heap.size, 5, none⟩ = some (.int .u64 (z : Int)) := RLgIs.cell HQ5.out 5
          have f5 := RLgIs.frozen HQ5.out 5
          go_wp2_with fail
          go_roundw
          case rel => exact ⟨i + 1, by omega, by go_num, by rw [HNX.out, HPK.out]; exact RLgIs.set HQ5.out 5 _, X5.out.trans (((Chg.refl (fun k => k = w.heap.size) w5).setCell _ _ (.inl rfl)).below (fun k hk => by omega) X5.out.size)⟩
          case measure => simp [intOf]; omega
        · have hgti : ¬ ((x : Int) < (n0 : Int)) := by omega
          have HPK := Lib.hid (show pk i l (x, y, z) = (x, y, z) by
            unfold pk
            rw [if_neg (fun h => hgt (by have := h.2.2; rw [HNN0.out] at this; exact this))])
          go_wp2_with fail
          go_roundw
          case rel => exact ⟨i + 1, by omega, by go_num, by rw [HNX.out, HPK.out]; exact HSX.out.1, XWE.out⟩
          case measure => simp [intOf]; omega
    · have hi2 : i = 2 := by omega
      rw [HM.out i hi2] at hq
      have HQ2 := Lib.hid hq
      clear hq hbw hi hi2
      have c3 : wr.cell? ⟨w.heap.size, 3, none⟩ = some (.int .u64 (a : Int)) := RLgIs.cell HQ2.out 3
      have c5 : wr.cell? ⟨w.heap.size, 5, none⟩ = some (.int .u64 (c : Int)) := RLgIs.cell HQ2.out 5
      have ha0 : ¬ ((a : Int) = 0) := by have := HAB.out.1; omega
      have hce := HC.out
      have hcle : ¬ (256 * (sz - 2) < (c : Int)) := by omega
      have hw1 : IntKind.u64.wrap (256 * (sz - 2)) = 256 * (sz - 2) := wrap_u64 _ (by omega) (by omega)
      go_wp2_with fail
      clear c3 c5
      have HB2 := Lib.hid HBW.out
      go_loopw [14] (fun iv wy => ∃ k : Nat, iv = .int .i64 (2 + (k : Int)) ∧ 2 + (k : Int) ≤ sz ∧ ∃ bv, RLgIs wy w.heap.size (RLg R fi sz a b c bv (.slice none 0 0)) ∧ Own wy (w.heap.size + 1) bv (arB s.f (fi + 2) k) ∧ Below w.heap.size w wy) (fun iv _ => (sz - intOf iv).toNat)
      case atStart => exact ⟨0, rfl, by omega, .slice none 0 0, HQ2.out, Own.nil _ _, HB2.out⟩
      case round =>
        obtain ⟨k, rfl, hk, bv, hq, ho, hbw⟩ := hrel
        have hnb2 : bv.ownBlock ≠ some w.heap.size := fun e => by have := (ho.lt _ e).1; omega
        have hal := arB_len s.f (fi + 2) HFL.out k
        obtain ⟨ba, bc, hbv⟩ := own_form ho
        subst hbv
        have HQK := Lib.hid hq
        have HOK := Lib.hid ho
        have HNB := Lib.hid hnb2
        have HBK := Lib.hid hbw
        by_cases hlt : 2 + (k : Int) < sz
        · obtain ⟨l, hl⟩ : ∃ l, s.f (fi + (2 + (k : Int))) = l := ⟨_, rfl⟩
          have hll : l.length = 256 := by rw [← hl]; exact HFL.out _
          have HNX := Lib.hid (show arB s.f (fi + 2) (k + 1) = arB s.f (fi + 2) k ++ l by rw [arB, ← hl, Int.add_assoc])
          have HLL := Lib.hid hll
          have SL := Lib.hid (show (ArrU8 l).size = 256 by rw [ArrU8_size, hll])
          have hrd := rd_yes (HD.out.fresh hbw) HDN.out (fi + (2 + (k : Int))) (by omega) (by omega)
          rw [hl] at hrd
          have HRD := Lib.hid hrd
          have hw2 : IntKind.i64.wrap (fi + (2 + (k : Int))) = fi + (2 + (k : Int)) := wrap_i64 _ (by omega) (by omega)
          obtain ⟨B1, hB1⟩ : ∃ B1, arB s.f (fi + 2) k = B1 := ⟨_, rfl⟩
          rw [hB1] at hal HOK HNX HQK HNB
          have HAL := Lib.hid (show B1.length ≤ 1048576 by rw [hal]; omega)
          clear hq ho hnb2 hbw hl hrd hll hB1 hal
          go_wp2_with fail
          refine HRD.out.mono ?_
          rintro e wa ⟨rfl, hb⟩
          have XA := Lib.hid hb
          clear hb
          obtain ⟨X, hX⟩ : ∃ X, wa.heap.size = X := ⟨_, rfl⟩
          have HXE := Lib.hid hX
          clear hX
          go_wp2_with (refine wpList_store_nwL rfl 52 (Operand.tmp 15) (Operand.tmp 101) rfl wa _ 52 rfl wa.heap.size (ArrU8 l) rfl rfl rfl (by rw [HI35.out, SL.out]) (by rw [SZ.out, SL.out]) (ArrU8_one _) ?_; intro wb hd hb hs; have QB := Lib.hid hd; have XB := Lib.hid hb; have SB := Lib.hid hs; clear hd hb hs)
          rw [HXE.out] at QB XB SB ⊢
          have XAB := Lib.hid (show Below wr.heap.size wr wb from XA.out.trans (XB.out.mono (by have := HXE.out; have := XA.out.size; omega)))
          have HQB := Lib.hid (HQK.out.chg (Chg.fresh (F := fun _ => False) XAB.out) (fun h => h))
          have HOB := Lib.hid (HOK.out.below XAB.out (Nat.le_refl _))
          have HBB := Lib.hid (HBK.out.trans (XAB.out.mono HBK.out.size))
          have HBSL := Lib.hid (show Bs wb (.slice (some ⟨X, 0, none⟩) 256 256) l from by have := bs_part (show wb.heap[X]? = some (.cells (l.map (Value.int .u8)).toArray 52 (0, 0)) from QB.out) 0 256 256 (by rw [HLL.out]; decide) (by decide); rwa [List.drop_zero, List.take_of_length_le (by rw [HLL.out]; decide)] at this)
          have hall := fun u => slice35_all u X
          refine wp_region_held_drew (S := fun _ => True) (by kernel_rfl) (trivial) (fun hHeld => ?_)
          refine wpAnyH_take (i := 0) (oi := ({ dst := some 106, op := Op.move (Operand.tmp 9), type := 30, pos := "ref.go:103", after := #[], guard := none } : Oper)) (v := ?_) rfl (by kernel_rfl) (by kernel_rfl) (by kernel_rfl) (fun _ _ _ h => h) (Or.inl ⟨by rfl, ?_⟩) (by assumption) ?_
          rotate_left 1
          · (intro u hSw; go_simp; try with_reducible rfl)
          try simp only [Act.put, List.setIfInBounds_toArray, List.set_cons_zero, List.set_cons_succ]
          refine wpAnyH_take (i := 1) (oi := ({ dst := some 107, op := Op.move (Operand.tmp 9), type := 30, pos := "ref.go:103", after := #[], guard := none } : Oper)) (v := ?_) rfl (by kernel_rfl) (by kernel_rfl) (by kernel_rfl) (fun _ _ _ h => h) (Or.inl ⟨by rfl, ?_⟩) (by assumption) ?_
          rotate_left 1
          · (intro u hSw; go_simp; try with_reducible rfl)
          try simp only [Act.put, List.setIfInBounds_toArray, List.set_cons_zero, List.set_cons_succ]
          refine wpAnyH_take (i := 2) (oi := ({ dst := some 108, op := Op.nilCheck (Operand.tmp 107), type := 0, pos := "ref.go:103", after := #[{ on := 1, ground := Ground.data }], guard := none } : Oper)) (v := ?_) rfl (by kernel_rfl) (by kernel_rfl) (by kernel_rfl) (fun _ _ _ h => h) (Or.inl ⟨by rfl, ?_⟩) (by assumption) ?_
          rotate_left 1
          · (intro u hSw; go_simp; try with_reducible rfl)
          try simp only [Act.put, List.setIfInBounds_toArray, List.set_cons_zero, List.set_cons_succ]
          refine wpAnyH_take (i := 3) (oi := ({ dst := some 109, op := Op.fieldAddr 92 (Operand.tmp 108) 6, type := 0, pos := "ref.go:103", after := #[{ on := 2, ground := Ground.data }], guard := none } : Oper)) (v := ?_) rfl (by kernel_rfl) (by kernel_rfl) (by kernel_rfl) (fun _ _ _ h => h) (Or.inl ⟨by rfl, ?_⟩) (by assumption) ?_
          rotate_left 1
          · (intro u hSw; go_simp; try with_reducible rfl)
          try simp only [Act.put, List.setIfInBounds_toArray, List.set_cons_zero, List.set_cons_succ]
          refine wpAnyH_take (i := 5) (oi := ({ dst := some 111, op := Op.slice 52 (Operand.tmp 15) none none none, type := 39, pos := "ref.go:103", after := #[], guard := none } : Oper)) (v := ?_) rfl (by kernel_rfl) (by kernel_rfl) (by kernel_rfl) (fun _ _ _ h => h) (Or.inl ⟨by rfl, ?_⟩) (by assumption) ?_
          rotate_left 1
          · intro u hSw
            have hs := hall u
            go_simp
            try with_reducible rfl
          try simp only [Act.put, List.setIfInBounds_toArray, List.set_cons_zero, List.set_cons_succ]
          refine wpAnyH_ready (rs := [4]) (by kernel_rfl) (by simp) ?_
          refine AllReadyH.cons (o := ({ dst := some 110, op := Op.load 39 (Operand.tmp 109), type := 39, pos := "ref.go:103", after := #[{ on := 3, ground := Ground.data }], guard := none } : Oper)) rfl (fun K hK => ?_) AllReadyH.nil
          refine step_of_run rfl (exec_load_u8s (Operand.tmp 109) rfl w.heap.size 6 rfl (.slice ba B1.length bc) (show wb.drew.cell? ⟨w.heap.size, 6, none⟩ = _ from RLgIs.cell HQB.out 6)) ?_
          refine hK.out _ _ trivial (fun hHeld => ?_)
          clear hK K
          try simp only [Act.put, List.setIfInBounds_toArray, List.set_cons_zero, List.set_cons_succ]
          refine wpAnyH_ready (rs := [6]) (by kernel_rfl) (by simp) ?_
          refine AllReadyH.cons (o := ({ dst := some 112, op := Op.call { callee := Callee.builtin Builtin.append, args := #[Operand.tmp 110, Operand.tmp 111], argTypes := #[39, 39] }, type := 39, pos := "ref.go:103", after := #[{ on := 4, ground := Ground.data }, { on := 5, ground := Ground.data }], guard := none } : Oper)) rfl (fun K hK => ?_) AllReadyH.nil
          refine step_append_OwnT rfl (Operand.tmp 110) (Operand.tmp 111) rfl (w.heap.size + 1) (.slice ba B1.length bc) B1 rfl (HOB.out.below (Below.refl wb.heap.size wb).drew (Nat.le_refl _)) (.slice (some ⟨X, 0, none⟩) 256 256) l rfl (HBSL.out.below (Below.refl wb.heap.size wb).drew) (by have := HAL.out; rw [HLL.out]; omega) (by have := HQB.out.lt; exact this) ?_
          intro v' w1 ho1 hc1
          rw [← HNX.out] at ho1
          obtain ⟨na, nc, hnv⟩ := own_form ho1
          subst hnv
          have HO1 := Lib.hid ho1
          have HC1 := Lib.hid (show Chg (fun g => (Value.slice ba B1.length bc).ownBlock = some g) wb w1 from (Chg.fresh (F := fun g => (Value.slice ba B1.length bc).ownBlock = some g) (show Below wb.heap.size wb wb.drew from (Below.refl _ _).drew)).trans hc1 (fun g hg => .inl hg))
          have HQ1 := Lib.hid (HQB.out.chg HC1.out HNB.out)
          clear ho1 hc1
          refine hK.out _ _ trivial (fun hHeld => ?_)
          clear hK K
          try simp only [Act.put, List.setIfInBounds_toArray, List.set_cons_zero, List.set_cons_succ]
          refine wpAnyH_take (i := 7) (oi := ({ dst := some 113, op := Op.nilCheck (Operand.tmp 106), type := 0, pos := "ref.go:103", after := #[{ on := 0, ground := Ground.data }, { on := 0, ground := Ground.phase }, { on := 1, ground := Ground.phase }, { on := 2, ground := Ground.phase }, { on := 3, ground := Ground.phase }, { on := 4, ground := Ground.phase }, { on := 5, ground := Ground.phase }, { on := 6, ground := Ground.phase }], guard := none } : Oper)) (v := ?_) rfl (by kernel_rfl) (by kernel_rfl) (by kernel_rfl) (fun _ _ _ h => h) (Or.inl ⟨by rfl, ?_⟩) (by assumption) ?_
          rotate_left 1
          · (intro u hSw; go_simp; try with_reducible rfl)
          try simp only [Act.put, List.setIfInBounds_toArray, List.set_cons_zero, List.set_cons_succ]
          refine wpAnyH_take (i := 8) (oi := ({ dst := some 114, op := Op.fieldAddr 92 (Operand.tmp 113) 6, type := 0, pos := "ref.go:103", after := #[{ on := 7, ground := Ground.data }, { on := 0, ground := Ground.phase }, { on := 1, ground := Ground.phase }, { on := 2, ground := Ground.phase }, { on := 3, ground := Ground.phase }, { on := 4, ground := Ground.phase }, { on := 5, ground := Ground.phase }, { on := 6, ground := Ground.phase }], guard := none } : Oper)) (v := ?_) rfl (by kernel_rfl) (by kernel_rfl) (by kernel_rfl) (fun _ _ _ h => h) (Or.inl ⟨by rfl, ?_⟩) (by assumption) ?_
          rotate_left 1
          · (intro u hSw; go_simp; try with_reducible rfl)
          try simp only [Act.put, List.setIfInBounds_toArray, List.set_cons_zero, List.set_cons_succ]
          refine wpAnyH_ready (rs := [9]) (by kernel_rfl) (by simp) ?_
          refine AllReadyH.cons (o := ({ dst := none, op := Op.store 39 (Operand.tmp 114) (Operand.tmp 112), type := 0, pos := "ref.go:103", after := #[{ on := 8, ground := Ground.data }, { on := 6, ground := Ground.data }, { on := 6, ground := Ground.chain }, { on := 0, ground := Ground.phase }, { on := 1, ground := Ground.phase }, { on := 2, ground := Ground.phase }, { on := 3, ground := Ground.phase }, { on := 4, ground := Ground.phase }, { on := 5, ground := Ground.phase }, { on := 6, ground := Ground.phase }], guard := none } : Oper)) rfl (fun K hK => ?_) AllReadyH.nil
          refine step_of_skip rfl (exec_store_u8s (Operand.tmp 114) (Operand.tmp 112) rfl w.heap.size 6 rfl na (arB s.f (fi + 2) (k + 1)).length nc rfl (.slice ba B1.length bc) (RLgIs.cell HQ1.out 6) (RLgIs.frozen HQ1.out 6)) ?_
          refine hK.out _ _ trivial (fun hHeld => ?_)
          clear hK K
          try simp only [Act.put]
          refine wpAnyH_done (by kernel_rfl) ?_ _
          have HOO := Lib.hid (HO1.out.lt)
          go_wp2_with fail
          go_roundw
          case rel =>
            have hc2 : Chg (fun k => k = w.heap.size) w1 (w1.setCell ⟨w.heap.size, 6, none⟩ (.slice na (arB s.f (fi + 2) (k + 1)).length nc)) := (Chg.refl _ _).setCell _ _ (.inl rfl)
            have ho2 := HO1.out.chg hc2 (fun g hg e => by have := (HOO.out g hg).1; omega)
            have hb2 := HC1.out.below (B := w.heap.size) (fun g hg => by have := (HOB.out.lt g hg).1; omega) HBB.out.size
            exact ⟨k + 1, by go_num, by omega, _, RLgIs.set HQ1.out 6 _, ho2, (HBB.out.trans hb2).trans (hc2.below (fun g hg => by omega) (by have := HBB.out.size; have := hb2.size; omega))⟩
          case measure => simp [intOf]; omega
        · have hk2 : 2 + (k : Int) = sz := by omega
          have hce2 := HC.out
          have hkc : c ≤ 256 * k := by omega
          have hnz : 256 * k ≤ 4194304 := by omega
          obtain ⟨bl, hbl⟩ : ∃ bl, arB s.f (fi + 2) k = bl := ⟨_, rfl⟩
          have HBT := Lib.hid (show bl.take c = encs rs by rw [← hbl, areaB_eq s.f (fi + 2) HFL.out k c hkc]; exact HAR.out)
          rw [hbl] at hal HOK HQK HNB ho
          clear hbl hq hnb2 hbw
          obtain ⟨g, cap, hga, hle⟩ : ∃ g cap, (Value.slice ba bl.length bc) = .slice (some ⟨g, 0, none⟩) bl.length cap ∧ bl.length ≤ cap := by
            rcases ho.2 with ⟨h, h0⟩ | ⟨g, cap, cur, h, _, _, hle, _⟩
            · exfalso; omega
            · exact ⟨g, cap, h, hle⟩
          injection hga with e1 e2 e3
          subst e1 e3
          clear e2 ho
          have HOC := Lib.hid (own_take HOK.out c (by omega))
          rw [HBT.out] at HOC
          have hslc := fun u => slice_h_u u g bl.length bc c (by omega) hle
          have c5 : wr.cell? ⟨w.heap.size, 5, none⟩ = some (.int .u64 (c : Int)) := RLgIs.cell HQK.out 5
          have HC5 := Lib.hid c5
          clear c5
          have hsn : ¬ (2 + (k : Int) < sz) := hlt
          clear hal
          go_wp2_with fail
          refine wp_region_held_drew (S := fun u => u.cell? ⟨w.heap.size, 5, none⟩ = some (.int .u64 (c : Int))) (by kernel_rfl) ((show wr.cell? ⟨w.heap.size, 5, none⟩ = _ from HC5.out)) (fun hHeld => ?_)
          refine wpAnyH_take (i := 0) (oi := ({ dst := some 115, op := Op.move (Operand.tmp 9), type := 30, pos := "ref.go:105", after := #[], guard := none } : Oper)) (v := ?_) rfl (by kernel_rfl) (by kernel_rfl) (by kernel_rfl) (fun _ _ _ h => h) (Or.inl ⟨by rfl, ?_⟩) (by assumption) ?_
          rotate_left 1
          · (intro u hSw; go_simp; try with_reducible rfl)
          try simp only [Act.put, List.setIfInBounds_toArray, List.set_cons_zero, List.set_cons_succ]
          refine wpAnyH_take (i := 1) (oi := ({ dst := some 116, op := Op.move (Operand.tmp 9), type := 30, pos := "ref.go:105", after := #[], guard := none } : Oper)) (v := ?_) rfl (by kernel_rfl) (by kernel_rfl) (by kernel_rfl) (fun _ _ _ h => h) (Or.inl ⟨by rfl, ?_⟩) (by assumption) ?_
          rotate_left 1
          · (intro u hSw; go_simp; try with_reducible rfl)
          try simp only [Act.put, List.setIfInBounds_toArray, List.set_cons_zero, List.set_cons_succ]
          refine wpAnyH_take (i := 2) (oi := ({ dst := some 117, op := Op.nilCheck (Operand.tmp 116), type := 0, pos := "ref.go:105", after := #[{ on := 1, ground := Ground.data }], guard := none } : Oper)) (v := ?_) rfl (by kernel_rfl) (by kernel_rfl) (by kernel_rfl) (fun _ _ _ h => h) (Or.inl ⟨by rfl, ?_⟩) (by assumption) ?_
          rotate_left 1
          · (intro u hSw; go_simp; try with_reducible rfl)
          try simp only [Act.put, List.setIfInBounds_toArray, List.set_cons_zero, List.set_cons_succ]
          refine wpAnyH_take (i := 3) (oi := ({ dst := some 118, op := Op.fieldAddr 92 (Operand.tmp 117) 6, type := 0, pos := "ref.go:105", after := #[{ on := 2, ground := Ground.data }], guard := none } : Oper)) (v := ?_) rfl (by kernel_rfl) (by kernel_rfl) (by kernel_rfl) (fun _ _ _ h => h) (Or.inl ⟨by rfl, ?_⟩) (by assumption) ?_
          rotate_left 1
          · (intro u hSw; go_simp; try with_reducible rfl)
          try simp only [Act.put, List.setIfInBounds_toArray, List.set_cons_zero, List.set_cons_succ]
          refine wpAnyH_take (i := 5) (oi := ({ dst := some 120, op := Op.move (Operand.tmp 9), type := 30, pos := "ref.go:105", after := #[], guard := none } : Oper)) (v := ?_) rfl (by kernel_rfl) (by kernel_rfl) (by kernel_rfl) (fun _ _ _ h => h) (Or.inl ⟨by rfl, ?_⟩) (by assumption) ?_
          rotate_left 1
          · (intro u hSw; go_simp; try with_reducible rfl)
          try simp only [Act.put, List.setIfInBounds_toArray, List.set_cons_zero, List.set_cons_succ]
          refine wpAnyH_take (i := 6) (oi := ({ dst := some 121, op := Op.nilCheck (Operand.tmp 120), type := 0, pos := "ref.go:105", after := #[{ on := 5, ground := Ground.data }], guard := none } : Oper)) (v := ?_) rfl (by kernel_rfl) (by kernel_rfl) (by kernel_rfl) (fun _ _ _ h => h) (Or.inl ⟨by rfl, ?_⟩) (by assumption) ?_
          rotate_left 1
          · (intro u hSw; go_simp; try with_reducible rfl)
          try simp only [Act.put, List.setIfInBounds_toArray, List.set_cons_zero, List.set_cons_succ]
          refine wpAnyH_take (i := 7) (oi := ({ dst := some 122, op := Op.fieldAddr 92 (Operand.tmp 121) 5, type := 0, pos := "ref.go:105", after := #[{ on := 6, ground := Ground.data }], guard := none } : Oper)) (v := ?_) rfl (by kernel_rfl) (by kernel_rfl) (by kernel_rfl) (fun _ _ _ h => h) (Or.inl ⟨by rfl, ?_⟩) (by assumption) ?_
          rotate_left 1
          · (intro u hSw; go_simp; try with_reducible rfl)
          try simp only [Act.put, List.setIfInBounds_toArray, List.set_cons_zero, List.set_cons_succ]
          refine wpAnyH_take (i := 8) (oi := ({ dst := some 123, op := Op.load 60 (Operand.tmp 122), type := 60, pos := "ref.go:105", after := #[{ on := 7, ground := Ground.data }], guard := none } : Oper)) (v := ?_) rfl (by kernel_rfl) (by kernel_rfl) (by kernel_rfl) (fun _ _ _ h => h) (Or.inl ⟨by rfl, ?_⟩) (by assumption) ?_
          rotate_left 1
          · intro u hSw
            have p5 := hSw
            go_simp
            try with_reducible rfl
          try simp only [Act.put, List.setIfInBounds_toArray, List.set_cons_zero, List.set_cons_succ]
          refine wpAnyH_ready (rs := [4]) (by kernel_rfl) (by simp) ?_
          refine AllReadyH.cons (o := ({ dst := some 119, op := Op.load 39 (Operand.tmp 118), type := 39, pos := "ref.go:105", after := #[{ on := 3, ground := Ground.data }], guard := none } : Oper)) rfl (fun K hK => ?_) AllReadyH.nil
          refine step_of_run rfl (exec_load_u8s (Operand.tmp 118) rfl w.heap.size 6 rfl (.slice (some ⟨g, 0, none⟩) bl.length bc) (show wr.cell? ⟨w.heap.size, 6, none⟩ = _ from RLgIs.cell HQK.out 6)) ?_
          refine hK.out _ _ (show wr.cell? ⟨w.heap.size, 5, none⟩ = _ from HC5.out) (fun hHeld => ?_)
          clear hK K
          try simp only [Act.put, List.setIfInBounds_toArray, List.set_cons_zero, List.set_cons_succ]
          refine wpAnyH_take (i := 9) (oi := ({ dst := some 124, op := Op.slice 39 (Operand.tmp 119) none (some (Operand.tmp 123)) none, type := 39, pos := "ref.go:105", after := #[{ on := 4, ground := Ground.data }, { on := 8, ground := Ground.data }], guard := none } : Oper)) (v := (.slice (some ⟨g, 0, none⟩) c bc)) rfl (by kernel_rfl) (by kernel_rfl) (by kernel_rfl) (fun _ _ _ h => h) (Or.inl ⟨by rfl, ?_⟩) (by assumption) ?_
          · intro u hSw
            exact exec_slice_u8s (Operand.tmp 119) none (some (Operand.tmp 123)) rfl (some ⟨g, 0, none⟩) bl.length bc rfl none (some (.int .u64 (c : Int))) rfl rfl _ (hslc u)
          try simp only [Act.put, List.setIfInBounds_toArray, List.set_cons_zero, List.set_cons_succ]
          refine wpAnyH_take (i := 10) (oi := ({ dst := some 125, op := Op.nilCheck (Operand.tmp 115), type := 0, pos := "ref.go:105", after := #[{ on := 0, ground := Ground.data }, { on := 0, ground := Ground.phase }, { on := 1, ground := Ground.phase }, { on := 2, ground := Ground.phase }, { on := 3, ground := Ground.phase }, { on := 4, ground := Ground.phase }, { on := 5, ground := Ground.phase }, { on := 6, ground := Ground.phase }, { on := 7, ground := Ground.phase }, { on := 8, ground := Ground.phase }, { on := 9, ground := Ground.phase }], guard := none } : Oper)) (v := ?_) rfl (by kernel_rfl) (by kernel_rfl) (by kernel_rfl) (fun _ _ _ h => h) (Or.inl ⟨by rfl, ?_⟩) (by assumption) ?_
          rotate_left 1
          · (intro u hSw; go_simp; try with_reducible rfl)
          try simp only [Act.put, List.setIfInBounds_toArray, List.set_cons_zero, List.set_cons_succ]
          refine wpAnyH_take (i := 11) (oi := ({ dst := some 126, op := Op.fieldAddr 92 (Operand.tmp 125) 6, type := 0, pos := "ref.go:105", after := #[{ on := 10, ground := Ground.data }, { on := 0, ground := Ground.phase }, { on := 1, ground := Ground.phase }, { on := 2, ground := Ground.phase }, { on := 3, ground := Ground.phase }, { on := 4, ground := Ground.phase }, { on := 5, ground := Ground.phase }, { on := 6, ground := Ground.phase }, { on := 7, ground := Ground.phase }, { on := 8, ground := Ground.phase }, { on := 9, ground := Ground.phase }], guard := none } : Oper)) (v := ?_) rfl (by kernel_rfl) (by kernel_rfl) (by kernel_rfl) (fun _ _ _ h => h) (Or.inl ⟨by rfl, ?_⟩) (by assumption) ?_
          rotate_left 1
          · (intro u hSw; go_simp; try with_reducible rfl)
          try simp only [Act.put, List.setIfInBounds_toArray, List.set_cons_zero, List.set_cons_succ]
          refine wpAnyH_ready (rs := [12]) (by kernel_rfl) (by simp) ?_
          refine AllReadyH.cons (o := ({ dst := none, op := Op.store 39 (Operand.tmp 126) (Operand.tmp 124), type := 0, pos := "ref.go:105", after := #[{ on := 11, ground := Ground.data }, { on := 9, ground := Ground.data }, { on := 0, ground := Ground.phase }, { on := 1, ground := Ground.phase }, { on := 2, ground := Ground.phase }, { on := 3, ground := Ground.phase }, { on := 4, ground := Ground.phase }, { on := 5, ground := Ground.phase }, { on := 6, ground := Ground.phase }, { on := 7, ground := Ground.phase }, { on := 8, ground := Ground.phase }, { on := 9, ground := Ground.phase }], guard := none } : Oper)) rfl (fun K hK => ?_) AllReadyH.nil
          refine step_of_skip rfl (exec_store_u8s (Operand.tmp 126) (Operand.tmp 124) rfl w.heap.size 6 rfl (some ⟨g, 0, none⟩) c bc rfl (.slice (some ⟨g, 0, none⟩) bl.length bc) (show wr.cell? ⟨w.heap.size, 6, none⟩ = _ from RLgIs.cell HQK.out 6) (show wr.frozen? ⟨w.heap.size, 6, none⟩ = false from RLgIs.frozen HQK.out 6)) ?_
          have HQ6 := Lib.hid (show RLgIs (wr.drew.setCell ⟨w.heap.size, 6, none⟩ (.slice (some ⟨g, 0, none⟩) c bc)) w.heap.size (RLg R fi sz a b c (.slice (some ⟨g, 0, none⟩) c bc) (.slice none 0 0)) from RLgIs.set (w := wr.drew) HQK.out 6 _)
          refine hK.out _ _ (RLgIs.cell HQ6.out 5) (fun hHeld => ?_)
          clear hK K
          try simp only [Act.put]
          refine wpAnyH_done (by kernel_rfl) ?_ _
          have hc6 : Chg (fun k => k = w.heap.size) wr (wr.drew.setCell ⟨w.heap.size, 6, none⟩ (.slice (some ⟨g, 0, none⟩) c bc)) := (Chg.refl (fun k => k = w.heap.size) wr).drew.setCell _ _ (.inl rfl)
          have HO6 := Lib.hid (HOC.out.chg hc6 (fun g hg e => by have := (HOC.out.lt g hg).1; omega))
          have HB6 := Lib.hid (HBK.out.trans (hc6.below (fun k hk => by omega) HBK.out.size))
          clear hc6 hslc
          generalize wr.drew.setCell ⟨w.heap.size, 6, none⟩ (.slice (some ⟨g, 0, none⟩) c bc) = w6 at *
          have hb7 : Below w6.heap.size w6 (w6.alloc (.cells #[] 39)) := (Below.refl _ _).alloc (Nat.le_refl _) _
          have HQ7 := Lib.hid (HQ6.out.chg (Chg.fresh (F := fun _ => False) hb7) (fun h => h))
          have HO7 := Lib.hid (HO6.out.below hb7 (Nat.le_refl _))
          have HB7 := Lib.hid (HB6.out.trans (hb7.mono HB6.out.size))
          have HP7 := Lib.hid (show OwnPs 39 5 (w6.alloc (.cells #[] 39)) w6.heap.size (.slice (some ⟨w6.heap.size, 0, none⟩) 0 0) [] from ⟨[], World.ownsRow_lit w6 #[] 0 (Nat.le_refl _) (Nat.zero_le _) (by simp), fun i hi => by simp at hi⟩)
          have HGL := Lib.hid (show g < w6.heap.size ∧ w.heap.size < g from ⟨(HO6.out.lt g rfl).2, by have := (HO6.out.lt g rfl).1; omega⟩)
          have WSIZ := Lib.hid (show w6.heap.size ≤ (w6.alloc (.cells #[] 39)).heap.size from hb7.size)
          clear hb7
          go_wp2_with fail
          generalize w6.alloc (.cells #[] 39) = w7 at *
          go_loopw [17, 18] (fun ov tv wy => ∃ j : Nat, tv = .int .u64 ((encs (rs.take j)).length : Int) ∧ j ≤ rs.length ∧ RLgIs wy w.heap.size (RLg R fi sz a b c (.slice (some ⟨g, 0, none⟩) c bc) (.slice none 0 0)) ∧ Own wy (w.heap.size + 1) (.slice (some ⟨g, 0, none⟩) c bc) (encs rs) ∧ OwnPs 39 5 wy w6.heap.size ov (rs.take j) ∧ Below w6.heap.size w7 wy) (fun _ tv _ => (c - intOf tv).toNat)
          case atStart => exact ⟨0, rfl, Nat.zero_le _, HQ7.out, HO7.out, HP7.out, Below.refl _ _⟩
          case round =>
            obtain ⟨j, rfl, hj, hq, ho, hp, hbw⟩ := hrel
            have HQJ := Lib.hid hq
            have HOJ := Lib.hid ho
            have HPJ := Lib.hid hp
            have HBJ := Lib.hid hbw
            have c5 : wr.cell? ⟨w.heap.size, 5, none⟩ = some (.int .u64 (c : Int)) := RLgIs.cell HQJ.out 5
            by_cases hlt3 : j < rs.length
            · obtain ⟨r, hrj⟩ : ∃ r, rs[j]? = some r := ⟨_, List.getElem?_eq_getElem hlt3⟩
              have hd2 : rs.drop j = r :: rs.drop (j + 1) := by
                rw [List.drop_eq_getElem_cons hlt3]
                congr 1
                rw [List.getElem?_eq_getElem hlt3] at hrj
                exact Option.some.inj hrj
              have htk : rs.take (j + 1) = rs.take j ++ [r] := by rw [List.take_add_one, hrj]; rfl
              have hrr : Rng r := HRS.out r (List.mem_of_getElem? hrj)
              have hsp : encs rs = encs (rs.take j) ++ encs (r :: rs.drop (j + 1)) := by rw [← hd2, ← encs_append, List.take_append_drop]
              have hce3 := HC.out
              have hcc : c ≤ 1048576 := by omega
              have hel := HEL.out
              have hlen2 : (encs (rs.take j)).length + (encs (r :: rs.drop (j + 1))).length = c := by rw [← hel, hsp, List.length_append]
              have hr64 : r.length < 18446744073709551616 := by
                rw [encs_cons] at hlen2
                simp at hlen2
                omega
              obtain ⟨he1, he2, he3, he4⟩ := encs_head r (rs.drop (j + 1)) hr64
              have HENC := Lib.hid (show (encs (rs.take (j + 1))).length = (encs (rs.take j)).length + (8 + r.length) by rw [htk, encs_snoc, List.length_append, List.length_append, be8_len]; omega)
              have hdT : (encs rs).drop (encs (rs.take j)).length = encs (r :: rs.drop (j + 1)) := by rw [hsp, List.drop_left]
              obtain ⟨T, hT⟩ : ∃ T, (encs (rs.take j)).length = T := ⟨_, rfl⟩
              obtain ⟨E, hE⟩ : ∃ E, encs (r :: rs.drop (j + 1)) = E := ⟨_, rfl⟩
              rw [hT] at HENC hlen2 hdT ⊢
              rw [hE] at hlen2 hdT he1 he2 he3
              have hbsb : BsB wr wr.heap.size (.slice (some ⟨g, 0, none⟩) c bc) (encs rs) := ⟨ho.bs, fun ad n cc e h0 => (ho.lt ad.block (by rw [e]; rfl)).2⟩
              obtain ⟨sa1, sn1, sc1, hsl1, hs1⟩ := slice_bsb_lu hbsb T (by rw [hel]; omega)
              obtain ⟨sa2, sn2, sc2, hsl2, hs2⟩ := slice_bsb_u hbsb (T + 8) (T + 8 + r.length) (by omega) (by rw [hel]; omega)
              rw [hdT] at hs1
              have hrb : ((encs rs).drop (T + 8)).take (T + 8 + r.length - (T + 8)) = r := by
                rw [← List.drop_drop, hdT, show T + 8 + r.length - (T + 8) = 8 + r.length - 8 by omega]
                exact he3
              rw [hrb] at hs2
              rw [show ((T + 8 : Nat) : Int) = (T : Int) + 8 by omega, show ((T + 8 + r.length : Nat) : Int) = (T : Int) + 8 + (r.length : Int) by omega] at hsl2
              have hEr : Rng E := by rw [← hE]; exact encs_rng (fun x hx => (List.mem_cons.1 hx).elim (fun h => by rw [h]; exact hrr) (fun h => HRS.out x (List.mem_of_mem_drop h)))
              have HRD1 := Lib.hid (show ∀ u, Below wr.heap.size wr u → Calls Try.prog 92 #[.slice sa1 sn1 sc1] u fun e w' => u = w' ∧ e = .returned (.int .u64 (r.length : Int)) from fun u hb => by
                have h := rrd_any _ E u (hs1.1.below hb) hEr (by omega) (by omega)
                rw [he2] at h
                exact h)
              have HS2 := Lib.hid hs2
              have HTK := Lib.hid htk
              have HSL1 := Lib.hid hsl1
              obtain ⟨n, hn⟩ : ∃ n, E.length = n := ⟨_, rfl⟩
              rw [hn] at hlen2 he1
              have hcT : (c : Int) - (T : Int) = (n : Int) := by omega
              have hTc : (T : Int) < (c : Int) := by omega
              have hn8 : ¬ (n : Int) < 8 := by omega
              have hgt : ¬ ((n : Int) - 8 < (r.length : Int)) := by omega
              have hw4 : IntKind.u64.wrap ((c : Int) - (T : Int)) = (n : Int) := by rw [hcT]; exact wrap_u64 _ (by omega) (by omega)
              have hw5 : IntKind.u64.wrap ((n : Int) - 8) = (n : Int) - 8 := wrap_u64 _ (by omega) (by omega)
              have hw6 : IntKind.u64.wrap ((T : Int) + 8) = (T : Int) + 8 := wrap_u64 _ (by omega) (by omega)
              have hw7 : IntKind.u64.wrap ((T : Int) + 8 + (r.length : Int)) = (T : Int) + 8 + (r.length : Int) := wrap_u64 _ (by omega) (by omega)
              have hw8 : IntKind.u64.wrap (8 + (r.length : Int)) = 8 + (r.length : Int) := wrap_u64 _ (by omega) (by omega)
              have hw9 : IntKind.u64.wrap ((T : Int) + (8 + (r.length : Int))) = (T : Int) + (8 + (r.length : Int)) := wrap_u64 _ (by omega) (by omega)
              have hwn : IntKind.u64.wrap (n : Int) = (n : Int) := wrap_u64 _ (by omega) (by omega)
              have HRLB := Lib.hid (show r.length ≤ 1048576 by omega)
              have HCC := Lib.hid hcc
              clear hq ho hp hbw hrj hd2 htk hrr hsp hel hr64 he2 he3 he4 hdT hT hE hbsb hs1 hs2 hrb hEr hn hsl1
              go_wp2_with fail
              clear c5
              refine wp_region_held_drew (S := fun u => RLgIs u w.heap.size (RLg R fi sz a b c (.slice (some ⟨g, 0, none⟩) c bc) (.slice none 0 0))) (by kernel_rfl) (HQJ.out) (fun hHeld => ?_)
              refine wpAnyH_take (i := 0) (oi := ({ dst := some 134, op := Op.move (Operand.tmp 9), type := 30, pos := "ref.go:108", after := #[], guard := none } : Oper)) (v := ?_) rfl (by kernel_rfl) (by kernel_rfl) (by kernel_rfl) (fun _ _ _ h => h) (Or.inl ⟨by rfl, ?_⟩) (by assumption) ?_
              rotate_left 1
              · (intro u hSw; go_simp; try with_reducible rfl)
              try simp only [Act.put, List.setIfInBounds_toArray, List.set_cons_zero, List.set_cons_succ]
              refine wpAnyH_take (i := 1) (oi := ({ dst := some 135, op := Op.nilCheck (Operand.tmp 134), type := 0, pos := "ref.go:108", after := #[{ on := 0, ground := Ground.data }], guard := none } : Oper)) (v := ?_) rfl (by kernel_rfl) (by kernel_rfl) (by kernel_rfl) (fun _ _ _ h => h) (Or.inl ⟨by rfl, ?_⟩) (by assumption) ?_
              rotate_left 1
              · (intro u hSw; go_simp; try with_reducible rfl)
              try simp only [Act.put, List.setIfInBounds_toArray, List.set_cons_zero, List.set_cons_succ]
              refine wpAnyH_take (i := 2) (oi := ({ dst := some 136, op := Op.fieldAddr 92 (Operand.tmp 135) 5, type := 0, pos := "ref.go:108", after := #[{ on := 1, ground := Ground.data }], guard := none } : Oper)) (v := ?_) rfl (by kernel_rfl) (by kernel_rfl) (by kernel_rfl) (fun _ _ _ h => h) (Or.inl ⟨by rfl, ?_⟩) (by assumption) ?_
              rotate_left 1
              · (intro u hSw; go_simp; try with_reducible rfl)
              try simp only [Act.put, List.setIfInBounds_toArray, List.set_cons_zero, List.set_cons_succ]
              refine wpAnyH_take (i := 3) (oi := ({ dst := some 137, op := Op.load 60 (Operand.tmp 136), type := 60, pos := "ref.go:108", after := #[{ on := 2, ground := Ground.data }], guard := none } : Oper)) (v := ?_) rfl (by kernel_rfl) (by kernel_rfl) (by kernel_rfl) (fun _ _ _ h => h) (Or.inl ⟨by rfl, ?_⟩) (by assumption) ?_
              rotate_left 1
              · intro u hSw
                have p5 : u.cell? ⟨w.heap.size, 5, none⟩ = some (.int .u64 (c : Int)) := RLgIs.cell hSw 5
                go_simp
                try with_reducible rfl
              try simp only [Act.put, List.setIfInBounds_toArray, List.set_cons_zero, List.set_cons_succ]
              refine wpAnyH_take (i := 4) (oi := ({ dst := some 138, op := Op.move (Operand.tmp 18), type := 60, pos := "ref.go:108", after := #[], guard := none } : Oper)) (v := ?_) rfl (by kernel_rfl) (by kernel_rfl) (by kernel_rfl) (fun _ _ _ h => h) (Or.inl ⟨by rfl, ?_⟩) (by assumption) ?_
              rotate_left 1
              · (intro u hSw; go_simp; try with_reducible rfl)
              try simp only [Act.put, List.setIfInBounds_toArray, List.set_cons_zero, List.set_cons_succ]
              refine wpAnyH_take (i := 5) (oi := ({ dst := some 139, op := Op.binOp BinOp.sub 60 (Operand.tmp 137) (Operand.tmp 138) 60, type := 60, pos := "ref.go:108", after := #[{ on := 3, ground := Ground.data }, { on := 4, ground := Ground.data }], guard := none } : Oper)) (v := (.int .u64 (n : Int))) rfl (by kernel_rfl) (by kernel_rfl) (by kernel_rfl) (fun _ _ _ h => h) (Or.inl ⟨by rfl, ?_⟩) (by assumption) ?_
              · (intro u hSw; go_simp; try with_reducible rfl)
              try simp only [Act.put, List.setIfInBounds_toArray, List.set_cons_zero, List.set_cons_succ]
              refine wpAnyH_take (i := 6) (oi := ({ dst := some 140, op := Op.binOp BinOp.lss 60 (Operand.tmp 139) (Operand.const (Value.int IntKind.u64 8)) 60, type := 4, pos := "ref.go:108", after := #[{ on := 5, ground := Ground.data }], guard := none } : Oper)) (v := (.bool false)) rfl (by kernel_rfl) (by kernel_rfl) (by kernel_rfl) (fun _ _ _ h => h) (Or.inl ⟨by rfl, ?_⟩) (by assumption) ?_
              · (intro u hSw; go_simp; try with_reducible rfl)
              try simp only [Act.put, List.setIfInBounds_toArray, List.set_cons_zero, List.set_cons_succ]
              refine wpAnyH_take (i := 7) (oi := ({ dst := some 141, op := Op.move (Operand.tmp 140), type := 4, pos := "ref.go:108", after := #[{ on := 6, ground := Ground.data }], guard := none } : Oper)) (v := ?_) rfl (by kernel_rfl) (by kernel_rfl) (by kernel_rfl) (fun _ _ _ h => h) (Or.inl ⟨by rfl, ?_⟩) (by assumption) ?_
              rotate_left 1
              · (intro u hSw; go_simp; try with_reducible rfl)
              try simp only [Act.put, List.setIfInBounds_toArray, List.set_cons_zero, List.set_cons_succ]
              refine wpAnyH_take (i := 8) (oi := ({ dst := some 142, op := Op.move (Operand.tmp 9), type := 30, pos := "ref.go:108", after := #[{ on := 7, ground := Ground.guard }], guard := some (7, false) } : Oper)) (v := ?_) rfl (by kernel_rfl) (by kernel_rfl) (by kernel_rfl) (fun _ _ _ h => h) (Or.inl ⟨by rfl, ?_⟩) (by assumption) ?_
              rotate_left 1
              · (intro u hSw; go_simp; try with_reducible rfl)
              try simp only [Act.put, List.setIfInBounds_toArray, List.set_cons_zero, List.set_cons_succ]
              refine wpAnyH_take (i := 9) (oi := ({ dst := some 143, op := Op.nilCheck (Operand.tmp 142), type := 0, pos := "ref.go:108", after := #[{ on := 8, ground := Ground.data }, { on := 7, ground := Ground.guard }], guard := some (7, false) } : Oper)) (v := ?_) rfl (by kernel_rfl) (by kernel_rfl) (by kernel_rfl) (fun _ _ _ h => h) (Or.inl ⟨by rfl, ?_⟩) (by assumption) ?_
              rotate_left 1
              · (intro u hSw; go_simp; try with_reducible rfl)
              try simp only [Act.put, List.setIfInBounds_toArray, List.set_cons_zero, List.set_cons_succ]
              refine wpAnyH_take (i := 10) (oi := ({ dst := some 144, op := Op.fieldAddr 92 (Operand.tmp 143) 6, type := 0, pos := "ref.go:108", after := #[{ on := 9, ground := Ground.data }, { on := 7, ground := Ground.guard }], guard := some (7, false) } : Oper)) (v := ?_) rfl (by kernel_rfl) (by kernel_rfl) (by kernel_rfl) (fun _ _ _ h => h) (Or.inl ⟨by rfl, ?_⟩) (by assumption) ?_
              rotate_left 1
              · (intro u hSw; go_simp; try with_reducible rfl)
              try simp only [Act.put, List.setIfInBounds_toArray, List.set_cons_zero, List.set_cons_succ]
              refine wpAnyH_take (i := 11) (oi := ({ dst := some 145, op := Op.load 39 (Operand.tmp 144), type := 39, pos := "ref.go:108", after := #[{ on := 10, ground := Ground.data }, { on := 7, ground := Ground.guard }], guard := some (7, false) } : Oper)) (v := (.slice (some ⟨g, 0, none⟩) c bc)) rfl (by kernel_rfl) (by kernel_rfl) (by kernel_rfl) (fun _ _ _ h => h) (Or.inl ⟨by rfl, ?_⟩) (by assumption) ?_
              · intro u hSw
                exact exec_load_u8s (Operand.tmp 144) rfl w.heap.size 6 rfl (.slice (some ⟨g, 0, none⟩) c bc) (RLgIs.cell hSw 6)
              try simp only [Act.put, List.setIfInBounds_toArray, List.set_cons_zero, List.set_cons_succ]
              refine wpAnyH_take (i := 12) (oi := ({ dst := some 146, op := Op.move (Operand.tmp 18), type := 60, pos := "ref.go:108", after := #[{ on := 7, ground := Ground.guard }], guard := some (7, false) } : Oper)) (v := ?_) rfl (by kernel_rfl) (by kernel_rfl) (by kernel_rfl) (fun _ _ _ h => h) (Or.inl ⟨by rfl, ?_⟩) (by assumption) ?_
              rotate_left 1
              · (intro u hSw; go_simp; try with_reducible rfl)
              try simp only [Act.put, List.setIfInBounds_toArray, List.set_cons_zero, List.set_cons_succ]
              refine wpAnyH_take (i := 13) (oi := ({ dst := some 147, op := Op.slice 39 (Operand.tmp 145) (some (Operand.tmp 146)) none none, type := 39, pos := "ref.go:108", after := #[{ on := 11, ground := Ground.data }, { on := 12, ground := Ground.data }, { on := 7, ground := Ground.guard }], guard := some (7, false) } : Oper)) (v := (.slice sa1 sn1 sc1)) rfl (by kernel_rfl) (by kernel_rfl) (by kernel_rfl) (fun _ _ _ h => h) (Or.inl ⟨by rfl, ?_⟩) (by assumption) ?_
              · intro u hSw
                exact exec_slice_u8s (Operand.tmp 145) (some (Operand.tmp 146)) none rfl (some ⟨g, 0, none⟩) c bc rfl (some (.int .u64 (T : Int))) none rfl rfl _ (HSL1.out u)
              try simp only [Act.put, List.setIfInBounds_toArray, List.set_cons_zero, List.set_cons_succ]
              refine wpAnyH_take (i := 15) (oi := ({ dst := some 149, op := Op.move (Operand.tmp 9), type := 30, pos := "ref.go:108", after := #[{ on := 7, ground := Ground.guard }], guard := some (7, false) } : Oper)) (v := ?_) rfl (by kernel_rfl) (by kernel_rfl) (by kernel_rfl) (fun _ _ _ h => h) (Or.inl ⟨by rfl, ?_⟩) (by assumption) ?_
              rotate_left 1
              · (intro u hSw; go_simp; try with_reducible rfl)
              try simp only [Act.put, List.setIfInBounds_toArray, List.set_cons_zero, List.set_cons_succ]
              refine wpAnyH_take (i := 16) (oi := ({ dst := some 150, op := Op.nilCheck (Operand.tmp 149), type := 0, pos := "ref.go:108", after := #[{ on := 15, ground := Ground.data }, { on := 7, ground := Ground.guard }], guard := some (7, false) } : Oper)) (v := ?_) rfl (by kernel_rfl) (by kernel_rfl) (by kernel_rfl) (fun _ _ _ h => h) (Or.inl ⟨by rfl, ?_⟩) (by assumption) ?_
              rotate_left 1
              · (intro u hSw; go_simp; try with_reducible rfl)
              try simp only [Act.put, List.setIfInBounds_toArray, List.set_cons_zero, List.set_cons_succ]
              refine wpAnyH_take (i := 17) (oi := ({ dst := some 151, op := Op.fieldAddr 92 (Operand.tmp 150) 5, type := 0, pos := "ref.go:108", after := #[{ on := 16, ground := Ground.data }, { on := 7, ground := Ground.guard }], guard := some (7, false) } : Oper)) (v := ?_) rfl (by kernel_rfl) (by kernel_rfl) (by kernel_rfl) (fun _ _ _ h => h) (Or.inl ⟨by rfl, ?_⟩) (by assumption) ?_
              rotate_left 1
              · (intro u hSw; go_simp; try with_reducible rfl)
              try simp only [Act.put, List.setIfInBounds_toArray, List.set_cons_zero, List.set_cons_succ]
              refine wpAnyH_take (i := 18) (oi := ({ dst := some 152, op := Op.load 60 (Operand.tmp 151), type := 60, pos := "ref.go:108", after := #[{ on := 17, ground := Ground.data }, { on := 7, ground := Ground.guard }], guard := some (7, false) } : Oper)) (v := ?_) rfl (by kernel_rfl) (by kernel_rfl) (by kernel_rfl) (fun _ _ _ h => h) (Or.inl ⟨by rfl, ?_⟩) (by assumption) ?_
              rotate_left 1
              · intro u hSw
                have p5 : u.cell? ⟨w.heap.size, 5, none⟩ = some (.int .u64 (c : Int)) := RLgIs.cell hSw 5
                go_simp
                try with_reducible rfl
              try simp only [Act.put, List.setIfInBounds_toArray, List.set_cons_zero, List.set_cons_succ]
              refine wpAnyH_take (i := 19) (oi := ({ dst := some 153, op := Op.move (Operand.tmp 18), type := 60, pos := "ref.go:108", after := #[{ on := 7, ground := Ground.guard }], guard := some (7, false) } : Oper)) (v := ?_) rfl (by kernel_rfl) (by kernel_rfl) (by kernel_rfl) (fun _ _ _ h => h) (Or.inl ⟨by rfl, ?_⟩) (by assumption) ?_
              rotate_left 1
              · (intro u hSw; go_simp; try with_reducible rfl)
              try simp only [Act.put, List.setIfInBounds_toArray, List.set_cons_zero, List.set_cons_succ]
              refine wpAnyH_take (i := 20) (oi := ({ dst := some 154, op := Op.binOp BinOp.sub 60 (Operand.tmp 152) (Operand.tmp 153) 60, type := 60, pos := "ref.go:108", after := #[{ on := 18, ground := Ground.data }, { on := 19, ground := Ground.data }, { on := 7, ground := Ground.guard }], guard := some (7, false) } : Oper)) (v := ?_) rfl (by kernel_rfl) (by kernel_rfl) (by kernel_rfl) (fun _ _ _ h => h) (Or.inl ⟨by rfl, ?_⟩) (by assumption) ?_
              rotate_left 1
              · (intro u hSw; go_simp; try with_reducible rfl)
              try simp only [Act.put, List.setIfInBounds_toArray, List.set_cons_zero, List.set_cons_succ]
              refine wpAnyH_take (i := 21) (oi := ({ dst := some 155, op := Op.binOp BinOp.sub 60 (Operand.tmp 154) (Operand.const (Value.int IntKind.u64 8)) 60, type := 60, pos := "ref.go:108", after := #[{ on := 20, ground := Ground.data }, { on := 7, ground := Ground.guard }], guard := some (7, false) } : Oper)) (v := ?_) rfl (by kernel_rfl) (by kernel_rfl) (by kernel_rfl) (fun _ _ _ h => h) (Or.inl ⟨by rfl, ?_⟩) (by assumption) ?_
              rotate_left 1
              · (intro u hSw; go_simp; try with_reducible rfl)
              try simp only [Act.put, List.setIfInBounds_toArray, List.set_cons_zero, List.set_cons_succ]
              refine wpAnyH_ready (rs := [14]) (by kernel_rfl) (by simp) ?_
              refine AllReadyH.cons (o := ({ dst := some 148, op := Op.call { callee := Callee.value (Operand.func 92), args := #[Operand.tmp 147], argTypes := #[39] }, type := 60, pos := "ref.go:108", after := #[{ on := 13, ground := Ground.data }, { on := 7, ground := Ground.chain }, { on := 7, ground := Ground.guard }], guard := some (7, false) } : Oper)) rfl (fun K hK => ?_) AllReadyH.nil
              go_simp
              go_at_call 92
              refine (HRD1.out _ (Below.refl _ _).drew).mono ?_
              rintro e wd ⟨rfl, rfl⟩
              go_wp2_with fail
              refine hK.out _ _ (show RLgIs wr.drew w.heap.size _ from HQJ.out) (fun hHeld => ?_)
              clear hK K
              try simp only [Act.put, List.setIfInBounds_toArray, List.set_cons_zero, List.set_cons_succ]
              refine wpAnyH_take (i := 22) (oi := ({ dst := some 156, op := Op.binOp BinOp.gtr 60 (Operand.tmp 148) (Operand.tmp 155) 60, type := 4, pos := "ref.go:108", after := #[{ on := 14, ground := Ground.data }, { on := 21, ground := Ground.data }, { on := 7, ground := Ground.guard }], guard := some (7, false) } : Oper)) (v := ?_) rfl (by kernel_rfl) (by kernel_rfl) (by kernel_rfl) (fun _ _ _ h => h) (Or.inl ⟨by rfl, ?_⟩) (by assumption) ?_
              rotate_left 1
              · (intro u hSw; go_simp; try with_reducible rfl)
              try simp only [Act.put, List.setIfInBounds_toArray, List.set_cons_zero, List.set_cons_succ]
              refine wpAnyH_take (i := 23) (oi := ({ dst := some 157, op := Op.pick (Operand.tmp 141) (Operand.const (Value.bool true)) (Operand.tmp 156), type := 4, pos := "ref.go:108", after := #[{ on := 7, ground := Ground.data }, { on := 22, ground := Ground.data }], guard := none } : Oper)) (v := ?_) rfl (by kernel_rfl) (by kernel_rfl) (by kernel_rfl) (fun _ _ _ h => h) (Or.inl ⟨by rfl, ?_⟩) (by assumption) ?_
              rotate_left 1
              · (intro u hSw; go_simp; try with_reducible rfl)
              try simp only [Act.put, List.setIfInBounds_toArray, List.set_cons_zero, List.set_cons_succ]
              refine wpAnyH_done (by kernel_rfl) ?_ _
              have HQD := Lib.hid (show RLgIs wr.drew w.heap.size (RLg R fi sz a b c (.slice (some ⟨g, 0, none⟩) c bc) (.slice none 0 0)) from HQJ.out)
              have HDB := Lib.hid (show Below wr.heap.size wr wr.drew from (Below.refl _ _).drew)
              have HPD := Lib.hid (HPJ.out.below HDB.out (Nat.le_refl _))
              have HOD := Lib.hid (HOJ.out.below HDB.out (Nat.le_refl _))
              have HSD := Lib.hid (show Bs wr.drew (.slice sa2 sn2 sc2) r from HS2.out.1.below HDB.out)
              have HSIZ := Lib.hid (show w6.heap.size ≤ wr.heap.size from Nat.le_trans WSIZ.out HBJ.out.size)
              have HBD := Lib.hid (HBJ.out.trans (HDB.out.mono HSIZ.out))
              generalize wr.drew = wd at *
              have hb1 : Below wd.heap.size wd (wd.alloc (.cells #[] 5)) := (Below.refl _ _).alloc (Nat.le_refl _) _
              have c6 : wd.cell? ⟨w.heap.size, 6, none⟩ = some (.slice (some ⟨g, 0, none⟩) c bc) := RLgIs.cell HQD.out 6
              have c6a : (wd.alloc (.cells #[] 5)).cell? ⟨w.heap.size, 6, none⟩ = some (.slice (some ⟨g, 0, none⟩) c bc) := RLgIs.cell (HQD.out.chg (Chg.fresh (F := fun _ => False) hb1) (fun h => h)) 6
              have HLIT := Lib.hid (show Own (wd.alloc (.cells #[] 5)) wd.heap.size (.slice (some ⟨wd.heap.size, 0, none⟩) 0 0) [] from World.ownsRow_lit wd #[] 0 (Nat.le_refl _) (Nat.zero_le _) (by simp))
              have HB1 := Lib.hid hb1
              have HSA := Lib.hid (HSD.out.below hb1)
              have HPA := Lib.hid (HPD.out.below hb1 (Nat.le_refl _))
              have hsl1 := HSL1.out
              have HLT3 := Lib.hid hlt3
              have HRLN := Lib.hid (show rs.length ≤ 1048576 by have h := encs_many [] rs; rw [List.nil_append] at h; have := HEL.out; have := HCC.out; simp at h; omega)
              clear hb1 hlt3
              generalize hRR : r.length = RR at *
              have HRR := Lib.hid hRR
              clear hRR
              go_wp2_with (first
                | (go_at_call 92; refine (HRD1.out _ HDB.out).mono ?_; rintro e w' ⟨rfl, rfl⟩)
                | (at_builtin; refine wpList_append_OwnT (o := ⟨some 178, _, _, _, _, _⟩) rfl (Operand.tmp 166) (Operand.tmp 177) rfl wd.heap.size _ [] rfl HLIT.out _ r rfl HSA.out (by have := HRLB.out; have := HRR.out; rw [List.length_nil]; omega) HB1.out.size ?_; intro v' w2 hown' hgrow hto; rw [List.nil_append] at hown'; obtain ⟨va, vc, hvf⟩ := own_form hown'; subst hvf; have HO2 := Lib.hid hown'; have HC2 := Lib.hid (show Below wd.heap.size wd w2 from HB1.out.trans (hgrow.below (fun k hk => (HLIT.out.lt k hk).1) HB1.out.size)); obtain ⟨xs, hx1, hx2⟩ := HPD.out.below HC2.out (Nat.le_refl _); have X1 := Lib.hid hx1; have X2 := Lib.hid hx2; clear hown' hgrow hto hx1 hx2)
                | (at_builtin; refine wpList_append_lies (o := ⟨some 180, _, _, _, _, _⟩) _ rfl (Operand.tmp 165) (Operand.tmp 179) 64 rfl w6.heap.size 39 i0 (.slice none 0 0) 1 24 Try.underlying64 hinf hz0 hz1 hz2 rfl (by decide) _ (rs.take j).length xs rfl (X1.out.alloc _) ⟨w2.heap.size, 0, none⟩ 1 1 [.slice va r.length vc] rfl rfl (cell_one_new _ _ _) (by intro u hu; simp at hu; subst hu; rfl) (by decide) (by unfold maxLen; have := HRLN.out; have := HLT3.out; rw [List.length_take]; omega) (by have := HRLN.out; have := HLT3.out; rw [List.length_take]; omega) (by have := HSIZ.out; have := HDB.out.size; have := HC2.out.size; simp; omega) (w2.heap.size + 1) (by simp) ?_; intro g3 cp3 w3 hown3 hg3 hgH hgl; have HO3 := Lib.hid hown3; have HG3 := Lib.hid hg3; have HH3 := Lib.hid hgH; clear hown3 hg3 hgH hgl))
              have q1 := HC2.out.size
              have q0 : w6.heap.size ≤ wd.heap.size := by have := HSIZ.out; have := HDB.out.size; omega
              go_roundw
              case rel =>
                have hne : (Value.slice va r.length vc).ownBlock = none ∨ (Value.slice va r.length vc).ownBlock ≠ u17.ownBlock := by
                  cases h1 : (Value.slice va r.length vc).ownBlock with
                  | none => exact .inl rfl
                  | some g5 =>
                    right
                    have a1 := (HO2.out.lt g5 h1).1
                    intro he
                    obtain ⟨ys, hy1, _⟩ := HPD.out
                    have a2 := (hy1.lt g5 he.symm).2
                    omega
                have hsn := OwnPs.snoc (T := 39) (E := 5) (p := r) (w := w2.alloc (.cells #[.slice va r.length vc] 39)) (w' := w3) (v := u17) (x := .slice va r.length vc) (ps := rs.take j) (xs := xs) (g := g3) (cap := cp3) (B := w6.heap.size)
                  (X1.out.alloc _) (fun i hi => by obtain ⟨x, h1, h2, h3⟩ := X2.out i hi; exact ⟨x, h1, h2.alloc _, h3⟩)
                  ((own_base' HO2.out q0).alloc _) hne HO3.out HG3.out (HH3.out.elim (fun h => .inl h) (fun h => .inr (by simpa using h)))
                have hbe : Below w6.heap.size wd w3 := ((HC2.out.mono q0).alloc (by omega) _).grown HG3.out (by simp; omega) (fun g' hg' => by obtain ⟨ys, hy1, _⟩ := HPD.out; exact (hy1.lt g' hg').1)
                have hlj : (rs.take j).length = j := by rw [List.length_take]; have := HLT3.out; omega
                rw [← HTK.out, hlj] at hsn
                refine ⟨j + 1, ?_, by have := HLT3.out; omega, HQD.out.chg (F := fun k => w6.heap.size ≤ k) ⟨hbe.os, hbe.tape, hbe.output, hbe.size, fun k hk hn => hbe.block k (by omega)⟩ (fun e => by have := HGL.out; omega), HOD.out.chg (F := fun k => w6.heap.size ≤ k) ⟨hbe.os, hbe.tape, hbe.output, hbe.size, fun k hk hn => hbe.block k (by omega)⟩ (fun g5 hg5 e => by have h9 : g = g5 := (Option.some.inj hg5); have := HGL.out; omega), hsn, HBD.out.trans hbe⟩
                rw [HENC.out]
                first | rfl | (push_cast; rfl) | (congr 1; omega)
              case measure => have := HRR.out; simp [intOf]; omega
            · have hj3 : j = rs.length := by omega
              have htk : rs.take j = rs := List.take_of_length_le (by omega)
              rw [htk] at hp ⊢
              have HP3 := Lib.hid hp
              rw [HEL.out]
              have hnl : ¬ ((c : Int) < (c : Int)) := by omega
              clear hp hq ho hbw HPJ
              go_wp2_with fail
              go_ret3
              exact ⟨w.heap.size, _, rfl, .slice (some ⟨g, 0, none⟩) c bc, HQJ.out, own_base' HOJ.out (by omega), fun e => by have := (HOJ.out.lt _ e).1; omega, OwnPs.base HP3.out (by have := HGL.out; omega), Nat.le_refl _, HB7.out.trans (HBJ.out.mono (by have := HGL.out; omega))⟩
end Go.Proofs.Ytaibminomehppaa
