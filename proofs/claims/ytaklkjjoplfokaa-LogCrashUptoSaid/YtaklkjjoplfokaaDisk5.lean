import Derived.Test.YtaklkjjoplfokaaDisk4
import Derived.Deep.Cut
import Derived.WalkKit
import Derived.ProofKit
import Derived.BigQuiet
import Derived.Deep.QuietTactic
import Derived.WalkSpells
import Derived.WalkLawsBesides
import Derived.Lib.Hide
import Derived.Deep.MidRow
import Derived.Deep.RegionLaw
import Derived.BigRegion
import Derived.Laws.AppendOwnNone
import Derived.Deep.DeepMust
import Derived.Deep.AppendLies
import Derived.RegionTactic
import Derived.Deep.WholeRow
import Derived.BigFrame
import Derived.Deep.RegionWith
import Derived.Deep.RegionHeld3
import Derived.Maps.RangeWalk
import Derived.Laws.CopyOwn
import Derived.StillTailTactics
namespace Go.Proofs.Ytaklkjjoplfokaa
open Go.RowKit
theorem step_copy_row {P : Program} {ops : Array Oper} {w : World} {o : Oper} {a : Act} {K : Act → World → Prop} {Q : Exit → Act → World → Prop} {E : Prop} (hgd : o.guard = none) (d s : Operand) (dT sT : TypeId)
    (ho : o.op = .call { callee := .builtin .copy, args := #[d, s], argTypes := #[dT, sT] }) (elem : TypeId) (hu : P.underlying dT = some (.slice elem)) (hsz : (P.info? elem).map (·.size) = some 1)
    (g off dLen dCap sLen sCap : Nat) (ad : Addr) (hd : a.eval d = .slice (some ⟨g, off, none⟩) dLen dCap) (hs : a.eval s = .slice (some ad) sLen sCap)
    (cur res : List Value) (t : TypeId) (hg : w.heap[g]? = some (.cells cur.toArray t (0, 0))) (cs : List Value) (hn : cs.length = Nat.min sLen dLen)
    (hsrc : ∀ j v, cs[j]? = some v → w.cell? (ad.add j) = some v) (hfit : off + cs.length ≤ cur.length) (h1 : ∀ v ∈ cs, v.oneCell' = true)
    (hres : cur.take off ++ cs ++ cur.drop (off + cs.length) = res)
    (h : ∀ w', w'.heap[g]? = some (.cells res.toArray t (0, 0)) → w.grownBy w' (some g) → K (a.put o.dst (goInt cs.length)) w') :
    if Region.wanted o (yielded ops a.tmps) = true then Oper.wp P o a w K Q else E := by
  have hw : Region.wanted o (yielded ops a.tmps) = true := by simp [Region.wanted, hgd]
  rw [if_pos hw]
  have hrun := run_copy_row (P := P) w dT sT o.type elem g off dLen dCap ad sLen sCap cur.toArray t cs hu hsz hg hn hsrc (by simpa using hfit) h1
  simp only [hres] at hrun
  unfold Oper.wp
  simp [execOp, ho, resolve, invoke, builtin, hd, hs, hrun, Result.andThen]
  exact h _ (setRow_heap _ _ _ _ _ _ hg) ⟨rfl, rfl, rfl, by simp [World.setRow], fun k _ hne => setRow_other _ _ _ _ (fun e => hne (by rw [e]))⟩
theorem results_cell {P : Program} {fn : Func} {p : Tmp} {ty : TypeId} (h : fn.results = #[.cell p ty]) (tmps : Array Value) (w : World) (g : Nat) (t : TypeId) (cs : Array Value) (fr : Nat × Nat) (d : TypeDesc)
    (hp : tmps.getD p undef = .pointer (some ⟨g, 0, none⟩)) (hg : w.heap[g]? = some (.cells cs t fr))
    (hu : P.underlying ty = some d) (hd : (match d with | .struct _ | .array _ _ => true | _ => false) = true) (hi : (P.info? ty).map (·.size) = some cs.size) :
    (results fn tmps).run P w = .ok (.agg cs) w := by
  have hp' : tmps[p]?.getD undef = .pointer (some ⟨g, 0, none⟩) := by simpa using hp
  simp [results, h, hp', asAddr, run_loadVar_row w g t ty cs fr d hg hu hd hi]
def tearL (b a : List Int) (t : Int) : List Int := if t < 0 ∨ 256 ≤ t then a else a.take t.toNat ++ b.drop t.toNat
set_option maxRecDepth 100000 in
set_option maxHeartbeats 1000000 in
theorem tear_any (b a : List Int) (t : Int) (w : World) (hb : b.length = 256) (ha : a.length = 256) :
    Calls Try.prog 65 #[.agg (ArrU8 b), .agg (ArrU8 a), .int .i64 t] w fun e w' => e = .returned (.agg (ArrU8 (tearL b a t))) ∧ Below w.heap.size w w' := by
  have hz := zero35
  have SZ := Lib.hid (show (ArrU8 (zeros 256)).size = 256 by rw [ArrU8_size, zeros, List.length_replicate])
  have SA := Lib.hid (show (ArrU8 a).size = 256 by rw [ArrU8_size, ha])
  have SB := Lib.hid (show (ArrU8 b).size = 256 by rw [ArrU8_size, hb])
  have HI := Lib.hid (show (Try.prog.info? 35).map (·.size) = some 256 by kernel_rfl)
  have RA := Lib.hid (show (((w.alloc (.cells (ArrU8 b) 35)).alloc (.cells (ArrU8 a) 35)).alloc (.cells (ArrU8 (zeros 256)) 35)).heap[w.heap.size + 1]? = some (.cells (ArrU8 a) 35 (0, 0)) from by
    refine (heap_alloc_old _ _ (by simp)).trans ?_
    have := heap_alloc_new (w.alloc (.cells (ArrU8 b) 35)) (.cells (ArrU8 a) 35)
    simpa using this)
  by_cases hr : t < 0 ∨ 256 ≤ t
  · have HT := Lib.hid (show tearL b a t = a from by rw [tearL, if_pos hr])
    rcases hr with h | h
    all_goals
      go_enter Try.func65, Try.ntmps65
      go_wp2_with (first
        | (refine wpList_load_row rfl 35 (Operand.tmp 4) rfl (w.heap.size + 1) rfl 35 (ArrU8 a) (0, 0) _ RA.out Try.underlying35 rfl (by rw [HI.out, SA.out]) ?_)
        | (refine wpList_store_new rfl 35 (Operand.tmp 6) (Operand.tmp 13) rfl (w.heap.size + 2) (ArrU8 a) rfl rfl (by simp) _ 35 (by rw [HI.out, SA.out]) (by rw [SZ.out, SA.out]) (ArrU8_one _) ?_; intro w2 hd2 hb2 hs2; have HD2 := Lib.hid hd2; have HB2 := Lib.hid hb2; clear hd2 hb2 hs2))
      refine bodyPost_ret (results_cell (p := 6) (ty := 35) rfl _ w2 (w.heap.size + 2) 35 (ArrU8 a) (0, 0) _ rfl HD2.out Try.underlying35 rfl (by rw [HI.out, SA.out])) rfl ⟨?_, ?_⟩
      · rw [HT.out]
      · exact (((Below.refl _ _).alloc (Nat.le_refl _) _).alloc (by simp) _).trans (HB2.out.mono (by omega))
  · obtain ⟨k, rfl⟩ : ∃ k : Nat, t = (k : Int) := ⟨t.toNat, by omega⟩
    have hk : k < 256 := by omega
    have hk1 : (k : Int) < 256 := by omega
    have hk2 : (k : Int) ≤ 256 := by omega
    have HT := Lib.hid (show tearL b a (k : Int) = a.take k ++ b.drop k from by rw [tearL, if_neg hr, Int.toNat_natCast])
    have RB := Lib.hid (show (((w.alloc (.cells (ArrU8 b) 35)).alloc (.cells (ArrU8 a) 35)).alloc (.cells (ArrU8 (zeros 256)) 35)).heap[w.heap.size]? = some (.cells (b.map (Value.int .u8)).toArray 35 (0, 0)) from by
      refine (heap_alloc_old _ _ (by simp; omega)).trans ((heap_alloc_old _ _ (by simp)).trans ?_)
      exact heap_alloc_new w (.cells (ArrU8 b) 35))
    have RZ := Lib.hid (show (((w.alloc (.cells (ArrU8 b) 35)).alloc (.cells (ArrU8 a) 35)).alloc (.cells (ArrU8 (zeros 256)) 35)).heap[w.heap.size + 2]? = some (.cells (ArrU8 (zeros 256)) 35 (0, 0)) from by
      have := heap_alloc_new ((w.alloc (.cells (ArrU8 b) 35)).alloc (.cells (ArrU8 a) 35)) (.cells (ArrU8 (zeros 256)) 35)
      simpa using this)
    have BW := Lib.hid ((((Below.refl w.heap.size w).alloc (Nat.le_refl _) (.cells (ArrU8 b) 35)).alloc (by simp) (.cells (ArrU8 a) 35)).alloc (by simp; omega) (.cells (ArrU8 (zeros 256)) 35))
    have hws : (((w.alloc (.cells (ArrU8 b) 35)).alloc (.cells (ArrU8 a) 35)).alloc (.cells (ArrU8 (zeros 256)) 35)).heap.size = w.heap.size + 3 := by simp
    have HWS := Lib.hid hws
    clear hr hws
    go_enter Try.func65, Try.ntmps65
    go_wp2_with fail
    generalize (((w.alloc (.cells (ArrU8 b) 35)).alloc (.cells (ArrU8 a) 35)).alloc (.cells (ArrU8 (zeros 256)) 35)) = w1 at *
    have hlk : (a.take k).length = k := by rw [List.length_take]; omega
    have HLK := Lib.hid hlk
    have hsrc : ∀ j v, ((a.take k).map (Value.int .u8))[j]? = some v → w1.cell? ((⟨w.heap.size + 1, 0, none⟩ : Addr).add j) = some v := by
      intro j v hv
      rw [Addr.add_mid, Nat.zero_add, cell_of_row w1 _ j _ _ _ RA.out]
      rw [List.getElem?_map, Option.map_eq_some_iff] at hv
      obtain ⟨y, hy, rfl⟩ := hv
      have hj : j < k := by have := (List.getElem?_eq_some_iff.1 hy).1; omega
      rw [List.getElem?_take_of_lt hj] at hy
      simp [ArrU8, hy]
    have HSRC := Lib.hid hsrc
    have hres : (b.map (Value.int .u8)).take 0 ++ (a.take k).map (Value.int .u8) ++ (b.map (Value.int .u8)).drop (0 + ((a.take k).map (Value.int .u8)).length) = (a.take k ++ b.drop k).map (Value.int .u8) := by
      rw [List.length_map, hlk, Nat.zero_add, List.take_zero, List.nil_append, List.map_append, List.map_drop]
    have HRES := Lib.hid hres
    have huu : (Try.prog.info? 5).map (·.size) = some 1 := by kernel_rfl
    have HUU := Lib.hid huu
    clear hlk hsrc hres huu
    have hut := Try.underlying35
    go_region_held3 (fun _ => True) (trivial)
      ((refine step_copy_row (by rfl) (Operand.tmp 15) (Operand.tmp 17) 62 62 (by rfl) 5 Try.underlying62 HUU.out w.heap.size 0 k 256 k 256 ⟨w.heap.size + 1, 0, none⟩ (by rfl) (by rfl) (b.map (Value.int .u8)) _ 35 RB.out ((a.take k).map (Value.int .u8)) (by rw [List.length_map, HLK.out]; exact (Nat.min_self k).symm) HSRC.out (by rw [List.length_map, List.length_map, HLK.out, hb]; omega) (by intro v hv; obtain ⟨x, _, rfl⟩ := List.mem_map.1 hv; rfl) HRES.out ?_; intro w3 hd3 hg3; have HD3 := Lib.hid hd3; have HG3 := Lib.hid hg3; clear hd3 hg3))
    have HR3 := Lib.hid ((HG3.out.block (w.heap.size + 2) (by show _ < w1.heap.size; rw [HWS.out]; omega) (by simp)).trans RZ.out)
    have HX3 := Lib.hid (show w3.heap[w.heap.size]? = some (.cells (ArrU8 (a.take k ++ b.drop k)) 35 (0, 0)) from HD3.out)
    have SX := Lib.hid (show (ArrU8 (a.take k ++ b.drop k)).size = 256 by rw [ArrU8_size, List.length_append, HLK.out, List.length_drop, hb]; omega)
    have B3 := Lib.hid (show Below w.heap.size w w3 from BW.out.drew.grown HG3.out (by show _ ≤ w1.heap.size; rw [HWS.out]; omega) (fun g hg => by injection hg with hg; omega))
    go_wp2_with (first
      | (refine wpList_load_row rfl 35 (Operand.tmp 3) rfl w.heap.size rfl 35 (ArrU8 (a.take k ++ b.drop k)) (0, 0) _ HX3.out Try.underlying35 rfl (by rw [HI.out, SX.out]) ?_)
      | (refine wpList_store_row rfl 35 (Operand.tmp 6) (Operand.tmp 19) rfl (w.heap.size + 2) (ArrU8 (a.take k ++ b.drop k)) rfl rfl 35 _ HR3.out (by rw [HI.out, SX.out]) (by rw [SZ.out, SX.out]) (ArrU8_one _) ?_))
    refine bodyPost_ret (results_cell (p := 6) (ty := 35) rfl _ (w3.setRow (w.heap.size + 2) (ArrU8 (a.take k ++ b.drop k))) (w.heap.size + 2) 35 (ArrU8 (a.take k ++ b.drop k)) (0, 0) _ rfl (setRow_heap _ _ _ _ _ _ HR3.out) Try.underlying35 rfl (by rw [HI.out, SX.out])) rfl ⟨?_, ?_⟩
    · rw [HT.out]
    · exact below_setRow B3.out (by omega) _
end Go.Proofs.Ytaklkjjoplfokaa
