import Derived.Test.YtaklkjjoplfokaaDisk3
import Derived.Deep.Cut
import Derived.WalkKit
import Derived.ProofKit
import Derived.BigQuiet
import Derived.Deep.QuietTactic
import Derived.WalkSpells
import Derived.WalkLawsBesides
import Derived.Lib.Hide
import Derived.Deep.MidRow
import Derived.Deep.RegionLaw
import Derived.BigRegion
import Derived.Laws.AppendOwnNone
import Derived.Deep.DeepMust
import Derived.Deep.AppendLies
import Derived.RegionTactic
import Derived.Deep.WholeRow
import Derived.BigFrame
import Derived.Deep.RegionWith
import Derived.Deep.RegionHeld3
import Derived.Maps.RangeWalk
import Derived.Laws.CopyOwn
import Derived.StillTailTactics
namespace Go.Proofs.Ytaklkjjoplfokaa
open Go.RowKit
theorem results_cell_tmp {P : Program} {fn : Func} {p q : Tmp} {ty : TypeId} (h : fn.results = #[.cell p ty, .tmp q]) (tmps : Array Value) (w : World) (g : Nat) (t : TypeId) (cs : Array Value) (fr : Nat × Nat) (d : TypeDesc)
    (hp : tmps.getD p undef = .pointer (some ⟨g, 0, none⟩)) (hg : w.heap[g]? = some (.cells cs t fr))
    (hu : P.underlying ty = some d) (hd : (match d with | .struct _ | .array _ _ => true | _ => false) = true) (hi : (P.info? ty).map (·.size) = some cs.size) :
    (results fn tmps).run P w = .ok (.tuple #[.agg cs, tmps.getD q undef]) w := by
  have hp' : tmps[p]?.getD undef = .pointer (some ⟨g, 0, none⟩) := by simpa using hp
  simp [results, h, hp', asAddr, run_loadVar_row w g t ty cs fr d hg hu hd hi]
def readErr (nb n : Int) (dn : Bool) : Int := if dn then 44 else if hasB nb n then 0 else 2
def readBlk (nb n : Int) (dn : Bool) (kvs : List (Int × List Int)) : List Int := if dn then zeros 256 else if hasB nb n then kget kvs n else zeros 256
theorem wpList_store_new {P : Program} {ops : Array Oper} {rest : List Oper} {o : Oper} {a : Act} {w0 : World} {Q : Exit → Act → World → Prop} (hgd : o.guard = none) (ty : TypeId) (x y : Operand) (ho : o.op = .store ty x y)
    (H : Nat) (cells : Array Value) (hx : a.eval x = .pointer (some ⟨H, 0, none⟩)) (hy : a.eval y = .agg cells) (hH : w0.heap.size = H)
    (old : Array Value) (T : TypeId) (hi : (P.info? ty).map (·.size) = some cells.size) (hold : old.size = cells.size) (h1 : cells.all (·.oneCell') = true)
    (h : ∀ w', w'.heap[H]? = some (.cells cells T (0, 0)) → Below H w0 w' → w'.heap.size = H + 1 → wpList P ops Q rest (a.put o.dst undef) w') : wpList P ops Q (o :: rest) a (w0.alloc (.cells old T)) := by
  subst hH
  refine wpList_store_row hgd ty x y ho w0.heap.size cells hx hy T old (heap_alloc_new _ _) hi hold h1 (h _ (setRow_heap _ _ _ _ _ _ (heap_alloc_new _ _)) ?_ ?_)
  · exact below_setRow ((Below.refl _ _).alloc (Nat.le_refl _) _) (Nat.le_refl _) _
  · simp [World.setRow]
set_option maxRecDepth 100000 in
set_option maxHeartbeats 1000000 in
theorem read_any (D M : Nat) (nb rm fz n : Int) (dn : Bool) (lv : Value) (kvs : List (Int × List Int)) (w : World) (hd : DiskIs w D (DC nb rm fz dn (.map (some M)) lv)) (hm : MapIs w M kvs) (hl : (kget kvs n).length = 256) :
    Calls Try.prog 23 #[.pointer (some ⟨D, 0, none⟩), .int .i64 n] w fun e w' => e = .returned (.tuple #[.agg (ArrU8 (readBlk nb n dn kvs)), .int .i64 (readErr nb n dn)]) ∧ Below w.heap.size w w' := by
  have hz := zero35
  have hbl : ∀ u : World, (Instr.build 35 #[]).run Try.prog u = .ok (.agg (ArrU8 (zeros 256))) u := fun u => by kernel_rfl
  have hlt : D < w.heap.size := (Array.getElem?_eq_some_iff.1 hd).1
  have c3 : w.cell? ⟨D, 3, none⟩ = some (.bool dn) := hd.cell 3
  have c4 : w.cell? ⟨D, 4, none⟩ = some (.map (some M)) := hd.cell 4
  have SZ := Lib.hid (show (ArrU8 (zeros 256)).size = 256 by rw [ArrU8_size, zeros, List.length_replicate])
  have HI := Lib.hid (show (Try.prog.info? 35).map (·.size) = some 256 by kernel_rfl)
  cases dn with
  | true =>
    go_enter Try.func23, Try.ntmps23
    go_wp2_with (refine wpList_store_new rfl 35 (Operand.tmp 4) (Operand.tmp 10) rfl w.heap.size (ArrU8 (zeros 256)) rfl rfl rfl _ 35 (by rw [HI.out, SZ.out]) rfl (ArrU8_one _) ?_; intro w2 hd2 hb2 hs2; have HD2 := Lib.hid hd2; have HB2 := Lib.hid hb2; clear hd2 hb2 hs2)
    refine bodyPost_ret (results_cell_tmp (p := 4) (q := 5) (ty := 35) rfl _ w2 w.heap.size 35 (ArrU8 (zeros 256)) (0, 0) _ rfl HD2.out Try.underlying35 rfl (by rw [HI.out, SZ.out])) rfl ⟨?_, HB2.out⟩
    rfl
  | false =>
    have hd1 : DiskIs (w.alloc (.cells (ArrU8 (zeros 256)) 35)) D (DC nb rm fz false (.map (some M)) lv) := (heap_alloc_old _ _ hlt).trans hd
    have hm1 : MapIs (w.alloc (.cells (ArrU8 (zeros 256)) 35)) M kvs := by
      obtain ⟨es, c, h1, h2⟩ := hm
      exact ⟨es, c, (heap_alloc_old _ _ (Array.getElem?_eq_some_iff.1 h1).1).trans h1, h2⟩
    have hlk := run_lookup_kv _ M n kvs hm1
    have SK := Lib.hid (show (ArrU8 (kget kvs n)).size = 256 by rw [ArrU8_size, hl])
    have hh := has_any D nb n _ _ hd1 rfl
    have HH := Lib.hid hh
    have HM := Lib.hid hlk
    clear hh hd1 hm1 hlk hm hd
    cases hb : hasB nb n with
    | false =>
      rw [hb] at HH
      have HE := Lib.hid hb
      clear hb
      go_enter Try.func23, Try.ntmps23
      go_wp2_with (first
        | (go_at_call 58; refine HH.out.mono ?_; rintro e w' ⟨rfl, rfl⟩)
        | (refine wpList_store_new rfl 35 (Operand.tmp 4) (Operand.tmp 15) rfl w.heap.size (ArrU8 (zeros 256)) rfl rfl rfl _ 35 (by rw [HI.out, SZ.out]) rfl (ArrU8_one _) ?_; intro w2 hd2 hb2 hs2; have HD2 := Lib.hid hd2; have HB2 := Lib.hid hb2; clear hd2 hb2 hs2))
      refine bodyPost_ret (results_cell_tmp (p := 4) (q := 5) (ty := 35) rfl _ w2 w.heap.size 35 (ArrU8 (zeros 256)) (0, 0) _ rfl HD2.out Try.underlying35 rfl (by rw [HI.out, SZ.out])) rfl ⟨?_, HB2.out⟩
      simp only [readErr, readBlk, HE.out]; rfl
    | true =>
      rw [hb] at HH
      have HE := Lib.hid hb
      have hlk := HM.out
      clear hb
      go_enter Try.func23, Try.ntmps23
      go_wp2_with (first
        | (go_at_call 58; refine HH.out.mono ?_; rintro e w' ⟨rfl, rfl⟩)
        | (refine wpList_store_new rfl 35 (Operand.tmp 4) (Operand.tmp 21) rfl w.heap.size (ArrU8 (kget kvs n)) rfl rfl rfl _ 35 (by rw [HI.out, SK.out]) (by rw [SZ.out, SK.out]) (ArrU8_one _) ?_; intro w2 hd2 hb2 hs2; have HD2 := Lib.hid hd2; have HB2 := Lib.hid hb2; clear hd2 hb2 hs2))
      refine bodyPost_ret (results_cell_tmp (p := 4) (q := 5) (ty := 35) rfl _ w2 w.heap.size 35 (ArrU8 (kget kvs n)) (0, 0) _ rfl HD2.out Try.underlying35 rfl (by rw [HI.out, SK.out])) rfl ⟨?_, HB2.out⟩
      simp only [readErr, readBlk, HE.out]; rfl
end Go.Proofs.Ytaklkjjoplfokaa
