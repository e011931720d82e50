/- a disk made a pager's -/
import Derived.Test.YtgadhpmcnikihaaHm16
import Derived.Test.YtgadhpmcnikihaaHm18
import Derived.WalkKit
import Derived.ProofKit
import Derived.BigQuiet
import Derived.Deep.QuietTactic
import Derived.WalkSpells
import Derived.WalkLawsBesides
import Derived.Lib.Hide
import Derived.Deep.MidRow
import Derived.Deep.RegionLaw
import Derived.BigRegion
import Derived.Laws.AppendOwnNone
import Derived.Deep.DeepMust
import Derived.Deep.AppendLies
import Derived.RegionTactic
import Derived.Deep.WholeRow
import Derived.BigFrame
import Derived.Deep.RegionWith
import Derived.Deep.RegionHeld3
import Derived.Maps.RangeWalk
import Derived.Laws.CopyOwn
import Derived.StillTailTactics
namespace Go.Proofs.Ytgadhpmcnikihaa
open Go.RowKit
def hdr0 : List Int := ovB (1 :: List.replicate 17 0) (zeros 256)
theorem hdr0_len : hdr0.length = 256 := ovL_len _ _ 18 rfl (zeros_len _) (Nat.le_refl _)
theorem hdr0_rng : Rng hdr0 := ovL_rng _ _ _ (rng_zeros _)
theorem fput_rngP {f : Int → List Int} (h : ∀ n, Rng (f n)) (m : Int) {b : List Int} (hb : Rng b) : ∀ n, Rng (fput f m b n) := fun n => by
  unfold fput
  split
  · exact hb
  · exact h n
def FmX (B D M : Nat) (nb rm : Int) (f : Int → List Int) (lv : Value) (fi sz : Int) (w : World) (e : Ending) (w' : World) : Prop :=
  e = .returned (.int .i64 0) ∧ ∃ lv', LgD w' B D M nb rm (fputs f (fw fi)) lv' fi sz 1 1 0 [] ∧ Chg (Foot D M lv) w w' ∧ (∀ k, Foot D M lv' k → Foot D M lv k ∨ w.heap.size ≤ k)
theorem ld_formatX {w : World} {B D M : Nat} {nb rm : Int} {f : Int → List Int} {lv : Value} {fi sz : Int} {L : List WR} (hd : Dk w B D M nb rm (-1) false f L lv) (hr : ∀ n, Rng (f n)) (h1 : 0 ≤ fi) (h2 : 3 ≤ sz) (h3 : fi ≤ nb - sz) (h4 : nb ≤ 4096) (hrm : fi + 1 < rm) (hL : L.length ≤ 4097) :
    Calls Try.prog 22 #[.pointer (some ⟨D, 0, none⟩), .int .i64 fi, .int .i64 sz] w (FmX B D M nb rm f lv fi sz w) := by
  refine (format_yes B D M nb rm fi sz ⟨-1, false, f, L⟩ lv w hd h1 h2 h3 h4 (by show L.length ≤ _; omega)).mono ?_
  obtain ⟨g1, g2⟩ := wsy_calm (nb := nb) (rm := rm) (fw fi) (s := ⟨-1, false, f, L⟩) ⟨rfl, rfl⟩ (fun x hx => by
    rw [fw, List.mem_cons, List.mem_singleton] at hx
    rcases hx with rfl | rfl
    · show 0 ≤ fi + 1 ∧ fi + 1 < nb ∧ fi + 1 < rm; omega
    · show 0 ≤ fi ∧ fi < nb ∧ fi < rm; omega)
  rw [g1, g2]
  rintro e w' ⟨rfl, lv', hdk, hc, hf⟩
  refine ⟨rfl, lv', ⟨hdk, mk_format f fi, rfl, by omega, fputs_rng _ _ hr (fun x hx => ?_), (fun r hr => by cases hr), h1, h2, h3, h4, by decide, by decide⟩, hc, hf⟩
  rw [fw, List.mem_cons, List.mem_singleton] at hx
  rcases hx with rfl | rfl
  · exact mb_rng _ _ _
  · exact rng_zeros _
def PfEnds (B D M : Nat) (nb rm : Int) (f : Int → List Int) (lv : Value) (sz : Int) (w : World) (e : Ending) (w' : World) : Prop :=
  e = .returned (.int .i64 0) ∧ ∃ lv', LgD w' B D M nb rm (fputs (fput f sz hdr0) (fw 0)) lv' 0 sz 1 1 0 [] ∧ Chg (Foot D M lv) w w' ∧ (∀ k, Foot D M lv' k → Foot D M lv k ∨ w.heap.size ≤ k)
set_option maxRecDepth 100000 in
set_option maxHeartbeats 1000000 in
theorem pformat_no (B D M : Nat) (nb rm fz sz : Int) (dn : Bool) (f : Int → List Int) (L : List WR) (lv : Value) (w : World) (h : Dk w B D M nb rm fz dn f L lv) (hs : ¬ (3 ≤ sz ∧ sz < nb)) :
    Calls Try.prog 6 #[.pointer (some ⟨D, 0, none⟩), .int .i64 sz] w fun e w' => e = .returned (.int .i64 1) ∧ Below w.heap.size w w' := by
  have hz := zeroLay
  have HLO := Lib.hid (layoutOf_any B D M nb rm fz sz dn f L lv w h)
  have HS := Lib.hid hs
  clear h hs
  go_enter Try.func6, Try.ntmps6
  go_wp2_with fail
  refine HLO.out.mono ?_
  rintro e w1 ⟨rfl, hb1⟩
  rw [if_neg HS.out]
  have HB1 := Lib.hid hb1
  clear hb1 HLO
  go_wp2_with fail
  go_ret
  exact ⟨rfl, HB1.out.alloc HB1.out.size _⟩
set_option maxRecDepth 100000 in
set_option maxHeartbeats 2000000 in
theorem pformat_any (B D M : Nat) (nb rm sz : Int) (f : Int → List Int) (L : List WR) (lv : Value) (w : World) (h : Dk w B D M nb rm (-1) false f L lv) (hr : ∀ n, Rng (f n)) (hs : 3 ≤ sz ∧ sz < nb) (h4 : nb ≤ 4096) (hrm : nb ≤ rm) (hL : L.length ≤ 4096) :
    Calls Try.prog 6 #[.pointer (some ⟨D, 0, none⟩), .int .i64 sz] w (PfEnds B D M nb rm f lv sz w) := by
  have hz := zeroLay
  have hbH := fun u => buildHdr u 1 0
  have HLO := Lib.hid (layoutOf_any B D M nb rm (-1) sz false f L lv w h)
  have HS := Lib.hid hs
  have H := Lib.hid h
  have HR := Lib.hid (And.intro hr (And.intro h4 (And.intro hrm hL)))
  clear h hs hr h4 hrm hL
  go_enter Try.func6, Try.ntmps6
  go_wp2_with fail
  refine HLO.out.mono ?_
  rintro e w1 ⟨rfl, hb1⟩
  rw [if_pos HS.out]
  have HB1 := Lib.hid hb1
  clear hb1 HLO
  go_wp2_with fail
  have HS0 := Lib.hid (show (w1.alloc (.cells #[.pointer (some ⟨D, 0, none⟩), .int .i64 sz] 51)).drew.heap[w1.heap.size]? = some (.cells #[.pointer (some ⟨D, 0, none⟩), .int .i64 sz] 51 (0, 0)) from heap_alloc_new _ _)
  have hbb : Below w.heap.size w (w1.alloc (.cells #[.pointer (some ⟨D, 0, none⟩), .int .i64 sz] 51)).drew := (HB1.out.alloc HB1.out.size _).drew
  have HBB := Lib.hid hbb
  have HIL := Lib.hid (show (Try.prog.info? 51).map (·.size) = some 2 by kernel_rfl)
  have hbl : ∀ u : World, (Instr.build 34 #[]).run Try.prog u = .ok (.agg (ArrU8 (zeros 256))) u := fun u => by kernel_rfl
  clear hbb
  refine wp_region_held_drew (S := fun u => u.heap[w1.heap.size]? = some (.cells #[.pointer (some ⟨D, 0, none⟩), .int .i64 sz] 51 (0, 0))) (by kernel_rfl) (HS0.out) (fun hHeld => ?_)
  refine wpAnyH_take (i := 0) (oi := ({ dst := some 17, op := Op.load 51 (Operand.tmp 5), type := 51, pos := "page.go:28", after := #[], guard := none } : Oper)) (v := ?_) rfl (by kernel_rfl) (by kernel_rfl) (by kernel_rfl) (fun _ _ _ h => h) (Or.inl ⟨by rfl, ?_⟩) (by assumption) ?_
  rotate_left 1
  · intro u hSw
    refine exec_load_row 51 (Operand.tmp 5) ?_ u w1.heap.size ?_ #[.pointer (some ⟨D, 0, none⟩), .int .i64 sz] 51 (0, 0) _ hSw Try.underlying51 rfl (by rw [HIL.out]; rfl) <;> rfl
  try simp only [Act.put, List.setIfInBounds_toArray, List.set_cons_zero, List.set_cons_succ]
  refine wpAnyH_take (i := 1) (oi := ({ dst := some 18, op := Op.build 56 #[(0, Operand.const (Value.int IntKind.u64 1))], type := 56, pos := "page.go:28", after := #[], guard := none } : Oper)) (v := ?_) rfl (by kernel_rfl) (by kernel_rfl) (by kernel_rfl) (fun _ _ _ h => h) (Or.inl ⟨by rfl, ?_⟩) (by assumption) ?_
  rotate_left 1
  · (intro u hSw; go_simp; try with_reducible rfl)
  try simp only [Act.put, List.setIfInBounds_toArray, List.set_cons_zero, List.set_cons_succ]
  refine wpAnyH_take (i := 2) (oi := ({ dst := some 19, op := Op.build 34 #[], type := 34, pos := "page.go:28", after := #[], guard := none } : Oper)) (v := ?_) rfl (by kernel_rfl) (by kernel_rfl) (by kernel_rfl) (fun _ _ _ h => h) (Or.inl ⟨by rfl, ?_⟩) (by assumption) ?_
  rotate_left 1
  · (intro u hSw; go_simp; try with_reducible rfl)
  try simp only [Act.put, List.setIfInBounds_toArray, List.set_cons_zero, List.set_cons_succ]
  refine wpAnyH_ready (rs := [3]) (by kernel_rfl) (by simp) ?_
  refine (AllReadyH.cons (o := ({ dst := some 20, op := Op.call { callee := Callee.value (Operand.func 21), args := #[Operand.tmp 18, Operand.tmp 19], argTypes := #[56, 34] }, type := 34, pos := "page.go:28", after := #[{ on := 1, ground := Ground.data }, { on := 2, ground := Ground.data }], guard := none } : Oper)) rfl (fun K hK => ?_) AllReadyH.nil)
  go_simp
  refine (over_any (1 :: List.replicate 17 0) (zeros 256) _ rfl (by decide) (zeros_len _)).mono ?_
  rintro e w2 ⟨rfl, hb2⟩
  have HBC := Lib.hid (HBB.out.trans (hb2.mono HBB.out.size))
  have HS2 := Lib.hid ((hb2.block _ (Array.getElem?_eq_some_iff.1 HS0.out).1).trans HS0.out)
  have HWH := Lib.hid (writeHome_any B D M nb rm (-1) sz 0 false f L lv hdr0 w2 (H.out.chg (Chg.fresh (F := fun _ => False) HBC.out) (fun _ _ h => h)) hdr0_len (by have := HR.out.2.2.2; omega) (by have := HR.out.2.1; have := HS.out; omega) (by omega))
  clear hb2
  rw [show ovB (1 :: List.replicate 17 0) (zeros 256) = hdr0 from rfl]
  go_wp2_with fail
  refine hK.out _ _ HS2.out (fun hHeld => ?_)
  clear hK K
  try simp only [Act.put, List.setIfInBounds_toArray, List.set_cons_zero, List.set_cons_succ]
  refine wpAnyH_ready (rs := [4]) (by kernel_rfl) (by simp) ?_
  refine (AllReadyH.cons (o := ({ dst := some 21, op := Op.call { callee := Callee.value (Operand.func 20), args := #[Operand.tmp 17, Operand.const (Value.int IntKind.i64 0), Operand.tmp 20], argTypes := #[51, 3, 34] }, type := 26, pos := "page.go:28", after := #[{ on := 0, ground := Ground.data }, { on := 3, ground := Ground.data }, { on := 3, ground := Ground.chain }], guard := none } : Oper)) rfl (fun K hK => ?_) AllReadyH.nil)
  go_simp
  refine HWH.out.mono ?_
  rintro e w3 ⟨rfl, lv3, hdk, hch, hft⟩
  have hwe : wErr nb rm (-1) (sz + 0) false = 0 := by
    have h1 := HR.out; have h2 := HS.out
    exact (wr_calm (nb := nb) (rm := rm) (s := ⟨-1, false, f, L⟩) ⟨rfl, rfl⟩ (sz + 0) [] (by omega) (by omega) (by omega)).1
  rw [hwe, if_pos rfl, if_pos rfl] at hdk
  rw [hwe]
  have hof : opFz (-1) false = -1 := rfl
  have hod : opDn (-1) false = false := rfl
  rw [hof, hod, show sz + 0 = sz from by omega] at hdk
  have HS3 := Lib.hid ((hch.block _ (by have := (Array.getElem?_eq_some_iff.1 HS2.out).1; exact this) (fun hF => by have := (H.out.foot _ hF).2; have := HB1.out.size; omega)).trans HS2.out)
  have HLF := Lib.hid (ld_formatX (fi := 0) (sz := sz) hdk (fput_rngP HR.out.1 sz hdr0_rng) (Int.le_refl _) HS.out.1 (by have := HS.out.2; omega) HR.out.2.1 (by have := HR.out.2.2.1; have := HS.out; omega) (by simp; exact HR.out.2.2.2))
  have HDK := Lib.hid hdk
  have HCH := Lib.hid hch
  have HFT := Lib.hid hft
  clear hdk hch hft hwe hof hod HWH
  go_wp2_with fail
  refine hK.out _ _ HS3.out (fun hHeld => ?_)
  clear hK K
  try simp only [Act.put, List.setIfInBounds_toArray, List.set_cons_zero, List.set_cons_succ]
  refine wpAnyH_take (i := 5) (oi := ({ dst := some 7, op := Op.assign (Operand.tmp 21), type := 26, pos := "page.go:28", after := #[{ on := 4, ground := Ground.data }, { on := 4, ground := Ground.chain }, { on := 0, ground := Ground.phase }, { on := 1, ground := Ground.phase }, { on := 2, ground := Ground.phase }, { on := 3, ground := Ground.phase }, { on := 4, ground := Ground.phase }], guard := none } : Oper)) (v := ?_) rfl (by kernel_rfl) (by kernel_rfl) (by kernel_rfl) (fun _ _ _ h => h) (Or.inl ⟨by rfl, ?_⟩) (by assumption) ?_
  rotate_left 1
  · (intro u hSw; go_simp; try with_reducible rfl)
  try simp only [Act.put, List.setIfInBounds_toArray, List.set_cons_zero, List.set_cons_succ]
  refine wpAnyH_done (by kernel_rfl) ?_ _
  go_wp2_with fail
  refine HLF.out.mono ?_
  rintro e w4 ⟨rfl, lv4, hld, hch, hft⟩
  have HE := Lib.hid (show PfEnds B D M nb rm f lv sz w (.returned (.int .i64 0)) w4 from ⟨rfl, lv4, hld, ((Chg.fresh (F := Foot D M lv) HBC.out).trans HCH.out (fun _ h => .inl h)).trans hch (fun k hk => (HFT.out k hk).elim .inl (fun h => .inr (by have := HBC.out.size; omega))), fun k hk => (hft k hk).elim (fun h => (HFT.out k h).elim .inl (fun h => .inr (by have := HBC.out.size; omega))) (fun h => .inr (by have := HBC.out.size; have := HCH.out.size; omega))⟩)
  clear hld hch hft
  go_wp2_with fail
  go_ret
  exact HE.out
end Go.Proofs.Ytgadhpmcnikihaa
/- a pager on a disk that does not fail: each call keeps it one -/
namespace Go.Proofs.Ytgadhpmcnikihaa
open Go.RowKit
section
variable {k : PK} {v : PV}
theorem PCalm.as (h : PCalm k v) {v' : PV} (hj : PJ k v') (h1 : v'.s = v.s) (h2 : v'.a = v.a) (h3 : v'.b = v.b) (h4 : v'.c = v.c) (h5 : v'.pe = v.pe) (h6 : v'.en = v.en) (h7 : v'.lg = v.lg) : PCalm k v' := by
  obtain ⟨_, rs, g⟩ := h
  exact ⟨hj, rs, g.same h1 h2 h3 h4 h5 h6 h7⟩
theorem usedN_le (h : PJ k v) : usedN v ≤ k.nb - k.sz := h.u1.2
theorem PCalm.get (h : PCalm k v) (n : Int) (o : Value) : PCalm k { v with ov := o, ca := (geV k v n).1, od := (geV k v n).2 } := by
  refine h.as ?_ rfl rfl rfl rfl rfl rfl rfl
  unfold geV
  split
  · rename_i hi
    exact (h.j.cu n (inU_rng hi (usedN_le h.j))).ov o
  · exact h.j.ov o
theorem PCalm.put (h : PCalm k v) (n : Int) (b : List Int) (hb : b.length = 256) (hr : Rng b) (o : Value) : PCalm k { v with ov := o, ca := (puV k v n b).1, od := (puV k v n b).2.1, ch := (puV k v n b).2.2 } := by
  refine h.as ?_ rfl rfl rfl rfl rfl rfl rfl
  unfold puV
  split
  · rename_i hi
    exact (h.j.st n b (inU_rng hi (usedN_le h.j)) hb hr).ov o
  · exact h.j.ov o
theorem ahU_j (h : PJ k v) (n : Int) (hn : 0 ≤ n ∧ n < k.nb - k.sz) : PJ k (ahU k v n).1 := by
  unfold ahU
  split
  · refine PJ.st ?_ n _ hn (zeros_len _) (rng_zeros _)
    exact (h.cu n hn).head _ (take8_rng (h.cuR n).2)
  · exact h.cu n hn
theorem alU_j (h : PJ k v) : PJ k (alU k v).1 := by
  have hu := h.u1
  unfold alU
  split
  · rename_i h1
    exact ahU_j h _ (by omega)
  · split
    · exact h
    · rename_i h2
      refine PJ.st (h.used (by omega)) _ _ (by omega) (zeros_len _) (rng_zeros _)
theorem ahU_s (n : Int) : (ahU k v n).1.s = v.s ∧ (ahU k v n).1.a = v.a ∧ (ahU k v n).1.b = v.b ∧ (ahU k v n).1.c = v.c ∧ (ahU k v n).1.pe = v.pe ∧ (ahU k v n).1.en = v.en ∧ (ahU k v n).1.lg = v.lg := by
  unfold ahU
  split <;> exact ⟨rfl, rfl, rfl, rfl, rfl, rfl, rfl⟩
theorem alU_s : (alU k v).1.s = v.s ∧ (alU k v).1.a = v.a ∧ (alU k v).1.b = v.b ∧ (alU k v).1.c = v.c ∧ (alU k v).1.pe = v.pe ∧ (alU k v).1.en = v.en ∧ (alU k v).1.lg = v.lg := by
  unfold alU
  split
  · exact ahU_s _
  · split <;> exact ⟨rfl, rfl, rfl, rfl, rfl, rfl, rfl⟩
theorem PCalm.alloc (h : PCalm k v) (o : Value) : PCalm k { (alU k v).1 with ov := o } := by
  obtain ⟨h1, h2, h3, h4, h5, h6, h7⟩ := alU_s (k := k) (v := v)
  exact h.as ((alU_j h.j).ov o) h1 h2 h3 h4 h5 h6 h7
theorem PCalm.free (h : PCalm k v) (n : Int) (o : Value) : PCalm k { frU k v n with ov := o } := by
  refine h.as ?_ ?_ ?_ ?_ ?_ ?_ ?_ ?_
  · unfold frU
    split
    · rename_i hi
      have hr := inU_rng hi (usedN_le h.j)
      refine PJ.ov ?_ o
      refine (h.j.st n (frB v) hr (frB_len v) (frB_rng v)).head n.toNat ?_
      have := h.j.z3; have := h.j.z1; omega
    · exact h.j.ov o
  all_goals (unfold frU; split <;> rfl)
theorem PCalm.abort (h : PCalm k v) (H : Nat) : PCalm k { v with h1 := v.h0, Hm := H, ch := [] } := h.as (h.j.ab H) rfl rfl rfl rfl rfl rfl rfl
theorem CkEnds.calm (h : PCalm k v) {w w' : World} {e : Ending} (hc : CkEnds k v w e w') : e = .returned (.int .i64 0) ∧ ∃ v', PE k v w v' w' ∧ PCalm k v' ∧ v'.a = v.a + 1 ∧ v'.b = v.b + 1 := by
  obtain ⟨rfl, f', lv', av', L', hpe, hr, hg⟩ := hc
  refine ⟨rfl, _, hpe, ⟨?_, [], hg⟩, rfl, rfl⟩
  have hl := hpe.1.dkl
  exact { h.j with fl := hl, fr := hr, lgr := fun n x hx => by simp [gl] at hx }
theorem PCalm.chN (h : PCalm k v) : 0 ≤ chN v ∧ chN v ≤ 1048577 := by
  have := h.j.chlen
  unfold Go.Proofs.Ytgadhpmcnikihaa.chN
  split <;> omega
theorem PCalm.held (h : PCalm k v) : (v.ca.length : Int) ≤ k.most := by
  have h1 := (CI.len h.j.ci).1
  exact h1
end
end Go.Proofs.Ytgadhpmcnikihaa
/- the law's blocks and steps -/
namespace Go.Proofs.Ytgadhpmcnikihaa
open Go.RowKit
/-- the law's block of a byte -/
def blk5 (b : Int) : List Int := if b = 0 then zeros 256 else blkOf b
theorem blk5_len (b : Int) : (blk5 b).length = 256 := by unfold blk5; split; exact zeros_len _; exact blkOf_len b
theorem blk5_rng (b : Int) (h : 0 ≤ b) : Rng (blk5 b) := by
  unfold blk5
  split
  · exact rng_zeros _
  · intro x hx
    obtain ⟨i, _, rfl⟩ := List.mem_map.1 hx
    omega
set_option maxRecDepth 100000 in
set_option maxHeartbeats 1000000 in
theorem block5_any (b : Int) (w : World) (hb : 0 ≤ b) :
    Calls Try.prog 9 #[.int .u8 b] w fun e w' => e = .returned (.agg (ArrU8 (blk5 b))) ∧ Below w.heap.size w w' := by
  have HI0 := Lib.hid (show (Try.prog.info? 34).map (·.size) = some (ArrU8 (zeros 256)).size by rw [ArrU8_size, zeros, List.length_replicate]; kernel_rfl)
  have hz := zero35
  have hbl : ∀ u : World, (Instr.build 34 #[]).run Try.prog u = .ok (.agg (ArrU8 (zeros 256))) u := fun u => by kernel_rfl
  go_enter Try.func9, Try.ntmps9
  have hcell : ((w.alloc (.cells (ArrU8 (zeros 256)) 34)).alloc (.cells (ArrU8 (zeros 256)) 34)).heap[w.heap.size + 1]? = some (.cells (ArrU8 (zeros 256)) 34 (0, 0)) := by
    have := heap_alloc_new (w.alloc (.cells (ArrU8 (zeros 256)) 34)) (.cells (ArrU8 (zeros 256)) 34)
    rwa [World.size_alloc] at this
  have HC := Lib.hid hcell
  clear hcell
  go_wp2_with (first | (refine wpList_store_row rfl 34 (Operand.tmp 3) (Operand.tmp 5) rfl (w.heap.size + 1) (ArrU8 (zeros 256)) rfl rfl 34 _ HC.out HI0.out rfl (ArrU8_one _) ?_) | fail)
  have hd0 := setRow_heap _ _ _ (ArrU8 (zeros 256)) _ _ HC.out
  have hbw : Below w.heap.size w (((w.alloc (.cells (ArrU8 (zeros 256)) 34)).alloc (.cells (ArrU8 (zeros 256)) 34)).setRow (w.heap.size + 1) (ArrU8 (zeros 256))) := below_setRow (((Below.refl _ _).alloc (Nat.le_refl _) _).alloc (by simp) _) (by omega) _
  have hr0 : (((w.alloc (.cells (ArrU8 (zeros 256)) 34)).alloc (.cells (ArrU8 (zeros 256)) 34)).setRow (w.heap.size + 1) (ArrU8 (zeros 256))).heap[w.heap.size]? = some (.cells (ArrU8 (zeros 256)) 34 (0, 0)) := by
    rw [setRow_other _ _ _ _ (by omega), Below.heap_alloc _ _ _ (by simp)]
    exact heap_alloc_new _ _
  have hsz : (((w.alloc (.cells (ArrU8 (zeros 256)) 34)).alloc (.cells (ArrU8 (zeros 256)) 34)).setRow (w.heap.size + 1) (ArrU8 (zeros 256))).heap.size = w.heap.size + 2 := by simp
  have hZ : ArrU8 (zeros 256) = DR (blkOf b) 0 := by simp [DR, zeros]
  have HD0 := Lib.hid hd0
  have HZ := Lib.hid hZ
  have HBW := Lib.hid hbw
  have HR0 := Lib.hid hr0
  have HSZ := Lib.hid hsz
  have BL := Lib.hid (blkOf_len b)
  clear hd0 hbw hr0 hsz hZ HC
  generalize ((w.alloc (.cells (ArrU8 (zeros 256)) 34)).alloc (.cells (ArrU8 (zeros 256)) 34)).setRow (w.heap.size + 1) (ArrU8 (zeros 256)) = w2 at *
  go_wp2_with fail
  by_cases hb0 : b = 0
  · subst hb0
    have HB5 := Lib.hid (show blk5 0 = zeros 256 from rfl)
    go_loopw [4] (fun iv wx => iv = .int .i64 0 ∧ wx = w2) (fun _ _ => 0)
    case atStart => exact ⟨rfl, rfl⟩
    case round =>
      obtain ⟨rfl, rfl⟩ := hrel
      go_wp2_with (first | (refine wpList_load_row rfl 34 (Operand.tmp 3) rfl (w.heap.size + 1) rfl 34 (ArrU8 (zeros 256)) (0,0) _ HD0.out Try.underlying34 rfl HI0.out ?_) | (refine wpList_store_row rfl 34 (Operand.tmp 2) (Operand.tmp 21) rfl w.heap.size (ArrU8 (zeros 256)) rfl rfl 34 _ HR0.out HI0.out rfl (ArrU8_one _) ?_))
      refine bodyPost_ret (results_cell_row rfl _ _ w.heap.size 34 (ArrU8 (zeros 256)) (0,0) _ rfl (setRow_heap _ _ _ _ _ _ HR0.out) Try.underlying34 rfl HI0.out) rfl ⟨?_, below_setRow HBW.out (by omega) _⟩
      rw [HB5.out]
  · have hbp : b > 0 := by omega
    have HB5 := Lib.hid (show blk5 b = blkOf b from if_neg hb0)
    clear HI0
    go_loopw [4] (fun iv wx => ∃ i : Nat, i ≤ 256 ∧ iv = .int .i64 i ∧ Below w.heap.size w wx ∧ wx.heap.size = w.heap.size + 2 ∧ wx.heap[w.heap.size]? = some (.cells (ArrU8 (zeros 256)) 34 (0, 0)) ∧ wx.heap[w.heap.size + 1]? = some (.cells (DR (blkOf b) i) 34 (0, 0))) (fun iv _ => 256 - (intOf iv).toNat)
    case atStart => exact ⟨0, by omega, rfl, HBW.out, HSZ.out, HR0.out, by rw [← HZ.out]; exact HD0.out⟩
    case round =>
      clear HD0 HBW HR0 HSZ
      obtain ⟨i, hi, rfl, hbx, hsx, hrx, hx⟩ := hrel
      have HX := Lib.hid hx
      have HRX := Lib.hid hrx
      have HBX := Lib.hid hbx
      have HSX := Lib.hid hsx
      by_cases hlt : i < 256
      · have hii : (i : Int) < 256 := by omega
        obtain ⟨old, ho⟩ := DR_get (blkOf b) i i BL.out (by omega) hlt
        have cs := (cell_of_row wr _ i _ _ _ hx).trans ho
        have fs := frozen_of_row wr _ i _ _ hx
        clear hx hrx hbx hsx ho
        go_wp2
        refine ⟨⟨i + 1, by omega, by go_num, HBX.out.setCell (by simp) _, by simp [HSX.out], ?_, ?_⟩, by simp [intOf]; omega⟩
        · exact (heap_setCell_other _ _ _ _ (by simp)).trans HRX.out
        · refine (heap_setCell_same _ _ _ _ _ _ HX.out).trans ?_
          rw [DR_set (blkOf b) i BL.out hlt _ (blkOf_get b i hlt)]
      · obtain rfl : i = 256 := by omega
        clear hx hrx hbx hsx
        have HI := Lib.hid (show (Try.prog.info? 34).map (·.size) = some (DR (blkOf b) 256).size by rw [DR_size _ 256 BL.out (by omega)]; kernel_rfl)
        have HS := Lib.hid (DR_size (blkOf b) 256 BL.out (by omega))
        go_wp2_with (first | (refine wpList_load_row rfl 34 (Operand.tmp 3) rfl (w.heap.size + 1) rfl 34 (DR (blkOf b) 256) (0,0) _ HX.out Try.underlying34 rfl HI.out ?_) | (refine wpList_store_row rfl 34 (Operand.tmp 2) (Operand.tmp 21) rfl w.heap.size (DR (blkOf b) 256) rfl rfl 34 _ HRX.out HI.out (by rw [HS.out]; rfl) (ArrU8_one _) ?_))
        refine bodyPost_ret (results_cell_row rfl _ _ w.heap.size 34 (DR (blkOf b) 256) (0,0) _ rfl (setRow_heap _ _ _ _ _ _ HRX.out) Try.underlying34 rfl HI.out) rfl ⟨?_, below_setRow HBX.out (by omega) _⟩
        rw [DR_end _ BL.out, HB5.out]
/-- a step -/
structure S5 where
  k : Int
  n : Int
  b : Int
structure S5.OK (x : S5) : Prop where
  hk : -9223372036854775808 ≤ x.k ∧ x.k ≤ 9223372036854775807
  hn : -9223372036854775808 ≤ x.n ∧ x.n ≤ 9223372036854775807
  hb : 0 ≤ x.b ∧ x.b ≤ 255
def Steps5 (w : World) (v : Value) (l : List S5) : Prop :=
  ∃ (a : Option Addr) (cap : Nat), v = .slice a l.length cap ∧ (0 < l.length → ∃ b off, a = some ⟨b, off, none⟩ ∧ b < w.heap.size ∧
    ∀ i x, l[i]? = some x → w.cell? ⟨b, off + i * 3, none⟩ = some (.int .i64 x.k) ∧ w.cell? ⟨b, off + i * 3 + 1, none⟩ = some (.int .i64 x.n) ∧ w.cell? ⟨b, off + i * 3 + 2, none⟩ = some (.int .u8 x.b) ∧ x.OK)
theorem Steps5.below {w w' : World} {v : Value} {l : List S5} (h : Steps5 w v l) (hb : Below w.heap.size w w') : Steps5 w' v l := by
  obtain ⟨a, cap, h1, h2⟩ := h
  refine ⟨a, cap, h1, fun h0 => ?_⟩
  obtain ⟨b, off, h3, h4, h5⟩ := h2 h0
  refine ⟨b, off, h3, Nat.lt_of_lt_of_le h4 hb.size, fun i x hx => ?_⟩
  obtain ⟨e1, e2, e3, e4⟩ := h5 i x hx
  exact ⟨(hb.cell (p := ⟨b, off + i * 3, none⟩) h4).trans e1, (hb.cell (p := ⟨b, off + i * 3 + 1, none⟩) h4).trans e2, (hb.cell (p := ⟨b, off + i * 3 + 2, none⟩) h4).trans e3, e4⟩
/-- the numbers of a header's page are read back -/
theorem hdr_ovB (ns : List Nat) (l : List Int) (hn : ns.length = 18) (h64 : ∀ n ∈ ns, n < 18446744073709551616) : hdr (ovB ns l) = ns := by
  apply List.ext_getElem
  · rw [hdr_len, hn]
  · intro i h1 h2
    simp only [hdr, List.getElem_map, List.getElem_range]
    unfold nAt ovB ovL
    rw [show ns.take 18 = ns from List.take_of_length_le (by omega), flat8_drop _ _ i (by omega), List.drop_eq_getElem_cons h2, List.flatMap_cons, List.append_assoc, List.take_left' (be8_len _), beI_be8 _ (h64 _ (List.getElem_mem h2))]
theorem hdr_hdr0 : hdr hdr0 = 1 :: List.replicate 17 0 := hdr_ovB _ _ rfl (by decide)
theorem fresh_far (f : Int → List Int) (sz n : Int) (h : 3 ≤ sz) (hn : 0 ≤ n) : fputs (fput f sz hdr0) (fw 0) (sz + n) = if n = 0 then hdr0 else f (sz + n) := by
  rw [fputs_far _ _ _ (fun x hx => by
    rw [fw, List.mem_cons, List.mem_singleton] at hx
    rcases hx with rfl | rfl
    · show (0 : Int) + 1 ≠ sz + n; omega
    · show (0 : Int) ≠ sz + n; omega)]
  unfold fput
  split
  · rename_i h1; rw [if_pos (by omega)]
  · rename_i h1; rw [if_neg (by omega)]
/-- a pager that was opened on a disk that does not fail is calm -/
theorem opened_calm {w w' : World} {B D M : Nat} {nb rm sz hold : Int} {f : Int → List Int} {lv : Value} {a b c : Nat} {rs : List (List Int)} {e : Ending} (h : OpnEnds B D M nb rm (-1) sz hold f [] lv a b c rs w e w') (hd : LgD w B D M nb rm f lv 0 sz a b c rs) (hnb : sz < nb) (hrm : nb ≤ rm) (hrs : ∀ r ∈ rs, RecOK (nb - sz) r)
    (hu : 1 ≤ hN (hdr (stoF sz f (lgF rs [] 0) 0)) 0 ∧ (hN (hdr (stoF sz f (lgF rs [] 0) 0)) 0 : Int) ≤ nb - sz) :
    ∃ Pl P Lm C Hm, e = .returned (.tuple #[.pointer (some ⟨P, 0, none⟩), .int .i64 0]) ∧ Chg (Foot D M lv) w w' ∧ ∀ k v, k = (⟨B, D, M, Pl, P, nb, rm, sz, max hold 0⟩ : PK) → v = (⟨⟨-1, false, f, []⟩, lv, a, b, c, .slice none 0 0, [], Lm, c, C, .slice none 0 0, hdr (stoF sz f (lgF rs [] 0) 0), hdr (stoF sz f (lgF rs [] 0) 0), Hm, lgF rs [] 0, [], [], []⟩ : PV) →
      PgS k v w' ∧ PCalm k v ∧ ∀ g, PF k v g → Foot D M lv g ∨ w.heap.size ≤ g := by
  obtain ⟨Pl, P, Lm, C, Hm, rfl, hc, hk⟩ := h
  refine ⟨Pl, P, Lm, C, Hm, rfl, hc, fun k v hkk hvv => ?_⟩
  obtain ⟨h1, h2⟩ := hk k v hkk hvv
  subst hkk hvv
  have hel : (encs rs).length = c := by rw [← hd.area]; exact areaB_len _ _ h1.dkl c
  have hb64 : ∀ n ∈ hdr (stoF sz f (lgF rs [] 0) 0), n < 18446744073709551616 := fun n hn => by
    obtain ⟨i, _, rfl⟩ := List.mem_map.1 hn
    refine nAt_lt _ ?_ i
    unfold stoF
    split
    · exact arRd_rng hd.rng _
    · exact hd.rng _
  refine ⟨h1, ⟨?_, rs, ?_⟩, h2⟩
  · exact { z1 := hd.h2, z2 := hnb, z3 := hd.h4, m0 := by show 0 ≤ max hold 0; omega
            lgr := lgF_rng rs hrs [] 0 (Int.le_refl _) (fun n x hx => by simp [gl] at hx) (by rw [hel]; have := hd.fits; show (0 : Int) + c ≤ (sz - 2) * 256; omega)
            ci := CI.nil (by show 0 ≤ max hold 0; omega)
            chl := fun n l hl => by simp [gl] at hl
            chn := List.nodup_nil
            chr := fun n hn => by simp [gk] at hn
            fl := h1.dkl, fr := hd.rng, b0 := hb64, b1 := hb64, u0 := hu, u1 := hu, l0 := hdr_len _, l1 := hdr_len _ }
  · exact { s := rfl, rm := hrm, mkf := hd.mkf, area := hd.area, fits := hd.fits, rrs := fun r hr => (hrs r hr).rng, ha := hd.ha, hb := hd.hb, pe := rfl, en := rfl
            lgk := lgF_keys rs hrs [] 0 (fun n hn => by simp [gk] at hn) }
end Go.Proofs.Ytgadhpmcnikihaa
/- the law's fixed calls -/
namespace Go.Proofs.Ytgadhpmcnikihaa
open Go.RowKit
/-- what the fixed calls look at -/
structure FxS (v : PV) (h0 h1 : List Nat) (ca : List (Int × List Int)) (od : List Int) (ch : List (Int × List Int)) : Prop where
  h0 : v.h0 = h0
  h1 : v.h1 = h1
  ca : v.ca = ca
  od : v.od = od
  ch : v.ch = ch
  lg : v.lg = []
  dn : v.s.dn = false
  f1 : v.s.f 17 = zeros 256
  f2 : v.s.f 18 = zeros 256
def fxk (B D M Pl P : Nat) (rm : Int) : PK := ⟨B, D, M, Pl, P, 40, rm, 16, 4⟩
def fh (u h : Nat) : List Nat := u :: h :: List.replicate 16 0
section
variable {B D M Pl P : Nat} {rm : Int} {v : PV} {ca : List (Int × List Int)} {od : List Int} {ch : List (Int × List Int)}
theorem fx_cmN {n : Int} {h0 h1 : List Nat} (h : FxS v h0 h1 ca od ch) (hn : gl ca n = none) (hf : v.s.f (16 + n) = zeros 256) : cmR (fxk B D M Pl P rm) v n = (zeros 256, 0) ∧ cmV (fxk B D M Pl P rm) v n = keepP 4 ca od n (zeros 256) := by
  have hs : sto (fxk B D M Pl P rm) v n = zeros 256 := by
    unfold sto
    rw [h.lg]
    exact hf
  unfold cmR cmV
  rw [h.ca, hn, h.od]
  simp only [h.dn, hs]
  exact ⟨rfl, rfl⟩
theorem fx_cmS {n : Int} {b : List Int} {h0 h1 : List Nat} (h : FxS v h0 h1 ca od ch) (hn : gl ca n = some b) : cmR (fxk B D M Pl P rm) v n = (b, 0) ∧ cmV (fxk B D M Pl P rm) v n = (ca, od) := by
  unfold cmR cmV
  rw [h.ca, hn, h.od]
  exact ⟨rfl, rfl⟩
theorem fx_alloc1 (h : FxS v (fh 1 0) (fh 1 0) [] [] []) : ∃ v', alU (fxk B D M Pl P rm) v = (v', 1, 0) ∧ FxS v' (fh 1 0) (fh 2 0) [(1, zeros 256)] [1] [] := by
  have hx : FxS { v with h1 := v.h1.set 0 (hN v.h1 0 + 1) } (fh 1 0) (fh 2 0) [] [] [] := { h with h1 := by show v.h1.set 0 _ = _; rw [h.h1]; rfl }
  obtain ⟨e1, e2⟩ := fx_cmN (B := B) (D := D) (M := M) (Pl := Pl) (P := P) (rm := rm) (n := 1) hx rfl h.f1
  refine ⟨stU (fxk B D M Pl P rm) { v with h1 := v.h1.set 0 (hN v.h1 0 + 1) } 1 (zeros 256), ?_, ?_⟩
  · unfold alU
    rw [h.h1]
    rfl
  · refine { hx with ca := ?_, od := ?_, ch := ?_ }
    · show (cmV _ _ _).1 = _; rw [e2]; rfl
    · show (cmV _ _ _).2 = _; rw [e2]; rfl
    · show stV _ _ _ _ = _
      unfold stV
      rw [e1, if_pos ⟨rfl, rfl⟩]
      show gd v.ch 1 = []
      rw [h.ch]
      rfl
theorem fx_alloc2 (h : FxS v (fh 1 0) (fh 2 0) [(1, zeros 256)] [1] []) : ∃ v', alU (fxk B D M Pl P rm) v = (v', 2, 0) ∧ FxS v' (fh 1 0) (fh 3 0) [(1, zeros 256), (2, zeros 256)] [1, 2] [] := by
  have hx : FxS { v with h1 := v.h1.set 0 (hN v.h1 0 + 1) } (fh 1 0) (fh 3 0) [(1, zeros 256)] [1] [] := { h with h1 := by show v.h1.set 0 _ = _; rw [h.h1]; rfl }
  obtain ⟨e1, e2⟩ := fx_cmN (B := B) (D := D) (M := M) (Pl := Pl) (P := P) (rm := rm) (n := 2) hx rfl h.f2
  refine ⟨stU (fxk B D M Pl P rm) { v with h1 := v.h1.set 0 (hN v.h1 0 + 1) } 2 (zeros 256), ?_, ?_⟩
  · unfold alU
    rw [h.h1]
    rfl
  · refine { hx with ca := ?_, od := ?_, ch := ?_ }
    · show (cmV _ _ _).1 = _; rw [e2]; rfl
    · show (cmV _ _ _).2 = _; rw [e2]; rfl
    · show stV _ _ _ _ = _
      unfold stV
      rw [e1, if_pos ⟨rfl, rfl⟩]
      show gd v.ch 2 = []
      rw [h.ch]
      rfl
theorem fx_put1 {b1 : List Int} (hb : b1 ≠ zeros 256) (h : FxS v (fh 1 0) (fh 3 0) [(1, zeros 256), (2, zeros 256)] [1, 2] []) (o : Value) :
    inU v 1 = true ∧ FxS { v with ov := o, ca := (puV (fxk B D M Pl P rm) v 1 b1).1, od := (puV (fxk B D M Pl P rm) v 1 b1).2.1, ch := (puV (fxk B D M Pl P rm) v 1 b1).2.2 } (fh 1 0) (fh 3 0) [(1, zeros 256), (2, zeros 256)] [1, 2] [(1, b1)] := by
  have hi : inU v 1 = true := by unfold inU usedN; rw [h.h1]; rfl
  obtain ⟨e1, e2⟩ := fx_cmS (B := B) (D := D) (M := M) (Pl := Pl) (P := P) (rm := rm) (n := 1) (b := zeros 256) h rfl
  have hp : puV (fxk B D M Pl P rm) v 1 b1 = ([(1, zeros 256), (2, zeros 256)], [1, 2], [(1, b1)]) := by
    unfold puV stV
    rw [if_pos hi, e1, e2, if_neg (fun hh => hb hh.2), h.ch]
    rfl
  refine ⟨hi, { h with ca := ?_, od := ?_, ch := ?_ }⟩ <;> (show _ = _; simp only [hp])
theorem frB_0 (h : hN v.h1 1 = 0) : frB v = zeros 256 := by
  unfold frB
  rw [h]
  rfl
theorem fx_free {b1 : List Int} (h : FxS v (fh 1 0) (fh 3 0) [(1, zeros 256), (2, zeros 256)] [1, 2] [(1, b1)]) (o : Value) :
    inU v 2 = true ∧ FxS { frU (fxk B D M Pl P rm) v 2 with ov := o } (fh 1 0) (fh 3 2) [(1, zeros 256), (2, zeros 256)] [1, 2] [(1, b1)] := by
  have hi : inU v 2 = true := by unfold inU usedN; rw [h.h1]; rfl
  obtain ⟨e1, e2⟩ := fx_cmS (B := B) (D := D) (M := M) (Pl := Pl) (P := P) (rm := rm) (n := 2) (b := zeros 256) h rfl
  have hf := frB_0 (v := v) (by rw [h.h1]; rfl)
  refine ⟨hi, ?_⟩
  unfold frU
  rw [if_pos hi]
  refine { h with h1 := ?_, ca := ?_, od := ?_, ch := ?_ }
  · show v.h1.set 1 _ = _; rw [h.h1]; rfl
  · show (cmV _ _ _).1 = _; rw [e2]
  · show (cmV _ _ _).2 = _; rw [e2]
  · show stV _ _ _ _ = _
    unfold stV
    rw [e1, hf, if_pos ⟨rfl, rfl⟩, h.ch]
    rfl
theorem fx_alloc3 {b1 : List Int} (h : FxS v (fh 1 0) (fh 3 2) [(1, zeros 256), (2, zeros 256)] [1, 2] [(1, b1)]) : ∃ v', alU (fxk B D M Pl P rm) v = (v', 2, 0) ∧ FxS v' (fh 1 0) (fh 3 0) [(1, zeros 256), (2, zeros 256)] [1, 2] [(1, b1)] := by
  obtain ⟨e1, e2⟩ := fx_cmS (B := B) (D := D) (M := M) (Pl := Pl) (P := P) (rm := rm) (n := 2) (b := zeros 256) h rfl
  have e3 : cuR (fxk B D M Pl P rm) v 2 = (zeros 256, 0) := by unfold cuR; rw [h.ch]; exact e1
  have e4 : cuV (fxk B D M Pl P rm) v 2 = ([(1, zeros 256), (2, zeros 256)], [1, 2]) := by unfold cuV; rw [h.ch]; exact e2
  have hz : beI ((zeros 256).take 8) = 0 := by decide
  have hx : FxS { cuU (fxk B D M Pl P rm) v 2 with h1 := v.h1.set 1 0 } (fh 1 0) (fh 3 0) [(1, zeros 256), (2, zeros 256)] [1, 2] [(1, b1)] :=
    { h with h1 := (by show v.h1.set 1 0 = _; rw [h.h1]; rfl), ca := (by show (cuV _ _ _).1 = _; rw [e4]), od := (by show (cuV _ _ _).2 = _; rw [e4]) }
  obtain ⟨e5, e6⟩ := fx_cmS (B := B) (D := D) (M := M) (Pl := Pl) (P := P) (rm := rm) (n := 2) (b := zeros 256) hx rfl
  refine ⟨stU (fxk B D M Pl P rm) { cuU (fxk B D M Pl P rm) v 2 with h1 := v.h1.set 1 0 } 2 (zeros 256), ?_, ?_⟩
  · have h12 : (0 < hN v.h1 1 ∧ hN v.h1 1 < hN v.h1 0) := by rw [h.h1]; decide
    have hh : ((hN v.h1 1 : Nat) : Int) = 2 := by rw [h.h1]; rfl
    unfold alU
    rw [if_pos h12, hh]
    unfold ahU
    rw [e3, if_pos rfl, hz]
  · refine { hx with ca := ?_, od := ?_, ch := ?_ }
    · show (cmV _ _ _).1 = _; rw [e6]
    · show (cmV _ _ _).2 = _; rw [e6]
    · show stV _ _ _ _ = _
      unfold stV
      rw [e5, if_pos ⟨rfl, rfl⟩]
      show gd v.ch 2 = _
      rw [h.ch]
      rfl
theorem fx_changed {b1 : List Int} (h : FxS v (fh 1 0) (fh 3 0) ca od [(1, b1)]) : chN v = 2 := by
  unfold chN
  rw [h.ch, h.h1, h.h0, if_neg (by decide)]
  rfl
end
end Go.Proofs.Ytgadhpmcnikihaa
/- the law's fixed calls: the second half -/
namespace Go.Proofs.Ytgadhpmcnikihaa
open Go.RowKit
/-- behind the Commit -/
structure FxC (v : PV) (b1 : List Int) : Prop where
  h0 : v.h0 = fh 3 0
  c1 : gl v.ca 1 = some b1
section
variable {B D M Pl P : Nat} {rm : Int} {v : PV} {b1 : List Int}
theorem srt10 : srt [1, 0] = [0, 1] := by
  simp [srt, List.mergeSort, List.MergeSort.Internal.splitInTwo]
theorem fx_chg (h : FxS v (fh 1 0) (fh 3 0) [(1, zeros 256), (2, zeros 256)] [1, 2] [(1, b1)]) : chgP (fxk B D M Pl P rm) v = [(1, b1), (0, ovB v.h1 (cmR (fxk B D M Pl P rm) v 0).1)] := by
  unfold chgP
  rw [if_neg (by rw [h.h1, h.h0]; decide), h.ch]
  rfl
theorem fx_saved (h : FxS v (fh 1 0) (fh 3 0) [(1, zeros 256), (2, zeros 256)] [1, 2] [(1, b1)]) : gl (savedC (fxk B D M Pl P rm) v).1 1 = some b1 := by
  have h0 : gl v.ca 0 = none := by rw [h.ca]; rfl
  have hcu : ((chU (fxk B D M Pl P rm) v).ca, (chU (fxk B D M Pl P rm) v).od) = keepP 4 [(1, zeros 256), (2, zeros 256)] [1, 2] 0 (sto (fxk B D M Pl P rm) v 0) := by
    unfold chU
    rw [if_neg (by rw [h.h1, h.h0]; decide)]
    show ((cmV _ v 0).1, (cmV _ v 0).2) = _
    unfold cmV
    rw [h0]
    simp only [h.dn, h.ca, h.od]
    rfl
  unfold savedC
  rw [hcu, fx_chg h]
  show gl (keepL 4 _ (srt [1, 0]) _).1 1 = _
  rw [srt10]
  rfl
theorem fx_done (h : FxS v (fh 1 0) (fh 3 0) [(1, zeros 256), (2, zeros 256)] [1, 2] [(1, b1)]) {w w' : World} {e : Ending} (hc : CmtEnds (fxk B D M Pl P rm) v w e w') :
    e = .returned (.int .i64 0) ∧ ∃ v', PE (fxk B D M Pl P rm) v w v' w' ∧ PCalm (fxk B D M Pl P rm) v' ∧ FxC v' b1 ∧ v'.h1 = fh 3 0 := by
  obtain ⟨v', hpe, hcm, -, -, ⟨h1, -, -⟩ | ⟨-, rfl, h2, h3, h4, h5⟩ | ⟨-, -, h2⟩⟩ := hc
  · rw [fx_changed h] at h1; omega
  · refine ⟨rfl, v', hpe, hcm, ⟨by rw [h2, h.h1], ?_⟩, by rw [h3, h.h1]⟩
    have h6 := fx_saved (B := B) (D := D) (M := M) (Pl := Pl) (P := P) (rm := rm) h
    rw [← h5] at h6
    exact h6
  · unfold chL at h2
    rw [fx_chg h] at h2
    exact absurd (show (8 + 264 * ((2 : Nat) : Int)) ≤ (16 - 2) * 256 by decide) h2
theorem fxc_put (h : FxC v b1) (b2 : List Int) (h1 : v.h1 = fh 3 0) (o : Value) : inU v 1 = true ∧ FxC { v with ov := o, ca := (puV (fxk B D M Pl P rm) v 1 b2).1, od := (puV (fxk B D M Pl P rm) v 1 b2).2.1, ch := (puV (fxk B D M Pl P rm) v 1 b2).2.2 } b1 := by
  have hi : inU v 1 = true := by unfold inU usedN; rw [h1]; rfl
  refine ⟨hi, h.h0, ?_⟩
  show gl (puV _ _ _ _).1 1 = _
  unfold puV
  rw [if_pos hi]
  show gl (cmV _ v 1).1 1 = _
  unfold cmV
  rw [h.c1]
  exact h.c1
theorem fxc_get (h : FxC v b1) (h1 : v.h1 = fh 3 0) (hc : v.ch = []) : geR (fxk B D M Pl P rm) v 1 = (b1, 0) := by
  have hi : inU v 1 = true := by unfold inU usedN; rw [h1]; rfl
  unfold geR
  rw [if_pos hi]
  unfold cuR
  rw [hc]
  show cmR _ v 1 = _
  unfold cmR
  rw [h.c1]
theorem fxc_get0 : geR (fxk B D M Pl P rm) v 0 = (zeros 256, 2) := by
  unfold geR
  rw [if_neg (by unfold inU; simp)]
end
end Go.Proofs.Ytgadhpmcnikihaa
