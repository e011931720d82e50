/-
  PageHeld, second form: for any number of blocks, size, hold and script, where the arguments are of bulk at most 1048576, the law returns true and its arguments read as before. Conditions: those of the given statement alone.
-/
import Derived.Test.YtgadhpmcnikihaaHm01
import Derived.Test.YtgadhpmcnikihaaHm20
import Derived.WalkKit
import Derived.ProofKit
import Derived.BigQuiet
import Derived.Deep.QuietTactic
import Derived.WalkSpells
import Derived.WalkLawsBesides
import Derived.Lib.Hide
import Derived.Deep.MidRow
import Derived.Deep.RegionLaw
import Derived.BigRegion
import Derived.Laws.AppendOwnNone
import Derived.Deep.DeepMust
import Derived.Deep.AppendLies
import Derived.RegionTactic
import Derived.Deep.WholeRow
import Derived.BigFrame
import Derived.Deep.RegionWith
import Derived.Deep.RegionHeld3
import Derived.Maps.RangeWalk
import Derived.Laws.CopyOwn
import Derived.StillTailTactics
import Derived.OpenShut
namespace Go.Proofs.Ytgadhpmcnikihaa
open Go.RowKit
theorem held_num {mst cl cn : Int} (h : 0 ≤ cl ∧ cl ≤ mst) (hcl : cl ≤ 1048576) (hc : 0 ≤ cn ∧ cn ≤ 1048577) (hm : mst ≤ 9223372036854775807) : ¬ (cl + cn < 0) ∧ (cl + cn > mst → IntKind.i64.wrap (cl + cn - mst) = cl + cn - mst ∧ ¬ (cl + cn - mst > cn)) := by
  refine ⟨by omega, fun hg => ⟨wrap_i64 _ (by omega) (by omega), by omega⟩⟩
def HeldI (k : PK) (w1 : World) (i : Nat) (wr : World) : Prop := ∃ v, PgS k v wr ∧ PCalm k v ∧ v.a ≤ 1 + 2 * i ∧ v.b ≤ 1 + i ∧ Below w1.heap.size w1 wr
theorem HeldI.step {k : PK} {w1 w2 w3 : World} {v v' : PV} {i : Nat} (hB : k.B = w1.heap.size) (h : PgS k v w2) (hb : Below w1.heap.size w1 w2) (ha : v.a ≤ 1 + 2 * i) (hb2 : v.b ≤ 1 + i) (hpe : PE k v w2 v' w3) (hc : PCalm k v') (ha' : v'.a ≤ v.a + 2) (hb' : v'.b ≤ v.b + 1) : HeldI k w1 (i + 1) w3 := by
  refine ⟨v', hpe.1, hc, by omega, by omega, ?_⟩
  have := hpe.below h
  rw [hB] at this
  exact hb.trans this
set_option maxRecDepth 100000 in
set_option maxHeartbeats 16000000 in
theorem held_walk (blocks size hold : Int) (v : Value) (xs : List S5) (w : World) (hh : hold ≤ 9223372036854775807) (hv : Steps5 w v xs) (hl : xs.length ≤ 1048576) :
    Calls Try.prog 3 #[.int .i64 blocks, .int .i64 size, .int .i64 hold, v] w fun e w' => e = .returned (.bool true) ∧ Below w.heap.size w w' := by
  have HFX := Lib.hid (fixed5_any w)
  have HV := Lib.hid hv
  have HHH := Lib.hid hh
  clear hv hh
  go_enter Try.func3, Try.ntmps3
  go_wp2_with fail
  refine HFX.out.mono ?_
  rintro e w1 ⟨rfl, hb1⟩
  have HB1 := Lib.hid hb1
  clear hb1 HFX
  go_wp2_with fail
  by_cases hn : blocks < 1 ∨ 4096 < blocks
  · refine (new_nil blocks w1 hn).mono ?_
    rintro e w2 ⟨rfl, rfl⟩
    clear hn
    go_wp2_with fail
    go_ret
    exact ⟨rfl, HB1.out⟩
  · have hn1 : 1 ≤ blocks ∧ blocks ≤ 4096 := by omega
    refine (new_dk blocks w1 hn1.1 hn1.2).mono ?_
    rintro e w2 ⟨rfl, hdk, hb2⟩
    have HDK := Lib.hid hdk
    have HB2 := Lib.hid hb2
    have HN := Lib.hid hn1
    clear hdk hb2 hn hn1
    go_wp2_with fail
    by_cases hs : 3 ≤ size ∧ size < blocks
    · have HS := Lib.hid hs
      refine (pformat_any w1.heap.size (w1.heap.size + 1) w1.heap.size blocks blocks size _ [] _ w2 HDK.out (fun _ => rng_zeros _) hs HN.out.2 (Int.le_refl _) (Nat.zero_le _)).mono ?_
      rintro e w3 ⟨rfl, lv3, hld, hc3, hf3⟩
      have hst : stoF size (fputs (fput (fun _ => zeros 256) size hdr0) (fw 0)) (lgF [] [] 0) 0 = hdr0 := by
        show fputs _ _ (size + 0) = hdr0
        rw [fresh_far _ _ _ hs.1 (Int.le_refl _), if_pos rfl]
      have hu : 1 ≤ hN (hdr (stoF size (fputs (fput (fun _ => zeros 256) size hdr0) (fw 0)) (lgF [] [] 0) 0)) 0 ∧ (hN (hdr (stoF size (fputs (fput (fun _ => zeros 256) size hdr0) (fw 0)) (lgF [] [] 0) 0)) 0 : Int) ≤ blocks - size := by
        rw [hst, hdr_hdr0]
        exact ⟨Nat.le_refl 1, by show (1 : Int) ≤ blocks - size; omega⟩
      have HOP := Lib.hid ((popen_any w1.heap.size (w1.heap.size + 1) w1.heap.size blocks blocks (-1) size hold _ [] lv3 1 1 0 [] w3 hld.dk hs HN.out.2 hld.rng hld.mkf hld.fits hld.area (fun r hr => by cases hr) hu).mono fun e w' he => opened_calm he hld hs.2 (Int.le_refl _) (fun r hr => by cases hr) hu)
      have hbw3 : Below w1.heap.size w1 w3 := HB2.out.trans (hc3.below (fun g hg => (HDK.out.foot g hg).1) HB2.out.size)
      have HB3 := Lib.hid hbw3
      have HLT := Lib.hid (fun g hg => (hld.dk.foot g hg).1)
      clear hs hst hu hld hc3 hf3 hbw3
      go_wp2_with fail
      refine HOP.out.mono ?_
      rintro e w4 ⟨Pl, P, Lm, C, Hm, rfl, hc4, hk4⟩
      have hI0 : HeldI ⟨w1.heap.size, w1.heap.size + 1, w1.heap.size, Pl, P, blocks, blocks, size, max hold 0⟩ w1 0 w4 := by
        obtain ⟨h1, h2, h3⟩ := hk4 _ _ rfl rfl
        exact ⟨_, h1, h2, by show 1 ≤ 1 + 2 * 0; omega, by show 1 ≤ 1 + 0; omega, HB3.out.trans (hc4.below (fun g hg => HLT.out g hg) HB3.out.size)⟩
      have HI0 := Lib.hid hI0
      have HMST := Lib.hid (show (max hold 0) ≤ 9223372036854775807 by have := HHH.out; omega)
      clear hI0 hc4 hk4 HOP
      obtain ⟨va, vc, rfl, -⟩ := HV.out
      go_wp2_with fail
      generalize hmst : max hold 0 = mst at *
      go_loopw [12] (fun iv wr => ∃ i : Nat, i ≤ xs.length ∧ iv = .int .i64 (i : Int) ∧ HeldI ⟨w1.heap.size, w1.heap.size + 1, w1.heap.size, Pl, P, blocks, blocks, size, mst⟩ w1 i wr) (fun iv _ => xs.length - (intOf iv).toNat)
      case atStart => exact ⟨0, by omega, rfl, HI0.out⟩
      case round =>
        clear HI0
        obtain ⟨i, hi, rfl, hI⟩ := hrel
        have HI := Lib.hid hI
        obtain ⟨pv, hps, hpc, hpa, hpb, hbw⟩ := hI
        by_cases hlt : i < xs.length
        · have HPS := Lib.hid hps
          have HPC := Lib.hid hpc
          have HAB := Lib.hid (And.intro hpa hpb)
          have HBW := Lib.hid hbw
          have hvw := (HV.out.below HB1.out).below hbw
          obtain ⟨a', cap', hv', hvc⟩ := hvw
          simp only [Value.slice.injEq, true_and] at hv'
          obtain ⟨rfl, rfl⟩ := hv'
          obtain ⟨vb, vo, hva, hvl, hvx⟩ := hvc (by omega)
          subst hva
          obtain ⟨x, hx⟩ : ∃ x, xs[i]? = some x := ⟨_, List.getElem?_eq_getElem hlt⟩
          obtain ⟨c0, c1, c2, hok⟩ := hvx i x hx
          obtain ⟨xk, xn, xb⟩ := x
          have HOK := Lib.hid hok
          have HBX := Lib.hid (show 0 ≤ xb from hok.hb.1)
          have HXN := Lib.hid (show xn ≤ 9223372036854775807 from hok.hn.2)
          simp only at c0 c1 c2
          have hai : i ≤ 1048576 := by omega
          have hb6 : Below wr.heap.size wr (wr.alloc (.cells #[.int .i64 xk, .int .i64 xn, .int .u8 xb] 32)) := (Below.refl _ _).alloc (Nat.le_refl _) _
          have HP6 := Lib.hid (hps.fresh hb6)
          have HB6 := Lib.hid (hbw.trans (hb6.mono hbw.size))
          have HPF6 := Lib.hid (fun g hg => (hps.lt g hg).2)
          have hx6 := heap_alloc_new wr (.cells #[.int .i64 xk, .int .i64 xn, .int .u8 xb] 32)
          have d1 := (cell_of_row _ wr.heap.size 1 _ _ _ hx6).trans (show (#[Value.int .i64 xk, .int .i64 xn, .int .u8 xb] : Array Value)[1]? = some (.int .i64 xn) from rfl)
          have d2 := (cell_of_row _ wr.heap.size 2 _ _ _ hx6).trans (show (#[Value.int .i64 xk, .int .i64 xn, .int .u8 xb] : Array Value)[2]? = some (.int .u8 xb) from rfl)
          have d0 := (cell_of_row _ wr.heap.size 0 _ _ _ hx6).trans (show (#[Value.int .i64 xk, .int .i64 xn, .int .u8 xb] : Array Value)[0]? = some (.int .i64 xk) from rfl)
          clear hps hpc hpa hpb hbw hvc hvl hvx hx hok hb6 hx6
          by_cases hk0 : xk = 0
          · subst hk0
            have hx6 := heap_alloc_new wr (.cells #[.int .i64 0, .int .i64 xn, .int .u8 xb] 32)
            have HX6 := Lib.hid (show (wr.alloc (.cells #[.int .i64 0, .int .i64 xn, .int .u8 xb] 32)).drew.heap[wr.heap.size]? = some (.cells #[.int .i64 0, .int .i64 xn, .int .u8 xb] 32 (0, 0)) from hx6)
            have HBL := Lib.hid (block5_any xb (wr.alloc (.cells #[.int .i64 0, .int .i64 xn, .int .u8 xb] 32)).drew HBX.out)
            clear hx6
            go_wp2_with fail
            refine wp_region_held_drew (S := fun u => u.heap[wr.heap.size]? = some (.cells #[.int .i64 0, .int .i64 xn, .int .u8 xb] 32 (0, 0))) (by kernel_rfl) (HX6.out) (fun hHeld => ?_)
            refine wpAnyH_take (i := 0) (oi := ({ dst := some 60, op := Op.move (Operand.tmp 10), type := 28, pos := "law.go:166", after := #[], guard := none } : Oper)) (v := ?_) rfl (by kernel_rfl) (by kernel_rfl) (by kernel_rfl) (fun _ _ _ h => h) (Or.inl ⟨by rfl, ?_⟩) (by assumption) ?_
            rotate_left 1
            · (intro u hSw; go_simp; try with_reducible rfl)
            try simp only [Act.put, List.setIfInBounds_toArray, List.set_cons_zero, List.set_cons_succ]
            refine wpAnyH_take (i := 1) (oi := ({ dst := some 61, op := Op.fieldAddr 32 (Operand.tmp 13) 1, type := 0, pos := "law.go:166", after := #[], guard := none } : Oper)) (v := ?_) rfl (by kernel_rfl) (by kernel_rfl) (by kernel_rfl) (fun _ _ _ h => h) (Or.inl ⟨by rfl, ?_⟩) (by assumption) ?_
            rotate_left 1
            · (intro u hSw; go_simp; try with_reducible rfl)
            try simp only [Act.put, List.setIfInBounds_toArray, List.set_cons_zero, List.set_cons_succ]
            refine wpAnyH_take (i := 2) (oi := ({ dst := some 62, op := Op.load 3 (Operand.tmp 61), type := 3, pos := "law.go:166", after := #[{ on := 1, ground := Ground.data }], guard := none } : Oper)) (v := ?_) rfl (by kernel_rfl) (by kernel_rfl) (by kernel_rfl) (fun _ _ _ h => h) (Or.inl ⟨by rfl, ?_⟩) (by assumption) ?_
            rotate_left 1
            · (intro u hSw; have p1 := (cell_of_row u wr.heap.size 1 _ _ _ hSw).trans (show (#[Value.int .i64 0, .int .i64 xn, .int .u8 xb] : Array Value)[1]? = some (.int .i64 xn) from rfl); have p2 := (cell_of_row u wr.heap.size 2 _ _ _ hSw).trans (show (#[Value.int .i64 0, .int .i64 xn, .int .u8 xb] : Array Value)[2]? = some (.int .u8 xb) from rfl); go_simp; try with_reducible rfl)
            try simp only [Act.put, List.setIfInBounds_toArray, List.set_cons_zero, List.set_cons_succ]
            refine wpAnyH_take (i := 3) (oi := ({ dst := some 63, op := Op.fieldAddr 32 (Operand.tmp 13) 2, type := 0, pos := "law.go:166", after := #[], guard := none } : Oper)) (v := ?_) rfl (by kernel_rfl) (by kernel_rfl) (by kernel_rfl) (fun _ _ _ h => h) (Or.inl ⟨by rfl, ?_⟩) (by assumption) ?_
            rotate_left 1
            · (intro u hSw; go_simp; try with_reducible rfl)
            try simp only [Act.put, List.setIfInBounds_toArray, List.set_cons_zero, List.set_cons_succ]
            refine wpAnyH_take (i := 4) (oi := ({ dst := some 64, op := Op.load 5 (Operand.tmp 63), type := 5, pos := "law.go:166", after := #[{ on := 3, ground := Ground.data }], guard := none } : Oper)) (v := ?_) rfl (by kernel_rfl) (by kernel_rfl) (by kernel_rfl) (fun _ _ _ h => h) (Or.inl ⟨by rfl, ?_⟩) (by assumption) ?_
            rotate_left 1
            · (intro u hSw; have p1 := (cell_of_row u wr.heap.size 1 _ _ _ hSw).trans (show (#[Value.int .i64 0, .int .i64 xn, .int .u8 xb] : Array Value)[1]? = some (.int .i64 xn) from rfl); have p2 := (cell_of_row u wr.heap.size 2 _ _ _ hSw).trans (show (#[Value.int .i64 0, .int .i64 xn, .int .u8 xb] : Array Value)[2]? = some (.int .u8 xb) from rfl); go_simp; try with_reducible rfl)
            try simp only [Act.put, List.setIfInBounds_toArray, List.set_cons_zero, List.set_cons_succ]
            refine wpAnyH_ready (rs := [5]) (by kernel_rfl) (by simp) ?_
            refine (AllReadyH.cons (o := ({ dst := some 65, op := Op.call { callee := Callee.value (Operand.func 9), args := #[Operand.tmp 64], argTypes := #[5] }, type := 34, pos := "law.go:166", after := #[{ on := 4, ground := Ground.data }], guard := none } : Oper)) rfl (fun K hK => ?_) AllReadyH.nil)
            go_simp
            refine HBL.out.mono ?_
            rintro e w7 ⟨rfl, hb7⟩
            have HS7 := Lib.hid ((hb7.block _ (Array.getElem?_eq_some_iff.1 HX6.out).1).trans HX6.out)
            have HPU := Lib.hid (put_any _ pv xn (blk5 xb) w7 ((HP6.out.fresh (Below.refl _ _).drew).fresh hb7) HPC.out.j.pin (usedN_le HPC.out.j) HXN.out (blk5_len xb))
            have HB7 := Lib.hid (show Below (wr.alloc (.cells #[.int .i64 0, .int .i64 xn, .int .u8 xb] 32)).heap.size (wr.alloc (.cells #[.int .i64 0, .int .i64 xn, .int .u8 xb] 32)) w7 from (Below.refl _ _).drew.trans hb7)
            clear hb7 HBL
            go_wp2_with fail
            refine hK.out _ _ HS7.out (fun hHeld => ?_)
            clear hK K
            try simp only [Act.put, List.setIfInBounds_toArray, List.set_cons_zero, List.set_cons_succ]
            refine wpAnyH_ready (rs := [6]) (by kernel_rfl) (by simp) ?_
            refine (AllReadyH.cons (o := ({ dst := some 66, op := Op.call { callee := Callee.value (Operand.func 8), args := #[Operand.tmp 60, Operand.tmp 62, Operand.tmp 65], argTypes := #[28, 3, 34] }, type := 26, pos := "law.go:166", after := #[{ on := 0, ground := Ground.data }, { on := 2, ground := Ground.data }, { on := 5, ground := Ground.data }, { on := 5, ground := Ground.chain }], guard := none } : Oper)) rfl (fun K hK => ?_) AllReadyH.nil)
            go_simp
            refine HPU.out.mono ?_
            rintro e w9 ⟨rfl, ov', hpe⟩
            generalize (if inU pv xn = true then (0 : Int) else 2) = r9
            have HS9 := Lib.hid ((hpe.2.1.block _ (by have := (Array.getElem?_eq_some_iff.1 HS7.out).1; exact this) (fun hF => by have := (HP6.out.lt _ hF).1; have h2 := HPF6.out _ hF; omega)).trans HS7.out)
            have HI9 := Lib.hid (HeldI.step rfl HP6.out HB6.out HAB.out.1 HAB.out.2 (PE.trans (PE.same HP6.out HB7.out) hpe) (HPC.out.put xn (blk5 xb) (blk5_len xb) (blk5_rng xb HBX.out) ov') (by show pv.a ≤ pv.a + 2; omega) (by show pv.b ≤ pv.b + 1; omega))
            clear hpe HPU
            go_wp2_with fail
            refine hK.out _ _ HS9.out (fun hHeld => ?_)
            clear hK K
            try simp only [Act.put, List.setIfInBounds_toArray, List.set_cons_zero, List.set_cons_succ]
            refine wpAnyH_done (by kernel_rfl) ?_ _
            clear d0 d1 d2

            obtain ⟨v9, hp9, hc9, ha9, hb9, hw9⟩ := HI9.out
            have HHD := Lib.hid (held_any _ v9 w9 hp9 hc9.j.hin hc9.j.chlen hc9.j.calen)
            have hmv : (v9.ca.length : Int) ≤ mst := hc9.held
            have hnum := held_num (mst := mst) (cl := (v9.ca.length : Int)) (cn := chN v9) ⟨by omega, hmv⟩ (by have := hc9.j.calen; omega) hc9.chN HMST.out
            have HC9 := Lib.hid hc9
            have HP9 := Lib.hid hp9
            have HAB9 := Lib.hid (And.intro ha9 hb9)
            have HW9 := Lib.hid hw9
            clear hp9 hc9 ha9 hb9 hw9 hmv
            obtain ⟨hn0, hn1⟩ := hnum
            generalize hcl : (v9.ca.length : Int) = cl at *
            generalize hcn : chN v9 = cn at *
            have HCN := Lib.hid hcn
            have HN1 := Lib.hid hn1
            clear hcl hcn hn1
            go_wp2_with fail
            refine HHD.out.mono ?_
            rintro e w10 ⟨rfl, hb10⟩
            have HB10 := Lib.hid hb10
            clear hb10 HHD
            by_cases hg : cl + cn > mst
            · obtain ⟨hwr, hng⟩ := HN1.out hg
              have HCH := Lib.hid (changed_any _ v9 w10 (HP9.out.fresh HB10.out) HC9.out.j.hin HC9.out.j.chlen)
              have HCH2 := Lib.hid (HCN.out ▸ HCH.out)
              clear HCH
              go_wp2_with fail
              refine HCH2.out.mono ?_
              rintro e w11 ⟨rfl, hb11⟩
              have HB11 := Lib.hid hb11
              clear hb11 HCH2
              go_wp2_with fail
              go_roundw
              case rel => exact ⟨i + 1, by omega, by go_num, v9, (HP9.out.fresh HB10.out).fresh HB11.out, HC9.out, HAB9.out.1, HAB9.out.2, HW9.out.trans ((HB10.out.trans (HB11.out.mono HB10.out.size)).mono HW9.out.size)⟩
              case measure => simp [intOf]; omega
            · go_wp2_with fail
              go_roundw
              case rel => exact ⟨i + 1, by omega, by go_num, v9, HP9.out.fresh HB10.out, HC9.out, HAB9.out.1, HAB9.out.2, HW9.out.trans (HB10.out.mono HW9.out.size)⟩
              case measure => simp [intOf]; omega
          · skip
            by_cases hk1 : xk = 1
            · subst hk1
              have HCL := Lib.hid (get_any _ pv xn (wr.alloc (.cells #[.int .i64 1, .int .i64 xn, .int .u8 xb] 32)) HP6.out HPC.out.j.pin (usedN_le HPC.out.j) HXN.out)
              clear d0
              go_wp2_with fail
              refine HCL.out.mono ?_
              rintro e w9 ⟨rfl, ov', hpe⟩
              have HI9 := Lib.hid (HeldI.step rfl HP6.out HB6.out HAB.out.1 HAB.out.2 hpe (HPC.out.get xn ov') (by show pv.a ≤ pv.a + 2; omega) (by show pv.b ≤ pv.b + 1; omega))
              clear hpe HCL d1 d2

              obtain ⟨v9, hp9, hc9, ha9, hb9, hw9⟩ := HI9.out
              have HHD := Lib.hid (held_any _ v9 w9 hp9 hc9.j.hin hc9.j.chlen hc9.j.calen)
              have hmv : (v9.ca.length : Int) ≤ mst := hc9.held
              have hnum := held_num (mst := mst) (cl := (v9.ca.length : Int)) (cn := chN v9) ⟨by omega, hmv⟩ (by have := hc9.j.calen; omega) hc9.chN HMST.out
              have HC9 := Lib.hid hc9
              have HP9 := Lib.hid hp9
              have HAB9 := Lib.hid (And.intro ha9 hb9)
              have HW9 := Lib.hid hw9
              clear hp9 hc9 ha9 hb9 hw9 hmv
              obtain ⟨hn0, hn1⟩ := hnum
              generalize hcl : (v9.ca.length : Int) = cl at *
              generalize hcn : chN v9 = cn at *
              have HCN := Lib.hid hcn
              have HN1 := Lib.hid hn1
              clear hcl hcn hn1
              go_wp2_with fail
              refine HHD.out.mono ?_
              rintro e w10 ⟨rfl, hb10⟩
              have HB10 := Lib.hid hb10
              clear hb10 HHD
              by_cases hg : cl + cn > mst
              · obtain ⟨hwr, hng⟩ := HN1.out hg
                have HCH := Lib.hid (changed_any _ v9 w10 (HP9.out.fresh HB10.out) HC9.out.j.hin HC9.out.j.chlen)
                have HCH2 := Lib.hid (HCN.out ▸ HCH.out)
                clear HCH
                go_wp2_with fail
                refine HCH2.out.mono ?_
                rintro e w11 ⟨rfl, hb11⟩
                have HB11 := Lib.hid hb11
                clear hb11 HCH2
                go_wp2_with fail
                go_roundw
                case rel => exact ⟨i + 1, by omega, by go_num, v9, (HP9.out.fresh HB10.out).fresh HB11.out, HC9.out, HAB9.out.1, HAB9.out.2, HW9.out.trans ((HB10.out.trans (HB11.out.mono HB10.out.size)).mono HW9.out.size)⟩
                case measure => simp [intOf]; omega
              · go_wp2_with fail
                go_roundw
                case rel => exact ⟨i + 1, by omega, by go_num, v9, HP9.out.fresh HB10.out, HC9.out, HAB9.out.1, HAB9.out.2, HW9.out.trans (HB10.out.mono HW9.out.size)⟩
                case measure => simp [intOf]; omega
            · skip
              by_cases hk2 : xk = 2
              · subst hk2
                have HCL := Lib.hid (alloc_any _ pv (wr.alloc (.cells #[.int .i64 2, .int .i64 xn, .int .u8 xb] 32)) HP6.out HPC.out.j)
                clear d0
                go_wp2_with fail
                refine HCL.out.mono ?_
                rintro e w9 ⟨rfl, ov', hpe⟩
                have HI9 := Lib.hid (HeldI.step rfl HP6.out HB6.out HAB.out.1 HAB.out.2 hpe (HPC.out.alloc ov') (by rw [show ({ (alU _ pv).1 with ov := ov' } : PV).a = pv.a from alU_s.2.1]; omega) (by rw [show ({ (alU _ pv).1 with ov := ov' } : PV).b = pv.b from alU_s.2.2.1]; omega))
                clear hpe HCL d1 d2

                obtain ⟨v9, hp9, hc9, ha9, hb9, hw9⟩ := HI9.out
                have HHD := Lib.hid (held_any _ v9 w9 hp9 hc9.j.hin hc9.j.chlen hc9.j.calen)
                have hmv : (v9.ca.length : Int) ≤ mst := hc9.held
                have hnum := held_num (mst := mst) (cl := (v9.ca.length : Int)) (cn := chN v9) ⟨by omega, hmv⟩ (by have := hc9.j.calen; omega) hc9.chN HMST.out
                have HC9 := Lib.hid hc9
                have HP9 := Lib.hid hp9
                have HAB9 := Lib.hid (And.intro ha9 hb9)
                have HW9 := Lib.hid hw9
                clear hp9 hc9 ha9 hb9 hw9 hmv
                obtain ⟨hn0, hn1⟩ := hnum
                generalize hcl : (v9.ca.length : Int) = cl at *
                generalize hcn : chN v9 = cn at *
                have HCN := Lib.hid hcn
                have HN1 := Lib.hid hn1
                clear hcl hcn hn1
                go_wp2_with fail
                refine HHD.out.mono ?_
                rintro e w10 ⟨rfl, hb10⟩
                have HB10 := Lib.hid hb10
                clear hb10 HHD
                by_cases hg : cl + cn > mst
                · obtain ⟨hwr, hng⟩ := HN1.out hg
                  have HCH := Lib.hid (changed_any _ v9 w10 (HP9.out.fresh HB10.out) HC9.out.j.hin HC9.out.j.chlen)
                  have HCH2 := Lib.hid (HCN.out ▸ HCH.out)
                  clear HCH
                  go_wp2_with fail
                  refine HCH2.out.mono ?_
                  rintro e w11 ⟨rfl, hb11⟩
                  have HB11 := Lib.hid hb11
                  clear hb11 HCH2
                  go_wp2_with fail
                  go_roundw
                  case rel => exact ⟨i + 1, by omega, by go_num, v9, (HP9.out.fresh HB10.out).fresh HB11.out, HC9.out, HAB9.out.1, HAB9.out.2, HW9.out.trans ((HB10.out.trans (HB11.out.mono HB10.out.size)).mono HW9.out.size)⟩
                  case measure => simp [intOf]; omega
                · go_wp2_with fail
                  go_roundw
                  case rel => exact ⟨i + 1, by omega, by go_num, v9, HP9.out.fresh HB10.out, HC9.out, HAB9.out.1, HAB9.out.2, HW9.out.trans (HB10.out.mono HW9.out.size)⟩
                  case measure => simp [intOf]; omega
              · skip
                by_cases hk3 : xk = 3
                · subst hk3
                  have HCL := Lib.hid (free_page _ pv xn (wr.alloc (.cells #[.int .i64 3, .int .i64 xn, .int .u8 xb] 32)) HP6.out HPC.out.j HXN.out)
                  clear d0
                  go_wp2_with fail
                  refine HCL.out.mono ?_
                  rintro e w9 ⟨rfl, ov', hpe⟩
                  generalize (if inU pv xn = true then (0 : Int) else 2) = r9
                  have HI9 := Lib.hid (HeldI.step rfl HP6.out HB6.out HAB.out.1 HAB.out.2 hpe (HPC.out.free xn ov') (by show (frU _ pv xn).a ≤ _; unfold frU; split <;> (show pv.a ≤ pv.a + 2; omega)) (by show (frU _ pv xn).b ≤ _; unfold frU; split <;> (show pv.b ≤ pv.b + 1; omega)))
                  clear hpe HCL d1 d2

                  obtain ⟨v9, hp9, hc9, ha9, hb9, hw9⟩ := HI9.out
                  have HHD := Lib.hid (held_any _ v9 w9 hp9 hc9.j.hin hc9.j.chlen hc9.j.calen)
                  have hmv : (v9.ca.length : Int) ≤ mst := hc9.held
                  have hnum := held_num (mst := mst) (cl := (v9.ca.length : Int)) (cn := chN v9) ⟨by omega, hmv⟩ (by have := hc9.j.calen; omega) hc9.chN HMST.out
                  have HC9 := Lib.hid hc9
                  have HP9 := Lib.hid hp9
                  have HAB9 := Lib.hid (And.intro ha9 hb9)
                  have HW9 := Lib.hid hw9
                  clear hp9 hc9 ha9 hb9 hw9 hmv
                  obtain ⟨hn0, hn1⟩ := hnum
                  generalize hcl : (v9.ca.length : Int) = cl at *
                  generalize hcn : chN v9 = cn at *
                  have HCN := Lib.hid hcn
                  have HN1 := Lib.hid hn1
                  clear hcl hcn hn1
                  go_wp2_with fail
                  refine HHD.out.mono ?_
                  rintro e w10 ⟨rfl, hb10⟩
                  have HB10 := Lib.hid hb10
                  clear hb10 HHD
                  by_cases hg : cl + cn > mst
                  · obtain ⟨hwr, hng⟩ := HN1.out hg
                    have HCH := Lib.hid (changed_any _ v9 w10 (HP9.out.fresh HB10.out) HC9.out.j.hin HC9.out.j.chlen)
                    have HCH2 := Lib.hid (HCN.out ▸ HCH.out)
                    clear HCH
                    go_wp2_with fail
                    refine HCH2.out.mono ?_
                    rintro e w11 ⟨rfl, hb11⟩
                    have HB11 := Lib.hid hb11
                    clear hb11 HCH2
                    go_wp2_with fail
                    go_roundw
                    case rel => exact ⟨i + 1, by omega, by go_num, v9, (HP9.out.fresh HB10.out).fresh HB11.out, HC9.out, HAB9.out.1, HAB9.out.2, HW9.out.trans ((HB10.out.trans (HB11.out.mono HB10.out.size)).mono HW9.out.size)⟩
                    case measure => simp [intOf]; omega
                  · go_wp2_with fail
                    go_roundw
                    case rel => exact ⟨i + 1, by omega, by go_num, v9, HP9.out.fresh HB10.out, HC9.out, HAB9.out.1, HAB9.out.2, HW9.out.trans (HB10.out.mono HW9.out.size)⟩
                    case measure => simp [intOf]; omega
                · skip
                  by_cases hk5 : xk = 5
                  · subst hk5
                    have HCL := Lib.hid (commit_any _ pv (wr.alloc (.cells #[.int .i64 5, .int .i64 xn, .int .u8 xb] 32)) HP6.out HPC.out (by have := HAB.out.1; omega) (by have := HAB.out.2; omega))
                    clear d0
                    go_wp2_with fail
                    refine HCL.out.mono ?_
                    rintro e w9 ⟨v', hpe, hcm, hca, hcb, hor⟩
                    obtain ⟨r9, hr9⟩ : ∃ r, e = .returned (.int .i64 r) := by rcases hor with ⟨_, h, _⟩ | ⟨_, h, _⟩ | ⟨_, h, _⟩ <;> exact ⟨_, h⟩
                    subst hr9
                    have HI9 := Lib.hid (HeldI.step rfl HP6.out HB6.out HAB.out.1 HAB.out.2 hpe hcm hca hcb)
                    clear hpe hcm hca hcb hor HCL d1 d2

                    obtain ⟨v9, hp9, hc9, ha9, hb9, hw9⟩ := HI9.out
                    have HHD := Lib.hid (held_any _ v9 w9 hp9 hc9.j.hin hc9.j.chlen hc9.j.calen)
                    have hmv : (v9.ca.length : Int) ≤ mst := hc9.held
                    have hnum := held_num (mst := mst) (cl := (v9.ca.length : Int)) (cn := chN v9) ⟨by omega, hmv⟩ (by have := hc9.j.calen; omega) hc9.chN HMST.out
                    have HC9 := Lib.hid hc9
                    have HP9 := Lib.hid hp9
                    have HAB9 := Lib.hid (And.intro ha9 hb9)
                    have HW9 := Lib.hid hw9
                    clear hp9 hc9 ha9 hb9 hw9 hmv
                    obtain ⟨hn0, hn1⟩ := hnum
                    generalize hcl : (v9.ca.length : Int) = cl at *
                    generalize hcn : chN v9 = cn at *
                    have HCN := Lib.hid hcn
                    have HN1 := Lib.hid hn1
                    clear hcl hcn hn1
                    go_wp2_with fail
                    refine HHD.out.mono ?_
                    rintro e w10 ⟨rfl, hb10⟩
                    have HB10 := Lib.hid hb10
                    clear hb10 HHD
                    by_cases hg : cl + cn > mst
                    · obtain ⟨hwr, hng⟩ := HN1.out hg
                      have HCH := Lib.hid (changed_any _ v9 w10 (HP9.out.fresh HB10.out) HC9.out.j.hin HC9.out.j.chlen)
                      have HCH2 := Lib.hid (HCN.out ▸ HCH.out)
                      clear HCH
                      go_wp2_with fail
                      refine HCH2.out.mono ?_
                      rintro e w11 ⟨rfl, hb11⟩
                      have HB11 := Lib.hid hb11
                      clear hb11 HCH2
                      go_wp2_with fail
                      go_roundw
                      case rel => exact ⟨i + 1, by omega, by go_num, v9, (HP9.out.fresh HB10.out).fresh HB11.out, HC9.out, HAB9.out.1, HAB9.out.2, HW9.out.trans ((HB10.out.trans (HB11.out.mono HB10.out.size)).mono HW9.out.size)⟩
                      case measure => simp [intOf]; omega
                    · go_wp2_with fail
                      go_roundw
                      case rel => exact ⟨i + 1, by omega, by go_num, v9, HP9.out.fresh HB10.out, HC9.out, HAB9.out.1, HAB9.out.2, HW9.out.trans (HB10.out.mono HW9.out.size)⟩
                      case measure => simp [intOf]; omega
                  · skip
                    by_cases hk6 : xk = 6
                    · subst hk6
                      have HCL := Lib.hid (abort_any _ pv (wr.alloc (.cells #[.int .i64 6, .int .i64 xn, .int .u8 xb] 32)) HP6.out)
                      clear d0
                      go_wp2_with fail
                      refine HCL.out.mono ?_
                      rintro e w9 ⟨rfl, H', hpe⟩
                      have HI9 := Lib.hid (HeldI.step rfl HP6.out HB6.out HAB.out.1 HAB.out.2 hpe (HPC.out.abort H') (by show pv.a ≤ pv.a + 2; omega) (by show pv.b ≤ pv.b + 1; omega))
                      clear hpe HCL d1 d2

                      obtain ⟨v9, hp9, hc9, ha9, hb9, hw9⟩ := HI9.out
                      have HHD := Lib.hid (held_any _ v9 w9 hp9 hc9.j.hin hc9.j.chlen hc9.j.calen)
                      have hmv : (v9.ca.length : Int) ≤ mst := hc9.held
                      have hnum := held_num (mst := mst) (cl := (v9.ca.length : Int)) (cn := chN v9) ⟨by omega, hmv⟩ (by have := hc9.j.calen; omega) hc9.chN HMST.out
                      have HC9 := Lib.hid hc9
                      have HP9 := Lib.hid hp9
                      have HAB9 := Lib.hid (And.intro ha9 hb9)
                      have HW9 := Lib.hid hw9
                      clear hp9 hc9 ha9 hb9 hw9 hmv
                      obtain ⟨hn0, hn1⟩ := hnum
                      generalize hcl : (v9.ca.length : Int) = cl at *
                      generalize hcn : chN v9 = cn at *
                      have HCN := Lib.hid hcn
                      have HN1 := Lib.hid hn1
                      clear hcl hcn hn1
                      go_wp2_with fail
                      refine HHD.out.mono ?_
                      rintro e w10 ⟨rfl, hb10⟩
                      have HB10 := Lib.hid hb10
                      clear hb10 HHD
                      by_cases hg : cl + cn > mst
                      · obtain ⟨hwr, hng⟩ := HN1.out hg
                        have HCH := Lib.hid (changed_any _ v9 w10 (HP9.out.fresh HB10.out) HC9.out.j.hin HC9.out.j.chlen)
                        have HCH2 := Lib.hid (HCN.out ▸ HCH.out)
                        clear HCH
                        go_wp2_with fail
                        refine HCH2.out.mono ?_
                        rintro e w11 ⟨rfl, hb11⟩
                        have HB11 := Lib.hid hb11
                        clear hb11 HCH2
                        go_wp2_with fail
                        go_roundw
                        case rel => exact ⟨i + 1, by omega, by go_num, v9, (HP9.out.fresh HB10.out).fresh HB11.out, HC9.out, HAB9.out.1, HAB9.out.2, HW9.out.trans ((HB10.out.trans (HB11.out.mono HB10.out.size)).mono HW9.out.size)⟩
                        case measure => simp [intOf]; omega
                      · go_wp2_with fail
                        go_roundw
                        case rel => exact ⟨i + 1, by omega, by go_num, v9, HP9.out.fresh HB10.out, HC9.out, HAB9.out.1, HAB9.out.2, HW9.out.trans (HB10.out.mono HW9.out.size)⟩
                        case measure => simp [intOf]; omega
                    · skip
                      by_cases hk7 : xk = 7
                      · subst hk7
                        have HCL := Lib.hid (by obtain ⟨rs, hg⟩ := HPC.out.g; exact checkpoint_any _ pv rs (wr.alloc (.cells #[.int .i64 7, .int .i64 xn, .int .u8 xb] 32)) HP6.out HPC.out.j hg (by have := HAB.out.1; omega) (by have := HAB.out.2; omega))
                        clear d0
                        go_wp2_with fail
                        refine HCL.out.mono ?_
                        rintro e w9 hck
                        obtain ⟨rfl, v', hpe, hcm, hca, hcb⟩ := hck.calm HPC.out
                        have HI9 := Lib.hid (HeldI.step rfl HP6.out HB6.out HAB.out.1 HAB.out.2 hpe hcm (by omega) (by omega))
                        clear hpe hcm hca hcb hck HCL d1 d2

                        obtain ⟨v9, hp9, hc9, ha9, hb9, hw9⟩ := HI9.out
                        have HHD := Lib.hid (held_any _ v9 w9 hp9 hc9.j.hin hc9.j.chlen hc9.j.calen)
                        have hmv : (v9.ca.length : Int) ≤ mst := hc9.held
                        have hnum := held_num (mst := mst) (cl := (v9.ca.length : Int)) (cn := chN v9) ⟨by omega, hmv⟩ (by have := hc9.j.calen; omega) hc9.chN HMST.out
                        have HC9 := Lib.hid hc9
                        have HP9 := Lib.hid hp9
                        have HAB9 := Lib.hid (And.intro ha9 hb9)
                        have HW9 := Lib.hid hw9
                        clear hp9 hc9 ha9 hb9 hw9 hmv
                        obtain ⟨hn0, hn1⟩ := hnum
                        generalize hcl : (v9.ca.length : Int) = cl at *
                        generalize hcn : chN v9 = cn at *
                        have HCN := Lib.hid hcn
                        have HN1 := Lib.hid hn1
                        clear hcl hcn hn1
                        go_wp2_with fail
                        refine HHD.out.mono ?_
                        rintro e w10 ⟨rfl, hb10⟩
                        have HB10 := Lib.hid hb10
                        clear hb10 HHD
                        by_cases hg : cl + cn > mst
                        · obtain ⟨hwr, hng⟩ := HN1.out hg
                          have HCH := Lib.hid (changed_any _ v9 w10 (HP9.out.fresh HB10.out) HC9.out.j.hin HC9.out.j.chlen)
                          have HCH2 := Lib.hid (HCN.out ▸ HCH.out)
                          clear HCH
                          go_wp2_with fail
                          refine HCH2.out.mono ?_
                          rintro e w11 ⟨rfl, hb11⟩
                          have HB11 := Lib.hid hb11
                          clear hb11 HCH2
                          go_wp2_with fail
                          go_roundw
                          case rel => exact ⟨i + 1, by omega, by go_num, v9, (HP9.out.fresh HB10.out).fresh HB11.out, HC9.out, HAB9.out.1, HAB9.out.2, HW9.out.trans ((HB10.out.trans (HB11.out.mono HB10.out.size)).mono HW9.out.size)⟩
                          case measure => simp [intOf]; omega
                        · go_wp2_with fail
                          go_roundw
                          case rel => exact ⟨i + 1, by omega, by go_num, v9, HP9.out.fresh HB10.out, HC9.out, HAB9.out.1, HAB9.out.2, HW9.out.trans (HB10.out.mono HW9.out.size)⟩
                          case measure => simp [intOf]; omega
                      · skip
                        have HCL := Lib.hid (root_any _ pv xn (wr.alloc (.cells #[.int .i64 xk, .int .i64 xn, .int .u8 xb] 32)) HP6.out)
                        clear d0
                        go_wp2_with fail
                        refine HCL.out.mono ?_
                        rintro e w9 ⟨rfl, hw9⟩
                        generalize (if 0 ≤ xn ∧ xn < 16 then ((hN pv.h1 (2 + xn.toNat) : Nat) : Int) else 0) = r9
                        have HI9 := Lib.hid (HeldI.step rfl HP6.out HB6.out HAB.out.1 HAB.out.2 (show PE _ pv _ pv w9 by rw [← hw9]; exact PE.same HP6.out (Below.refl _ _)) HPC.out (by omega) (by omega))
                        clear hw9 HCL d1 d2

                        obtain ⟨v9, hp9, hc9, ha9, hb9, hw9⟩ := HI9.out
                        have HHD := Lib.hid (held_any _ v9 w9 hp9 hc9.j.hin hc9.j.chlen hc9.j.calen)
                        have hmv : (v9.ca.length : Int) ≤ mst := hc9.held
                        have hnum := held_num (mst := mst) (cl := (v9.ca.length : Int)) (cn := chN v9) ⟨by omega, hmv⟩ (by have := hc9.j.calen; omega) hc9.chN HMST.out
                        have HC9 := Lib.hid hc9
                        have HP9 := Lib.hid hp9
                        have HAB9 := Lib.hid (And.intro ha9 hb9)
                        have HW9 := Lib.hid hw9
                        clear hp9 hc9 ha9 hb9 hw9 hmv
                        obtain ⟨hn0, hn1⟩ := hnum
                        generalize hcl : (v9.ca.length : Int) = cl at *
                        generalize hcn : chN v9 = cn at *
                        have HCN := Lib.hid hcn
                        have HN1 := Lib.hid hn1
                        clear hcl hcn hn1
                        go_wp2_with fail
                        refine HHD.out.mono ?_
                        rintro e w10 ⟨rfl, hb10⟩
                        have HB10 := Lib.hid hb10
                        clear hb10 HHD
                        by_cases hg : cl + cn > mst
                        · obtain ⟨hwr, hng⟩ := HN1.out hg
                          have HCH := Lib.hid (changed_any _ v9 w10 (HP9.out.fresh HB10.out) HC9.out.j.hin HC9.out.j.chlen)
                          have HCH2 := Lib.hid (HCN.out ▸ HCH.out)
                          clear HCH
                          go_wp2_with fail
                          refine HCH2.out.mono ?_
                          rintro e w11 ⟨rfl, hb11⟩
                          have HB11 := Lib.hid hb11
                          clear hb11 HCH2
                          go_wp2_with fail
                          go_roundw
                          case rel => exact ⟨i + 1, by omega, by go_num, v9, (HP9.out.fresh HB10.out).fresh HB11.out, HC9.out, HAB9.out.1, HAB9.out.2, HW9.out.trans ((HB10.out.trans (HB11.out.mono HB10.out.size)).mono HW9.out.size)⟩
                          case measure => simp [intOf]; omega
                        · go_wp2_with fail
                          go_roundw
                          case rel => exact ⟨i + 1, by omega, by go_num, v9, HP9.out.fresh HB10.out, HC9.out, HAB9.out.1, HAB9.out.2, HW9.out.trans (HB10.out.mono HW9.out.size)⟩
                          case measure => simp [intOf]; omega
        · obtain rfl : i = xs.length := by omega
          clear hps hpc hpa hpb
          go_wp2_with fail
          go_ret
          exact ⟨rfl, HB1.out.trans (hbw.mono HB1.out.size)⟩
    · have HNO := Lib.hid (pformat_no w1.heap.size (w1.heap.size + 1) w1.heap.size blocks blocks (-1) size false _ [] _ w2 HDK.out hs)
      clear hs
      refine HNO.out.mono ?_
      rintro e w3 ⟨rfl, hb3⟩
      have HB3 := Lib.hid hb3
      clear hb3 HNO
      go_wp2_with fail
      go_ret
      exact ⟨rfl, HB1.out.trans ((HB2.out.trans (HB3.out.mono HB2.out.size)).mono HB1.out.size)⟩
end Go.Proofs.Ytgadhpmcnikihaa
namespace Go.Proofs.Ytgadhpmcnikihaa
open Go.ChangeShapes Go.WideShapes Go.ChangeAt Go.RowKit Go.Deep
section
variable {H : Type} {enc : TypeId × Value → H} {W : World}
set_option maxRecDepth 100000 in
theorem steps5_of_trod {v : Value} {d : DataW H} {p : List MemPlace} {b : Nat}
    (hok : Value.okWide Try.prog W .any b 22 v) (h : DataW.Trod enc Try.prog W 0 (fun _ => true) true 22 v d p) (hB : Rows.uptoBulk d ≤ 1048576) :
    ∃ r : List S5, Steps5 W v r ∧ r.length ≤ 1048576 := by
  obtain ⟨a0, len, cap, rfl⟩ := okWide_slice Try.underlying22 hok
  obtain ⟨fuel, hf⟩ := h
  rcases open_slice_fields Try.underlying22 Try.underlying32 (by kernel_rfl) (by kernel_rfl) hf with ⟨hcs, hx⟩ | ⟨a, len', cap', m, D, Pl, hcs, _, hl, _, hm, hx, hi⟩
  · simp [Value.cells] at hcs
    obtain ⟨rfl, rfl, rfl⟩ := hcs
    exact ⟨[], ⟨none, 0, rfl, fun h => by simp at h⟩, Nat.zero_le _⟩
  · simp [Value.cells] at hcs
    obtain ⟨rfl, rfl, rfl⟩ := hcs
    simp only [if_true] at hm
    simp only [Prod.mk.injEq] at hx
    obtain ⟨rfl, _⟩ := hx
    have hlen : len ≤ 1048576 := by
      have := bulk_len (H := H) ((List.range len).map D)
      simp only [Rows.uptoBulk, List.length_map, List.length_range] at this hB
      omega
    have hx : ∀ i, i < len → ∃ x : S5, W.cell? (a.add (i * 3 + 0)) = some (.int .i64 x.k) ∧ W.cell? (a.add (i * 3 + 1)) = some (.int .i64 x.n) ∧ W.cell? (a.add (i * 3 + 2)) = some (.int .u8 x.b) ∧ x.OK := by
      intro i him
      obtain ⟨ys, n, hD, _, hlen, hfd⟩ := hi i (by omega)
      obtain ⟨v0, y0, c0, e0, t0⟩ := hfd 0 _ rfl
      obtain ⟨v1, y1, c1, e1, t1⟩ := hfd 1 _ rfl
      obtain ⟨v2, y2, c2, e2, t2⟩ := hfd 2 _ rfl
      obtain ⟨n0, g0, rfl, w0⟩ := DataW.trod_int Try.underlying3 t0
      obtain ⟨n1, g1, rfl, w1⟩ := DataW.trod_int Try.underlying3 t1
      obtain ⟨n2, g2, rfl, w2⟩ := DataW.trod_int Try.underlying5 t2
      simp only [List.cons.injEq, and_true] at g0 g1 g2
      subst g0 g1 g2
      exact ⟨⟨n0, n1, n2⟩, c0, c1, c2, ⟨i64_of_wf w0, i64_of_wf w1, u8_of_wf w2⟩⟩
    obtain ⟨f, hf⟩ : ∃ f : Nat → S5, ∀ i, i < len → W.cell? (a.add (i * 3 + 0)) = some (.int .i64 (f i).k) ∧ W.cell? (a.add (i * 3 + 1)) = some (.int .i64 (f i).n) ∧ W.cell? (a.add (i * 3 + 2)) = some (.int .u8 (f i).b) ∧ (f i).OK :=
      ⟨fun i => if h : i < len then Classical.choose (hx i h) else ⟨0, 0, 0⟩, fun i h => by simp only [dif_pos h]; exact Classical.choose_spec (hx i h)⟩
    refine ⟨(List.range len).map f, ⟨some a, cap, by simp, fun hl0 => ?_⟩, by simpa using hlen⟩
    simp only [List.length_map, List.length_range] at hl0
    have h0 := (hf 0 (by omega)).1
    have hsp := World.cell?_spot h0
    have hlt := World.block_lt_of_cell? _ _ h0
    obtain ⟨ab, ao, asp⟩ := a
    have hsp' : asp = none := by simpa [Addr.add] using hsp
    subst hsp'
    refine ⟨ab, ao, rfl, by simpa [Addr.add] using hlt, fun i x hx => ?_⟩
    have hil : i < len := by have := (List.getElem?_eq_some_iff.1 hx).1; simpa using this
    rw [List.getElem?_map, List.getElem?_range hil] at hx
    simp only [Option.map_some, Option.some.injEq] at hx
    subst hx
    obtain ⟨h1, h2, h3, h4⟩ := hf i hil
    rw [add_none] at h1 h2 h3
    exact ⟨h1, h2, h3, h4⟩
end
namespace plainPageHeld
set_option maxRecDepth 100000 in
theorem contract (H : Type) (enc : TypeId × Value → H) (W : World) (base : Nat) (args : Array Value) (ds gs : List (DataW H)) (before : List MemPlace)
    (hval : ∀ (j : Nat) t v, Try.f3.params[j]? = some t → args[j]? = some v → Value.okWide Try.prog W .any base t v)
    (hW : DataW.Whole enc Try.prog Try.f3.params.toList Rows.pageHeldSpec.vars false W args.toList ds gs before) (hk : Rows.uptoSmall H (ds ++ gs) = true) :
    Calls Try.prog 3 args W fun e W' => ∃ v, e = .returned v ∧ Rows.pageHeldSpec.post enc Try.prog Try.f3 false true false false W args v W' := by
  have hW' := hW
  obtain ⟨p, q, hA0, hV, rfl, hfz, hnd⟩ := hW
  have hA : DataW.TrodAll enc Try.prog W 0 (fun _ => true) true Try.f3.params.toList args.toList ds p := hA0
  rw [Try.params3] at hA hval
  obtain ⟨v0, vs0, d0, ds0, p0, q0, hargs, rfl, rfl, h0, r0⟩ := trodAll_cons hA
  obtain ⟨v1, vs1, d1, ds1, p1, q1, rfl, rfl, rfl, h1, r1⟩ := trodAll_cons r0
  obtain ⟨v2, vs2, d2, ds2, p2, q2, rfl, rfl, rfl, h2, r2⟩ := trodAll_cons r1
  obtain ⟨v3, vs3, d3, ds3, p3, q3, rfl, rfl, rfl, h3, r3⟩ := trodAll_cons r2
  obtain ⟨rfl, rfl, rfl⟩ := trodAll_nil r3
  obtain rfl : args = #[v0, v1, v2, v3] := by cases args; simp_all
  obtain ⟨rfl, rfl⟩ := trodVars_none hV
  have hbulk : Rows.uptoBulkAll ([d0, d1, d2, d3] ++ []) ≤ 1048576 := of_decide_eq_true hk
  simp only [List.append_nil, Rows.uptoBulkAll] at hbulk
  obtain ⟨a0, rfl, rfl, rfl, g0⟩ := open_int Try.underlying3 (hval 0 3 v0 rfl rfl) h0
  replace g0 := i64_of_wf g0
  obtain ⟨a1, rfl, rfl, rfl, g1⟩ := open_int Try.underlying3 (hval 1 3 v1 rfl rfl) h1
  replace g1 := i64_of_wf g1
  obtain ⟨a2, rfl, rfl, rfl, g2⟩ := open_int Try.underlying3 (hval 2 3 v2 rfl rfl) h2
  replace g2 := i64_of_wf g2
  obtain ⟨a3, b3, g3⟩ := steps5_of_trod (hval 3 22 v3 rfl rfl) h3 (by omega)
  refine (held_walk a0 a1 a2 v3 a3 W g2.2 b3 g3).mono fun e W' ⟨he, hb⟩ => ⟨_, he, ?_⟩
  exact law_post (T := 4) laidOut (by rw [Try.params3]; decide +kernel) rfl rfl Try.underlying4 (fun gs h => by subst h; rfl) hW' hb
set_option maxRecDepth 100000 in
theorem lifted (os : Os) (started : os.Started) (H : Type) (enc : TypeId × Value → H) (F : Stop.Interp) :
    ReturnsInHanded {} Try.checked os 3 .any ((Rows.OpenSpec.upto Rows.pageHeldSpec).pre6 enc Try.prog Try.f3 Rows.pageHeldUptoRow.domain false) (((Rows.OpenSpec.upto Rows.pageHeldSpec).at F).post enc Try.prog Try.f3 false true false false) := by
  refine returnsInHanded_of_cond (C := Try.checked) (s := Rows.OpenSpec.upto Rows.pageHeldSpec) (k := Rows.uptoSmall) rfl own started (by kernel_rfl) Try.func3
    (OpenSpec.witness (enc := enc) (C := Try.checked) (s := Rows.OpenSpec.upto Rows.pageHeldSpec) (k := Rows.uptoSmall) rfl false ⟨#[], #[.int .i64 0, .int .i64 0, .int .i64 0, .slice none 0 0], []⟩ 8 (by kernel_rfl) (by kernel_rfl) (by kernel_rfl)
      (x := ([.lit (.int .i64 0), .lit (.int .i64 0), .lit (.int .i64 0), .nil], [], [])) (by kernel_rfl) rfl (by kernel_rfl)) ?_
  intro W base args ds gs before hval hW _ hk _
  exact contract H enc W base args ds gs before hval hW hk
theorem over : Rows.pageHeldUptoRow.holds Try.pinned (Rows.OpenSpec.upto Rows.pageHeldSpec) :=
  OpenClaim.holds_of_cond 3 Try.f3 rfl rfl rfl rfl rfl rfl rfl ⟨rfl, rfl, rfl, rfl, rfl⟩ rfl rfl rfl rfl rfl (by kernel_rfl) Try.func3 (by kernel_rfl)
    (of_decide_eq_true (by kernel_rfl)) (by unfold Func.isWrapper; first | (rw [if_pos (by decide +kernel)]; kernel_rfl) | (rw [if_neg (by decide +kernel)]; exact ⟨rfl, rfl⟩))
    (fun os started H enc _ F => lifted os started H enc F)
/-- the statement, its second form -/
theorem proved : Rows.PageHeldUptoSaid := over
end plainPageHeld
theorem pageHeldUpto : Rows.PageHeldUptoSaid := plainPageHeld.proved
end Go.Proofs.Ytgadhpmcnikihaa
