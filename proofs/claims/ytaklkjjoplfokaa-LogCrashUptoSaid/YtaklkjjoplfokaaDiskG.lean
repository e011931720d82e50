import Derived.Test.YtaklkjjoplfokaaDiskF
import Derived.WalkKit
import Derived.ProofKit
import Derived.BigQuiet
import Derived.Deep.QuietTactic
import Derived.WalkSpells
import Derived.WalkLawsBesides
import Derived.Lib.Hide
import Derived.Deep.MidRow
import Derived.Deep.RegionLaw
import Derived.BigRegion
import Derived.Laws.AppendOwnNone
import Derived.Deep.DeepMust
import Derived.Deep.AppendLies
import Derived.RegionTactic
import Derived.Deep.WholeRow
import Derived.BigFrame
import Derived.Deep.RegionWith
import Derived.Deep.RegionHeld3
import Derived.Maps.RangeWalk
import Derived.Laws.CopyOwn
import Derived.StillTailTactics
namespace Go.Proofs.Ytaklkjjoplfokaa
open Go.RowKit
def F0 : Int → List Int := fun _ => zeros 256
theorem blk_len (b : Int) : (blkOf b).length = 256 := blkOf_len b
def f1 : Int → List Int := fput F0 1 (blkOf 1)
def f2 : Int → List Int := fput f1 1 (blkOf 2)
def f3 : Int → List Int := fput f2 2 (blkOf 2)
def L2 : List WR := [(1, f1 1, blkOf 2), (2, f2 2, blkOf 2)]
def f4 : Int → List Int := upF f3 L2 [false, true] 3
theorem f4_1 : f4 1 = blkOf 1 := by simp [f4, upF, L2, survL, undoF, redoF, fput, f3, f2, f1]
theorem f4_2 : f4 2 = tearL (zeros 256) (blkOf 2) 3 := by simp [f4, upF, L2, survL, undoF, redoF, fput, f3, f2, f1, F0]
theorem f4_22 : (ArrU8 (f4 2))[2]? = some (.int .u8 8) := by
  rw [f4_2, tearL, if_neg (by omega)]
  simp only [ArrU8, List.getElem?_toArray, List.getElem?_map]
  rw [List.getElem?_append_left (by simp [blkOf_len]), List.getElem?_take_of_lt (by decide), blkOf_get 2 2 (by omega)]
  rfl
theorem f4_23 : (ArrU8 (f4 2))[3]? = some (.int .u8 0) := by
  rw [f4_2, tearL, if_neg (by omega)]
  simp only [ArrU8, List.getElem?_toArray, List.getElem?_map]
  rw [List.getElem?_append_right (by simp [blkOf_len])]
  have h3 : ((blkOf 2).take (Int.toNat 3)).length = 3 := by rw [List.length_take, blkOf_len]; rfl
  rw [h3, List.getElem?_drop, show Int.toNat 3 + (3 - 3) = 3 from rfl, zeros, List.getElem?_replicate, if_pos (by decide)]
  rfl
theorem e1 : wErr 4 4 (-1) 1 false = 0 := by decide
theorem e2 : wErr 4 4 (-1) 2 false = 0 := by decide
theorem e3 : wErr 4 2 (-1) 2 false = 42 := by decide
theorem o1 : opFz (-1) false = -1 := by decide
theorem o2 : opDn (-1) false = false := by decide
theorem o3 : opOk (-1) false = true := by decide
theorem o4 : opOk 0 false = false := by decide
theorem o5 : opDn 0 false = true := by decide
set_option maxRecDepth 100000 in
set_option maxHeartbeats 8000000 in
theorem fixed_any (w : World) : Calls Try.prog 11 #[] w fun e w' => e = .returned (.bool true) ∧ Below w.heap.size w w' := by
  go_enter Try.func11, Try.ntmps11
  go_wp2_with fail
  refine (new_dk 4 w (by decide) (by decide)).mono ?_
  rintro e w1 ⟨rfl, hdk, hb⟩
  have K1 := Lib.hid hdk
  have B1 := Lib.hid hb
  clear hdk hb
  go_wp2_with fail
  refine (new_nil 0 w1 (.inl (by decide))).mono ?_
  rintro e w' ⟨rfl, rfl⟩
  go_wp2_with fail
  refine (blocks_any _ _ _ _ _ _ _ _ K1.out.1).mono ?_
  rintro e w' ⟨rfl, rfl⟩
  go_wp2_with fail
  refine (block_any 1 w1).mono ?_
  rintro e w2 ⟨rfl, hb⟩
  have X2 := Lib.hid hb
  clear hb
  go_wp2_with fail
  have K2 := Lib.hid (K1.out.chg (Chg.fresh (F := fun _ => False) X2.out) (fun _ _ h => h))
  have B2 := Lib.hid (B1.out.trans (X2.out.mono B1.out.size))
  refine (write_any _ _ _ 4 4 (-1) 1 false _ _ _ (blkOf 1) w2 K2.out (blk_len _) (by decide)).mono ?_
  rintro e w3 ⟨he, lv3, hdk, hch, hft⟩
  rw [e1] at he
  subst he
  rw [e1, o1, o2, if_pos rfl, if_pos rfl] at hdk
  have K3 := Lib.hid (show Dk w3 _ _ _ 4 4 (-1) false f1 [(1, F0 1, blkOf 1)] lv3 from hdk)
  have B3 := Lib.hid (B2.out.trans (hch.below (fun k hk => (K2.out.foot k hk).1) B2.out.size))
  have C3 := Lib.hid hch
  clear hdk hch hft
  go_wp2_with fail
  refine (sync_dk _ _ _ 4 4 (-1) false _ _ _ w3 K3.out).mono ?_
  rintro e w4 ⟨he, lv4, hdk, hch, _⟩
  rw [o3, if_pos rfl] at he hdk
  subst he
  rw [o1, o2] at hdk
  have K4 := Lib.hid hdk
  have B4 := Lib.hid (B3.out.trans (hch.below (fun k hk => (K3.out.foot k (.inl hk)).1) B3.out.size))
  clear hdk hch
  go_wp2_with fail
  refine (block_any 2 w4).mono ?_
  rintro e w5 ⟨rfl, hb⟩
  have X5 := Lib.hid hb
  clear hb
  go_wp2_with fail
  have K5 := Lib.hid (K4.out.chg (Chg.fresh (F := fun _ => False) X5.out) (fun _ _ h => h))
  have B5 := Lib.hid (B4.out.trans (X5.out.mono B4.out.size))
  refine (write_any _ _ _ 4 4 (-1) 1 false _ _ _ (blkOf 2) w5 K5.out (blk_len _) (by decide)).mono ?_
  rintro e w6 ⟨he, lv6, hdk, hch, hft⟩
  rw [e1] at he
  subst he
  rw [e1, o1, o2, if_pos rfl, if_pos rfl] at hdk
  have K6 := Lib.hid (show Dk w6 _ _ _ 4 4 (-1) false f2 [(1, f1 1, blkOf 2)] lv6 from hdk)
  have B6 := Lib.hid (B5.out.trans (hch.below (fun k hk => (K5.out.foot k hk).1) B5.out.size))
  have C6 := Lib.hid hch
  clear hdk hch hft
  go_wp2_with fail
  refine (block_any 2 w6).mono ?_
  rintro e w7 ⟨rfl, hb⟩
  have X7 := Lib.hid hb
  clear hb
  go_wp2_with fail
  have K7 := Lib.hid (K6.out.chg (Chg.fresh (F := fun _ => False) X7.out) (fun _ _ h => h))
  have B7 := Lib.hid (B6.out.trans (X7.out.mono B6.out.size))
  refine (write_any _ _ _ 4 4 (-1) 2 false _ _ _ (blkOf 2) w7 K7.out (blk_len _) (by decide)).mono ?_
  rintro e w8 ⟨he, lv8, hdk, hch, hft⟩
  rw [e2] at he
  subst he
  rw [e2, o1, o2, if_pos rfl, if_pos rfl] at hdk
  have K8 := Lib.hid (show Dk w8 _ _ _ 4 4 (-1) false f3 L2 lv8 from hdk)
  have B8 := Lib.hid (B7.out.trans (hch.below (fun k hk => (K7.out.foot k hk).1) B7.out.size))
  have C8 := Lib.hid hch
  clear hdk hch hft
  go_wp2_with fail
  refine (loose_dk _ _ _ 4 4 (-1) false _ _ _ w8 K8.out).mono ?_
  rintro e w' ⟨rfl, he⟩
  have he : e = .returned (.int .i64 2) := he
  subst he
  go_wp2_with fail
  refine (copy_any _ _ _ 4 4 (-1) false _ _ _ w8 K8.out (by decide)).mono ?_
  rintro e w9 ⟨Do, Mo, lvo, rfl, hdk, hb⟩
  have X9 := Lib.hid hb
  have O9 := Lib.hid hdk
  clear hdk hb
  have K9 := Lib.hid (K8.out.chg (Chg.fresh (F := fun _ => False) X9.out) (fun _ _ h => h))
  have B9 := Lib.hid (B8.out.trans (X9.out.mono B8.out.size))
  have XA := Lib.hid (show Below w9.heap.size w9 (w9.alloc (.cells #[.bool false, .bool true] 4)) from (Below.refl _ _).alloc (Nat.le_refl _) _)
  have OA := Lib.hid (O9.out.chg (Chg.fresh (F := fun _ => False) XA.out) (fun _ _ h => h))
  have KA := Lib.hid (K9.out.chg (Chg.fresh (F := fun _ => False) XA.out) (fun _ _ h => h))
  have BA := Lib.hid (B9.out.trans (XA.out.mono B9.out.size))
  have hkb : Bools (w9.alloc (.cells #[.bool false, .bool true] 4)) (.slice (some ⟨w9.heap.size, 0, none⟩) 2 2) [false, true] := ⟨_, _, rfl, fun _ => ⟨_, _, rfl, by simp, fun i hi => by
    rw [cell_of_row _ _ _ _ _ _ (heap_alloc_new w9 _), Nat.zero_add]
    match i, hi with
    | 0, _ => rfl
    | 1, _ => rfl⟩⟩
  have HKB := Lib.hid hkb
  have HLT8 := Lib.hid (And.intro (K8.out.foot _ (.inl rfl)).2 (K8.out.foot _ (.inr (.inl rfl))).2)
  clear hkb
  go_wp2_with fail
  refine (up_any _ _ _ 4 4 (-1) 3 false _ _ _ _ [false, true] _ KA.out HKB.out (fun b o n c e _ => by injection e with e _ _; injection e with e; injection e with e _ _; have := HLT8.out.2; have := X9.out.size; omega) (by decide) (by decide)).mono ?_
  rintro e w11 ⟨rfl, hdk, hch⟩
  have K11 := Lib.hid (show Dk w11 w.heap.size (w.heap.size + 1) w.heap.size 4 4 (-1) false f4 [] (.slice none 0 0) from hdk)
  have O11 := Lib.hid (OA.out.chg hch (fun k hk e => by have := (O9.out.foot k hk).1; have := HLT8.out; omega))
  have B11 := Lib.hid (BA.out.trans (hch.below (fun k hk => by omega) BA.out.size))
  clear hdk hch
  generalize w9.alloc (.cells #[.bool false, .bool true] 4) = wA at *
  have hz := zero35
  have HI35 := Lib.hid (show (Try.prog.info? 35).map (·.size) = some 256 by kernel_rfl)
  have SZ := Lib.hid (show (ArrU8 (zeros 256)).size = 256 by rw [ArrU8_size, zeros, List.length_replicate])
  have S1 := Lib.hid (show (ArrU8 (f4 1)).size = 256 by rw [ArrU8_size, f4_1, blk_len])
  have hl2 : (f4 2).length = 256 := K11.out.2.2.2.2.2.2.1 2
  have S2 := Lib.hid (show (ArrU8 (f4 2)).size = 256 by rw [ArrU8_size, hl2])
  have G1 := Lib.hid (show rdF 4 1 false f4 = f4 1 from rfl)
  have G2 := Lib.hid (show rdF 4 2 false f4 = f4 2 from rfl)
  clear hl2
  go_wp2_with fail
  refine (read_dk _ _ _ 4 4 (-1) 1 false _ _ _ w11 K11.out).mono ?_
  rintro e w12 ⟨he, hb⟩
  rw [G1.out, show readErr 4 1 false = 0 from rfl] at he
  subst he
  have X12 := Lib.hid hb
  clear hb
  have K12 := Lib.hid (K11.out.chg (Chg.fresh (F := fun _ => False) X12.out) (fun _ _ h => h))
  have B12 := Lib.hid (B11.out.trans (X12.out.mono B11.out.size))
  go_wp2_with (refine wpList_store_new rfl 35 (Operand.tmp 8) (Operand.tmp 47) rfl w12.heap.size (ArrU8 (f4 1)) rfl rfl rfl _ 35 (by rw [HI35.out, S1.out]) (by rw [SZ.out, S1.out]) (ArrU8_one _) ?_; intro w13 hd hb hs; have Q13 := Lib.hid hd; have X13 := Lib.hid hb; have S13 := Lib.hid hs; clear hd hb hs)
  have K13 := Lib.hid (K12.out.chg (Chg.fresh (F := fun _ => False) X13.out) (fun _ _ h => h))
  have B13 := Lib.hid (B12.out.trans (X13.out.mono B12.out.size))
  refine (read_dk _ _ _ 4 4 (-1) 2 false _ _ _ w13 K13.out).mono ?_
  rintro e w14 ⟨he, hb⟩
  rw [G2.out, show readErr 4 2 false = 0 from rfl] at he
  subst he
  have X14 := Lib.hid hb
  clear hb
  have K14 := Lib.hid (K13.out.chg (Chg.fresh (F := fun _ => False) X14.out) (fun _ _ h => h))
  have B14 := Lib.hid (B13.out.trans (X14.out.mono B13.out.size))
  go_wp2_with (refine wpList_store_new rfl 35 (Operand.tmp 10) (Operand.tmp 52) rfl w14.heap.size (ArrU8 (f4 2)) rfl rfl rfl _ 35 (by rw [HI35.out, S2.out]) (by rw [SZ.out, S2.out]) (ArrU8_one _) ?_; intro w15 hd hb hs; have Q15 := Lib.hid hd; have X15 := Lib.hid hb; have S15 := Lib.hid hs; clear hd hb hs)
  have K15 := Lib.hid (K14.out.chg (Chg.fresh (F := fun _ => False) X15.out) (fun _ _ h => h))
  have B15 := Lib.hid (B14.out.trans (X15.out.mono B14.out.size))
  refine (room_dk _ _ _ 4 4 (-1) 2 false _ _ _ w15 K15.out).mono ?_
  rintro e w16 ⟨rfl, hdk, hch⟩
  rw [if_pos (by decide)] at hdk
  have K16 := Lib.hid hdk
  have B16 := Lib.hid (B15.out.trans (hch.below (fun k hk => by omega) B15.out.size))
  have C16 := Lib.hid (show Chg (Foot (w.heap.size + 1) w.heap.size (.slice none 0 0)) w15 w16 from hch.mono (fun i hi => .inl hi))
  clear hdk hch
  go_wp2_with fail
  refine (block_any 1 w16).mono ?_
  rintro e w17 ⟨rfl, hb⟩
  have X17 := Lib.hid hb
  clear hb
  go_wp2_with fail
  have K17 := Lib.hid (K16.out.chg (Chg.fresh (F := fun _ => False) X17.out) (fun _ _ h => h))
  have B17 := Lib.hid (B16.out.trans (X17.out.mono B16.out.size))
  refine (write_any _ _ _ 4 2 (-1) 2 false _ _ _ (blkOf 1) w17 K17.out (blk_len _) (by decide)).mono ?_
  rintro e w18 ⟨he, lv18, hdk, hch, hft⟩
  rw [e3] at he
  subst he
  rw [e3, o1, o2, if_neg (by decide), if_neg (by decide)] at hdk
  have K18 := Lib.hid (show Dk w18 _ _ _ 4 2 (-1) false f4 [] lv18 from hdk)
  have B18 := Lib.hid (B17.out.trans (hch.below (fun k hk => (K17.out.foot k hk).1) B17.out.size))
  have C18 := Lib.hid hch
  clear hdk hch hft
  go_wp2_with fail
  refine (arm_dk _ _ _ 4 2 (-1) 0 false _ _ _ w18 K18.out (by decide)).mono ?_
  rintro e w19 ⟨rfl, hdk, hch⟩
  rw [if_pos (by decide)] at hdk
  have K19 := Lib.hid hdk
  have B19 := Lib.hid (B18.out.trans (hch.below (fun k hk => by omega) B18.out.size))
  have C19 := Lib.hid (((C16.out.trans (Chg.fresh (F := fun _ => False) X17.out) (fun _ h => h.elim)).trans C18.out (fun i hi => .inl hi)).trans hch (fun i hi => .inl (.inl hi)))
  clear hdk hch
  go_wp2_with fail
  refine (sync_dk _ _ _ 4 2 0 false _ _ _ w19 K19.out).mono ?_
  rintro e w20 ⟨he, lv20, hdk, hch, _⟩
  rw [o4, if_neg (by decide)] at he hdk
  subst he
  rw [o5] at hdk
  have K20 := Lib.hid hdk
  have B20 := Lib.hid (B19.out.trans (hch.below (fun k hk => by omega) B19.out.size))
  have C20 := Lib.hid (C19.out.trans hch (fun i hi => .inl (.inl hi)))
  clear hdk hch
  go_wp2_with fail
  have O15 := Lib.hid ((((O11.out.chg (Chg.fresh (F := fun _ => False) X12.out) (fun _ _ h => h)).chg (Chg.fresh (F := fun _ => False) X13.out) (fun _ _ h => h)).chg (Chg.fresh (F := fun _ => False) X14.out) (fun _ _ h => h)).chg (Chg.fresh (F := fun _ => False) X15.out) (fun _ _ h => h))
  have NF := Lib.hid (show ∀ k, w8.heap.size ≤ k → ¬ Foot (w.heap.size + 1) w.heap.size (.slice none 0 0) k from fun k hk e => by
    have := HLT8.out
    rcases e with e | e | e
    · omega
    · omega
    · cases e)
  have O20 := Lib.hid (O15.out.chg C20.out (fun k hk => NF.out k (O15.out.foot k hk).1))
  have h8a := (X9.out.size); have h8b := XA.out.size; have h8c := B11.out.size
  have hw8 : w8.heap.size ≤ w12.heap.size := by
    have h1 := (O11.out.foot Do (.inl rfl))
    have h2 := X12.out.size
    omega
  have hw84 : w8.heap.size ≤ w14.heap.size := by have := X13.out.size; have := X14.out.size; omega
  have R8 := Lib.hid (show w20.heap[w12.heap.size]? = some (.cells (ArrU8 (f4 1)) 35 (0, 0)) from
    (C20.out.block w12.heap.size (by have := X14.out.size; have := X15.out.size; have := S13.out; omega) (NF.out _ hw8)).trans ((X15.out.block w12.heap.size (by have := X14.out.size; have := S13.out; omega)).trans ((X14.out.block w12.heap.size (by have := S13.out; omega)).trans Q13.out)))
  have R10 := Lib.hid (show w20.heap[w14.heap.size]? = some (.cells (ArrU8 (f4 2)) 35 (0, 0)) from (C20.out.block w14.heap.size (by have := S15.out; omega) (NF.out _ hw84)).trans Q15.out)
  have L8 := Lib.hid (Array.getElem?_eq_some_iff.1 R8.out).1
  have L10 := Lib.hid (Array.getElem?_eq_some_iff.1 R10.out).1
  clear h8a h8b h8c hw8 hw84
  have HBD := Lib.hid (show Below w20.heap.size w20 w20.drew from (Below.refl _ _).drew)
  refine wp_region_held_drew (S := fun u => Below w20.heap.size w20 u) (by kernel_rfl) (HBD.out) (fun hHeld => ?_)
  refine wpAnyH_take (i := 0) (oi := ({ dst := some 63, op := Op.move (Operand.tmp 2), type := 33, pos := "law.go:45", after := #[], guard := none } : Oper)) (v := ?_) rfl (by kernel_rfl) (by kernel_rfl) (by kernel_rfl) (fun _ _ _ h => h) (Or.inl ⟨by rfl, ?_⟩) (by assumption) ?_
  rotate_left 1
  · (intro u hSw; go_simp; try with_reducible rfl)
  try simp only [Act.put, List.setIfInBounds_toArray, List.set_cons_zero, List.set_cons_succ]
  refine wpAnyH_take (i := 1) (oi := ({ dst := some 64, op := Op.binOp BinOp.eql 33 (Operand.tmp 63) (Operand.const (Value.int IntKind.i64 0)) 33, type := 4, pos := "law.go:45", after := #[{ on := 0, ground := Ground.data }], guard := none } : Oper)) (v := ?_) rfl (by kernel_rfl) (by kernel_rfl) (by kernel_rfl) (fun _ _ _ h => h) (Or.inl ⟨by rfl, ?_⟩) (by assumption) ?_
  rotate_left 1
  · (intro u hSw; go_simp; try with_reducible rfl)
  try simp only [Act.put, List.setIfInBounds_toArray, List.set_cons_zero, List.set_cons_succ]
  refine wpAnyH_take (i := 2) (oi := ({ dst := some 65, op := Op.move (Operand.tmp 64), type := 4, pos := "law.go:45", after := #[{ on := 1, ground := Ground.data }], guard := none } : Oper)) (v := ?_) rfl (by kernel_rfl) (by kernel_rfl) (by kernel_rfl) (fun _ _ _ h => h) (Or.inl ⟨by rfl, ?_⟩) (by assumption) ?_
  rotate_left 1
  · (intro u hSw; go_simp; try with_reducible rfl)
  try simp only [Act.put, List.setIfInBounds_toArray, List.set_cons_zero, List.set_cons_succ]
  refine wpAnyH_take (i := 3) (oi := ({ dst := some 66, op := Op.move (Operand.tmp 3), type := 33, pos := "law.go:45", after := #[{ on := 2, ground := Ground.guard }], guard := some (2, true) } : Oper)) (v := ?_) rfl (by kernel_rfl) (by kernel_rfl) (by kernel_rfl) (fun _ _ _ h => h) (Or.inl ⟨by rfl, ?_⟩) (by assumption) ?_
  rotate_left 1
  · (intro u hSw; go_simp; try with_reducible rfl)
  try simp only [Act.put, List.setIfInBounds_toArray, List.set_cons_zero, List.set_cons_succ]
  refine wpAnyH_take (i := 4) (oi := ({ dst := some 67, op := Op.binOp BinOp.eql 33 (Operand.tmp 66) (Operand.const (Value.int IntKind.i64 0)) 33, type := 4, pos := "law.go:45", after := #[{ on := 3, ground := Ground.data }, { on := 2, ground := Ground.guard }], guard := some (2, true) } : Oper)) (v := ?_) rfl (by kernel_rfl) (by kernel_rfl) (by kernel_rfl) (fun _ _ _ h => h) (Or.inl ⟨by rfl, ?_⟩) (by assumption) ?_
  rotate_left 1
  · (intro u hSw; go_simp; try with_reducible rfl)
  try simp only [Act.put, List.setIfInBounds_toArray, List.set_cons_zero, List.set_cons_succ]
  refine wpAnyH_take (i := 5) (oi := ({ dst := some 68, op := Op.pick (Operand.tmp 65) (Operand.tmp 67) (Operand.const (Value.bool false)), type := 4, pos := "law.go:45", after := #[{ on := 2, ground := Ground.data }, { on := 4, ground := Ground.data }], guard := none } : Oper)) (v := ?_) rfl (by kernel_rfl) (by kernel_rfl) (by kernel_rfl) (fun _ _ _ h => h) (Or.inl ⟨by rfl, ?_⟩) (by assumption) ?_
  rotate_left 1
  · (intro u hSw; go_simp; try with_reducible rfl)
  try simp only [Act.put, List.setIfInBounds_toArray, List.set_cons_zero, List.set_cons_succ]
  refine wpAnyH_take (i := 6) (oi := ({ dst := some 69, op := Op.move (Operand.tmp 68), type := 4, pos := "law.go:45", after := #[{ on := 5, ground := Ground.data }, { on := 2, ground := Ground.chain }], guard := none } : Oper)) (v := ?_) rfl (by kernel_rfl) (by kernel_rfl) (by kernel_rfl) (fun _ _ _ h => h) (Or.inl ⟨by rfl, ?_⟩) (by assumption) ?_
  rotate_left 1
  · (intro u hSw; go_simp; try with_reducible rfl)
  try simp only [Act.put, List.setIfInBounds_toArray, List.set_cons_zero, List.set_cons_succ]
  refine wpAnyH_take (i := 7) (oi := ({ dst := some 70, op := Op.move (Operand.tmp 4), type := 33, pos := "law.go:45", after := #[{ on := 6, ground := Ground.guard }], guard := some (6, true) } : Oper)) (v := ?_) rfl (by kernel_rfl) (by kernel_rfl) (by kernel_rfl) (fun _ _ _ h => h) (Or.inl ⟨by rfl, ?_⟩) (by assumption) ?_
  rotate_left 1
  · (intro u hSw; go_simp; try with_reducible rfl)
  try simp only [Act.put, List.setIfInBounds_toArray, List.set_cons_zero, List.set_cons_succ]
  refine wpAnyH_take (i := 8) (oi := ({ dst := some 71, op := Op.binOp BinOp.eql 33 (Operand.tmp 70) (Operand.const (Value.int IntKind.i64 0)) 33, type := 4, pos := "law.go:45", after := #[{ on := 7, ground := Ground.data }, { on := 6, ground := Ground.guard }], guard := some (6, true) } : Oper)) (v := ?_) rfl (by kernel_rfl) (by kernel_rfl) (by kernel_rfl) (fun _ _ _ h => h) (Or.inl ⟨by rfl, ?_⟩) (by assumption) ?_
  rotate_left 1
  · (intro u hSw; go_simp; try with_reducible rfl)
  try simp only [Act.put, List.setIfInBounds_toArray, List.set_cons_zero, List.set_cons_succ]
  refine wpAnyH_take (i := 9) (oi := ({ dst := some 72, op := Op.pick (Operand.tmp 69) (Operand.tmp 71) (Operand.const (Value.bool false)), type := 4, pos := "law.go:45", after := #[{ on := 6, ground := Ground.data }, { on := 8, ground := Ground.data }], guard := none } : Oper)) (v := ?_) rfl (by kernel_rfl) (by kernel_rfl) (by kernel_rfl) (fun _ _ _ h => h) (Or.inl ⟨by rfl, ?_⟩) (by assumption) ?_
  rotate_left 1
  · (intro u hSw; go_simp; try with_reducible rfl)
  try simp only [Act.put, List.setIfInBounds_toArray, List.set_cons_zero, List.set_cons_succ]
  refine wpAnyH_take (i := 10) (oi := ({ dst := some 73, op := Op.move (Operand.tmp 72), type := 4, pos := "law.go:45", after := #[{ on := 9, ground := Ground.data }, { on := 6, ground := Ground.chain }], guard := none } : Oper)) (v := ?_) rfl (by kernel_rfl) (by kernel_rfl) (by kernel_rfl) (fun _ _ _ h => h) (Or.inl ⟨by rfl, ?_⟩) (by assumption) ?_
  rotate_left 1
  · (intro u hSw; go_simp; try with_reducible rfl)
  try simp only [Act.put, List.setIfInBounds_toArray, List.set_cons_zero, List.set_cons_succ]
  refine wpAnyH_take (i := 11) (oi := ({ dst := some 74, op := Op.move (Operand.tmp 5), type := 33, pos := "law.go:45", after := #[{ on := 10, ground := Ground.guard }], guard := some (10, true) } : Oper)) (v := ?_) rfl (by kernel_rfl) (by kernel_rfl) (by kernel_rfl) (fun _ _ _ h => h) (Or.inl ⟨by rfl, ?_⟩) (by assumption) ?_
  rotate_left 1
  · (intro u hSw; go_simp; try with_reducible rfl)
  try simp only [Act.put, List.setIfInBounds_toArray, List.set_cons_zero, List.set_cons_succ]
  refine wpAnyH_take (i := 12) (oi := ({ dst := some 75, op := Op.binOp BinOp.eql 33 (Operand.tmp 74) (Operand.const (Value.int IntKind.i64 0)) 33, type := 4, pos := "law.go:45", after := #[{ on := 11, ground := Ground.data }, { on := 10, ground := Ground.guard }], guard := some (10, true) } : Oper)) (v := ?_) rfl (by kernel_rfl) (by kernel_rfl) (by kernel_rfl) (fun _ _ _ h => h) (Or.inl ⟨by rfl, ?_⟩) (by assumption) ?_
  rotate_left 1
  · (intro u hSw; go_simp; try with_reducible rfl)
  try simp only [Act.put, List.setIfInBounds_toArray, List.set_cons_zero, List.set_cons_succ]
  refine wpAnyH_take (i := 13) (oi := ({ dst := some 76, op := Op.pick (Operand.tmp 73) (Operand.tmp 75) (Operand.const (Value.bool false)), type := 4, pos := "law.go:45", after := #[{ on := 10, ground := Ground.data }, { on := 12, ground := Ground.data }], guard := none } : Oper)) (v := ?_) rfl (by kernel_rfl) (by kernel_rfl) (by kernel_rfl) (fun _ _ _ h => h) (Or.inl ⟨by rfl, ?_⟩) (by assumption) ?_
  rotate_left 1
  · (intro u hSw; go_simp; try with_reducible rfl)
  try simp only [Act.put, List.setIfInBounds_toArray, List.set_cons_zero, List.set_cons_succ]
  refine wpAnyH_take (i := 14) (oi := ({ dst := some 77, op := Op.move (Operand.tmp 76), type := 4, pos := "law.go:45", after := #[{ on := 13, ground := Ground.data }, { on := 10, ground := Ground.chain }], guard := none } : Oper)) (v := ?_) rfl (by kernel_rfl) (by kernel_rfl) (by kernel_rfl) (fun _ _ _ h => h) (Or.inl ⟨by rfl, ?_⟩) (by assumption) ?_
  rotate_left 1
  · (intro u hSw; go_simp; try with_reducible rfl)
  try simp only [Act.put, List.setIfInBounds_toArray, List.set_cons_zero, List.set_cons_succ]
  refine wpAnyH_take (i := 15) (oi := ({ dst := some 78, op := Op.move (Operand.tmp 6), type := 3, pos := "law.go:45", after := #[{ on := 14, ground := Ground.guard }], guard := some (14, true) } : Oper)) (v := ?_) rfl (by kernel_rfl) (by kernel_rfl) (by kernel_rfl) (fun _ _ _ h => h) (Or.inl ⟨by rfl, ?_⟩) (by assumption) ?_
  rotate_left 1
  · (intro u hSw; go_simp; try with_reducible rfl)
  try simp only [Act.put, List.setIfInBounds_toArray, List.set_cons_zero, List.set_cons_succ]
  refine wpAnyH_take (i := 16) (oi := ({ dst := some 79, op := Op.binOp BinOp.eql 3 (Operand.tmp 78) (Operand.const (Value.int IntKind.i64 2)) 3, type := 4, pos := "law.go:45", after := #[{ on := 15, ground := Ground.data }, { on := 14, ground := Ground.guard }], guard := some (14, true) } : Oper)) (v := ?_) rfl (by kernel_rfl) (by kernel_rfl) (by kernel_rfl) (fun _ _ _ h => h) (Or.inl ⟨by rfl, ?_⟩) (by assumption) ?_
  rotate_left 1
  · (intro u hSw; go_simp; try with_reducible rfl)
  try simp only [Act.put, List.setIfInBounds_toArray, List.set_cons_zero, List.set_cons_succ]
  refine wpAnyH_take (i := 17) (oi := ({ dst := some 80, op := Op.pick (Operand.tmp 77) (Operand.tmp 79) (Operand.const (Value.bool false)), type := 4, pos := "law.go:45", after := #[{ on := 14, ground := Ground.data }, { on := 16, ground := Ground.data }], guard := none } : Oper)) (v := ?_) rfl (by kernel_rfl) (by kernel_rfl) (by kernel_rfl) (fun _ _ _ h => h) (Or.inl ⟨by rfl, ?_⟩) (by assumption) ?_
  rotate_left 1
  · (intro u hSw; go_simp; try with_reducible rfl)
  try simp only [Act.put, List.setIfInBounds_toArray, List.set_cons_zero, List.set_cons_succ]
  refine wpAnyH_take (i := 18) (oi := ({ dst := some 81, op := Op.move (Operand.tmp 80), type := 4, pos := "law.go:45", after := #[{ on := 17, ground := Ground.data }, { on := 14, ground := Ground.chain }], guard := none } : Oper)) (v := ?_) rfl (by kernel_rfl) (by kernel_rfl) (by kernel_rfl) (fun _ _ _ h => h) (Or.inl ⟨by rfl, ?_⟩) (by assumption) ?_
  rotate_left 1
  · (intro u hSw; go_simp; try with_reducible rfl)
  try simp only [Act.put, List.setIfInBounds_toArray, List.set_cons_zero, List.set_cons_succ]
  refine wpAnyH_take (i := 19) (oi := ({ dst := some 82, op := Op.move (Operand.tmp 9), type := 33, pos := "law.go:45", after := #[{ on := 18, ground := Ground.guard }], guard := some (18, true) } : Oper)) (v := ?_) rfl (by kernel_rfl) (by kernel_rfl) (by kernel_rfl) (fun _ _ _ h => h) (Or.inl ⟨by rfl, ?_⟩) (by assumption) ?_
  rotate_left 1
  · (intro u hSw; go_simp; try with_reducible rfl)
  try simp only [Act.put, List.setIfInBounds_toArray, List.set_cons_zero, List.set_cons_succ]
  refine wpAnyH_take (i := 20) (oi := ({ dst := some 83, op := Op.binOp BinOp.eql 33 (Operand.tmp 82) (Operand.const (Value.int IntKind.i64 0)) 33, type := 4, pos := "law.go:45", after := #[{ on := 19, ground := Ground.data }, { on := 18, ground := Ground.guard }], guard := some (18, true) } : Oper)) (v := ?_) rfl (by kernel_rfl) (by kernel_rfl) (by kernel_rfl) (fun _ _ _ h => h) (Or.inl ⟨by rfl, ?_⟩) (by assumption) ?_
  rotate_left 1
  · (intro u hSw; go_simp; try with_reducible rfl)
  try simp only [Act.put, List.setIfInBounds_toArray, List.set_cons_zero, List.set_cons_succ]
  refine wpAnyH_take (i := 21) (oi := ({ dst := some 84, op := Op.pick (Operand.tmp 81) (Operand.tmp 83) (Operand.const (Value.bool false)), type := 4, pos := "law.go:45", after := #[{ on := 18, ground := Ground.data }, { on := 20, ground := Ground.data }], guard := none } : Oper)) (v := ?_) rfl (by kernel_rfl) (by kernel_rfl) (by kernel_rfl) (fun _ _ _ h => h) (Or.inl ⟨by rfl, ?_⟩) (by assumption) ?_
  rotate_left 1
  · (intro u hSw; go_simp; try with_reducible rfl)
  try simp only [Act.put, List.setIfInBounds_toArray, List.set_cons_zero, List.set_cons_succ]
  refine wpAnyH_take (i := 22) (oi := ({ dst := some 85, op := Op.move (Operand.tmp 84), type := 4, pos := "law.go:45", after := #[{ on := 21, ground := Ground.data }, { on := 18, ground := Ground.chain }], guard := none } : Oper)) (v := ?_) rfl (by kernel_rfl) (by kernel_rfl) (by kernel_rfl) (fun _ _ _ h => h) (Or.inl ⟨by rfl, ?_⟩) (by assumption) ?_
  rotate_left 1
  · (intro u hSw; go_simp; try with_reducible rfl)
  try simp only [Act.put, List.setIfInBounds_toArray, List.set_cons_zero, List.set_cons_succ]
  refine wpAnyH_take (i := 23) (oi := ({ dst := some 86, op := Op.load 35 (Operand.tmp 8), type := 35, pos := "law.go:45", after := #[{ on := 22, ground := Ground.guard }], guard := some (22, true) } : Oper)) (v := ?_) rfl (by kernel_rfl) (by kernel_rfl) (by kernel_rfl) (fun _ _ _ h => h) (Or.inl ⟨by rfl, ?_⟩) (by assumption) ?_
  rotate_left 1
  · intro u hSw
    refine exec_load_row 35 (Operand.tmp 8) ?_ u w12.heap.size ?_ (ArrU8 (f4 1)) 35 (0, 0) _ ((hSw.block _ L8.out).trans R8.out) Try.underlying35 rfl (by rw [HI35.out, S1.out]) <;> rfl
  try simp only [Act.put, List.setIfInBounds_toArray, List.set_cons_zero, List.set_cons_succ]
  refine wpAnyH_ready (rs := [24]) (by kernel_rfl) (by simp) ?_
  refine AllReadyH.cons (o := ({ dst := some 87, op := Op.call { callee := Callee.value (Operand.func 17), args := #[Operand.const (Value.int IntKind.u8 1)], argTypes := #[5] }, type := 35, pos := "law.go:45", after := #[{ on := 22, ground := Ground.chain }, { on := 22, ground := Ground.guard }], guard := some (22, true) } : Oper)) rfl (fun K hK => ?_) AllReadyH.nil
  go_simp
  go_at_call 17
  refine (block_any 1 _).mono ?_
  rintro e w21 ⟨rfl, hb21⟩
  have HB21 := Lib.hid (hHeld.trans (hb21.mono hHeld.size))
  clear hb21
  go_wp2_with fail
  refine hK.out _ _ HB21.out (fun hHeld => ?_)
  clear hK K
  try simp only [Act.put, List.setIfInBounds_toArray, List.set_cons_zero, List.set_cons_succ]
  refine wpAnyH_take (i := 25) (oi := ({ dst := some 88, op := Op.binOp BinOp.eql 35 (Operand.tmp 86) (Operand.tmp 87) 35, type := 4, pos := "law.go:45", after := #[{ on := 23, ground := Ground.data }, { on := 24, ground := Ground.data }, { on := 22, ground := Ground.guard }], guard := some (22, true) } : Oper)) (v := .bool true) rfl (by kernel_rfl) (by kernel_rfl) (by kernel_rfl) (fun _ _ _ h => h) (Or.inl ⟨by rfl, ?_⟩) (by assumption) ?_
  · intro u hSw
    exact exec_eql_blk (Operand.tmp 86) (Operand.tmp 87) 35 rfl (f4 1) (blkOf 1) rfl rfl (by rw [f4_1]; exact blk_len 1) (blk_len 1) true (by rw [f4_1]; simp)
  try simp only [Act.put, List.setIfInBounds_toArray, List.set_cons_zero, List.set_cons_succ]
  refine wpAnyH_take (i := 26) (oi := ({ dst := some 89, op := Op.pick (Operand.tmp 85) (Operand.tmp 88) (Operand.const (Value.bool false)), type := 4, pos := "law.go:45", after := #[{ on := 22, ground := Ground.data }, { on := 25, ground := Ground.data }], guard := none } : Oper)) (v := ?_) rfl (by kernel_rfl) (by kernel_rfl) (by kernel_rfl) (fun _ _ _ h => h) (Or.inl ⟨by rfl, ?_⟩) (by assumption) ?_
  rotate_left 1
  · (intro u hSw; go_simp; try with_reducible rfl)
  try simp only [Act.put, List.setIfInBounds_toArray, List.set_cons_zero, List.set_cons_succ]
  refine wpAnyH_take (i := 27) (oi := ({ dst := some 90, op := Op.move (Operand.tmp 89), type := 4, pos := "law.go:45", after := #[{ on := 26, ground := Ground.data }, { on := 24, ground := Ground.chain }], guard := none } : Oper)) (v := ?_) rfl (by kernel_rfl) (by kernel_rfl) (by kernel_rfl) (fun _ _ _ h => h) (Or.inl ⟨by rfl, ?_⟩) (by assumption) ?_
  rotate_left 1
  · (intro u hSw; go_simp; try with_reducible rfl)
  try simp only [Act.put, List.setIfInBounds_toArray, List.set_cons_zero, List.set_cons_succ]
  refine wpAnyH_take (i := 28) (oi := ({ dst := some 91, op := Op.move (Operand.tmp 11), type := 33, pos := "law.go:45", after := #[{ on := 27, ground := Ground.guard }], guard := some (27, true) } : Oper)) (v := ?_) rfl (by kernel_rfl) (by kernel_rfl) (by kernel_rfl) (fun _ _ _ h => h) (Or.inl ⟨by rfl, ?_⟩) (by assumption) ?_
  rotate_left 1
  · (intro u hSw; go_simp; try with_reducible rfl)
  try simp only [Act.put, List.setIfInBounds_toArray, List.set_cons_zero, List.set_cons_succ]
  refine wpAnyH_take (i := 29) (oi := ({ dst := some 92, op := Op.binOp BinOp.eql 33 (Operand.tmp 91) (Operand.const (Value.int IntKind.i64 0)) 33, type := 4, pos := "law.go:45", after := #[{ on := 28, ground := Ground.data }, { on := 27, ground := Ground.guard }], guard := some (27, true) } : Oper)) (v := ?_) rfl (by kernel_rfl) (by kernel_rfl) (by kernel_rfl) (fun _ _ _ h => h) (Or.inl ⟨by rfl, ?_⟩) (by assumption) ?_
  rotate_left 1
  · (intro u hSw; go_simp; try with_reducible rfl)
  try simp only [Act.put, List.setIfInBounds_toArray, List.set_cons_zero, List.set_cons_succ]
  refine wpAnyH_take (i := 30) (oi := ({ dst := some 93, op := Op.pick (Operand.tmp 90) (Operand.tmp 92) (Operand.const (Value.bool false)), type := 4, pos := "law.go:45", after := #[{ on := 27, ground := Ground.data }, { on := 29, ground := Ground.data }], guard := none } : Oper)) (v := ?_) rfl (by kernel_rfl) (by kernel_rfl) (by kernel_rfl) (fun _ _ _ h => h) (Or.inl ⟨by rfl, ?_⟩) (by assumption) ?_
  rotate_left 1
  · (intro u hSw; go_simp; try with_reducible rfl)
  try simp only [Act.put, List.setIfInBounds_toArray, List.set_cons_zero, List.set_cons_succ]
  refine wpAnyH_take (i := 31) (oi := ({ dst := some 94, op := Op.move (Operand.tmp 93), type := 4, pos := "law.go:45", after := #[{ on := 30, ground := Ground.data }, { on := 27, ground := Ground.chain }], guard := none } : Oper)) (v := ?_) rfl (by kernel_rfl) (by kernel_rfl) (by kernel_rfl) (fun _ _ _ h => h) (Or.inl ⟨by rfl, ?_⟩) (by assumption) ?_
  rotate_left 1
  · (intro u hSw; go_simp; try with_reducible rfl)
  try simp only [Act.put, List.setIfInBounds_toArray, List.set_cons_zero, List.set_cons_succ]
  refine wpAnyH_take (i := 32) (oi := ({ dst := some 95, op := Op.indexAddr 35 (Operand.tmp 10) (Operand.const (Value.int IntKind.i64 2)), type := 0, pos := "law.go:45", after := #[{ on := 31, ground := Ground.guard }], guard := some (31, true) } : Oper)) (v := ?_) rfl (by kernel_rfl) (by kernel_rfl) (by kernel_rfl) (fun _ _ _ h => h) (Or.inl ⟨by rfl, ?_⟩) (by assumption) ?_
  rotate_left 1
  · (intro u hSw; go_simp; try with_reducible rfl)
  try simp only [Act.put, List.setIfInBounds_toArray, List.set_cons_zero, List.set_cons_succ]
  refine wpAnyH_take (i := 33) (oi := ({ dst := some 96, op := Op.load 5 (Operand.tmp 95), type := 5, pos := "law.go:45", after := #[{ on := 32, ground := Ground.data }, { on := 31, ground := Ground.guard }], guard := some (31, true) } : Oper)) (v := ?_) rfl (by kernel_rfl) (by kernel_rfl) (by kernel_rfl) (fun _ _ _ h => h) (Or.inl ⟨by rfl, ?_⟩) (by assumption) ?_
  rotate_left 1
  · intro u hSw
    have h := (cell_of_row u w14.heap.size 2 _ _ _ ((hSw.block _ L10.out).trans R10.out)).trans f4_22
    go_simp
    try with_reducible rfl
  try simp only [Act.put, List.setIfInBounds_toArray, List.set_cons_zero, List.set_cons_succ]
  refine wpAnyH_take (i := 34) (oi := ({ dst := some 97, op := Op.binOp BinOp.eql 5 (Operand.tmp 96) (Operand.const (Value.int IntKind.u8 8)) 5, type := 4, pos := "law.go:45", after := #[{ on := 33, ground := Ground.data }, { on := 31, ground := Ground.guard }], guard := some (31, true) } : Oper)) (v := ?_) rfl (by kernel_rfl) (by kernel_rfl) (by kernel_rfl) (fun _ _ _ h => h) (Or.inl ⟨by rfl, ?_⟩) (by assumption) ?_
  rotate_left 1
  · (intro u hSw; go_simp; try with_reducible rfl)
  try simp only [Act.put, List.setIfInBounds_toArray, List.set_cons_zero, List.set_cons_succ]
  refine wpAnyH_take (i := 35) (oi := ({ dst := some 98, op := Op.pick (Operand.tmp 94) (Operand.tmp 97) (Operand.const (Value.bool false)), type := 4, pos := "law.go:45", after := #[{ on := 31, ground := Ground.data }, { on := 34, ground := Ground.data }], guard := none } : Oper)) (v := ?_) rfl (by kernel_rfl) (by kernel_rfl) (by kernel_rfl) (fun _ _ _ h => h) (Or.inl ⟨by rfl, ?_⟩) (by assumption) ?_
  rotate_left 1
  · (intro u hSw; go_simp; try with_reducible rfl)
  try simp only [Act.put, List.setIfInBounds_toArray, List.set_cons_zero, List.set_cons_succ]
  refine wpAnyH_take (i := 36) (oi := ({ dst := some 99, op := Op.move (Operand.tmp 98), type := 4, pos := "law.go:45", after := #[{ on := 35, ground := Ground.data }, { on := 31, ground := Ground.chain }], guard := none } : Oper)) (v := ?_) rfl (by kernel_rfl) (by kernel_rfl) (by kernel_rfl) (fun _ _ _ h => h) (Or.inl ⟨by rfl, ?_⟩) (by assumption) ?_
  rotate_left 1
  · (intro u hSw; go_simp; try with_reducible rfl)
  try simp only [Act.put, List.setIfInBounds_toArray, List.set_cons_zero, List.set_cons_succ]
  refine wpAnyH_take (i := 37) (oi := ({ dst := some 100, op := Op.indexAddr 35 (Operand.tmp 10) (Operand.const (Value.int IntKind.i64 3)), type := 0, pos := "law.go:45", after := #[{ on := 36, ground := Ground.guard }], guard := some (36, true) } : Oper)) (v := ?_) rfl (by kernel_rfl) (by kernel_rfl) (by kernel_rfl) (fun _ _ _ h => h) (Or.inl ⟨by rfl, ?_⟩) (by assumption) ?_
  rotate_left 1
  · (intro u hSw; go_simp; try with_reducible rfl)
  try simp only [Act.put, List.setIfInBounds_toArray, List.set_cons_zero, List.set_cons_succ]
  refine wpAnyH_take (i := 38) (oi := ({ dst := some 101, op := Op.load 5 (Operand.tmp 100), type := 5, pos := "law.go:45", after := #[{ on := 37, ground := Ground.data }, { on := 36, ground := Ground.guard }], guard := some (36, true) } : Oper)) (v := ?_) rfl (by kernel_rfl) (by kernel_rfl) (by kernel_rfl) (fun _ _ _ h => h) (Or.inl ⟨by rfl, ?_⟩) (by assumption) ?_
  rotate_left 1
  · intro u hSw
    have h := (cell_of_row u w14.heap.size 3 _ _ _ ((hSw.block _ L10.out).trans R10.out)).trans f4_23
    go_simp
    try with_reducible rfl
  try simp only [Act.put, List.setIfInBounds_toArray, List.set_cons_zero, List.set_cons_succ]
  refine wpAnyH_take (i := 39) (oi := ({ dst := some 102, op := Op.binOp BinOp.eql 5 (Operand.tmp 101) (Operand.const (Value.int IntKind.u8 0)) 5, type := 4, pos := "law.go:45", after := #[{ on := 38, ground := Ground.data }, { on := 36, ground := Ground.guard }], guard := some (36, true) } : Oper)) (v := ?_) rfl (by kernel_rfl) (by kernel_rfl) (by kernel_rfl) (fun _ _ _ h => h) (Or.inl ⟨by rfl, ?_⟩) (by assumption) ?_
  rotate_left 1
  · (intro u hSw; go_simp; try with_reducible rfl)
  try simp only [Act.put, List.setIfInBounds_toArray, List.set_cons_zero, List.set_cons_succ]
  refine wpAnyH_take (i := 40) (oi := ({ dst := some 103, op := Op.pick (Operand.tmp 99) (Operand.tmp 102) (Operand.const (Value.bool false)), type := 4, pos := "law.go:45", after := #[{ on := 36, ground := Ground.data }, { on := 39, ground := Ground.data }], guard := none } : Oper)) (v := ?_) rfl (by kernel_rfl) (by kernel_rfl) (by kernel_rfl) (fun _ _ _ h => h) (Or.inl ⟨by rfl, ?_⟩) (by assumption) ?_
  rotate_left 1
  · (intro u hSw; go_simp; try with_reducible rfl)
  try simp only [Act.put, List.setIfInBounds_toArray, List.set_cons_zero, List.set_cons_succ]
  refine wpAnyH_take (i := 41) (oi := ({ dst := some 104, op := Op.move (Operand.tmp 103), type := 4, pos := "law.go:45", after := #[{ on := 40, ground := Ground.data }, { on := 36, ground := Ground.chain }], guard := none } : Oper)) (v := ?_) rfl (by kernel_rfl) (by kernel_rfl) (by kernel_rfl) (fun _ _ _ h => h) (Or.inl ⟨by rfl, ?_⟩) (by assumption) ?_
  rotate_left 1
  · (intro u hSw; go_simp; try with_reducible rfl)
  try simp only [Act.put, List.setIfInBounds_toArray, List.set_cons_zero, List.set_cons_succ]
  refine wpAnyH_take (i := 42) (oi := ({ dst := some 105, op := Op.move (Operand.tmp 12), type := 33, pos := "law.go:45", after := #[{ on := 41, ground := Ground.guard }], guard := some (41, true) } : Oper)) (v := ?_) rfl (by kernel_rfl) (by kernel_rfl) (by kernel_rfl) (fun _ _ _ h => h) (Or.inl ⟨by rfl, ?_⟩) (by assumption) ?_
  rotate_left 1
  · (intro u hSw; go_simp; try with_reducible rfl)
  try simp only [Act.put, List.setIfInBounds_toArray, List.set_cons_zero, List.set_cons_succ]
  refine wpAnyH_take (i := 43) (oi := ({ dst := some 106, op := Op.binOp BinOp.eql 33 (Operand.tmp 105) (Operand.const (Value.int IntKind.i64 42)) 33, type := 4, pos := "law.go:45", after := #[{ on := 42, ground := Ground.data }, { on := 41, ground := Ground.guard }], guard := some (41, true) } : Oper)) (v := ?_) rfl (by kernel_rfl) (by kernel_rfl) (by kernel_rfl) (fun _ _ _ h => h) (Or.inl ⟨by rfl, ?_⟩) (by assumption) ?_
  rotate_left 1
  · (intro u hSw; go_simp; try with_reducible rfl)
  try simp only [Act.put, List.setIfInBounds_toArray, List.set_cons_zero, List.set_cons_succ]
  refine wpAnyH_take (i := 44) (oi := ({ dst := some 107, op := Op.pick (Operand.tmp 104) (Operand.tmp 106) (Operand.const (Value.bool false)), type := 4, pos := "law.go:45", after := #[{ on := 41, ground := Ground.data }, { on := 43, ground := Ground.data }], guard := none } : Oper)) (v := ?_) rfl (by kernel_rfl) (by kernel_rfl) (by kernel_rfl) (fun _ _ _ h => h) (Or.inl ⟨by rfl, ?_⟩) (by assumption) ?_
  rotate_left 1
  · (intro u hSw; go_simp; try with_reducible rfl)
  try simp only [Act.put, List.setIfInBounds_toArray, List.set_cons_zero, List.set_cons_succ]
  refine wpAnyH_take (i := 45) (oi := ({ dst := some 108, op := Op.move (Operand.tmp 107), type := 4, pos := "law.go:45", after := #[{ on := 44, ground := Ground.data }, { on := 41, ground := Ground.chain }], guard := none } : Oper)) (v := ?_) rfl (by kernel_rfl) (by kernel_rfl) (by kernel_rfl) (fun _ _ _ h => h) (Or.inl ⟨by rfl, ?_⟩) (by assumption) ?_
  rotate_left 1
  · (intro u hSw; go_simp; try with_reducible rfl)
  try simp only [Act.put, List.setIfInBounds_toArray, List.set_cons_zero, List.set_cons_succ]
  refine wpAnyH_take (i := 46) (oi := ({ dst := some 109, op := Op.move (Operand.tmp 13), type := 33, pos := "law.go:45", after := #[{ on := 45, ground := Ground.guard }], guard := some (45, true) } : Oper)) (v := ?_) rfl (by kernel_rfl) (by kernel_rfl) (by kernel_rfl) (fun _ _ _ h => h) (Or.inl ⟨by rfl, ?_⟩) (by assumption) ?_
  rotate_left 1
  · (intro u hSw; go_simp; try with_reducible rfl)
  try simp only [Act.put, List.setIfInBounds_toArray, List.set_cons_zero, List.set_cons_succ]
  refine wpAnyH_take (i := 47) (oi := ({ dst := some 110, op := Op.binOp BinOp.eql 33 (Operand.tmp 109) (Operand.const (Value.int IntKind.i64 44)) 33, type := 4, pos := "law.go:45", after := #[{ on := 46, ground := Ground.data }, { on := 45, ground := Ground.guard }], guard := some (45, true) } : Oper)) (v := ?_) rfl (by kernel_rfl) (by kernel_rfl) (by kernel_rfl) (fun _ _ _ h => h) (Or.inl ⟨by rfl, ?_⟩) (by assumption) ?_
  rotate_left 1
  · (intro u hSw; go_simp; try with_reducible rfl)
  try simp only [Act.put, List.setIfInBounds_toArray, List.set_cons_zero, List.set_cons_succ]
  refine wpAnyH_take (i := 48) (oi := ({ dst := some 111, op := Op.pick (Operand.tmp 108) (Operand.tmp 110) (Operand.const (Value.bool false)), type := 4, pos := "law.go:45", after := #[{ on := 45, ground := Ground.data }, { on := 47, ground := Ground.data }], guard := none } : Oper)) (v := ?_) rfl (by kernel_rfl) (by kernel_rfl) (by kernel_rfl) (fun _ _ _ h => h) (Or.inl ⟨by rfl, ?_⟩) (by assumption) ?_
  rotate_left 1
  · (intro u hSw; go_simp; try with_reducible rfl)
  try simp only [Act.put, List.setIfInBounds_toArray, List.set_cons_zero, List.set_cons_succ]
  refine wpAnyH_take (i := 49) (oi := ({ dst := some 112, op := Op.move (Operand.tmp 111), type := 4, pos := "law.go:45", after := #[{ on := 48, ground := Ground.data }, { on := 45, ground := Ground.chain }], guard := none } : Oper)) (v := ?_) rfl (by kernel_rfl) (by kernel_rfl) (by kernel_rfl) (fun _ _ _ h => h) (Or.inl ⟨by rfl, ?_⟩) (by assumption) ?_
  rotate_left 1
  · (intro u hSw; go_simp; try with_reducible rfl)
  try simp only [Act.put, List.setIfInBounds_toArray, List.set_cons_zero, List.set_cons_succ]
  refine wpAnyH_take (i := 50) (oi := ({ dst := some 113, op := Op.move (Operand.tmp 1), type := 24, pos := "law.go:45", after := #[{ on := 49, ground := Ground.guard }], guard := some (49, true) } : Oper)) (v := ?_) rfl (by kernel_rfl) (by kernel_rfl) (by kernel_rfl) (fun _ _ _ h => h) (Or.inl ⟨by rfl, ?_⟩) (by assumption) ?_
  rotate_left 1
  · (intro u hSw; go_simp; try with_reducible rfl)
  try simp only [Act.put, List.setIfInBounds_toArray, List.set_cons_zero, List.set_cons_succ]
  refine wpAnyH_ready (rs := [51]) (by kernel_rfl) (by simp) ?_
  refine AllReadyH.cons (o := ({ dst := some 114, op := Op.call { callee := Callee.value (Operand.func 28), args := #[Operand.tmp 113], argTypes := #[24] }, type := 4, pos := "law.go:45", after := #[{ on := 50, ground := Ground.data }, { on := 49, ground := Ground.chain }, { on := 49, ground := Ground.guard }], guard := some (49, true) } : Oper)) rfl (fun K hK => ?_) AllReadyH.nil
  go_simp
  go_at_call 28
  refine (down_any (w.heap.size + 1) 4 2 _ true _ _ _ ((hHeld.block _ K20.out.1.lt).trans K20.out.1)).mono ?_
  rintro e w' ⟨rfl, rfl⟩
  go_wp2_with fail
  refine hK.out _ _ (by assumption) (fun hHeld => ?_)
  clear hK K
  try simp only [Act.put, List.setIfInBounds_toArray, List.set_cons_zero, List.set_cons_succ]
  refine wpAnyH_take (i := 52) (oi := ({ dst := some 115, op := Op.pick (Operand.tmp 112) (Operand.tmp 114) (Operand.const (Value.bool false)), type := 4, pos := "law.go:45", after := #[{ on := 49, ground := Ground.data }, { on := 51, ground := Ground.data }], guard := none } : Oper)) (v := ?_) rfl (by kernel_rfl) (by kernel_rfl) (by kernel_rfl) (fun _ _ _ h => h) (Or.inl ⟨by rfl, ?_⟩) (by assumption) ?_
  rotate_left 1
  · (intro u hSw; go_simp; try with_reducible rfl)
  try simp only [Act.put, List.setIfInBounds_toArray, List.set_cons_zero, List.set_cons_succ]
  refine wpAnyH_take (i := 53) (oi := ({ dst := some 116, op := Op.move (Operand.tmp 115), type := 4, pos := "law.go:45", after := #[{ on := 52, ground := Ground.data }, { on := 51, ground := Ground.chain }], guard := none } : Oper)) (v := ?_) rfl (by kernel_rfl) (by kernel_rfl) (by kernel_rfl) (fun _ _ _ h => h) (Or.inl ⟨by rfl, ?_⟩) (by assumption) ?_
  rotate_left 1
  · (intro u hSw; go_simp; try with_reducible rfl)
  try simp only [Act.put, List.setIfInBounds_toArray, List.set_cons_zero, List.set_cons_succ]
  refine wpAnyH_take (i := 54) (oi := ({ dst := some 117, op := Op.move (Operand.tmp 7), type := 24, pos := "law.go:45", after := #[{ on := 53, ground := Ground.guard }], guard := some (53, true) } : Oper)) (v := ?_) rfl (by kernel_rfl) (by kernel_rfl) (by kernel_rfl) (fun _ _ _ h => h) (Or.inl ⟨by rfl, ?_⟩) (by assumption) ?_
  rotate_left 1
  · (intro u hSw; go_simp; try with_reducible rfl)
  try simp only [Act.put, List.setIfInBounds_toArray, List.set_cons_zero, List.set_cons_succ]
  refine wpAnyH_take (i := 55) (oi := ({ dst := some 118, op := Op.binOp BinOp.neq 24 (Operand.tmp 117) (Operand.const (Value.pointer none)) 24, type := 4, pos := "law.go:45", after := #[{ on := 54, ground := Ground.data }, { on := 53, ground := Ground.guard }], guard := some (53, true) } : Oper)) (v := ?_) rfl (by kernel_rfl) (by kernel_rfl) (by kernel_rfl) (fun _ _ _ h => h) (Or.inl ⟨by rfl, ?_⟩) (by assumption) ?_
  rotate_left 1
  · (intro u hSw; go_simp; try with_reducible rfl)
  try simp only [Act.put, List.setIfInBounds_toArray, List.set_cons_zero, List.set_cons_succ]
  refine wpAnyH_take (i := 56) (oi := ({ dst := some 119, op := Op.pick (Operand.tmp 116) (Operand.tmp 118) (Operand.const (Value.bool false)), type := 4, pos := "law.go:45", after := #[{ on := 53, ground := Ground.data }, { on := 55, ground := Ground.data }], guard := none } : Oper)) (v := ?_) rfl (by kernel_rfl) (by kernel_rfl) (by kernel_rfl) (fun _ _ _ h => h) (Or.inl ⟨by rfl, ?_⟩) (by assumption) ?_
  rotate_left 1
  · (intro u hSw; go_simp; try with_reducible rfl)
  try simp only [Act.put, List.setIfInBounds_toArray, List.set_cons_zero, List.set_cons_succ]
  refine wpAnyH_take (i := 57) (oi := ({ dst := some 120, op := Op.move (Operand.tmp 119), type := 4, pos := "law.go:45", after := #[{ on := 56, ground := Ground.data }, { on := 53, ground := Ground.chain }], guard := none } : Oper)) (v := ?_) rfl (by kernel_rfl) (by kernel_rfl) (by kernel_rfl) (fun _ _ _ h => h) (Or.inl ⟨by rfl, ?_⟩) (by assumption) ?_
  rotate_left 1
  · (intro u hSw; go_simp; try with_reducible rfl)
  try simp only [Act.put, List.setIfInBounds_toArray, List.set_cons_zero, List.set_cons_succ]
  refine wpAnyH_take (i := 58) (oi := ({ dst := some 121, op := Op.move (Operand.tmp 7), type := 24, pos := "law.go:45", after := #[{ on := 57, ground := Ground.guard }], guard := some (57, true) } : Oper)) (v := ?_) rfl (by kernel_rfl) (by kernel_rfl) (by kernel_rfl) (fun _ _ _ h => h) (Or.inl ⟨by rfl, ?_⟩) (by assumption) ?_
  rotate_left 1
  · (intro u hSw; go_simp; try with_reducible rfl)
  try simp only [Act.put, List.setIfInBounds_toArray, List.set_cons_zero, List.set_cons_succ]
  refine wpAnyH_ready (rs := [59]) (by kernel_rfl) (by simp) ?_
  refine AllReadyH.cons (o := ({ dst := some 122, op := Op.call { callee := Callee.value (Operand.func 25), args := #[Operand.tmp 121], argTypes := #[24] }, type := 3, pos := "law.go:45", after := #[{ on := 58, ground := Ground.data }, { on := 57, ground := Ground.chain }, { on := 57, ground := Ground.guard }], guard := some (57, true) } : Oper)) rfl (fun K hK => ?_) AllReadyH.nil
  go_simp
  go_at_call 25
  refine (loose_dk _ _ _ 4 4 (-1) false _ _ _ _ (O20.out.chg (Chg.fresh (F := fun _ => False) hHeld) (fun _ _ h => h))).mono ?_
  rintro e w' ⟨rfl, he⟩
  have he : e = .returned (.int .i64 2) := he
  subst he
  go_wp2_with fail
  refine hK.out _ _ (by assumption) (fun hHeld => ?_)
  clear hK K
  try simp only [Act.put, List.setIfInBounds_toArray, List.set_cons_zero, List.set_cons_succ]
  refine wpAnyH_take (i := 60) (oi := ({ dst := some 123, op := Op.binOp BinOp.eql 3 (Operand.tmp 122) (Operand.const (Value.int IntKind.i64 2)) 3, type := 4, pos := "law.go:45", after := #[{ on := 59, ground := Ground.data }, { on := 57, ground := Ground.guard }], guard := some (57, true) } : Oper)) (v := ?_) rfl (by kernel_rfl) (by kernel_rfl) (by kernel_rfl) (fun _ _ _ h => h) (Or.inl ⟨by rfl, ?_⟩) (by assumption) ?_
  rotate_left 1
  · (intro u hSw; go_simp; try with_reducible rfl)
  try simp only [Act.put, List.setIfInBounds_toArray, List.set_cons_zero, List.set_cons_succ]
  refine wpAnyH_take (i := 61) (oi := ({ dst := some 124, op := Op.pick (Operand.tmp 120) (Operand.tmp 123) (Operand.const (Value.bool false)), type := 4, pos := "law.go:45", after := #[{ on := 57, ground := Ground.data }, { on := 60, ground := Ground.data }], guard := none } : Oper)) (v := ?_) rfl (by kernel_rfl) (by kernel_rfl) (by kernel_rfl) (fun _ _ _ h => h) (Or.inl ⟨by rfl, ?_⟩) (by assumption) ?_
  rotate_left 1
  · (intro u hSw; go_simp; try with_reducible rfl)
  try simp only [Act.put, List.setIfInBounds_toArray, List.set_cons_zero, List.set_cons_succ]
  refine wpAnyH_take (i := 62) (oi := ({ dst := some 0, op := Op.assign (Operand.tmp 124), type := 4, pos := "law.go:45", after := #[{ on := 61, ground := Ground.data }, { on := 59, ground := Ground.chain }, { on := 0, ground := Ground.phase }, { on := 1, ground := Ground.phase }, { on := 2, ground := Ground.phase }, { on := 3, ground := Ground.phase }, { on := 4, ground := Ground.phase }, { on := 5, ground := Ground.phase }, { on := 6, ground := Ground.phase }, { on := 7, ground := Ground.phase }, { on := 8, ground := Ground.phase }, { on := 9, ground := Ground.phase }, { on := 10, ground := Ground.phase }, { on := 11, ground := Ground.phase }, { on := 12, ground := Ground.phase }, { on := 13, ground := Ground.phase }, { on := 14, ground := Ground.phase }, { on := 15, ground := Ground.phase }, { on := 16, ground := Ground.phase }, { on := 17, ground := Ground.phase }, { on := 18, ground := Ground.phase }, { on := 19, ground := Ground.phase }, { on := 20, ground := Ground.phase }, { on := 21, ground := Ground.phase }, { on := 22, ground := Ground.phase }, { on := 23, ground := Ground.phase }, { on := 24, ground := Ground.phase }, { on := 25, ground := Ground.phase }, { on := 26, ground := Ground.phase }, { on := 27, ground := Ground.phase }, { on := 28, ground := Ground.phase }, { on := 29, ground := Ground.phase }, { on := 30, ground := Ground.phase }, { on := 31, ground := Ground.phase }, { on := 32, ground := Ground.phase }, { on := 33, ground := Ground.phase }, { on := 34, ground := Ground.phase }, { on := 35, ground := Ground.phase }, { on := 36, ground := Ground.phase }, { on := 37, ground := Ground.phase }, { on := 38, ground := Ground.phase }, { on := 39, ground := Ground.phase }, { on := 40, ground := Ground.phase }, { on := 41, ground := Ground.phase }, { on := 42, ground := Ground.phase }, { on := 43, ground := Ground.phase }, { on := 44, ground := Ground.phase }, { on := 45, ground := Ground.phase }, { on := 46, ground := Ground.phase }, { on := 47, ground := Ground.phase }, { on := 48, ground := Ground.phase }, { on := 49, ground := Ground.phase }, { on := 50, ground := Ground.phase }, { on := 51, ground := Ground.phase }, { on := 52, ground := Ground.phase }, { on := 53, ground := Ground.phase }, { on := 54, ground := Ground.phase }, { on := 55, ground := Ground.phase }, { on := 56, ground := Ground.phase }, { on := 57, ground := Ground.phase }, { on := 58, ground := Ground.phase }, { on := 59, ground := Ground.phase }, { on := 60, ground := Ground.phase }, { on := 61, ground := Ground.phase }], guard := none } : Oper)) (v := ?_) rfl (by kernel_rfl) (by kernel_rfl) (by kernel_rfl) (fun _ _ _ h => h) (Or.inl ⟨by rfl, ?_⟩) (by assumption) ?_
  rotate_left 1
  · (intro u hSw; go_simp; try with_reducible rfl)
  try simp only [Act.put, List.setIfInBounds_toArray, List.set_cons_zero]
  refine wpAnyH_done (by kernel_rfl) ?_ _
  go_wp2_with fail
  go_ret
  exact ⟨rfl, B20.out.trans (hHeld.mono B20.out.size)⟩
end Go.Proofs.Ytaklkjjoplfokaa
