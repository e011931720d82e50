/- a pager's state -/
import Derived.Test.YtfknlheflaccaaaGreatDm08
import Derived.Test.YtfknlheflaccaaaGreatDm12
namespace Go.Proofs.YtfknlheflaccaaaGreat
open Go.RowKit
/-- what stays: the first block of one's own, the disk's two blocks, the log's, the pager's; the disk's size and room, the log's size, how many pages may be held -/
structure PK where
 B : Nat
 D : Nat
 M : Nat
 Pl : Nat
 P : Nat
 nb : Int
 rm : Int
 sz : Int
 most : Int
/-- what turns -/
structure PV where
 s : DS
 lv : Value
 a : Nat
 b : Nat
 c : Nat
 av : Value
 pe : List (List Int)
 Lm : Nat
 en : Int
 C : Nat
 ov : Value
 h0 : List Nat
 h1 : List Nat
 Hm : Nat
 lg : List (Int × Int)
 ca : List (Int × List Int)
 od : List Int
 ch : List (Int × List Int)
def HV (ns : List Nat) : List Value := ns.map fun n : Nat => Value.int .u64 (n : Int)
/-- a pager's cells -/
def PCl (k : PK) (v : PV) : List Value :=
 [.pointer (some ⟨k.Pl, 0, none⟩), .pointer (some ⟨k.D, 0, none⟩), .int .i64 k.sz, .map (some v.Lm), .int .i64 v.en, .int .i64 k.most, .map (some v.C), v.ov] ++ HV v.h0 ++ HV v.h1 ++ [.map (some v.Hm)]
def PC (k : PK) (v : PV) : Array Value := (PCl k v).toArray
def PF (k : PK) (v : PV) (g : Nat) : Prop := LFoot k.D k.M v.lv k.Pl v.av g ∨ g = k.P ∨ g = v.Lm ∨ g = v.C ∨ g = v.Hm ∨ v.ov.ownBlock = some g
/-- each block has one use -/
structure Apart (k : PK) (v : PV) (u : Nat → Nat) : Prop where
 l : ∀ g, LFoot k.D k.M v.lv k.Pl v.av g → u g = 0
 p : u k.P = 1
 m : u v.Lm = 2
 c : u v.C = 3
 h : u v.Hm = 4
 o : ∀ g, v.ov.ownBlock = some g → u g = 5
structure PgS (k : PK) (v : PV) (w : World) : Prop where
 ls : LS w k.B k.D k.M k.nb k.rm v.s v.lv k.Pl 0 k.sz v.a v.b v.c v.av v.pe
 box : w.heap[k.P]? = some (.cells (PC k v) 98 (0, 0))
 lg : MapG (Value.int .i64) w v.Lm v.lg
 ca : MapG blkV w v.C v.ca
 ch : MapG blkV w v.Hm v.ch
 ord : OrdIs w k.B v.ov v.od
 l0 : v.h0.length = 18
 l1 : v.h1.length = 18
 bp : k.B ≤ k.P
 bm : k.B ≤ v.Lm
 bc : k.B ≤ v.C
 bh : k.B ≤ v.Hm
 ap : ∃ u, Apart k v u
section
variable {k : PK} {v : PV} {w w' : World}
theorem HV_len (ns : List Nat) : (HV ns).length = ns.length := by simp [HV]
theorem PC_lo (i : Nat) (hi : i < 8) : (PC k v)[i]? = ([.pointer (some ⟨k.Pl, 0, none⟩), .pointer (some ⟨k.D, 0, none⟩), .int .i64 k.sz, .map (some v.Lm), .int .i64 v.en, .int .i64 k.most, .map (some v.C), v.ov] : List Value)[i]? := by
 simp only [PC, PCl, List.getElem?_toArray, List.append_assoc]
 rw [List.getElem?_append_left (by simpa using hi)]
theorem PC_h0 (i : Nat) (h0 : v.h0.length = 18) (hi : i < 18) : (PC k v)[8 + i]? = (HV v.h0)[i]? := by
 simp only [PC, PCl, List.getElem?_toArray, List.append_assoc]
 rw [List.getElem?_append_right (by simp), List.getElem?_append_left (by simp [HV_len, h0]; omega)]
 congr 1
 simp
theorem PC_h1 (i : Nat) (h0 : v.h0.length = 18) (h1 : v.h1.length = 18) (hi : i < 18) : (PC k v)[26 + i]? = (HV v.h1)[i]? := by
 simp only [PC, PCl, List.getElem?_toArray, List.append_assoc]
 rw [List.getElem?_append_right (by simp; omega), List.getElem?_append_right (by simp [HV_len, h0]; omega), List.getElem?_append_left (by simp [HV_len, h0, h1]; omega)]
 congr 1
 simp [HV_len, h0]
 omega
theorem PC_44 (h0 : v.h0.length = 18) (h1 : v.h1.length = 18) : (PC k v)[44]? = some (.map (some v.Hm)) := by
 simp only [PC, PCl, List.getElem?_toArray, List.append_assoc]
 rw [List.getElem?_append_right (by simp), List.getElem?_append_right (by simp [HV_len, h0]), List.getElem?_append_right (by simp [HV_len, h0, h1])]
 simp [HV_len, h0, h1]
theorem PC_set7 (x : Value) : (PC k v).setIfInBounds 7 x = PC k { v with ov := x } := by simp [PC, PCl]
theorem PC_set3 (x : Nat) : (PC k v).setIfInBounds 3 (.map (some x)) = PC k { v with Lm := x } := by simp [PC, PCl]
theorem PC_set4 (x : Int) : (PC k v).setIfInBounds 4 (.int .i64 x) = PC k { v with en := x } := by simp [PC, PCl]
theorem PgS.ltP (h : PgS k v w) : k.P < w.heap.size := (Array.getElem?_eq_some_iff.1 h.box).1
theorem PgS.lt (h : PgS k v w) : ∀ g, PF k v g → k.B ≤ g ∧ g < w.heap.size := by
 intro g hg
 rcases hg with hg | rfl | rfl | rfl | rfl | hg
 ·exact h.ls.lt g hg
 ·exact ⟨h.bp, h.ltP⟩
 ·exact ⟨h.bm, h.lg.lt⟩
 ·exact ⟨h.bc, h.ca.lt⟩
 ·exact ⟨h.bh, h.ch.lt⟩
 ·exact h.ord.lt g hg
theorem PgS.hB (h : PgS k v w) : k.B ≤ w.heap.size := by have := h.lt k.P (.inr (.inl rfl)); omega
theorem PgS.chg (h : PgS k v w) {F : Nat → Prop} (hc : Chg F w w') (hF : ∀ g, PF k v g → ¬ F g) : PgS k v w' :=
  { h with
    ls := h.ls.chg hc (fun g hg => hF g (.inl hg))
    box := (hc.block k.P h.ltP (hF _ (.inr (.inl rfl)))).trans h.box
    lg := h.lg.of (hc.block _ h.lg.lt (hF _ (.inr (.inr (.inl rfl)))))
    ca := h.ca.of (hc.block _ h.ca.lt (hF _ (.inr (.inr (.inr (.inl rfl))))))
    ch := h.ch.of (hc.block _ h.ch.lt (hF _ (.inr (.inr (.inr (.inr (.inl rfl)))))))
    ord := h.ord.chg hc (fun g hg => hF g (.inr (.inr (.inr (.inr (.inr hg)))))) }
theorem PgS.fresh (h : PgS k v w) (hb : Below w.heap.size w w') : PgS k v w' := h.chg (Chg.fresh (F := fun _ => False) hb) (fun _ _ h => h)
/-- what a call leaves -/
def PE (k : PK) (v : PV) (w : World) (v' : PV) (w' : World) : Prop := PgS k v' w' ∧ Chg (PF k v) w w' ∧ ∀ g, PF k v' g → PF k v g ∨ w.heap.size ≤ g
theorem PE.same (h : PgS k v w) (hb : Below w.heap.size w w') : PE k v w v w' := ⟨h.fresh hb, Chg.fresh hb, fun _ h => .inl h⟩
theorem PE.trans {v1 v2 : PV} {w1 w2 : World} (h : PE k v w v1 w1) (h2 : PE k v1 w1 v2 w2) : PE k v w v2 w2 :=
 ⟨h2.1, h.2.1.trans h2.2.1 (fun g hg => h.2.2 g hg), fun g hg => (h2.2.2 g hg).elim (h.2.2 g) (fun e => .inr (by have := h.2.1.size; omega))⟩
theorem PE.below (h : PgS k v w) {v1 : PV} {w1 : World} (h1 : PE k v w v1 w1) : Below k.B w w1 := h1.2.1.below (fun g hg => (h.lt g hg).1) h.hB
/-- behind new blocks -/
theorem PE.pre {v1 : PV} {w0 w1 : World} (hb : Below w0.heap.size w0 w) (h : PE k v w v1 w1) : PE k v w0 v1 w1 :=
 ⟨h.1, (Chg.fresh (F := PF k v) hb).trans h.2.1 (fun _ h => .inl h), fun g hg => (h.2.2 g hg).imp id (fun e => by have := hb.size; omega)⟩
theorem PE.post {v1 : PV} {w1 w2 : World} (h : PE k v w v1 w1) (hb : Below w1.heap.size w1 w2) : PE k v w v1 w2 :=
 ⟨h.1.fresh hb, h.2.1.trans (Chg.fresh (F := fun _ => False) hb) (fun _ h => h.elim), h.2.2⟩
/-- the cache's part -/
theorem PgS.cache (h : PgS k v w) : CaIs w k.B k.P (PC k v) 98 v.C v.ov k.most v.ca v.od := by
  obtain ⟨u, hu⟩ := h.ap
  exact { box := h.box, c0 := PC_lo 5 (by decide), c1 := PC_lo 6 (by decide), c2 := PC_lo 7 (by decide), mp := h.ca, ord := h.ord, bm := h.bc
          pc := fun e => by have h1 := hu.p; have h2 := hu.c; rw [e] at h1; omega
          op := fun e => by have h1 := hu.o _ e; have h2 := hu.p; omega
          oc := fun e => by have h1 := hu.o _ e; have h2 := hu.c; omega }
/-- a cache that has turned, put back -/
theorem PgS.recache (h : PgS k v w) {ov' : Value} {ca' : List (Int × List Int)} {od' : List Int} (hc : CaIs w' k.B k.P ((PC k v).setIfInBounds 7 ov') 98 v.C ov' k.most ca' od') (hg : Chg (fun g => g = k.P ∨ g = v.C ∨ v.ov.ownBlock = some g) w w') (ho : OwnTo w v.ov ov') : PE k v w { v with ov := ov', ca := ca', od := od' } w' := by
 obtain ⟨u, hu⟩ := h.ap
 have hn : ∀ g, u g ≠ 1 → u g ≠ 3 → u g ≠ 5 → ¬ (g = k.P ∨ g = v.C ∨ v.ov.ownBlock = some g) := by
  rintro g h1 h3 h5 (rfl | rfl | h)
  ·exact h1 hu.p
  ·exact h3 hu.c
  ·exact h5 (hu.o g h)
 refine ⟨{ h with ls := h.ls.chg hg (fun g hg' => hn g (by rw [hu.l g hg']; decide) (by rw [hu.l g hg']; decide) (by rw [hu.l g hg']; decide)), box := ?_, lg := h.lg.of (hg.block _ h.lg.lt (hn _ (by rw [hu.m]; decide) (by rw [hu.m]; decide) (by rw [hu.m]; decide))), ca := hc.mp, ch := h.ch.of (hg.block _ h.ch.lt (hn _ (by rw [hu.h]; decide) (by rw [hu.h]; decide) (by rw [hu.h]; decide))), ord := hc.ord, ap := ?_ }, ?_, ?_⟩
 ·have := hc.box
  rw [PC_set7] at this
  exact this
 ·refine ⟨fun g => if g < w.heap.size then u g else 5, ?_, ?_, ?_, ?_, ?_, ?_⟩
  ·intro g hg'
   rw [if_pos (h.ls.lt g hg').2]; exact hu.l g hg'
  ·rw [if_pos h.ltP]; exact hu.p
  ·show (if v.Lm < _ then _ else _) = 2
   rw [if_pos h.lg.lt]; exact hu.m
  ·show (if v.C < _ then _ else _) = 3
   rw [if_pos h.ca.lt]; exact hu.c
  ·show (if v.Hm < _ then _ else _) = 4
   rw [if_pos h.ch.lt]; exact hu.h
  ·intro g hg'
   rcases ho g hg' with h1 | h1
   ·rw [if_pos (h.ord.lt g h1).2]; exact hu.o g h1
   ·rw [if_neg (by omega)]
 ·refine hg.mono ?_
  rintro g (rfl | rfl | h)
  ·exact .inr (.inl rfl)
  ·exact .inr (.inr (.inr (.inl rfl)))
  ·exact .inr (.inr (.inr (.inr (.inr h))))
 ·rintro g (h1 | h1 | h1 | h1 | h1 | h1)
  ·exact .inl (.inl h1)
  ·exact .inl (.inr (.inl h1))
  ·exact .inl (.inr (.inr (.inl h1)))
  ·exact .inl (.inr (.inr (.inr (.inl h1))))
  ·exact .inl (.inr (.inr (.inr (.inr (.inl h1)))))
  ·exact (ho g h1).imp (fun h => .inr (.inr (.inr (.inr (.inr h))))) id
end
end Go.Proofs.YtfknlheflaccaaaGreat
/- what is stored of a page -/
namespace Go.Proofs.YtfknlheflaccaaaGreat
open Go.RowKit
def sto (k : PK) (v : PV) (n : Int) : List Int := match gl v.lg n with
 | some at_ => arRd v.s.f at_.toNat
 | none => v.s.f (k.sz + n)
structure PIn (k : PK) (v : PV) : Prop where
 z1 : 3 ≤ k.sz
 z2 : k.sz < k.nb
 z3 : k.nb ≤ 4096
 m0 : 0 ≤ k.most
 lgr : ∀ n x, gl v.lg n = some x → 0 ≤ x ∧ x + 256 ≤ (k.sz - 2) * 256
 cal : ∀ n l, gl v.ca n = some l → l.length = 256
 chl : ∀ n l, gl v.ch n = some l → l.length = 256
 odl : v.od.length ≤ 4096
theorem zeroErr (w : World) : (zeroValue 3).run Tryz.prog w = .ok (.int .i64 0) w := by kernel_rfl
section
variable {k : PK} {v : PV} {w : World}
theorem PgS.dkl (h : PgS k v w) : ∀ n, (v.s.f n).length = 256 := h.ls.dk.2.2.2.2.2.2.1
theorem sto_len (hs : PgS k v w) (n : Int) : (sto k v n).length = 256 := by
 unfold sto
 split
 ·exact arRd_len _ _
 ·exact hs.dkl _
theorem PgS.rg (h : PgS k v w) : w.rangeAt k.P 1 [.pointer (some ⟨k.D, 0, none⟩), .int .i64 k.sz] := fun j x hj => by
 rw [cell_of_row _ _ _ _ _ _ h.box]
 match j, hj with
 | 0, hj => simp only [List.getElem?_cons_zero, Option.some.injEq] at hj; subst hj; exact PC_lo 1 (by decide)
 | 1, hj => simp only [List.getElem?_cons_succ, List.getElem?_cons_zero, Option.some.injEq] at hj; subst hj; exact PC_lo 2 (by decide)
end
set_option maxRecDepth 100000 in
set_option maxHeartbeats 1000000 in
theorem stored_any (k : PK) (v : PV) (n : Int) (w : World) (h : PgS k v w) (hi : PIn k v) (hn : 0 ≤ n ∧ n < k.nb - k.sz) :
    Calls Tryz.prog 50 #[.pointer (some ⟨k.P, 0, none⟩), .int .i64 n] w fun e w' => e = .returned (.tuple #[.agg (ArrU8 (if v.s.dn then zeros 256 else sto k v n)), .int .i64 (if v.s.dn then 44 else 0)]) ∧ Below w.heap.size w w' := by
  have hz := zero35
  have HI35 := Lib.hid (show (Tryz.prog.info? 50).map (·.size) = some 256 by kernel_rfl)
  have HIL := Lib.hid (show (Tryz.prog.info? 80).map (·.size) = some ([.pointer (some ⟨k.D, 0, none⟩), .int .i64 k.sz] : List Value).length by kernel_rfl)
  have SZ := Lib.hid (show (ArrU8 (zeros 256)).size = 256 by rw [ArrU8_size, zeros_len])
  have hb1 : Below w.heap.size w (w.alloc (.cells (ArrU8 (zeros 256)) 50)) := (Below.refl _ _).alloc (Nat.le_refl _) _
  have h1 := h.fresh hb1
  have p3 := (cell_of_row _ k.P 3 _ _ _ h1.box).trans (PC_lo 3 (by decide))
  have hlk := run_look_g (P := Tryz.prog) (mT := 91) (kT := 3) (eT := 3) (enc := Value.int .i64) Tryz.underlying91 Tryz.underlying3 0 (fun u => zeroErr u) n h1.lg
  have hx := heap_alloc_new w (.cells (ArrU8 (zeros 256)) 50)
  have HX := Lib.hid hx
  have HB1 := Lib.hid hb1
  have HRG := Lib.hid h1.rg
  have HDK := Lib.hid h1.ls.dk
  have HR := Lib.hid (show ((if v.s.dn then zeros 256 else sto k v n) : List Int).length = 256 by split; exact zeros_len _; exact sto_len h n)
  have HZZ := Lib.hid (show k.sz ≤ 4096 ∧ k.nb ≤ 4096 ∧ 0 ≤ k.sz by have := hi.z1; have := hi.z2; have := hi.z3; omega)
  cases hg : gl v.lg n with
  | some x =>
    rw [hg] at hlk
    simp only [Option.getD_some, Option.isSome_some] at hlk
    have hr := hi.lgr n x hg
    obtain ⟨y, rfl⟩ : ∃ y : Nat, x = (y : Int) := ⟨x.toNat, by omega⟩
    have hpre := areaPage_any k.B k.D k.M k.nb k.rm v.s.fz k.sz y v.s.dn v.s.f v.s.L v.lv _ HDK.out (by have := hi.z2; omega) hi.z3
    have HE := Lib.hid (show sto k v n = arRd v.s.f y by unfold sto; rw [hg]; rfl)
    rw [← HE.out] at hpre
    have HPRE := Lib.hid hpre
    clear h hi hb1 h1 hx hg hr hpre HE
    generalize (if v.s.dn then zeros 256 else sto k v n) = R at *
    generalize (if v.s.dn then (44 : Int) else 0) = E at *
    go_enter Tryz.func50, Tryz.ntmps50
    go_wp2_with (first | (refine wpList_load_mid rfl 80 (Operand.tmp 20) rfl k.P 1 rfl _ _ HRG.out Tryz.underlying80 rfl HIL.out ?_) | fail)
    refine HPRE.out.mono ?_
    rintro e wa ⟨rfl, hb⟩
    have HXA := Lib.hid ((hb.block _ (Array.getElem?_eq_some_iff.1 HX.out).1).trans HX.out)
    have HBA := Lib.hid (HB1.out.trans (hb.mono HB1.out.size))
    have SR := Lib.hid (show (ArrU8 R).size = 256 by rw [ArrU8_size, HR.out])
    clear hb p3 hlk hz
    go_wp2_with (first | (refine wpList_store_row rfl 50 (Operand.tmp 4) (Operand.tmp 24) rfl w.heap.size (ArrU8 R) rfl rfl 50 (ArrU8 (zeros 256)) HXA.out (by rw [HI35.out, SR.out]) (by rw [SR.out, SZ.out]) (ArrU8_one _) ?_) | fail)
    refine bodyPost_ret (results_cell_tmp (p := 4) (q := 5) (ty := 50) rfl _ _ w.heap.size 50 (ArrU8 R) (0, 0) _ rfl (setRow_heap _ _ _ _ _ _ HXA.out) Tryz.underlying50 rfl (by rw [HI35.out, SR.out])) rfl ⟨rfl, ?_⟩
    exact below_setRow HBA.out (Nat.le_refl _) _
  | none =>
    rw [hg] at hlk
    simp only [Option.getD_none, Option.isSome_none] at hlk
    have hpre := readHome_any k.B k.D k.M k.nb k.rm v.s.fz k.sz n v.s.dn v.s.f v.s.L v.lv _ HDK.out (by have := HZZ.out; omega) (by have := HZZ.out; omega)
    have hin : hasB k.nb (k.sz + n) = true := by
      have := HZZ.out
      have h1 : 0 ≤ k.sz + n := by omega
      have h2 : k.sz + n < k.nb := by omega
      simp [hasB, h1, h2]
    have HE := Lib.hid (show rdF k.nb (k.sz + n) v.s.dn v.s.f = (if v.s.dn then zeros 256 else sto k v n) ∧ readErr k.nb (k.sz + n) v.s.dn = (if v.s.dn then 44 else 0) by unfold rdF readErr sto; rw [hin, hg]; exact ⟨rfl, rfl⟩)
    rw [HE.out.1, HE.out.2] at hpre
    have HPRE := Lib.hid hpre
    clear h hi hb1 h1 hx hg hpre HE hin
    generalize (if v.s.dn then zeros 256 else sto k v n) = R at *
    generalize (if v.s.dn then (44 : Int) else 0) = E at *
    go_enter Tryz.func50, Tryz.ntmps50
    go_wp2_with (first | (refine wpList_load_mid rfl 80 (Operand.tmp 28) rfl k.P 1 rfl _ _ HRG.out Tryz.underlying80 rfl HIL.out ?_) | fail)
    refine HPRE.out.mono ?_
    rintro e wa ⟨rfl, hb⟩
    have HXA := Lib.hid ((hb.block _ (Array.getElem?_eq_some_iff.1 HX.out).1).trans HX.out)
    have HBA := Lib.hid (HB1.out.trans (hb.mono HB1.out.size))
    have SR := Lib.hid (show (ArrU8 R).size = 256 by rw [ArrU8_size, HR.out])
    clear hb p3 hlk hz
    go_wp2_with (first | (refine wpList_store_row rfl 50 (Operand.tmp 4) (Operand.tmp 32) rfl w.heap.size (ArrU8 R) rfl rfl 50 (ArrU8 (zeros 256)) HXA.out (by rw [HI35.out, SR.out]) (by rw [SR.out, SZ.out]) (ArrU8_one _) ?_) | fail)
    refine bodyPost_ret (results_cell_tmp (p := 4) (q := 5) (ty := 50) rfl _ _ w.heap.size 50 (ArrU8 R) (0, 0) _ rfl (setRow_heap _ _ _ _ _ _ HXA.out) Tryz.underlying50 rfl (by rw [HI35.out, SR.out])) rfl ⟨rfl, ?_⟩
    exact below_setRow HBA.out (Nat.le_refl _) _
end Go.Proofs.YtfknlheflaccaaaGreat
/- what was committed of a page -/
namespace Go.Proofs.YtfknlheflaccaaaGreat
open Go.RowKit
theorem Chg.row (w : World) (X : Nat) (cs : Array Value) : Chg (fun g => g = X) w (w.setRow X cs) :=
 ⟨rfl, rfl, rfl, by simp [World.setRow], fun g _ hne => setRow_other _ _ _ _ hne⟩
/-- a block that is this call's own, written behind a call -/
theorem PE.own {k : PK} {v v1 : PV} {w0 w w1 : World} (hb : Below w0.heap.size w0 w) (hp : PgS k v w0) (h : PE k v w v1 w1) (X : Nat) (h1 : w0.heap.size ≤ X) (h2 : X < w.heap.size) (cs : Array Value) : PE k v w0 v1 (w1.setRow X cs) := by
 have hpre := PE.pre hb h
 refine ⟨h.1.chg (Chg.row w1 X cs) (fun g hg e => ?_), hpre.2.1.trans (Chg.row w1 X cs) (fun g hg => .inr (by omega)), hpre.2.2⟩
 rcases h.2.2 g hg with h3 | h3
 ·have := (hp.lt g h3).2; omega
 ·omega
def cmR (k : PK) (v : PV) (n : Int) : List Int × Int := match gl v.ca n with
 | some b => (b, 0)
 | none => if v.s.dn then (zeros 256, 44) else (sto k v n, 0)
def cmV (k : PK) (v : PV) (n : Int) : List (Int × List Int) × List Int := match gl v.ca n with
 | some _ => (v.ca, v.od)
 | none => if v.s.dn then (v.ca, v.od) else keepP k.most v.ca v.od n (sto k v n)
def CmEnds (k : PK) (v : PV) (n : Int) (w : World) (e : Ending) (w' : World) : Prop :=
 e = .returned (.tuple #[.agg (ArrU8 (cmR k v n).1), .int .i64 (cmR k v n).2]) ∧ ∃ ov', PE k v w { v with ov := ov', ca := (cmV k v n).1, od := (cmV k v n).2 } w'
theorem cmR_len {k : PK} {v : PV} {w : World} (h : PgS k v w) (hi : PIn k v) (n : Int) : (cmR k v n).1.length = 256 := by
 unfold cmR
 cases hg : gl v.ca n with
 | some b => exact hi.cal n b hg
 | none =>
  simp only
  split
  ·exact zeros_len _
  ·exact sto_len h n
set_option maxRecDepth 100000 in
set_option maxHeartbeats 2000000 in
theorem committed_any (k : PK) (v : PV) (n : Int) (w : World) (h : PgS k v w) (hi : PIn k v) (hn : 0 ≤ n ∧ n < k.nb - k.sz) :
    Calls Tryz.prog 106 #[.pointer (some ⟨k.P, 0, none⟩), .int .i64 n] w (CmEnds k v n w) := by
  have hz := zero35
  have HI35 := Lib.hid (show (Tryz.prog.info? 50).map (·.size) = some 256 by kernel_rfl)
  have SZ := Lib.hid (show (ArrU8 (zeros 256)).size = 256 by rw [ArrU8_size, zeros_len])
  have hb1 : Below w.heap.size w (w.alloc (.cells (ArrU8 (zeros 256)) 50)) := (Below.refl _ _).alloc (Nat.le_refl _) _
  have h1 := h.fresh hb1
  have p6 := (cell_of_row _ k.P 6 _ _ _ h1.box).trans (PC_lo 6 (by decide))
  have hlk := run_look_g (P := Tryz.prog) (mT := 92) (kT := 3) (eT := 50) (enc := blkV) Tryz.underlying92 Tryz.underlying3 (zeros 256) (fun u => zero35 u) n h1.ca
  have hx0 : ((w.alloc (.cells (ArrU8 (zeros 256)) 50)).alloc (.cells (ArrU8 (zeros 256)) 50)).heap[w.heap.size]? = some (.cells (ArrU8 (zeros 256)) 50 (0, 0)) := (heap_alloc_old _ _ (by simp)).trans (heap_alloc_new _ _)
  have hx1 : ((w.alloc (.cells (ArrU8 (zeros 256)) 50)).alloc (.cells (ArrU8 (zeros 256)) 50)).heap[w.heap.size + 1]? = some (.cells (ArrU8 (zeros 256)) 50 (0, 0)) := by
    have := heap_alloc_new (w.alloc (.cells (ArrU8 (zeros 256)) 50)) (.cells (ArrU8 (zeros 256)) 50)
    rwa [World.size_alloc] at this
  have hold : ((gl v.ca n).getD (zeros 256)).length = 256 := by
    cases hg : gl v.ca n with
    | none => exact zeros_len 256
    | some l => exact hi.cal n l hg
  have hb2 : ∀ X, Below w.heap.size w (((w.alloc (.cells (ArrU8 (zeros 256)) 50)).alloc (.cells (ArrU8 (zeros 256)) 50)).setRow (w.heap.size + 1) X) := fun X => below_setRow (((Below.refl _ _).alloc (Nat.le_refl _) _).alloc (by simp) _) (by omega) _
  have HX0 := Lib.hid hx0
  have HX1 := Lib.hid hx1
  have HB2 := Lib.hid hb2
  have HH := Lib.hid h
  have HI := Lib.hid hi
  have HSX := Lib.hid (show (ArrU8 ((gl v.ca n).getD (zeros 256))).size = 256 by rw [ArrU8_size, hold])
  cases hg : gl v.ca n with
  | some b =>
    rw [hg] at hlk HSX
    simp only [Option.getD_some, Option.isSome_some] at hlk HSX
    have HR := Lib.hid (show cmR k v n = (b, 0) ∧ cmV k v n = (v.ca, v.od) by unfold cmR cmV; rw [hg]; exact ⟨rfl, rfl⟩)
    clear h hi hb1 h1 hx0 hx1 hold hb2 hg
    go_enter Tryz.func106, Tryz.ntmps106
    go_wp2_with (first | (refine wpList_store_row rfl 50 (Operand.tmp 6) (Operand.tmp 18) rfl (w.heap.size + 1) (ArrU8 b) rfl rfl 50 (ArrU8 (zeros 256)) HX1.out (by rw [HI35.out, HSX.out]) (by rw [HSX.out, SZ.out]) (ArrU8_one _) ?_) | (refine wpList_load_row rfl 50 (Operand.tmp 6) rfl (w.heap.size + 1) rfl 50 (ArrU8 b) (0, 0) _ (setRow_heap _ _ _ _ _ _ HX1.out) Tryz.underlying50 rfl (by rw [HI35.out, HSX.out]) ?_) | (refine wpList_store_row rfl 50 (Operand.tmp 4) (Operand.tmp 21) rfl w.heap.size (ArrU8 b) rfl rfl 50 (ArrU8 (zeros 256)) ((setRow_other _ _ _ _ (by omega)).trans HX0.out) (by rw [HI35.out, HSX.out]) (by rw [HSX.out, SZ.out]) (ArrU8_one _) ?_))
    refine bodyPost_ret (results_cell_tmp (p := 4) (q := 5) (ty := 50) rfl _ _ w.heap.size 50 (ArrU8 b) (0, 0) _ rfl (setRow_heap _ _ _ _ _ _ ((setRow_other _ _ _ _ (by omega)).trans HX0.out)) Tryz.underlying50 rfl (by rw [HI35.out, HSX.out])) rfl ⟨by rw [HR.out.1]; rfl, v.ov, ?_⟩
    rw [HR.out.2]
    exact PE.same HH.out (below_setRow (HB2.out _) (Nat.le_refl _) _)
  | none =>
    rw [hg] at hlk HSX
    simp only [Option.getD_none, Option.isSome_none] at hlk HSX
    have hx0w := (setRow_other _ (w.heap.size + 1) w.heap.size (ArrU8 (zeros 256)) (by omega)).trans hx0
    have h2 := h.fresh (hb2 (ArrU8 (zeros 256)))
    have hst := stored_any k v n _ h2 hi hn
    have HX0W := Lib.hid hx0w
    have HST := Lib.hid hst
    have HRL := Lib.hid (show ((if v.s.dn then zeros 256 else sto k v n) : List Int).length = 256 by split; exact zeros_len _; exact sto_len h n)
    have HR := Lib.hid (show cmR k v n = (if v.s.dn then (zeros 256, 44) else (sto k v n, 0)) ∧ cmV k v n = (if v.s.dn then (v.ca, v.od) else keepP k.most v.ca v.od n (sto k v n)) by unfold cmR cmV; rw [hg]; exact ⟨rfl, rfl⟩)
    have HG := Lib.hid hg
    clear h hi hb1 h1 hx0 hx1 hold hb2 hg hx0w h2 hst
    go_enter Tryz.func106, Tryz.ntmps106
    go_wp2_with (first | (refine wpList_store_row rfl 50 (Operand.tmp 6) (Operand.tmp 18) rfl (w.heap.size + 1) (ArrU8 (zeros 256)) rfl rfl 50 (ArrU8 (zeros 256)) HX1.out (by rw [HI35.out, HSX.out]) rfl (ArrU8_one _) ?_) | fail)
    refine HST.out.mono ?_
    rintro e wa ⟨rfl, hb⟩
    have hba := (HB2.out (ArrU8 (zeros 256))).trans (hb.mono (HB2.out (ArrU8 (zeros 256))).size)
    have HBA := Lib.hid hba
    have HXA := Lib.hid ((hb.block _ (Array.getElem?_eq_some_iff.1 HX0W.out).1).trans HX0W.out)
    have HXL := Lib.hid (Array.getElem?_eq_some_iff.1 HXA.out).1
    have HHA := Lib.hid (HH.out.fresh hba)
    have hxn := heap_alloc_new wa (.cells (ArrU8 (zeros 256)) 50)
    have HXN := Lib.hid hxn
    clear hb hba hxn p6 hlk
    generalize hRR : (if v.s.dn then zeros 256 else sto k v n) = R at *
    have SR := Lib.hid (show (ArrU8 R).size = 256 by rw [ArrU8_size, HRL.out])
    cases hdn : v.s.dn with
    | true =>
      rw [hdn] at HR
      simp only [if_true] at HR
      have HRR := Lib.hid (show R = zeros 256 by rw [← hRR, hdn]; rfl)
      clear hRR hdn
      simp only [if_true]
      go_wp2_with (first | (refine wpList_store_row rfl 50 (Operand.tmp 8) (Operand.tmp 26) rfl wa.heap.size (ArrU8 R) rfl rfl 50 (ArrU8 (zeros 256)) HXN.out (by rw [HI35.out, SR.out]) (by rw [SR.out, SZ.out]) (ArrU8_one _) ?_) | (refine wpList_load_row rfl 50 (Operand.tmp 8) rfl wa.heap.size rfl 50 (ArrU8 R) (0, 0) _ (new_at wa _ _ _) Tryz.underlying50 rfl (by rw [HI35.out, SR.out]) ?_) | (refine wpList_store_row rfl 50 (Operand.tmp 4) (Operand.tmp 36) rfl w.heap.size (ArrU8 R) rfl rfl 50 (ArrU8 (zeros 256)) ((new_old _ _ _ HXL.out).trans HXA.out) (by rw [HI35.out, SR.out]) (by rw [SR.out, SZ.out]) (ArrU8_one _) ?_))
      refine bodyPost_ret (results_cell_tmp (p := 4) (q := 5) (ty := 50) rfl _ _ w.heap.size 50 (ArrU8 R) (0, 0) _ rfl (setRow_heap _ _ _ _ _ _ ((new_old _ _ _ HXL.out).trans HXA.out)) Tryz.underlying50 rfl (by rw [HI35.out, SR.out])) rfl ⟨by rw [HR.out.1, HRR.out]; rfl, v.ov, ?_⟩
      rw [HR.out.2]
      exact PE.same HH.out (below_setRow (new_below HBA.out _ _) (Nat.le_refl _) _)
    | false =>
      rw [hdn] at HR
      simp only [Bool.false_eq_true, if_false] at HR
      have HRR := Lib.hid (show R = sto k v n by rw [← hRR, hdn]; rfl)
      clear hRR hdn
      simp only [Bool.false_eq_true, if_false]
      go_wp2_with (first | (refine wpList_store_row rfl 50 (Operand.tmp 8) (Operand.tmp 26) rfl wa.heap.size (ArrU8 R) rfl rfl 50 (ArrU8 (zeros 256)) HXN.out (by rw [HI35.out, SR.out]) (by rw [SR.out, SZ.out]) (ArrU8_one _) ?_) | fail)
      have hxb := new_at wa (ArrU8 (zeros 256)) (ArrU8 R) 50
      have hx0b := (new_old (w := wa) (.cells (ArrU8 (zeros 256)) 50) (ArrU8 R) _ HXL.out).trans HXA.out
      have hbb := new_below HBA.out (.cells (ArrU8 (zeros 256)) 50) (ArrU8 R)
      have HE := Lib.hid (show w.heap.size < wa.heap.size from HXL.out)
      generalize hwb : (wa.alloc (.cells (ArrU8 (zeros 256)) 50)).setRow wa.heap.size (ArrU8 R) = wb at *
      generalize wa.heap.size = XA at *
      have HXB := Lib.hid hxb
      have HX0B := Lib.hid hx0b
      have HBB := Lib.hid hbb
      have HHB := Lib.hid (HH.out.fresh hbb)
      have HK := Lib.hid (keep_any k.B k.P (PC k v) 98 v.C v.ov k.most v.ca v.od n R wb.drew (HHB.out.fresh ((Below.refl _ _).drew)).cache HI.out.m0 HRL.out HI.out.cal HI.out.odl (show k.B ≤ wb.heap.size from HHB.out.hB))
      clear hxb hx0b hbb hwb
      refine wp_region_held_drew (S := fun u => u.heap[XA]? = some (.cells (ArrU8 R) 50 (0, 0))) (by kernel_rfl) (HXB.out) (fun hHeld => ?_)
      refine wpAnyH_take (i := 0) (oi := ({ dst := some 30, op := .move (.tmp 0), type := 30, pos := "page.go:131", after := #[], guard := none } : Oper)) (v := ?_) rfl (by kernel_rfl) (by kernel_rfl) (by kernel_rfl) (fun _ _ _ h => h) (Or.inl ⟨by rfl, ?_⟩) (by assumption) ?_
      rotate_left 1
      · (intro u hSw; go_simp; try with_reducible rfl)
      try simp only [Act.put, List.setIfInBounds_toArray, List.set_cons_zero, List.set_cons_succ]
      refine wpAnyH_take (i := 1) (oi := ({ dst := some 31, op := .nilCheck (.tmp 30), type := 0, pos := "page.go:131", after := #[{ on := 0, ground := .data }], guard := none } : Oper)) (v := ?_) rfl (by kernel_rfl) (by kernel_rfl) (by kernel_rfl) (fun _ _ _ h => h) (Or.inl ⟨by rfl, ?_⟩) (by assumption) ?_
      rotate_left 1
      · (intro u hSw; go_simp; try with_reducible rfl)
      try simp only [Act.put, List.setIfInBounds_toArray, List.set_cons_zero, List.set_cons_succ]
      refine wpAnyH_take (i := 2) (oi := ({ dst := some 32, op := .fieldAddr 98 (.tmp 31) 4, type := 0, pos := "page.go:131", after := #[{ on := 1, ground := .data }], guard := none } : Oper)) (v := ?_) rfl (by kernel_rfl) (by kernel_rfl) (by kernel_rfl) (fun _ _ _ h => h) (Or.inl ⟨by rfl, ?_⟩) (by assumption) ?_
      rotate_left 1
      · (intro u hSw; go_simp; try with_reducible rfl)
      try simp only [Act.put, List.setIfInBounds_toArray, List.set_cons_zero, List.set_cons_succ]
      refine wpAnyH_take (i := 3) (oi := ({ dst := some 33, op := .move (.tmp 1), type := 3, pos := "page.go:131", after := #[], guard := none } : Oper)) (v := ?_) rfl (by kernel_rfl) (by kernel_rfl) (by kernel_rfl) (fun _ _ _ h => h) (Or.inl ⟨by rfl, ?_⟩) (by assumption) ?_
      rotate_left 1
      · (intro u hSw; go_simp; try with_reducible rfl)
      try simp only [Act.put, List.setIfInBounds_toArray, List.set_cons_zero, List.set_cons_succ]
      refine wpAnyH_take (i := 4) (oi := ({ dst := some 34, op := .load 50 (.tmp 8), type := 50, pos := "page.go:131", after := #[], guard := none } : Oper)) (v := ?_) rfl (by kernel_rfl) (by kernel_rfl) (by kernel_rfl) (fun _ _ _ h => h) (Or.inl ⟨by rfl, ?_⟩) (by assumption) ?_
      rotate_left 1
      · intro u hSw
        refine exec_load_row 50 (Operand.tmp 8) ?_ u XA ?_ (ArrU8 R) 50 (0, 0) _ hSw Tryz.underlying50 rfl (by rw [HI35.out, SR.out]) <;> rfl
      try simp only [Act.put, List.setIfInBounds_toArray, List.set_cons_zero, List.set_cons_succ]
      refine wpAnyH_ready (rs := [5]) (by kernel_rfl) (by simp) ?_
      refine (AllReadyH.cons (o := ({ dst := some 35, op := .call { callee := Callee.value (Operand.func 112), args := #[.tmp 32, .tmp 33, .tmp 34], argTypes := #[95, 3, 50] }, type := 0, pos := "page.go:131", after := #[{ on := 2, ground := .data }, { on := 3, ground := .data }, { on := 4, ground := .data }], guard := none } : Oper)) rfl (fun K hK => ?_) AllReadyH.nil)
      go_simp
      go_at_call 112
      refine HK.out.mono ?_
      rintro e wc ⟨rfl, ov', hca, hch, hot⟩
      have hpe := HHB.out.recache hca ((Chg.refl _ wb).drew.trans hch (fun _ h => .inl h)) hot
      have hPF : ∀ g, PF k v g → g < w.heap.size := fun g hg => (HH.out.lt g hg).2
      have hpx : ∀ g, w.heap.size ≤ g → ¬ PF k v g := fun g hg hp => by have := hPF g hp; omega
      have HXC := Lib.hid ((hpe.2.1.block XA (Array.getElem?_eq_some_iff.1 HXB.out).1 (hpx _ (by have := HE.out; omega))).trans HXB.out)
      have HX0C := Lib.hid ((hpe.2.1.block w.heap.size (Array.getElem?_eq_some_iff.1 HX0B.out).1 (hpx _ (Nat.le_refl _))).trans HX0B.out)
      have HPE := Lib.hid hpe
      clear hca hch hot hpe hPF hpx
      go_wp2_with fail
      refine hK.out _ _ HXC.out (fun hHeld => ?_)
      clear hK K
      try simp only [Act.put, List.setIfInBounds_toArray, List.set_cons_zero, List.set_cons_succ]
      refine wpAnyH_done (by kernel_rfl) ?_ _
      have HWL := Lib.hid (Array.getElem?_eq_some_iff.1 HX0B.out).1
      go_wp2_with (first | (refine wpList_load_row rfl 50 (Operand.tmp 8) rfl XA rfl 50 (ArrU8 R) (0, 0) _ HXC.out Tryz.underlying50 rfl (by rw [HI35.out, SR.out]) ?_) | (refine wpList_store_row rfl 50 (Operand.tmp 4) (Operand.tmp 36) rfl w.heap.size (ArrU8 R) rfl rfl 50 (ArrU8 (zeros 256)) HX0C.out (by rw [HI35.out, SR.out]) (by rw [SR.out, SZ.out]) (ArrU8_one _) ?_))
      refine bodyPost_ret (results_cell_tmp (p := 4) (q := 5) (ty := 50) rfl _ _ w.heap.size 50 (ArrU8 R) (0, 0) _ rfl (setRow_heap _ _ _ _ _ _ HX0C.out) Tryz.underlying50 rfl (by rw [HI35.out, SR.out])) rfl ⟨by rw [HR.out.1, HRR.out]; rfl, ov', ?_⟩
      rw [HR.out.2, ← HRR.out]
      exact PE.own HBB.out HH.out HPE.out w.heap.size (Nat.le_refl _) HWL.out _
end Go.Proofs.YtfknlheflaccaaaGreat
/- a page as it is now: looked at, and set -/
namespace Go.Proofs.YtfknlheflaccaaaGreat
open Go.RowKit
theorem wpList_load_rowG {P : Program} {ops : Array Oper} {rest : List Oper} {o : Oper} {a : Act} {w : World} {Q : Exit → Act → World → Prop} (hw : Region.wanted o (yielded ops a.tmps) = true) (ty : TypeId) (x : Operand) (ho : o.op = .load ty x)
  (g : Nat) (hx : a.eval x = .pointer (some ⟨g, 0, none⟩)) (t : TypeId) (cs : Array Value) (fr : Nat × Nat) (d : TypeDesc) (hg : w.heap[g]? = some (.cells cs t fr))
  (hu : P.underlying ty = some d) (hd : (match d with | .struct _ | .array _ _ => true | _ => false) = true) (hi : (P.info? ty).map (·.size) = some cs.size)
  (h : wpList P ops Q rest (a.put o.dst (.agg cs)) w) : wpList P ops Q (o :: rest) a w :=
 wpList_step fun K hK => by
  rw [if_pos hw]
  exact wp_load_row ty x ho g hx t cs fr d hg hu hd hi (hK _ _ h)
theorem wpList_of_runG {P : Program} {ops : Array Oper} {rest : List Oper} {o : Oper} {a : Act} {w w' : World} {v : Value} {Q : Exit → Act → World → Prop} (hw : Region.wanted o (yielded ops a.tmps) = true) (hr : (execOp a.eval o).run P w = .ok (.value v) w') (h : wpList P ops Q rest (a.put o.dst v) w') : wpList P ops Q (o :: rest) a w :=
 wpList_step fun K hK => by
  rw [if_pos hw]
  unfold Oper.wp
  simp [hr]
  exact hK _ _ h
/-- the number at a place -/
def hN (ns : List Nat) (i : Nat) : Nat := ns[i]?.getD 0
theorem HV_at (ns : List Nat) (i : Nat) (h : i < ns.length) : (HV ns)[i]? = some (.int .u64 (hN ns i : Nat)) := by
 simp [HV, hN, h]
def usedN (v : PV) : Int := (hN v.h1 0 : Nat)
def inU (v : PV) (n : Int) : Bool := decide (0 < n) && decide (n < usedN v)
set_option maxRecDepth 100000 in
set_option maxHeartbeats 1000000 in
theorem inUse_any (k : PK) (v : PV) (n : Int) (w : World) (h : PgS k v w) (hn : n ≤ 9223372036854775807) :
  Calls Tryz.prog 72 #[.pointer (some ⟨k.P, 0, none⟩), .int .i64 n] w fun e w' => e = .returned (.bool (inU v n)) ∧ w = w' := by
 have p26 := (cell_of_row _ k.P 26 _ _ _ h.box).trans ((PC_h1 0 h.l0 h.l1 (by decide)).trans (HV_at _ _ (by rw [h.l1]; decide)))
 have HU := Lib.hid (show usedN v = ((hN v.h1 0 : Nat) : Int) from rfl)
 generalize (hN v.h1 0 : Nat) = u at *
 clear h
 by_cases h0 : 0 < n
 ·have hnw : IntKind.u64.wrap n = n := by rw [IntKind.wrap_u64]; omega
  have HR := Lib.hid (show inU v n = decide (n < (u : Int)) by unfold inU; rw [HU.out]; simp [h0])
  go_enter Tryz.func72, Tryz.ntmps72
  go_wp2_with fail
  go_ret
  exact ⟨by rw [HR.out]; rfl, rfl⟩
 ·have HR := Lib.hid (show inU v n = false by unfold inU; simp [h0])
  go_enter Tryz.func72, Tryz.ntmps72
  go_wp2_with fail
  go_ret
  exact ⟨by rw [HR.out]; rfl, rfl⟩
def cuR (k : PK) (v : PV) (n : Int) : List Int × Int := match gl v.ch n with
 | some b => (b, 0)
 | none => cmR k v n
def cuV (k : PK) (v : PV) (n : Int) : List (Int × List Int) × List Int := match gl v.ch n with
 | some _ => (v.ca, v.od)
 | none => cmV k v n
def CuEnds (k : PK) (v : PV) (n : Int) (w : World) (e : Ending) (w' : World) : Prop :=
 e = .returned (.tuple #[.agg (ArrU8 (cuR k v n).1), .int .i64 (cuR k v n).2]) ∧ ∃ ov', PE k v w { v with ov := ov', ca := (cuV k v n).1, od := (cuV k v n).2 } w'
theorem cuR_len {k : PK} {v : PV} {w : World} (h : PgS k v w) (hi : PIn k v) (n : Int) : (cuR k v n).1.length = 256 := by
 unfold cuR
 cases hg : gl v.ch n with
 | some b => exact hi.chl n b hg
 | none => exact cmR_len h hi n
set_option maxRecDepth 100000 in
set_option maxHeartbeats 2000000 in
theorem current_any (k : PK) (v : PV) (n : Int) (w : World) (h : PgS k v w) (hi : PIn k v) (hn : 0 ≤ n ∧ n < k.nb - k.sz) :
    Calls Tryz.prog 73 #[.pointer (some ⟨k.P, 0, none⟩), .int .i64 n] w (CuEnds k v n w) := by
  have hz := zero35
  have HI35 := Lib.hid (show (Tryz.prog.info? 50).map (·.size) = some 256 by kernel_rfl)
  have SZ := Lib.hid (show (ArrU8 (zeros 256)).size = 256 by rw [ArrU8_size, zeros_len])
  have hb1 : Below w.heap.size w (w.alloc (.cells (ArrU8 (zeros 256)) 50)) := (Below.refl _ _).alloc (Nat.le_refl _) _
  have h1 := h.fresh hb1
  have p44 := (cell_of_row _ k.P 44 _ _ _ h1.box).trans (PC_44 h.l0 h.l1)
  have hlk := run_look_g (P := Tryz.prog) (mT := 92) (kT := 3) (eT := 50) (enc := blkV) Tryz.underlying92 Tryz.underlying3 (zeros 256) (fun u => zero35 u) n h1.ch
  have hx0 : ((w.alloc (.cells (ArrU8 (zeros 256)) 50)).alloc (.cells (ArrU8 (zeros 256)) 50)).heap[w.heap.size]? = some (.cells (ArrU8 (zeros 256)) 50 (0, 0)) := (heap_alloc_old _ _ (by simp)).trans (heap_alloc_new _ _)
  have hx1 : ((w.alloc (.cells (ArrU8 (zeros 256)) 50)).alloc (.cells (ArrU8 (zeros 256)) 50)).heap[w.heap.size + 1]? = some (.cells (ArrU8 (zeros 256)) 50 (0, 0)) := by
    have := heap_alloc_new (w.alloc (.cells (ArrU8 (zeros 256)) 50)) (.cells (ArrU8 (zeros 256)) 50)
    rwa [World.size_alloc] at this
  have hb2 : ∀ X, Below w.heap.size w (((w.alloc (.cells (ArrU8 (zeros 256)) 50)).alloc (.cells (ArrU8 (zeros 256)) 50)).setRow (w.heap.size + 1) X) := fun X => below_setRow (((Below.refl _ _).alloc (Nat.le_refl _) _).alloc (by simp) _) (by omega) _
  have HX0 := Lib.hid hx0
  have HX1 := Lib.hid hx1
  have HB2 := Lib.hid hb2
  have HH := Lib.hid h
  have hold : ((gl v.ch n).getD (zeros 256)).length = 256 := by
    cases hg : gl v.ch n with
    | none => exact zeros_len 256
    | some l => exact hi.chl n l hg
  have HSX := Lib.hid (show (ArrU8 ((gl v.ch n).getD (zeros 256))).size = 256 by rw [ArrU8_size, hold])
  cases hg : gl v.ch n with
  | some b =>
    rw [hg] at hlk HSX
    simp only [Option.getD_some, Option.isSome_some] at hlk HSX
    have HR := Lib.hid (show cuR k v n = (b, 0) ∧ cuV k v n = (v.ca, v.od) by unfold cuR cuV; rw [hg]; exact ⟨rfl, rfl⟩)
    clear h hi hb1 h1 hx0 hx1 hold hb2 hg
    go_enter Tryz.func73, Tryz.ntmps73
    go_wp2_with (first | (refine wpList_store_row rfl 50 (Operand.tmp 6) (Operand.tmp 15) rfl (w.heap.size + 1) (ArrU8 b) rfl rfl 50 (ArrU8 (zeros 256)) HX1.out (by rw [HI35.out, HSX.out]) (by rw [HSX.out, SZ.out]) (ArrU8_one _) ?_) | (refine wpList_load_row rfl 50 (Operand.tmp 6) rfl (w.heap.size + 1) rfl 50 (ArrU8 b) (0, 0) _ (setRow_heap _ _ _ _ _ _ HX1.out) Tryz.underlying50 rfl (by rw [HI35.out, HSX.out]) ?_) | (refine wpList_store_row rfl 50 (Operand.tmp 4) (Operand.tmp 18) rfl w.heap.size (ArrU8 b) rfl rfl 50 (ArrU8 (zeros 256)) ((setRow_other _ _ _ _ (by omega)).trans HX0.out) (by rw [HI35.out, HSX.out]) (by rw [HSX.out, SZ.out]) (ArrU8_one _) ?_))
    refine bodyPost_ret (results_cell_tmp (p := 4) (q := 5) (ty := 50) rfl _ _ w.heap.size 50 (ArrU8 b) (0, 0) _ rfl (setRow_heap _ _ _ _ _ _ ((setRow_other _ _ _ _ (by omega)).trans HX0.out)) Tryz.underlying50 rfl (by rw [HI35.out, HSX.out])) rfl ⟨by rw [HR.out.1]; rfl, v.ov, ?_⟩
    rw [HR.out.2]
    exact PE.same HH.out (below_setRow (HB2.out _) (Nat.le_refl _) _)
  | none =>
    rw [hg] at hlk HSX
    simp only [Option.getD_none, Option.isSome_none] at hlk HSX
    have hx0w := (setRow_other _ (w.heap.size + 1) w.heap.size (ArrU8 (zeros 256)) (by omega)).trans hx0
    have h2 := h.fresh (hb2 (ArrU8 (zeros 256)))
    have HX0W := Lib.hid hx0w
    have HST := Lib.hid (committed_any k v n _ h2 hi hn)
    have HRL := Lib.hid (cmR_len h hi n)
    have HR := Lib.hid (show cuR k v n = cmR k v n ∧ cuV k v n = cmV k v n by unfold cuR cuV; rw [hg]; exact ⟨rfl, rfl⟩)
    clear h hi hb1 h1 hx0 hx1 hold hb2 hg hx0w h2
    go_enter Tryz.func73, Tryz.ntmps73
    go_wp2_with (first | (refine wpList_store_row rfl 50 (Operand.tmp 6) (Operand.tmp 15) rfl (w.heap.size + 1) (ArrU8 (zeros 256)) rfl rfl 50 (ArrU8 (zeros 256)) HX1.out (by rw [HI35.out, HSX.out]) rfl (ArrU8_one _) ?_) | fail)
    refine HST.out.mono ?_
    rintro e wa ⟨rfl, ov', hpe⟩
    have HXA := Lib.hid ((hpe.2.1.block w.heap.size (Array.getElem?_eq_some_iff.1 HX0W.out).1 (fun hp => by have := (HH.out.lt _ hp).2; omega)).trans HX0W.out)
    have HPE := Lib.hid hpe
    rw [← HR.out.2] at HPE
    have HWL := Lib.hid (Array.getElem?_eq_some_iff.1 HX0W.out).1
    clear hpe p44 hlk
    have SR := Lib.hid (show (ArrU8 (cmR k v n).1).size = 256 by rw [ArrU8_size, HRL.out])
    have HR1 := Lib.hid HR.out.1
    generalize cmR k v n = R at *
    obtain ⟨R, E⟩ := R
    simp only [] at SR
    go_wp2_with (first | (refine wpList_store_row rfl 50 (Operand.tmp 4) (Operand.tmp 22) rfl w.heap.size (ArrU8 R) rfl rfl 50 (ArrU8 (zeros 256)) HXA.out (by rw [HI35.out, SR.out]) (by rw [SR.out, SZ.out]) (ArrU8_one _) ?_) | fail)
    refine bodyPost_ret (results_cell_tmp (p := 4) (q := 5) (ty := 50) rfl _ _ w.heap.size 50 (ArrU8 R) (0, 0) _ rfl (setRow_heap _ _ _ _ _ _ HXA.out) Tryz.underlying50 rfl (by rw [HI35.out, SR.out])) rfl ⟨by rw [HR1.out]; rfl, ov', ?_⟩
    exact PE.own (HB2.out _) HH.out HPE.out w.heap.size (Nat.le_refl _) HWL.out _
end Go.Proofs.YtfknlheflaccaaaGreat
