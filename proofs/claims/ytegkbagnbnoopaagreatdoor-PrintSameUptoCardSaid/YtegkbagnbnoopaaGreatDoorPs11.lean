/- scan.Name, whole -/
import Derived.Test.YtegkbagnbnoopaaGreatDoorPs00
import Derived.Test.YtegkbagnbnoopaaGreatDoorPs02
import Derived.Test.YtegkbagnbnoopaaGreatDoorPs09
import Derived.Test.YtegkbagnbnoopaaGreatDoorPs10
namespace Go.Proofs.YtegkbagnbnoopaaGreatDoor
open Go.ChangeShapes Go.WideShapes Go.ChangeAt Go.RowKit Go.Deep
open Go.Lib (hid)
def ldt (c : Int) : Bool := lett c || digt c
theorem isLD_get (l : List Int) (k : Nat) (u : World) : Calls Tryz.prog 102 #[.int .u8 (l[k]?.getD 0)] u (BO u (ldt (l[k]?.getD 0))) := isLD_any _ u
set_option maxRecDepth 100000 in
set_option maxHeartbeats 1600000 in
theorem run_any (l : List Int) (w : World) (h : Rng l) (hl : l.length ≤ 1073741824) : Calls Tryz.prog 101 #[.string (str l), .func (.func 102) #[] #[]] w fun e w' => ∃ k : Nat, e = .returned (.int .i64 k) ∧ k ≤ l.length ∧ (k = l.length ↔ l.all ldt = true) ∧ Below w.heap.size w w' := by
  have hsz := str_len l
  have HI := hid (fun (u : World) (k : Nat) (hk : k < l.length) => index_str u l k h hk)
  have HC := hid (fun (k : Nat) (u : World) => isLD_get l k u)
  generalize hn : l.length = n at *
  have HN := hid hn
  clear hn h
  go_enter Tryz.func101, Tryz.ntmps101
  go_wp2_with fail
  go_loopw [5] (fun i wr => ∃ k : Nat, k ≤ n ∧ i = .int .i64 k ∧ Below w.heap.size w wr ∧ Hid ((l.take k).all ldt = true)) (fun i _ => n - (intOf i).toNat)
  case atStart => exact ⟨0, Nat.zero_le _, rfl, Below.refl _ _, hid rfl⟩
  case round =>
    obtain ⟨k, hk1, rfl, hbw, HT⟩ := hrel
    have HBW := hid hbw
    have hsw := hbw.size
    clear hbw
    by_cases hlt : k < n
    · have hix := fun (u : World) => HI.out u k hlt
      have HK := hid (HC.out k)
      cases hld : ldt (l[k]?.getD 0) with
      | true =>
        have HE := hid (show (l.take (k + 1)).all ldt = true by
          have hkl : k < l.length := by rw [HN.out]; exact hlt
          rw [List.take_add_one, List.getElem?_eq_getElem hkl, List.all_append, HT.out]
          rw [List.getElem?_eq_getElem hkl, Option.getD_some] at hld
          simp [hld])
        rw [hld] at HK
        clear hld
        go_wp2_with (go_at_call 102; refine (HK.out _).mono ?_; rintro e w1 ⟨rfl, hb⟩; have HB1 := hid (HBW.out.trans (hb.mono hsw)); clear hb)
        go_roundw
        case rel => exact ⟨k + 1, by omega, by go_num, HB1.out, HE⟩
        case measure => simp [intOf]; omega
      | false =>
        have HE := hid (show ¬ l.all ldt = true by
          have hkl : k < l.length := by rw [HN.out]; exact hlt
          intro ha
          rw [List.getElem?_eq_getElem hkl, Option.getD_some] at hld
          have := List.all_eq_true.1 ha _ (List.getElem_mem hkl)
          rw [hld] at this
          cases this)
        rw [hld] at HK
        clear hld
        go_wp2_with (go_at_call 102; refine (HK.out _).mono ?_; rintro e w1 ⟨rfl, hb⟩; have HB1 := hid (HBW.out.trans (hb.mono hsw)); clear hb)
        go_ret
        exact ⟨k, rfl, hk1, ⟨fun e => by omega, fun e => absurd e HE.out⟩, HB1.out⟩
    · have hkn : k = n := by omega
      subst hkn
      have hcn : decide ((k : Int) < (k : Int)) = false := decide_eq_false (by omega)
      have HE := hid (show l.all ldt = true by have := HT.out; rwa [List.take_of_length_le (by rw [HN.out]; omega)] at this)
      go_wp2_with fail
      go_ret
      exact ⟨k, rfl, Nat.le_refl _, ⟨fun _ => HE.out, fun _ => rfl⟩, HBW.out⟩
set_option maxRecDepth 100000 in
set_option maxHeartbeats 1600000 in
theorem name_any (l : List Int) (w : World) (h : Rng l) (hl : l.length ≤ 1073741824) : Calls Tryz.prog 76 #[.string (str l)] w (BO w (isName l)) := by
 have hsz := str_len l
 have HW := hid (fun u => word_any l u h)
 have HR := hid (fun u => run_any l u h hl)
 cases l with
 | nil =>
  have he : ((str []).toList == []) = true := by rw [str_toL]; rfl
  clear HW HR
  go_enter Tryz.func76, Tryz.ntmps76
  go_wp2_with fail
  go_ret
  exact ⟨rfl, Below.refl _ _⟩
 | cons c r =>
  have he : ((str (c :: r)).toList == []) = false := by rw [str_toL]; rfl
  have hi := fun (u : World) => (show (Instr.index 9 (.string (str (c :: r))) (.int .i64 0)).run Tryz.prog u = .ok (.int .u8 c) u from index_str u (c :: r) 0 h (by simp))
  have HL := hid (isLetter_any c)
  have hlen : (c :: r).length = r.length + 1 := rfl
  have HX := hid (show isName (c :: r) = (decide (r.length ≤ 15) && (lett c && ((c :: r).all ldt && !isWord (c :: r)))) from rfl)
  generalize hm : r.length = m at *
  generalize hL : c :: r = L at *
  clear hL h hm
  obtain ⟨M, hM⟩ : ∃ M, M = m + 1 := ⟨_, rfl⟩
  have hsz2 : (str L).size = M := by rw [hsz, hlen, hM]
  have HLN := hid (hlen.trans hM.symm)
  have HM := hid hM
  clear hsz hlen hl hM
  by_cases h16 : M ≤ 16
  ·have hg : decide ((16 : Int) < (M : Int)) = false := decide_eq_false (by omega)
   have HD := hid (show decide (m ≤ 15) = true from decide_eq_true (by have := HM.out; omega))
   cases hc : lett c with
   | true =>
    rw [hc] at HL HX
    cases hw : isWord L with
    | true =>
     rw [hw] at HW HX
     clear hc hw
     cases ha : L.all ldt with
     | true =>
      have HX2 := hid (HX.out.trans (show _ = false by rw [HD.out, ha]; rfl))
      rw [ha] at HR
      clear HX ha
      rw [HX2.out]
      go_enter Tryz.func76, Tryz.ntmps76
      go_wp2_with (first
       | (go_at_call 100; refine (HL.out _).mono ?_; rintro e w1 ⟨rfl, hb⟩; have HB1 := hid hb; clear hb)
       | (go_at_call 101; refine (HR.out _).mono ?_; rintro e w2 ⟨k, rfl, hk, hk2, hb⟩; obtain rfl : k = M := (hk2.2 trivial).trans HLN.out; have HB2 := hid hb; clear hb hk hk2)
       | (go_at_call 103; refine (HW.out _).mono ?_; rintro e w3 ⟨rfl, hb⟩; have HB3 := hid hb; clear hb))
      go_ret
      exact ⟨rfl, HB1.out.trans ((HB2.out.trans (HB3.out.mono HB2.out.size)).mono HB1.out.size)⟩
     | false =>
      have HX2 := hid (HX.out.trans (show _ = false by rw [HD.out, ha]; rfl))
      rw [ha] at HR
      clear HX ha
      rw [HX2.out]
      go_enter Tryz.func76, Tryz.ntmps76
      go_wp2_with (first
       | (go_at_call 100; refine (HL.out _).mono ?_; rintro e w1 ⟨rfl, hb⟩; have HB1 := hid hb; clear hb)
       | (go_at_call 101; refine (HR.out _).mono ?_; rintro e w2 ⟨k, rfl, hk, hk2, hb⟩; have hkn : ¬ k = M := fun e => (by simpa using hk2.1 (e.trans HLN.out.symm)); have hkd : ((k : Int) == (M : Int)) = false := beq_eq_false_iff_ne.2 (by omega); have HB2 := hid hb; clear hb hk2))
      go_ret
      exact ⟨rfl, HB1.out.trans (HB2.out.mono HB1.out.size)⟩
    | false =>
     rw [hw] at HW HX
     clear hc hw
     cases ha : L.all ldt with
     | true =>
      have HX2 := hid (HX.out.trans (show _ = true by rw [HD.out, ha]; rfl))
      rw [ha] at HR
      clear HX ha
      rw [HX2.out]
      go_enter Tryz.func76, Tryz.ntmps76
      go_wp2_with (first
       | (go_at_call 100; refine (HL.out _).mono ?_; rintro e w1 ⟨rfl, hb⟩; have HB1 := hid hb; clear hb)
       | (go_at_call 101; refine (HR.out _).mono ?_; rintro e w2 ⟨k, rfl, hk, hk2, hb⟩; obtain rfl : k = M := (hk2.2 trivial).trans HLN.out; have HB2 := hid hb; clear hb hk hk2)
       | (go_at_call 103; refine (HW.out _).mono ?_; rintro e w3 ⟨rfl, hb⟩; have HB3 := hid hb; clear hb))
      go_ret
      exact ⟨rfl, HB1.out.trans ((HB2.out.trans (HB3.out.mono HB2.out.size)).mono HB1.out.size)⟩
     | false =>
      have HX2 := hid (HX.out.trans (show _ = false by rw [HD.out, ha]; rfl))
      rw [ha] at HR
      clear HX ha
      rw [HX2.out]
      go_enter Tryz.func76, Tryz.ntmps76
      go_wp2_with (first
       | (go_at_call 100; refine (HL.out _).mono ?_; rintro e w1 ⟨rfl, hb⟩; have HB1 := hid hb; clear hb)
       | (go_at_call 101; refine (HR.out _).mono ?_; rintro e w2 ⟨k, rfl, hk, hk2, hb⟩; have hkn : ¬ k = M := fun e => (by simpa using hk2.1 (e.trans HLN.out.symm)); have hkd : ((k : Int) == (M : Int)) = false := beq_eq_false_iff_ne.2 (by omega); have HB2 := hid hb; clear hb hk2))
      go_ret
      exact ⟨rfl, HB1.out.trans (HB2.out.mono HB1.out.size)⟩
   | false =>
    rw [hc] at HL HX
    clear hc
    have HX2 := hid (HX.out.trans (show (decide (m ≤ 15) && (false && (L.all ldt && !isWord L))) = false by rw [Bool.false_and, Bool.and_false]))
    clear HX
    rw [HX2.out]
    go_enter Tryz.func76, Tryz.ntmps76
    go_wp2_with (go_at_call 100; refine (HL.out _).mono ?_; rintro e w1 ⟨rfl, hb⟩; have HB1 := hid hb; clear hb)
    go_ret
    exact ⟨rfl, HB1.out⟩
  ·have hg : decide ((16 : Int) < (M : Int)) = true := decide_eq_true (by omega)
   have HX2 := hid (HX.out.trans (show (decide (m ≤ 15) && (lett c && (L.all ldt && !isWord L))) = false by rw [decide_eq_false (by have := HM.out; omega)]; rfl))
   rw [HX2.out]
   clear HX HX2 HW HR HL
   go_enter Tryz.func76, Tryz.ntmps76
   go_wp2_with fail
   go_ret
   exact ⟨rfl, Below.refl _ _⟩
end Go.Proofs.YtegkbagnbnoopaaGreatDoor
/- words of the shelf: which blocks have changed; runs of single operations -/
namespace Go.Proofs.YtegkbagnbnoopaaGreatDoor
open Go.RowKit
open Go.Lib (hid)
theorem grownBy_setCell (w : World) (p : Addr) (v : Value) : w.grownBy (w.setCell p v) (some p.block) :=
 ⟨rfl, rfl, rfl, by simp, fun k _ hk => heap_setCell_other w p k v (fun e => hk (by rw [e]))⟩
/-- only blocks of F, and new ones, have changed -/
structure Chg (F : Nat → Prop) (w w' : World) : Prop where
 os : w'.os = w.os
 tape : w'.tape = w.tape
 output : w'.output = w.output
 size : w.heap.size ≤ w'.heap.size
 block : ∀ k, k < w.heap.size → ¬ F k → w'.heap[k]? = w.heap[k]?
theorem Chg.refl (F : Nat → Prop) (w : World) : Chg F w w := ⟨rfl, rfl, rfl, Nat.le_refl _, fun _ _ _ => rfl⟩
theorem Chg.trans {F G : Nat → Prop} {a b c : World} (h : Chg F a b) (k : Chg G b c) (hg : ∀ i, G i → F i ∨ a.heap.size ≤ i) : Chg F a c :=
 ⟨k.os.trans h.os, k.tape.trans h.tape, k.output.trans h.output, Nat.le_trans h.size k.size, fun i hi hr => (k.block i (Nat.lt_of_lt_of_le hi h.size) (fun e => (hg i e).elim hr (fun h => by omega))).trans (h.block i hi hr)⟩
theorem Chg.mono {F G : Nat → Prop} {a b : World} (h : Chg F a b) (hg : ∀ i, F i → G i) : Chg G a b := ⟨h.os, h.tape, h.output, h.size, fun k hk hn => h.block k hk (fun e => hn (hg k e))⟩
theorem Chg.grown {F : Nat → Prop} {a b : World} {row : Option Nat} (h : a.grownBy b row) (hr : ∀ k, row = some k → F k) : Chg F a b :=
 ⟨h.os, h.tape, h.output, h.size, fun k hk hn => h.block k hk (fun e => hn (hr k e.symm))⟩
theorem Chg.fresh {F : Nat → Prop} {a b : World} (h : Below a.heap.size a b) : Chg F a b := ⟨h.os, h.tape, h.output, h.size, fun k hk _ => h.block k hk⟩
theorem Chg.below {F : Nat → Prop} {B : Nat} {a b : World} (h : Chg F a b) (hB : ∀ k, F k → B ≤ k) (hs : B ≤ a.heap.size) : Below B a b :=
 ⟨h.os, h.tape, h.output, h.size, fun k hk => h.block k (by omega) (fun e => by have := hB k e; omega)⟩
theorem Chg.drew {F : Nat → Prop} {a b : World} (h : Chg F a b) : Chg F a b.drew := ⟨h.os, h.tape, h.output, h.size, h.block⟩
theorem Chg.alloc {F : Nat → Prop} {a b : World} (h : Chg F a b) (o : Obj) : Chg F a (b.alloc o) :=
 ⟨h.os, h.tape, h.output, by have := h.size; simp; omega, fun k hk hn => (Below.heap_alloc b o k (Nat.lt_of_lt_of_le hk h.size)).trans (h.block k hk hn)⟩
theorem Chg.setCell {F : Nat → Prop} {a b : World} (h : Chg F a b) (p : Addr) (v : Value) (hp : F p.block ∨ a.heap.size ≤ p.block) : Chg F a (b.setCell p v) :=
 h.trans (G := fun k => k = p.block) (Chg.grown (grownBy_setCell b p v) (fun k hk => by injection hk with hk; exact hk.symm)) (fun i hi => by subst hi; exact hp)
end Go.Proofs.YtegkbagnbnoopaaGreatDoor
/- the checker of print: its small methods -/
namespace Go.Proofs.YtegkbagnbnoopaaGreatDoor
open Go.ChangeShapes Go.WideShapes Go.ChangeAt Go.RowKit Go.Deep
open Go.Lib (hid)
def CkO (s : Ck) : Obj := .cells #[.int .i64 s.op, .int .i64 s.nd, .bool s.dp, .bool s.ml, .bool s.ms, .bool s.iv] 81 (0, 0)
/-- a checker's box -/
def CkC (u : World) (H : Nat) (s : Ck) : Prop := u.heap[H]? = some (CkO s)
def CkE (w : World) (H : Nat) (s : Ck) : Ending → World → Prop := fun e w' => e = .returned (.tuple #[]) ∧ CkC w' H s ∧ Chg (fun k => k = H) w w'
theorem bx_set {u : World} {H : Nat} {cs : Array Value} {T : TypeId} {j : Nat} {v : Value} (h : u.heap[H]? = some (.cells cs T (0, 0))) : (u.setCell ⟨H, j, none⟩ v).heap[H]? = some (.cells (cs.setIfInBounds j v) T (0, 0)) := heap_setCell_same u H j cs T v h
theorem CkC.chg {u v : World} {H : Nat} {s : Ck} {F : Nat → Prop} (h : CkC u H s) (hc : Chg F u v) (hF : ¬ F H) : CkC v H s := (hc.block H (bx_lt h) hF).trans h
theorem chg1 {H : Nat} {a b c : World} (h : Chg (fun k => k = H) a b) (k : Chg (fun k => k = H) b c) : Chg (fun k => k = H) a c := h.trans k (fun _ hi => .inl hi)
/-- what lies elsewhere is left -/
theorem chg1_blk {H g : Nat} {a b : World} {o : Obj} (h : Chg (fun k => k = H) a b) (hg : a.heap[g]? = some o) (hn : g ≠ H) : b.heap[g]? = some o := (h.block g (bx_lt hg) hn).trans hg
theorem CkE.from {w w1 : World} {H : Nat} {s : Ck} {e : Ending} {w' : World} (h : CkE w1 H s e w') (hc : Chg (fun k => k = H) w w1) : CkE w H s e w' := ⟨h.1, h.2.1, chg1 hc h.2.2⟩
def CELLS (u : World) (H : Nat) (s : Ck) : Prop := u.cell? ⟨H, 0, none⟩ = some (.int .i64 s.op) ∧ u.cell? ⟨H, 1, none⟩ = some (.int .i64 s.nd) ∧ u.cell? ⟨H, 2, none⟩ = some (.bool s.dp) ∧ u.cell? ⟨H, 3, none⟩ = some (.bool s.ml) ∧ u.cell? ⟨H, 4, none⟩ = some (.bool s.ms) ∧ u.cell? ⟨H, 5, none⟩ = some (.bool s.iv) ∧ (∀ j, u.frozen? ⟨H, j, none⟩ = false)
theorem CkC.cells {u : World} {H : Nat} {s : Ck} (h : CkC u H s) : CELLS u H s := ⟨cell_at h 0 rfl, cell_at h 1 rfl, cell_at h 2 rfl, cell_at h 3 rfl, cell_at h 4 rfl, cell_at h 5 rfl, fun j => frozen_of_row u H j _ _ h⟩
set_option maxRecDepth 100000 in
set_option maxHeartbeats 1600000 in
theorem req_any (H : Nat) (s : Ck) (b : Bool) (w : World) (hc : CkC w H s) : Calls Tryz.prog 40 #[.pointer (some ⟨H, 0, none⟩), .bool b] w (CkE w H (s.req b)) := by
 obtain ⟨op, nd, dp, ml, ms, iv⟩ := s
 obtain ⟨c0, c1, c2, c3, c4, c5, cf⟩ := hc.cells
 have f := cf 3
 have HC := hid hc
 clear cf hc
 cases ml <;> cases b
 all_goals
  go_enter Tryz.func40, Tryz.ntmps40
  go_wp2_with fail
  refine bodyPost_ret (results_none rfl _ _ _) rfl ?_
  exact ⟨rfl, by first | exact HC.out | exact bx_set HC.out, by first | exact Chg.refl _ _ | exact (Chg.refl _ _).setCell _ _ (.inl rfl)⟩
theorem CkC.lt {u : World} {H : Nat} {s : Ck} (h : CkC u H s) : H < u.heap.size := bx_lt h
set_option maxRecDepth 100000 in
set_option maxHeartbeats 1600000 in
theorem nam_any (H : Nat) (s : Ck) (l : List Int) (w : World) (hc : CkC w H s) (hl : Rng l) (hn : l.length ≤ 1073741824) : Calls Tryz.prog 51 #[.pointer (some ⟨H, 0, none⟩), .string (str l)] w (CkE w H (s.nam l)) := by
 obtain ⟨op, nd, dp, ml, ms, iv⟩ := s
 have HN := hid (fun u => name_any l u hl hn)
 clear hl hn
 cases ms with
 | true =>
  obtain ⟨c0, c1, c2, c3, c4, c5, cf⟩ := hc.cells
  have f := cf 4
  have HC := hid hc
  clear cf hc HN
  go_enter Tryz.func51, Tryz.ntmps51
  go_wp2_with fail
  refine bodyPost_ret (results_none rfl _ _ _) rfl ?_
  exact ⟨rfl, bx_set HC.out, (Chg.refl _ _).setCell _ _ (.inl rfl)⟩
 | false =>
  obtain ⟨c0, c1, c2, c3, c4, c5, cf⟩ := hc.cells
  have HC := hid hc
  have hlt := hc.lt
  clear cf hc
  have HB := hid (show (Ck.mk op nd dp ml false iv).nam l = ⟨op, nd, dp, ml, !isName l, iv⟩ from rfl)
  rw [HB.out]
  generalize isName l = b at *
  clear HB
  cases b
  all_goals
   go_enter Tryz.func51, Tryz.ntmps51
   go_wp2_with (go_at_call 76; refine (HN.out _).mono ?_; rintro e w1 ⟨rfl, hb⟩; have hc1 : CkC w1 H _ := (hb.block H hlt).trans HC.out; have f1 := frozen_of_row w1 H 4 _ _ hc1; have g4 := cell_at hc1 4 rfl; have HC1 := hid hc1; have HB1 := hid (Chg.fresh (F := fun k => k = H) hb); clear hb hc1)
   refine bodyPost_ret (results_none rfl _ _ _) rfl ?_
   exact ⟨rfl, bx_set HC1.out, HB1.out.setCell _ _ (.inl rfl)⟩
set_option maxRecDepth 100000 in
set_option maxHeartbeats 1600000 in
theorem opt_any (H : Nat) (s : Ck) (l : List Int) (w : World) (hc : CkC w H s) (hl : Rng l) (hn : l.length ≤ 1073741824) : Calls Tryz.prog 87 #[.pointer (some ⟨H, 0, none⟩), .string (str l)] w (CkE w H (s.opt l)) := by
 have HN := hid (nam_any H s l w hc hl hn)
 have HC := hid hc
 cases l with
 | nil =>
  have he : ((str []).toList == []) = true := by rw [str_toL]; rfl
  have he2 : ((str []).toList != []) = false := by rw [bne, he]; rfl
  clear HN hc hl hn
  go_enter Tryz.func87, Tryz.ntmps87
  go_wp2_with fail
  refine bodyPost_ret (results_none rfl _ _ _) rfl ?_
  exact ⟨rfl, HC.out, Chg.refl _ _⟩
 | cons c r =>
  have he : ((str (c :: r)).toList == []) = false := by rw [str_toL]; rfl
  have he2 : ((str (c :: r)).toList != []) = true := by rw [bne, he]; rfl
  have HX := hid (show s.opt (c :: r) = s.nam (c :: r) from if_neg (by simp))
  rw [HX.out]
  generalize c :: r = L at *
  clear hc hl hn HX
  go_enter Tryz.func87, Tryz.ntmps87
  go_wp2_with (go_at_call 51; refine HN.out.mono ?_; rintro e w1 ⟨rfl, hc1, hb1⟩; have HC1 := hid hc1; have HB1 := hid hb1; clear hc1 hb1)
  refine bodyPost_ret (results_none rfl _ _ _) rfl ?_
  exact ⟨rfl, HC1.out, HB1.out⟩
end Go.Proofs.YtegkbagnbnoopaaGreatDoor
/- strings.Builder: copyCheck and WriteString, and which blocks they change -/
namespace Go.Proofs.YtegkbagnbnoopaaGreatDoor
open Go.ChangeShapes Go.WideShapes Go.ChangeAt Go.RowKit Go.Deep Go.Shelf
open Go.Lib (hid)
/-- a builder: box B, its bytes in a row of its own in block g -/
def Bld (u : World) (A B : Nat) (g : Option Nat) (bs : List Value) : Prop := A ≤ B ∧ ∃ p v, (p = none ∨ p = some ⟨B, 0, none⟩) ∧ u.heap[B]? = some (.cells #[.pointer p, v] 86 (0, 0)) ∧ u.ownsRow A 5 1 v bs.length bs ∧ v.ownBlock = g ∧ g ≠ some B
theorem Bld.is {u : World} {A B : Nat} {g : Option Nat} {bs : List Value} (h : Bld u A B g bs) : Lib.IsBuilder 86 5 A B bs u := by
 obtain ⟨hA, p, v, hp, hb, ho, hg, hn⟩ := h
 rcases hp with rfl | rfl
 ·exact .inl ⟨hA, v, hb, ho, by rw [hg]; exact hn⟩
 ·exact .inr ⟨hA, v, hb, ho, by rw [hg]; exact hn⟩
set_option maxHeartbeats 1000000 in
set_option maxRecDepth 100000 in
theorem cc_used (b : Nat) (w : World) (h0 : w.cell? ⟨b, 0, none⟩ = some (.pointer (some ⟨b, 0, none⟩))) :
  Calls Tryz.prog 65 #[.pointer (some ⟨b, 0, none⟩)] w fun e w' => e = .returned (.tuple #[]) ∧ w' = w := by
 obtain ⟨j, hj, -⟩ := Option.map_eq_some_iff.1 Tryz.Builder_Extra_169.sizeBuilder
 go_enter Tryz.func65, Tryz.ntmps65
 go_wp2
 rw [Lib.run_neq_ptr_same w _ Tryz.underlying83 hj]
 go_wp2
 go_end0
 exact ⟨rfl, rfl⟩
set_option maxHeartbeats 1000000 in
set_option maxRecDepth 100000 in
theorem cc_fresh (b : Nat) (w : World) (h0 : w.cell? ⟨b, 0, none⟩ = some (.pointer none)) (hsh : w.shape? b = some (86, 2)) (hfz : w.frozen? ⟨b, 0, none⟩ = false) :
  Calls Tryz.prog 65 #[.pointer (some ⟨b, 0, none⟩)] w fun e w' => e = .returned (.tuple #[]) ∧ w' = w.setCell ⟨b, 0, none⟩ (.pointer (some ⟨b, 0, none⟩)) := by
 obtain ⟨j, hj, hjs⟩ := Option.map_eq_some_iff.1 Tryz.Builder_Extra_169.sizeBuilder
 go_enter Tryz.func65, Tryz.ntmps65
 go_wp2
 rw [Lib.run_to_unsafe w ⟨b, 0, none⟩ Tryz.underlying83 Tryz.underlying136 hj (by rw [hjs]; decide) hsh (Nat.zero_lt_succ 1)]
 simp only [Result.andThen]
 rw [Oper.upon_value]
 go_wp2
 rw [run_callFunc_extern Tryz.func86 (by kernel_rfl) (by kernel_rfl) (by kernel_rfl) (e := Extern.AbiNoEscape.same) (by kernel_rfl)]
 rw [Lib.run_noEscape]
 simp only [Result.andThen]
 rw [Oper.upon_value]
 go_wp2
 rw [Lib.run_from_unsafe w ⟨b, 0, none⟩ Tryz.underlying136 Tryz.underlying83 hj hsh Tryz.Builder_Extra_169.liesBuilder]
 simp only [Result.andThen]
 rw [Oper.upon_value]
 go_wp2
 go_end0
 exact ⟨rfl, rfl⟩
theorem own_string_at {P : Program} (w : World) (base : Nat) (t u ty e : TypeId) (i : TypeInfo) (ht : P.underlying t = some (.slice e)) (hu : P.underlying u = some .string) (hi : P.info? e = some i) (hz : i.zero = some (.int .u8 0)) (hsize : i.size = 1) (hby : i.bytes = 1)
  (v : Value) (n : Nat) (xs : List Value) (hown : w.ownsRow base e 1 v n xs) (s : ByteArray) (h63 : n + s.size ≤ maxLen) (hbytes : n + s.size ≤ 140737488355328) (hbase : base ≤ w.heap.size) :
  ∃ v' w', (Builtin.append_ #[t, u] ty #[v, .string s]).run P w = .ok v' w' ∧ w'.ownsRow base e 1 v' (n + s.size) (xs ++ Lib.strCells s) ∧ w.grownBy w' v.ownBlock ∧ (v'.ownBlock = v.ownBlock ∨ v'.ownBlock = some w.heap.size) := by
 obtain ⟨v', w', hr, h2, h3, h4⟩ := Lib.run_append_own_string w base t u ty e i ht hu hi hz hsize hby v n xs hown s h63 hbytes hbase
 refine ⟨v', w', hr, h2, h3, ?_⟩
 have hsmall : n + s.size ≤ 9223372036854775807 := by simp only [maxLen] at h63; omega
 have hxl : xs.length = n := by simpa using hown.1
 rcases hown.2 with ⟨rfl, rfl⟩ | ⟨g, cap, cur, rfl, hbg, hg, hnc, hcm, hcs, htake⟩
 ·by_cases hm : s.size = 0
  ·have e1 : v' = .slice none 0 0 := h4.2 ⟨rfl, hm⟩
   subst e1
   exact .inl rfl
  ·have hr2 := run_append_nil_string (P := P) w t u ty e i (.int .u8 0) ht hu hi hz s (by omega) (by omega) (by rw [hby]; omega)
   rw [hr] at hr2
   injection hr2 with e1 e2
   rw [e1]
   exact .inr rfl
 ·by_cases hroom : n + s.size ≤ cap
  ·have hcs' : cur.size = cap := by simpa using hcs
   have hr2 := Lib.run_append_room_string (P := P) w t u ty e i ht hu hi hsize g n cap cur hg s hroom (by omega)
   rw [hr] at hr2
   injection hr2 with e1 e2
   rw [e1]
   exact .inl rfl
  ·have holds : ∀ j u, xs[j]? = some u → w.cell? ((⟨g, 0, none⟩ : Addr).add j) = some u := hown.cells (g := g) rfl
   have hr2 := Lib.run_append_grow_string (P := P) w t u ty e i (.int .u8 0) ht hu hi hz ⟨g, 0, none⟩ n cap xs (by rw [hsize]; simpa using hxl) holds s (by omega) (by omega) (by rw [hby]; exact growslice_fits (by omega) (by omega))
   rw [hr] at hr2
   injection hr2 with e1 e2
   rw [e1]
   exact .inr rfl
theorem wpList_own_string_at {P : Program} {w : World} {ops : Array Oper} {rest : List Oper} {o : Oper} {a : Act} {Q : Exit → Act → World → Prop} (hgd : o.guard = none) (sl x : Operand) (t u : TypeId)
  (ho : o.op = .call { callee := .builtin .append, args := #[sl, x], argTypes := #[t, u] }) (base : Nat) (e : TypeId) (i : TypeInfo) (ht : P.underlying t = some (.slice e)) (hu : P.underlying u = some .string) (hi : P.info? e = some i) (hz : i.zero = some (.int .u8 0)) (hsize : i.size = 1) (hby : i.bytes = 1)
  (v : Value) (n : Nat) (xs : List Value) (hs : a.eval sl = v) (hown : w.ownsRow base e 1 v n xs) (s : ByteArray) (hx : a.eval x = .string s) (h63 : n + s.size ≤ maxLen) (hbytes : n + s.size ≤ 140737488355328) (hbase : base ≤ w.heap.size)
  (h : ∀ v' w', w'.ownsRow base e 1 v' (n + s.size) (xs ++ Lib.strCells s) → w.grownBy w' v.ownBlock → (v'.ownBlock = v.ownBlock ∨ v'.ownBlock = some w.heap.size) → wpList P ops Q rest (a.put o.dst v') w') : wpList P ops Q (o :: rest) a w := by
 refine wpList_plain hgd fun K hK => ?_
 obtain ⟨v', w', hr, h2, h3, h4⟩ := own_string_at w base t u o.type e i ht hu hi hz hsize hby v n xs hown s h63 hbytes hbase
 unfold Oper.wp
 simp [execOp, ho, resolve, invoke, builtin, hs, hx, hr, Result.andThen]
 exact hK _ _ (h v' w' h2 h3 h4)
/-- bytes as cells -/
def cellsB (l : List Int) : List Value := l.map (fun c => Value.int .u8 c)
theorem strCells_str {l : List Int} (h : Rng l) : Lib.strCells (str l) = cellsB l := by
  unfold Lib.strCells str cellsB
  simp only [List.map_map]
  apply List.map_congr_left
  intro c hc
  have := h c hc
  simp only [Function.comp, UInt8.toNat_ofNat']
  congr 1
  omega
def BldE (w : World) (A B : Nat) (g : Option Nat) (bs : List Value) (u : World) : Prop := ∃ g', Bld u A B g' bs ∧ Chg (fun k => k = B ∨ some k = g) w u ∧ (g' = g ∨ ∃ k, g' = some k ∧ w.heap.size ≤ k)
theorem own_slc {w : World} {A : Nat} {T : TypeId} {s n : Nat} {v : Value} {xs : List Value} (h : w.ownsRow A T s v n xs) : ∃ a c, v = .slice a n c := by
 obtain ⟨-, ⟨rfl, rfl⟩ | ⟨g, cap, cur, rfl, -⟩⟩ := h
 ·exact ⟨none, 0, rfl⟩
 ·exact ⟨_, _, rfl⟩
theorem own_lt {w : World} {A : Nat} {T : TypeId} {s n : Nat} {v : Value} {xs : List Value} (h : w.ownsRow A T s v n xs) : ∀ k, v.ownBlock = some k → A ≤ k ∧ k < w.heap.size := by
 obtain ⟨-, ⟨rfl, -⟩ | ⟨g, cap, cur, rfl, hB, hcur, -⟩⟩ := h
 ·intro k hk; cases hk
 ·intro k hk
  injection hk with hk
  subst hk
  exact ⟨hB, bx_lt hcur⟩
set_option maxHeartbeats 2000000 in
set_option maxRecDepth 100000 in
theorem write_any (A B : Nat) (g : Option Nat) (bs : List Value) (l : List Int) (w : World) (h : Bld w A B g bs) (hr : Rng l) (hl : bs.length + l.length ≤ 1099511627776) :
  Calls Tryz.prog 35 #[.pointer (some ⟨B, 0, none⟩), .string (str l)] w fun e w' => e = .returned (.tuple #[.int .i64 l.length, .nilIface]) ∧ BldE w A B g (bs ++ cellsB l) w' := by
 obtain ⟨i0, hi, hz0, hz1, hz2⟩ := info_parts Tryz.Builder_Extra_169.infoByte
 obtain ⟨hA, p, v, hp, hb, ho, hg, hn⟩ := h
 have hlt := bx_lt hb
 obtain ⟨ao, cp, rfl⟩ := own_slc ho
 have hsz := str_len l
 have HG := hid hg
 have HN := hid hn
 have HCC := hid (show Calls Tryz.prog 65 #[.pointer (some ⟨B, 0, none⟩)] w fun e w' => e = .returned (.tuple #[]) ∧ w'.heap[B]? = some (.cells #[.pointer (some ⟨B, 0, none⟩), .slice ao bs.length cp] 86 (0, 0)) ∧ w'.ownsRow A 5 1 (.slice ao bs.length cp) bs.length bs ∧ Chg (fun k => k = B) w w' ∧ w'.heap.size = w.heap.size from by
  rcases hp with rfl | rfl
  ·refine (cc_fresh B w (cell_at hb 0 rfl) (by simp [World.shape?, hb]) (frozen_of_row w B 0 _ _ hb)).mono ?_
   rintro e w' ⟨rfl, rfl⟩
   exact ⟨rfl, bx_set (j := 0) (v := .pointer (some ⟨B, 0, none⟩)) hb, World.ownsRow.kept ho (grownBy_setCell w ⟨B, 0, none⟩ _) (by
    cases hv : (Value.slice ao bs.length cp).ownBlock with
    | none => exact .inl rfl
    | some k => exact .inr (fun e => hn (by rw [← hg, hv]; exact e))), (Chg.refl _ _).setCell _ _ (.inl rfl), by simp⟩
  ·refine (cc_used B w (cell_at hb 0 rfl)).mono ?_
   rintro e w' ⟨rfl, rfl⟩
   exact ⟨rfl, hb, ho, Chg.refl _ _, rfl⟩)
 have HR := hid hr
 have HL := hid hl
 have HAA := hid hA
 have HLT := hid hlt
 clear hp hb ho hg hn hr hl
 go_enter Tryz.func35, Tryz.ntmps35
 go_wp2_with (first
  | (go_at_call 65; refine HCC.out.mono ?_; clear HCC; rintro e w1 ⟨rfl, h1, h2, h3, h4⟩; have c1 := cell_at h1 1 rfl; have HX1 := hid h1; have HO1 := hid h2; have HB1 := hid h3; have HZ1 := hid h4; clear h1 h2 h3 h4)
  | (at_builtin; refine wpList_own_string_at (o := ⟨some 14, _, _, _, _, _⟩) rfl (Operand.tmp 12) (Operand.tmp 13) 84 9 rfl A 5 i0 Tryz.underlying84 Tryz.underlying9 hi hz0 hz1 hz2 (.slice ao bs.length cp) bs.length bs rfl HO1.out (str l) rfl (by have := HL.out; unfold maxLen; omega) (by have := HL.out; omega) (by have := HZ1.out; have := HLT.out; have := HAA.out; omega) ?_; intro v' w2 hown' hgrow hat; obtain ⟨a2, c2, rfl⟩ := own_slc hown'; have hb2 := (hgrow.block B (by have := HZ1.out; have := HLT.out; omega) (fun e => HN.out (by rw [← HG.out]; exact e.symm))).trans HX1.out; have d1 := cell_at hb2 1 rfl; have f1 := frozen_of_row w2 B 1 _ _ hb2; have HX2 := hid hb2; have HO2 := hid hown'; have HG2 := hid hgrow; have HT2 := hid hat; clear hb2 hown' hgrow hat))
 go_ret2
 have hlen : (bs ++ cellsB l).length = bs.length + l.length := by simp [cellsB]
 have HT3 := hid (show (Value.slice a2 (bs.length + l.length) c2).ownBlock = (Value.slice ao bs.length cp).ownBlock ∨ (Value.slice a2 (bs.length + l.length) c2).ownBlock = some w1.heap.size from by have h := HT2.out; rw [hsz] at h; exact h)
 have hne : (Value.slice a2 (bs.length + l.length) c2).ownBlock ≠ some B := by
  rcases HT3.out with h | h
  ·rw [h, HG.out]; exact HN.out
  ·rw [h]; intro e; injection e with e; have := HZ1.out; have := HLT.out; omega
 refine ⟨rfl, (Value.slice a2 (bs.length + l.length) c2).ownBlock, ⟨HAA.out, some ⟨B, 0, none⟩, _, .inr rfl, bx_set HX2.out, ?_, rfl, hne⟩, ?_, ?_⟩
 ·have h := HO2.out
  rw [strCells_str HR.out, hsz] at h
  rw [hlen]
  exact World.ownsRow.kept h (grownBy_setCell _ ⟨B, 1, none⟩ _) (by
   cases hv : (Value.slice a2 (bs.length + l.length) c2).ownBlock with
   | none => exact .inl rfl
   | some k => exact .inr (by rw [hv] at hne; exact hne))
 ·exact ((HB1.out.mono (fun k hk => .inl hk)).trans (Chg.grown (F := fun k => k = B ∨ some k = g) HG2.out (fun k hk => .inr (by rw [← HG.out, hk]))) (fun i hi => .inl hi)).setCell _ _ (.inl (.inl rfl))
 ·rcases HT3.out with h | h
  ·exact .inl (h.trans HG.out)
  ·exact .inr ⟨_, h, by have := HZ1.out; omega⟩
end Go.Proofs.YtegkbagnbnoopaaGreatDoor
/- the writer of print: its state, put -/
namespace Go.Proofs.YtegkbagnbnoopaaGreatDoor
open Go.ChangeShapes Go.WideShapes Go.ChangeAt Go.RowKit Go.Deep
open Go.Lib (hid)
/-- a writer's state: the text, the token put last, whether no blank is behind it -/
structure Wr where
 tx : List Int
 la : List Int
 ti : Bool
def Wr.put1 (s : Wr) (t : List Int) : Wr := ⟨s.tx ++ (if s.ti = false ∧ t ≠ [41] ∧ t ≠ [44] ∧ t ≠ [46] then 32 :: t else t), t, decide (t = [40]) || decide (t = [46])⟩
def Wr.put (s : Wr) (ts : List (List Int)) : Wr := ts.foldl Wr.put1 s
/-- what a step of a writer keeps: its boxes are H and B, its bytes lie in g -/
structure WK (H B : Nat) (w : World) (g : Option Nat) (w' : World) (g' : Option Nat) : Prop where
 chg : Chg (fun k => k = H ∨ k = B ∨ some k = g) w w'
 own : g' = g ∨ ∃ k, g' = some k ∧ w.heap.size ≤ k
theorem WK.refl (H B : Nat) (w : World) (g : Option Nat) : WK H B w g w g := ⟨Chg.refl _ _, .inl rfl⟩
theorem WK.trans {H B : Nat} {a b c : World} {g g1 g2 : Option Nat} (h : WK H B a g b g1) (k : WK H B b g1 c g2) : WK H B a g c g2 := by
 refine ⟨h.chg.trans k.chg (fun i hi => ?_), ?_⟩
 ·rcases hi with hi | hi | hi
  ·exact .inl (.inl hi)
  ·exact .inl (.inr (.inl hi))
  ·rcases h.own with e | ⟨q, e, hq⟩
   ·exact .inl (.inr (.inr (hi.trans e)))
   ·rw [e] at hi; injection hi with hi; exact .inr (by omega)
 ·rcases k.own with e | ⟨q, e, hq⟩
  ·rw [e]; exact h.own
  ·exact .inr ⟨q, e, Nat.le_trans h.chg.size hq⟩
theorem WK.alloc {H B : Nat} {a b : World} {g g1 : Option Nat} (h : WK H B a g b g1) (o : Obj) : WK H B a g (b.alloc o) g1 := ⟨h.chg.alloc o, h.own⟩
theorem WK.set {H B : Nat} {a b : World} {g g1 : Option Nat} (h : WK H B a g b g1) (j : Nat) (v : Value) : WK H B a g (b.setCell ⟨H, j, none⟩ v) g1 := ⟨h.chg.setCell ⟨H, j, none⟩ v (.inl (.inl rfl)), h.own⟩
/-- a box elsewhere is left -/
structure Els (H B : Nat) (w : World) (g : Option Nat) (b : Nat) (o : Obj) : Prop where
 at_ : w.heap[b]? = some o
 nh : b ≠ H
 nb : b ≠ B
 ng : g ≠ some b
theorem Els.keep {H B : Nat} {w w' : World} {g g' : Option Nat} {b : Nat} {o : Obj} (e : Els H B w g b o) (k : WK H B w g w' g') : Els H B w' g' b o := by
 refine ⟨(k.chg.block b (bx_lt e.at_) (fun h => ?_)).trans e.at_, e.nh, e.nb, ?_⟩
 ·rcases h with h | h | h
  ·exact e.nh h
  ·exact e.nb h
  ·exact e.ng h.symm
 ·rcases k.own with h | ⟨q, h, hq⟩
  ·rw [h]; exact e.ng
  ·rw [h]; intro e2; injection e2 with e2; have := bx_lt e.at_; omega
structure WrC (u : World) (A H B : Nat) (g : Option Nat) (s : Wr) : Prop where
 box : u.heap[H]? = some (.cells #[.func (.func 35) #[.pointer (some ⟨B, 0, none⟩)] #[], .string (str s.la), .bool s.ti] 89 (0, 0))
 bld : Bld u A B g (cellsB s.tx)
 ne : H ≠ B
 gn : g ≠ some H
 lo : A ≤ H
 rng : Rng s.la
 rt : Rng s.tx
theorem Bld.low {u : World} {A B : Nat} {g : Option Nat} {bs : List Value} (h : Bld u A B g bs) : ∀ k, some k = g → A ≤ k ∧ k < u.heap.size := by
 obtain ⟨hA, p, v, hp, hb, ho, hg, hn⟩ := h
 intro k hk
 exact own_lt ho k (hg.trans hk.symm)
theorem Bld.keep {u u' : World} {A B : Nat} {g : Option Nat} {bs : List Value} {F : Nat → Prop} (h : Bld u A B g bs) (hc : Chg F u u') (h1 : ¬ F B) (h2 : ∀ k, some k = g → ¬ F k) : Bld u' A B g bs := by
 have hlow := h.low
 obtain ⟨hA, p, v, hp, hb, ho, hg, hn⟩ := h
 refine ⟨hA, p, v, hp, (hc.block B (bx_lt hb) h1).trans hb, ?_, hg, hn⟩
 obtain ⟨hl, ⟨rfl, e⟩ | ⟨q, cap, cur, rfl, hB, hcur, h3, h4, h5, h6⟩⟩ := ho
 ·exact ⟨hl, .inl ⟨rfl, e⟩⟩
 ·have hq : some q = g := hg
  exact ⟨hl, .inr ⟨q, cap, cur, rfl, hB, (hc.block q (bx_lt hcur) (h2 q hq)).trans hcur, h3, h4, h5, h6⟩⟩
theorem WrC.alloc {u : World} {A H B : Nat} {g : Option Nat} {s : Wr} (h : WrC u A H B g s) (o : Obj) : WrC (u.alloc o) A H B g s :=
 ⟨hp_al h.box o, h.bld.keep (F := fun _ => False) ((Chg.refl _ _).alloc o) id (fun _ _ => id), h.ne, h.gn, h.lo, h.rng, h.rt⟩
theorem WrC.fresh {u u' : World} {A H B : Nat} {g : Option Nat} {s : Wr} (h : WrC u A H B g s) (hb : Below u.heap.size u u') : WrC u' A H B g s :=
 ⟨(hb.block H (bx_lt h.box)).trans h.box, h.bld.keep (F := fun _ => False) (Chg.fresh hb) id (fun _ _ => id), h.ne, h.gn, h.lo, h.rng, h.rt⟩
theorem WK.fresh {H B : Nat} {a b : World} {g : Option Nat} (hb : Below a.heap.size a b) : WK H B a g b g := ⟨Chg.fresh hb, .inl rfl⟩
/-- what lies below the writer's blocks is left -/
theorem WK.low {u u' : World} {A H B : Nat} {g g' : Option Nat} {s : Wr} (h : WrC u A H B g s) (k : WK H B u g u' g') {w0 : World} (hA : w0.heap.size ≤ A) (h0 : Below w0.heap.size w0 u) : Below w0.heap.size w0 u' :=
 h0.trans (k.chg.below (B := w0.heap.size) (fun i hi => by
  rcases hi with rfl | rfl | hi
  ·have := h.lo; omega
  ·have := h.bld.1; omega
  ·have := (h.bld.low i hi).1; omega) h0.size)
theorem WrC.setLT {u : World} {A H B : Nat} {g : Option Nat} {s : Wr} (h : WrC u A H B g s) {l : List Int} (hl : Rng l) (b : Bool) : WrC ((u.setCell ⟨H, 1, none⟩ (.string (str l))).setCell ⟨H, 2, none⟩ (.bool b)) A H B g ⟨s.tx, l, b⟩ :=
 ⟨bx_set (j := 2) (v := .bool b) (bx_set (j := 1) (v := .string (str l)) h.box), (h.bld.keep (F := fun k => k = H) ((Chg.refl _ _).setCell ⟨H, 1, none⟩ _ (.inl rfl)) (fun e => h.ne e.symm) (fun k hk e => h.gn (by rw [← hk, e]))).keep (F := fun k => k = H) ((Chg.refl _ _).setCell ⟨H, 2, none⟩ _ (.inl rfl)) (fun e => h.ne e.symm) (fun k hk e => h.gn (by rw [← hk, e])), h.ne, h.gn, h.lo, hl, h.rt⟩
theorem WrC.setT {u : World} {A H B : Nat} {g : Option Nat} {s : Wr} (h : WrC u A H B g s) (b : Bool) : WrC (u.setCell ⟨H, 2, none⟩ (.bool b)) A H B g ⟨s.tx, s.la, b⟩ :=
 ⟨bx_set (j := 2) (v := .bool b) h.box, h.bld.keep (F := fun k => k = H) ((Chg.refl _ _).setCell ⟨H, 2, none⟩ _ (.inl rfl)) (fun e => h.ne e.symm) (fun k hk e => h.gn (by rw [← hk, e])), h.ne, h.gn, h.lo, h.rng, h.rt⟩
/-- what a method of a writer leaves -/
def WrE (w : World) (A H B : Nat) (g : Option Nat) (s' : Wr) : Ending → World → Prop := fun e w' => e = .returned (.tuple #[]) ∧ ∃ g', WrC w' A H B g' s' ∧ WK H B w g w' g'
theorem wr_write {w : World} {A H B : Nat} {g : Option Nat} {s : Wr} (l : List Int) (h : WrC w A H B g s) (hr : Rng l) (hl : s.tx.length + l.length ≤ 1099511627776) :
  Calls Tryz.prog 35 #[.pointer (some ⟨B, 0, none⟩), .string (str l)] w fun e w' => e = .returned (.tuple #[.int .i64 l.length, .nilIface]) ∧ ∃ g', WrC w' A H B g' ⟨s.tx ++ l, s.la, s.ti⟩ ∧ WK H B w g w' g' := by
 refine (write_any A B g (cellsB s.tx) l w h.bld hr (by simp [cellsB]; omega)).mono ?_
 rintro e w' ⟨rfl, g', hb, hc, hg⟩
 have hlt := bx_lt h.box
 refine ⟨rfl, g', ⟨(hc.block H hlt (fun e => ?_)).trans h.box, by rw [show cellsB (s.tx ++ l) = cellsB s.tx ++ cellsB l from by simp [cellsB]]; exact hb, h.ne, ?_, h.lo, h.rng, (fun c hc => (List.mem_append.1 hc).elim (h.rt c) (hr c))⟩, ⟨hc.mono (fun k hk => .inr hk), hg⟩⟩
 ·rcases e with e | e
  ·exact h.ne e
  ·exact h.gn e.symm
 ·rcases hg with e | ⟨k, e, hk⟩
  ·rw [e]; exact h.gn
  ·rw [e]; intro e2; injection e2 with e2; omega
end Go.Proofs.YtegkbagnbnoopaaGreatDoor
