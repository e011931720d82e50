/- stage 7: In of the reference; rows of its entries -/
import Derived.Test.YtmejjjkbbkgioaaDoorMs23
namespace Go.Proofs.YtmejjjkbbkgioaaDoor
open Go.RowKit
theorem less_str : ∀ (s t : List Int), Rng s → Rng t → Op.bytesLess (str s).toList (str t).toList = decide (cmpI s t = -1) := by
 have key : ∀ (s t : List Int), Rng s → Rng t → Op.bytesLess (s.map fun x => UInt8.ofNat x.toNat) (t.map fun x => UInt8.ofNat x.toNat) = decide (cmpI s t = -1) := by
  intro s
  induction s with
  | nil => intro t _ _; cases t <;> simp [Op.bytesLess, cmpI]
  | cons x s ih =>
   intro t hs ht
   cases t with
   | nil => simp [Op.bytesLess, cmpI]
   | cons y t =>
    have hx := hs x (by simp)
    have hy := ht y (by simp)
    have h1 : (UInt8.ofNat x.toNat < UInt8.ofNat y.toNat) ↔ x < y := by
     rw [UInt8.lt_iff_toNat_lt, UInt8.toNat_ofNat', UInt8.toNat_ofNat']; omega
    have h2 : (UInt8.ofNat x.toNat = UInt8.ofNat y.toNat) ↔ x = y := by
     rw [← UInt8.toNat_inj, UInt8.toNat_ofNat', UInt8.toNat_ofNat']; omega
    have ih2 := ih t (fun z hz => hs z (by simp [hz])) (fun z hz => ht z (by simp [hz]))
    simp only [List.map_cons, Op.bytesLess, cmpI, ih2]
    by_cases a : x < y
    ·simp [h1, a]
    ·by_cases b : x = y
     ·subst b; simp
     ·have c : y < x := by omega
      simp [h1, h2, a, b, c]
 intro s t hs ht
 rw [ByteArray.toList_eq, ByteArray.toList_eq]
 simpa [str] using key s t hs ht
theorem bl {s t : List Int} (hs : Rng s) (ht : Rng t) : Op.bytesLess (str s).toList (str t).toList = decide (cmpI s t < 0) := by
 rw [less_str s t hs ht]
 rcases cmpI_rng s t with h | h | h <;> rw [h] <;> rfl
set_option maxRecDepth 100000 in
set_option maxHeartbeats 8000000 in
theorem refIn_any (w : World) (k fr to : List Int) (e : Bool) (gk : Rng k) (gf : Rng fr) (gt : Rng to) :
  Calls Tryd.prog 43 #[.string (str k), .string (str fr), .string (str to), .bool e] w fun d w' => d = .returned (.bool (hasQ fr to e k)) ∧ w' = w := by
 have b1 := bl gk gf
 have b2 := bl gk gt
 have HQ := Lib.hid (show hasQ fr to e k = (decide (0 ≤ cmpI k fr) && !(e && decide (cmpI to k ≤ 0))) from rfl)
 have hf : cmpI to k = - cmpI k to := cmpI_anti k to
 generalize hasQ fr to e k = q at *
 by_cases c1 : cmpI k fr < 0
 ·rw [decide_eq_true c1] at b1
  have HA := Lib.hid (show q = false by rw [HQ.out, decide_eq_false (by omega)]; rfl)
  clear b2 c1 hf HQ
  go_enter Tryd.func43, Tryd.ntmps43
  go_wp2_with fail
  go_ret
  rw [HA.out]; exact ⟨rfl, rfl⟩
 ·rw [decide_eq_false c1] at b1
  cases e with
  | false =>
   have HA := Lib.hid (show q = true by rw [HQ.out, decide_eq_true (by omega)]; rfl)
   clear b2 c1 hf HQ
   go_enter Tryd.func43, Tryd.ntmps43
   go_wp2_with fail
   go_ret
   rw [HA.out]; exact ⟨rfl, rfl⟩
  | true =>
   by_cases c2 : cmpI k to < 0
   ·rw [decide_eq_true c2] at b2
    have HA := Lib.hid (show q = true by rw [HQ.out, decide_eq_true (by omega), decide_eq_false (by omega)]; rfl)
    clear c2 c1 hf HQ
    go_enter Tryd.func43, Tryd.ntmps43
    go_wp2_with fail
    go_ret
    rw [HA.out]; exact ⟨rfl, rfl⟩
   ·rw [decide_eq_false c2] at b2
    have HA := Lib.hid (show q = false by rw [HQ.out, decide_eq_true (by omega), decide_eq_true (by omega)]; rfl)
    clear c2 c1 hf HQ
    go_enter Tryd.func43, Tryd.ntmps43
    go_wp2_with fail
    go_ret
    rw [HA.out]; exact ⟨rfl, rfl⟩
/-- the cells of a row of the reference's entries -/
def rfL (l : List (List Int × Nat)) : List Value := l.flatMap fun x => [Value.string (str x.1), Value.int .i64 (x.2 : Int)]
theorem rfL_snoc (l : List (List Int × Nat)) (x : List Int × Nat) : rfL (l ++ [x]) = rfL l ++ [.string (str x.1), .int .i64 (x.2 : Int)] := by simp [rfL]
theorem rfL_get : ∀ (l : List (List Int × Nat)) (i : Nat) (x : List Int × Nat) (j : Nat), l[i]? = some x → j < 2 → (rfL l)[i * 2 + j]? = ([Value.string (str x.1), Value.int .i64 (x.2 : Int)] : List Value)[j]?
 | [], i, x, j, h, _ => by simp at h
 | y :: l, 0, x, j, h, hj => by
  injection h with h
  subst h
  show ([Value.string (str y.1), Value.int .i64 (y.2 : Int)] ++ rfL l)[0 * 2 + j]? = _
  rw [List.getElem?_append_left (by simp; omega), Nat.zero_mul, Nat.zero_add]
 | y :: l, i + 1, x, j, h, hj => by
  have ih := rfL_get l i x j (by simpa using h) hj
  show ([Value.string (str y.1), Value.int .i64 (y.2 : Int)] ++ rfL l)[(i + 1) * 2 + j]? = _
  rw [List.getElem?_append_right (by simp; omega)]
  rw [← ih]
  congr 1
  simp only [List.length_cons, List.length_nil]
  omega
/-- an own row of the reference's entries -/
def RfO (w : World) (B : Nat) (v : Value) (l : List (List Int × Nat)) : Prop := w.ownsRow B 45 2 v l.length (rfL l)
def toI (x : List Int × Nat) : List Int × Int := (x.1, (x.2 : Int))
theorem RfO.rfs {w : World} {B : Nat} {v : Value} {l : List (List Int × Nat)} (h : RfO w B v l) : RfS w v (l.map toI) := by
  obtain ⟨hl, ⟨rfl, hn⟩ | ⟨g, cap, cur, rfl, q1, q2, q3, q4, q5, q6⟩⟩ := h
  · refine ⟨none, 0, by rw [List.length_map, hn], fun i x hx => ?_⟩
    have := (List.getElem?_eq_some_iff.1 hx).1
    rw [List.length_map] at this
    omega
  · refine ⟨some ⟨g, 0, none⟩, cap, by rw [List.length_map], fun i x hx => ?_⟩
    rw [List.getElem?_map, Option.map_eq_some_iff] at hx
    obtain ⟨y, hy, rfl⟩ := hx
    have hi := (List.getElem?_eq_some_iff.1 hy).1
    have hc : ∀ j, j < 2 → w.cell? ⟨g, 0 + (i * 2 + j), none⟩ = ([Value.string (str y.1), Value.int .i64 (y.2 : Int)] : List Value)[j]? := fun j hj => by
      rw [cell_of_row _ _ _ _ _ _ q2, Nat.zero_add, ← Array.getElem?_toList, ← rfL_get l i y j hy hj, ← q6, List.getElem?_take, if_pos (by omega)]
    exact ⟨g, 0, rfl, blk_lt q2, hc 0 (by omega), hc 1 (by omega)⟩
theorem RfO.nil (w : World) (B : Nat) : RfO w B (.slice none 0 0) [] := World.ownsRow_nil _ _ _ _
theorem RfO.below {w w' : World} {B : Nat} {v : Value} {l : List (List Int × Nat)} (h : RfO w B v l) (hb : Below w.heap.size w w') : RfO w' B v l := by
 have hg : w.grownBy w' none := ⟨hb.os, hb.tape, hb.output, hb.size, fun k hk _ => hb.block k hk⟩
 refine World.ownsRow.kept h hg ?_
 cases hv : v.ownBlock with
 | none => exact .inl rfl
 | some g => exact .inr (by simp)
theorem RfO.base {w : World} {B B' : Nat} {v : Value} {l : List (List Int × Nat)} (h : RfO w B' v l) (hB : B ≤ B') : RfO w B v l :=
 ⟨h.1, h.2.imp id (fun ⟨g, cap, cur, a, b, c⟩ => ⟨g, cap, cur, a, Nat.le_trans hB b, c⟩)⟩
theorem RfO.slc {w : World} {B : Nat} {v : Value} {l : List (List Int × Nat)} (h : RfO w B v l) : ∃ a c, v = .slice a l.length c := ownsRow_slc h
theorem infoRe : ∃ i, Tryd.prog.info? 45 = some i ∧ (∃ z : Value, i.zero = some z ∧ z = .agg #[.string ⟨#[]⟩, .int .i64 0]) ∧ i.size = 2 ∧ i.bytes ≤ 64 := by
 have h : (Tryd.prog.info? 45).map (fun i => (i.zero, i.size, decide (i.bytes ≤ 64))) = some (some (.agg #[.string ⟨#[]⟩, .int .i64 0]), 2, true) := by kernel_rfl
 cases hi : Tryd.prog.info? 45 with
 | none => rw [hi] at h; cases h
 | some i =>
  rw [hi] at h
  simp only [Option.map_some, Option.some.injEq, Prod.mk.injEq] at h
  exact ⟨i, rfl, ⟨_, h.1, rfl⟩, h.2.1, of_decide_eq_true h.2.2⟩
theorem RfO.app {w : World} {B : Nat} {v : Value} {l : List (List Int × Nat)} (h : RfO w B v l) (hb : B ≤ w.heap.size) (b : Nat) (k : List Int) (n : Nat) (hx : w.heap[b]? = some (.cells #[.string (str k), .int .i64 (n : Int)] 45 (0, 0))) (hn : l.length ≤ 1073741824) (ty : TypeId) :
  ∃ v' w', (Builtin.append_ #[22, 22] ty #[v, .slice (some ⟨b, 0, none⟩) 1 1]).run Tryd.prog w = .ok v' w' ∧ RfO w' B v' (l ++ [(k, n)]) ∧ Chg (fun g => v.ownBlock = some g) w w' ∧ OwnTo w v v' := by
 obtain ⟨i, hi, ⟨z, hz, rfl⟩, hs, hby⟩ := infoRe
 obtain ⟨v', w', r1, r2, r3, -, r5⟩ := run_append_own_at (P := Tryd.prog) w B 22 ty 45 i _ 2 i.bytes Tryd.underlying22 hi hz hs rfl rfl (by decide) v l.length (rfL l) h ⟨b, 0, none⟩ 1 1 [.string (str k), .int .i64 (n : Int)] rfl (by
  intro j u hj
  rw [Addr.add_mid, cell_of_row _ b _ _ _ _ hx]
  rw [Nat.zero_add]
  simpa using hj) (by intro u hu; simp only [List.mem_cons, List.not_mem_nil, or_false] at hu; rcases hu with rfl | rfl <;> rfl) (by unfold maxLen; omega) (by
  have : (l.length + 1) * i.bytes ≤ (l.length + 1) * 64 := Nat.mul_le_mul_left _ hby
  omega) hb
 refine ⟨v', w', r1, by unfold RfO; rw [List.length_append, rfL_snoc]; exact r2, Chg.grown r3 (fun k hk => hk), fun g hg => ?_⟩
 rcases r5 with h5 | h5
 ·exact .inl (by rw [← h5]; exact hg)
 ·rw [h5] at hg; injection hg with hg; exact .inr (by omega)
theorem RfO.lt {w : World} {B : Nat} {v : Value} {l : List (List Int × Nat)} (h : RfO w B v l) : ∀ g, v.ownBlock = some g → B ≤ g ∧ g < w.heap.size := World.ownsRow.lt h
theorem wpList_append_re {ops : Array Oper} {rest : List Oper} {o : Oper} {a : Act} {w : World} {Q : Exit → Act → World → Prop} (hgd : o.guard = none) (s x : Operand)
  (ho : o.op = .call { callee := .builtin .append, args := #[s, x], argTypes := #[22, 22] }) (B : Nat) (v : Value) (l : List (List Int × Nat)) (hs : a.eval s = v) (hown : RfO w B v l) (b : Nat) (k : List Int) (n : Nat) (hx : a.eval x = .slice (some ⟨b, 0, none⟩) 1 1) (hxb : w.heap[b]? = some (.cells #[.string (str k), .int .i64 (n : Int)] 45 (0, 0))) (hn : l.length ≤ 1073741824) (hbase : B ≤ w.heap.size)
  (h : ∀ a' c' w', RfO w' B (.slice a' (l.length + 1) c') (l ++ [(k, n)]) → Below B w w' → wpList Tryd.prog ops Q rest (a.put o.dst (.slice a' (l.length + 1) c')) w') : wpList Tryd.prog ops Q (o :: rest) a w := by
 obtain ⟨v', w', h1, h2, h3, h4⟩ := hown.app hbase b k n hxb hn o.type
 obtain ⟨a', c', rfl⟩ := h2.slc
 rw [List.length_append, List.length_cons, List.length_nil, Nat.zero_add] at *
 refine wpList_plain hgd fun K hK => ?_
 unfold Oper.wp
 simp [execOp, ho, resolve, invoke, builtin, hs, hx, h1, Result.andThen]
 exact hK _ _ (h a' c' w' h2 (h3.below (fun q hq => (hown.lt q hq).1) hbase))
end Go.Proofs.YtmejjjkbbkgioaaDoor
/- stage 7: Set of the reference -/
namespace Go.Proofs.YtmejjjkbbkgioaaDoor
open Go.RowKit
set_option maxRecDepth 100000 in
set_option maxHeartbeats 8000000 in
theorem refSet_any (w : World) (v : Value) (es : List (List Int × Nat)) (key : List Int) (cnt : Nat) (hv : RfS w v (es.map toI)) (hes : ∀ x ∈ es, Rng x.1) (gk : Rng key) (hn : es.length ≤ 1048576) :
  Calls Tryd.prog 21 #[v, .string (str key), .int .i64 (cnt : Int)] w fun d w' => ∃ v', d = .returned v' ∧ RfO w' w.heap.size v' (rSet key cnt es false) ∧ Below w.heap.size w w' := by
 have HV := Lib.hid hv
 obtain ⟨av, cv, rfl, -⟩ := hv
 rw [List.length_map] at *
 have HES := Lib.hid hes
 generalize hR : rSet key cnt es false = R at *
 have HR0 := Lib.hid hR
 clear hes hR
 go_enter Tryd.func21, Tryd.ntmps21
 go_wp2_with fail
 go_loopw [7, 8, 9] (fun ov dv iv wr => ∃ (j : Nat) (acc : List (List Int × Nat)) (done : Bool), j ≤ es.length ∧ RfO wr w.heap.size ov acc ∧ dv = .bool done ∧ iv = .int .i64 (j : Int) ∧ acc ++ rSet key cnt (es.drop j) done = R ∧ Below w.heap.size w wr ∧ acc.length ≤ 2 * j) (fun _ _ iv _ => es.length - (intOf iv).toNat)
 case atStart => exact ⟨0, [], false, Nat.zero_le _, ⟨rfl, .inr ⟨w.heap.size, 0, #[], rfl, Nat.le_refl _, heap_alloc_new _ _, Nat.le_refl _, Nat.zero_le _, rfl, rfl⟩⟩, rfl, rfl, HR0.out, (Below.refl _ _).alloc (Nat.le_refl _) _, Nat.zero_le _⟩
 case round =>
  obtain ⟨j, acc, done, hj, hro, rfl, rfl, hacc, hbw, hlen⟩ := hrel
  obtain ⟨ao, co, rfl⟩ := hro.slc
  by_cases hjl : j < es.length
  ·have hx : es[j]? = some (es[j]'hjl) := List.getElem?_eq_getElem hjl
   have hdr : es.drop j = es[j]'hjl :: es.drop (j + 1) := List.drop_eq_getElem_cons hjl
   generalize es[j]'hjl = x at hx hdr
   rw [hdr] at hacc
   obtain ⟨a', c', he, hall⟩ := HV.out
   injection he with e1 e0 e2
   clear e0
   subst e1 e2
   obtain ⟨g, o, hag, hgl, hc0, hc1⟩ := hall j (toI x) (by rw [List.getElem?_map, hx]; rfl)
   subst hag
   have c0 : wr.cell? ⟨g, o + j * 2, none⟩ = some (.string (str x.1)) := (World.cell?_of_block (a := ⟨g, o + j * 2, none⟩) (hbw.block g hgl)).trans hc0
   have c1 : wr.cell? ⟨g, o + j * 2 + 1, none⟩ = some (.int .i64 (x.2 : Int)) := (World.cell?_of_block (a := ⟨g, o + j * 2 + 1, none⟩) (hbw.block g hgl)).trans hc1
   have hj0 : (0 : Int) ≤ (j : Int) := by omega
   have hj1 : (j : Int) < (es.length : Int) := by omega
   have HX := Lib.hid (And.intro hjl (And.intro hx (And.intro (HES.out x (List.mem_of_getElem? hx)) (And.intro hro hbw))))
   have HLN := Lib.hid hlen
   have HGL := Lib.hid hgl
   have hbl := bl HX.out.2.2.1 gk
   unfold rSet at hacc
   clear hro hbw hlen hx hdr hall hc0 hc1 hjl hgl hj
   cases done with
   | true =>
    have HR := Lib.hid hacc
    clear hacc hbl
    rw [if_neg (by simp), Bool.true_or, List.nil_append] at HR
    by_cases ck : x.1 = key
    ·have hq : ((str x.1).toList == (str key).toList) = true := by rw [str_beq HX.out.2.2.1 gk]; exact decide_eq_true ck
     have HT := Lib.hid (show acc ++ rSet key cnt (es.drop (j + 1)) true = R from by
      rw [← HR.out]
      simp [ck])
     clear ck
     go_wp2_with fail
     go_roundw
     case rel => exact ⟨j + 1, acc, true, HX.out.1, HX.out.2.2.2.1, rfl, by go_num, HT.out, HX.out.2.2.2.2, by have := HLN.out; simp; omega⟩
     case measure => have := HX.out.1; simp [intOf]; omega
    ·have hq : ((str x.1).toList == (str key).toList) = false := by rw [str_beq HX.out.2.2.1 gk]; exact decide_eq_false ck
     have HT := Lib.hid (show (acc ++ [x]) ++ rSet key cnt (es.drop (j + 1)) true = R from by
      rw [← HR.out]
      simp [ck])
     clear ck
     go_wp2_with (at_builtin; refine wpList_append_re (o := ⟨some 49, _, _, _, _, _⟩) rfl (Operand.tmp 43) (Operand.tmp 48) rfl w.heap.size _ (acc) rfl (HX.out.2.2.2.1.below ((Below.refl _ _).alloc (Nat.le_refl _) _)) wr.heap.size x.1 x.2 rfl (heap_alloc_new _ _) (by have := HLN.out; simp; omega) (by have := HX.out.2.2.2.2.size; have := World.size_alloc (w := wr); simp; omega) ?_; intro a9 c9 w9 hr9 hb9; have H9 := Lib.hid (And.intro hr9 hb9); clear hr9 hb9)
     go_roundw
     case rel => exact ⟨j + 1, acc ++ [x], true, HX.out.1, H9.out.1, rfl, by go_num, HT.out, (HX.out.2.2.2.2.alloc HX.out.2.2.2.2.size _).trans (H9.out.2), by have := HLN.out; simp; omega⟩
     case measure => have := HX.out.1; simp [intOf]; omega
   | false =>
    by_cases c : cmpI x.1 key < 0
    ·rw [decide_eq_true c] at hbl
     rw [if_neg (by simp [c]), List.nil_append, decide_eq_true c] at hacc
     have HR := Lib.hid (show acc ++ ((if x.1 = key then [] else [x]) ++ rSet key cnt (es.drop (j + 1)) false) = R from hacc)
     clear hacc c
     by_cases ck : x.1 = key
     ·have hq : ((str x.1).toList == (str key).toList) = true := by rw [str_beq HX.out.2.2.1 gk]; exact decide_eq_true ck
      have HT := Lib.hid (show acc ++ rSet key cnt (es.drop (j + 1)) false = R from by
       rw [← HR.out]
       simp [ck])
      clear ck
      go_wp2_with fail
      go_roundw
      case rel => exact ⟨j + 1, acc, false, HX.out.1, HX.out.2.2.2.1, rfl, by go_num, HT.out, HX.out.2.2.2.2, by have := HLN.out; simp; omega⟩
      case measure => have := HX.out.1; simp [intOf]; omega
     ·have hq : ((str x.1).toList == (str key).toList) = false := by rw [str_beq HX.out.2.2.1 gk]; exact decide_eq_false ck
      have HT := Lib.hid (show (acc ++ [x]) ++ rSet key cnt (es.drop (j + 1)) false = R from by
       rw [← HR.out]
       simp [ck])
      clear ck
      go_wp2_with (at_builtin; refine wpList_append_re (o := ⟨some 49, _, _, _, _, _⟩) rfl (Operand.tmp 43) (Operand.tmp 48) rfl w.heap.size _ (acc) rfl (HX.out.2.2.2.1.below ((Below.refl _ _).alloc (Nat.le_refl _) _)) wr.heap.size x.1 x.2 rfl (heap_alloc_new _ _) (by have := HLN.out; simp; omega) (by have := HX.out.2.2.2.2.size; have := World.size_alloc (w := wr); simp; omega) ?_; intro a9 c9 w9 hr9 hb9; have H9 := Lib.hid (And.intro hr9 hb9); clear hr9 hb9)
      go_roundw
      case rel => exact ⟨j + 1, acc ++ [x], false, HX.out.1, H9.out.1, rfl, by go_num, HT.out, (HX.out.2.2.2.2.alloc HX.out.2.2.2.2.size _).trans (H9.out.2), by have := HLN.out; simp; omega⟩
      case measure => have := HX.out.1; simp [intOf]; omega
    ·rw [decide_eq_false c] at hbl
     by_cases hc : 0 < cnt
     ·rw [if_pos ⟨rfl, c, hc⟩, decide_eq_false c] at hacc
      have HR := Lib.hid (show (acc ++ [(key, cnt)]) ++ ((if x.1 = key then [] else [x]) ++ rSet key cnt (es.drop (j + 1)) true) = R from by rw [← hacc]; simp)
      have hcn : ((cnt : Int)) > 0 := by omega
      have hcn2 : (0 : Int) < (cnt : Int) := by omega
      clear hacc c hc
      by_cases ck : x.1 = key
      ·have hq : ((str x.1).toList == (str key).toList) = true := by rw [str_beq HX.out.2.2.1 gk]; exact decide_eq_true ck
       have HT := Lib.hid (show (acc ++ [(key, cnt)]) ++ rSet key cnt (es.drop (j + 1)) true = R from by
        rw [← HR.out]
        simp [ck])
       clear ck
       go_wp2_with (at_builtin; refine wpList_append_re (o := ⟨some 35, _, _, _, _, _⟩) rfl (Operand.tmp 30) (Operand.tmp 34) rfl w.heap.size _ acc rfl (HX.out.2.2.2.1.below ((Below.refl _ _).alloc (Nat.le_refl _) _)) wr.heap.size key cnt rfl (heap_alloc_new _ _) (by have := HLN.out; have := HX.out.1; omega) (by have := HX.out.2.2.2.2.size; simp; omega) ?_; intro a8 c8 w8 hr8 hb8; have hb8' := (HX.out.2.2.2.2.alloc HX.out.2.2.2.2.size (.cells #[.string (str key), .int .i64 (cnt : Int)] 45)).trans hb8; have H8 := Lib.hid (And.intro hr8 hb8'); have c0 := (World.cell?_of_block (a := ⟨g, o + j * 2, none⟩) ((hb8'.block g HGL.out).trans (HX.out.2.2.2.2.block g HGL.out).symm)).trans c0; have c1 := (World.cell?_of_block (a := ⟨g, o + j * 2 + 1, none⟩) ((hb8'.block g HGL.out).trans (HX.out.2.2.2.2.block g HGL.out).symm)).trans c1; clear hr8 hb8 hb8')
       go_roundw
       case rel => exact ⟨j + 1, acc ++ [(key, cnt)], true, HX.out.1, H8.out.1, rfl, by go_num, HT.out, H8.out.2, by have := HLN.out; simp; omega⟩
       case measure => have := HX.out.1; simp [intOf]; omega
      ·have hq : ((str x.1).toList == (str key).toList) = false := by rw [str_beq HX.out.2.2.1 gk]; exact decide_eq_false ck
       have HT := Lib.hid (show ((acc ++ [(key, cnt)]) ++ [x]) ++ rSet key cnt (es.drop (j + 1)) true = R from by
        rw [← HR.out]
        simp [ck])
       have hal : (acc ++ [(key, cnt)]).length = acc.length + 1 := by simp
       have HAL := Lib.hid hal
       clear ck hal
       go_wp2_with (first
        | (at_builtin; refine wpList_append_re (o := ⟨some 35, _, _, _, _, _⟩) rfl (Operand.tmp 30) (Operand.tmp 34) rfl w.heap.size _ acc rfl (HX.out.2.2.2.1.below ((Below.refl _ _).alloc (Nat.le_refl _) _)) wr.heap.size key cnt rfl (heap_alloc_new _ _) (by have := HLN.out; have := HX.out.1; omega) (by have := HX.out.2.2.2.2.size; simp; omega) ?_; intro a8 c8 w8 hr8 hb8; have hb8' := (HX.out.2.2.2.2.alloc HX.out.2.2.2.2.size (.cells #[.string (str key), .int .i64 (cnt : Int)] 45)).trans hb8; have H8 := Lib.hid (And.intro hr8 hb8'); have c0 := (World.cell?_of_block (a := ⟨g, o + j * 2, none⟩) ((hb8'.block g HGL.out).trans (HX.out.2.2.2.2.block g HGL.out).symm)).trans c0; have c1 := (World.cell?_of_block (a := ⟨g, o + j * 2 + 1, none⟩) ((hb8'.block g HGL.out).trans (HX.out.2.2.2.2.block g HGL.out).symm)).trans c1; clear hr8 hb8 hb8')
        | (at_builtin; refine wpList_append_re (o := ⟨some 49, _, _, _, _, _⟩) rfl (Operand.tmp 43) (Operand.tmp 48) rfl w.heap.size _ (acc ++ [(key, cnt)]) rfl (H8.out.1.below ((Below.refl _ _).alloc (Nat.le_refl _) _)) w8.heap.size x.1 x.2 rfl (heap_alloc_new _ _) (by have := HLN.out; have := HX.out.1; simp; omega) (by have := H8.out.2.size; simp; omega) ?_; intro a9 c9 w9 hr9 hb9; have H9 := Lib.hid (And.intro hr9 ((H8.out.2.alloc H8.out.2.size (.cells #[.string (str x.1), .int .i64 (x.2 : Int)] 45)).trans hb9)); clear hr9 hb9))
       go_roundw
       case rel =>
        have h9 := H9.out.1
        rw [HAL.out] at h9
        exact ⟨j + 1, (acc ++ [(key, cnt)]) ++ [x], true, HX.out.1, h9, rfl, by go_num, HT.out, H9.out.2, by have := HLN.out; simp; omega⟩
       case measure => have := HX.out.1; simp [intOf]; omega
     ·rw [if_neg (by omega), decide_eq_false c] at hacc
      have HR := Lib.hid (show acc ++ ((if x.1 = key then [] else [x]) ++ rSet key cnt (es.drop (j + 1)) true) = R from by rw [← hacc]; simp)
      have hcn : ¬ ((cnt : Int)) > 0 := by omega
      have hcn2 : ¬ (0 : Int) < (cnt : Int) := by omega
      clear hacc c hc
      by_cases ck : x.1 = key
      ·have hq : ((str x.1).toList == (str key).toList) = true := by rw [str_beq HX.out.2.2.1 gk]; exact decide_eq_true ck
       have HT := Lib.hid (show acc ++ rSet key cnt (es.drop (j + 1)) true = R from by
        rw [← HR.out]
        simp [ck])
       clear ck
       go_wp2_with fail
       go_roundw
       case rel => exact ⟨j + 1, acc, true, HX.out.1, HX.out.2.2.2.1, rfl, by go_num, HT.out, HX.out.2.2.2.2, by have := HLN.out; simp; omega⟩
       case measure => have := HX.out.1; simp [intOf]; omega
      ·have hq : ((str x.1).toList == (str key).toList) = false := by rw [str_beq HX.out.2.2.1 gk]; exact decide_eq_false ck
       have HT := Lib.hid (show (acc ++ [x]) ++ rSet key cnt (es.drop (j + 1)) true = R from by
        rw [← HR.out]
        simp [ck])
       clear ck
       go_wp2_with (at_builtin; refine wpList_append_re (o := ⟨some 49, _, _, _, _, _⟩) rfl (Operand.tmp 43) (Operand.tmp 48) rfl w.heap.size _ (acc) rfl (HX.out.2.2.2.1.below ((Below.refl _ _).alloc (Nat.le_refl _) _)) wr.heap.size x.1 x.2 rfl (heap_alloc_new _ _) (by have := HLN.out; simp; omega) (by have := HX.out.2.2.2.2.size; have := World.size_alloc (w := wr); simp; omega) ?_; intro a9 c9 w9 hr9 hb9; have H9 := Lib.hid (And.intro hr9 hb9); clear hr9 hb9)
       go_roundw
       case rel => exact ⟨j + 1, acc ++ [x], true, HX.out.1, H9.out.1, rfl, by go_num, HT.out, (HX.out.2.2.2.2.alloc HX.out.2.2.2.2.size _).trans (H9.out.2), by have := HLN.out; simp; omega⟩
       case measure => have := HX.out.1; simp [intOf]; omega
  ·have hj2 : j = es.length := by omega
   subst hj2
   rw [List.drop_length] at hacc
   have HX := Lib.hid (And.intro hro hbw)
   have HLN := Lib.hid hlen
   unfold rSet at hacc
   clear hro hbw hlen
   cases done with
   | true =>
    rw [if_neg (by simp), List.append_nil] at hacc
    have HR := Lib.hid hacc
    clear hacc
    go_wp2_with fail
    go_ret
    exact ⟨_, rfl, by rw [← HR.out]; exact HX.out.1, HX.out.2⟩
   | false =>
    by_cases hc : 0 < cnt
    ·rw [if_pos ⟨rfl, hc⟩] at hacc
     have HR := Lib.hid hacc
     have hcn : ((cnt : Int)) > 0 := by omega
     have hcn2 : (0 : Int) < (cnt : Int) := by omega
     clear hacc hc
     go_wp2_with (at_builtin; refine wpList_append_re (o := ⟨some 61, _, _, _, _, _⟩) rfl (Operand.tmp 56) (Operand.tmp 60) rfl w.heap.size _ acc rfl (HX.out.1.below ((Below.refl _ _).alloc (Nat.le_refl _) _)) wr.heap.size key cnt rfl (heap_alloc_new _ _) (by have := HLN.out; omega) (by have := HX.out.2.size; simp; omega) ?_; intro a8 c8 w8 hr8 hb8; have H8 := Lib.hid (And.intro hr8 ((HX.out.2.alloc HX.out.2.size (.cells #[.string (str key), .int .i64 (cnt : Int)] 45)).trans hb8)); clear hr8 hb8)
     go_ret
     exact ⟨_, rfl, by rw [← HR.out]; exact H8.out.1, H8.out.2⟩
    ·rw [if_neg (by omega), List.append_nil] at hacc
     have HR := Lib.hid hacc
     have hcn : ¬ ((cnt : Int)) > 0 := by omega
     have hcn2 : ¬ (0 : Int) < (cnt : Int) := by omega
     clear hacc hc
     go_wp2_with fail
     go_ret
     exact ⟨_, rfl, by rw [← HR.out]; exact HX.out.1, HX.out.2⟩
end Go.Proofs.YtmejjjkbbkgioaaDoor
/- stage 7: the law's in, back; Same of the reference -/
namespace Go.Proofs.YtmejjjkbbkgioaaDoor
open Go.RowKit
set_option maxRecDepth 100000 in
set_option maxHeartbeats 8000000 in
theorem lawIn_any (w0 : World) (v : Value) (es : List (List Int × Nat)) (fr to : List Int) (e : Bool) (hv : RfS w0 v (es.map toI)) (hes : ∀ x ∈ es, Rng x.1) (gf : Rng fr) (gt : Rng to) (hn : es.length ≤ 1048576) :
  Calls Tryd.prog 24 #[v, .agg #[.string (str fr), .string (str to), .bool e]] w0 fun d w' => ∃ v', d = .returned v' ∧ RfO w' w0.heap.size v' (es.filter (fun x => hasQ fr to e x.1)) ∧ Below w0.heap.size w0 w' := by
 have hb0 : Below w0.heap.size w0 (w0.alloc (.cells #[.string (str fr), .string (str to), .bool e] 24)) := (Below.refl _ _).alloc (Nat.le_refl _) _
 have hx0 := heap_alloc_new w0 (.cells #[.string (str fr), .string (str to), .bool e] 24)
 have HV := Lib.hid (hv.below hb0)
 obtain ⟨av, cv, rfl, -⟩ := hv
 rw [List.length_map] at *
 have HES := Lib.hid hes
 generalize hR : es.filter (fun x => hasQ fr to e x.1) = R at *
 have HR0 := Lib.hid hR
 have hwz : w0.heap.size < (w0.alloc (.cells #[.string (str fr), .string (str to), .bool e] 24)).heap.size := blk_lt hx0
 generalize hW : w0.alloc (.cells #[.string (str fr), .string (str to), .bool e] 24) = w at *
 have HB0 := Lib.hid hb0
 have HX0 := Lib.hid hx0
 clear hes hR hb0 hx0
 go_enter Tryd.func24, Tryd.ntmps24
 go_wp2_with fail
 go_loopw [5, 6] (fun ov iv wr => ∃ (j : Nat) (acc : List (List Int × Nat)), j ≤ es.length ∧ RfO wr w.heap.size ov acc ∧ iv = .int .i64 (j : Int) ∧ acc ++ (es.drop j).filter (fun x => hasQ fr to e x.1) = R ∧ Below w.heap.size w wr ∧ acc.length ≤ j) (fun _ iv _ => es.length - (intOf iv).toNat)
 case atStart => exact ⟨0, [], Nat.zero_le _, ⟨rfl, .inr ⟨w.heap.size, 0, #[], rfl, Nat.le_refl _, heap_alloc_new _ _, Nat.le_refl _, Nat.zero_le _, rfl, rfl⟩⟩, rfl, HR0.out, (Below.refl _ _).alloc (Nat.le_refl _) _, Nat.le_refl _⟩
 case round =>
  obtain ⟨j, acc, hj, hro, rfl, hacc, hbw, hlen⟩ := hrel
  obtain ⟨ao, co, rfl⟩ := hro.slc
  by_cases hjl : j < es.length
  ·have hx : es[j]? = some (es[j]'hjl) := List.getElem?_eq_getElem hjl
   have hdr : es.drop j = es[j]'hjl :: es.drop (j + 1) := List.drop_eq_getElem_cons hjl
   generalize es[j]'hjl = x at hx hdr
   rw [hdr, List.filter_cons] at hacc
   obtain ⟨a', c', he, hall⟩ := HV.out
   injection he with e1 e0 e2
   clear e0
   subst e1 e2
   obtain ⟨g, o, hag, hgl, hc0, hc1⟩ := hall j (toI x) (by rw [List.getElem?_map, hx]; rfl)
   subst hag
   have c0 : wr.cell? ⟨g, o + j * 2, none⟩ = some (.string (str x.1)) := (World.cell?_of_block (a := ⟨g, o + j * 2, none⟩) (hbw.block g hgl)).trans hc0
   have c1 : wr.cell? ⟨g, o + j * 2 + 1, none⟩ = some (.int .i64 (x.2 : Int)) := (World.cell?_of_block (a := ⟨g, o + j * 2 + 1, none⟩) (hbw.block g hgl)).trans hc1
   have hxw := (hbw.block _ (blk_lt HX0.out)).trans HX0.out
   have c2 : wr.cell? ⟨w0.heap.size, 0, none⟩ = some (.string (str fr)) := cell_of_row _ _ 0 _ _ _ hxw
   have c3 : wr.cell? ⟨w0.heap.size, 1, none⟩ = some (.string (str to)) := cell_of_row _ _ 1 _ _ _ hxw
   have c4 : wr.cell? ⟨w0.heap.size, 2, none⟩ = some (.bool e) := cell_of_row _ _ 2 _ _ _ hxw
   have hj0 : (0 : Int) ≤ (j : Int) := by omega
   have hj1 : (j : Int) < (es.length : Int) := by omega
   have HIN := Lib.hid (fun u => refIn_any u x.1 fr to e (HES.out x (List.mem_of_getElem? hx)) gf gt)
   have HC := Lib.hid (fun u (hu : Below w.heap.size w u) => (show u.cell? ⟨g, o + j * 2, none⟩ = some (.string (str x.1)) ∧ u.cell? ⟨w0.heap.size, 0, none⟩ = some (.string (str fr)) ∧ u.cell? ⟨w0.heap.size, 1, none⟩ = some (.string (str to)) ∧ u.cell? ⟨w0.heap.size, 2, none⟩ = some (.bool e) from
    have hxu := (hu.block _ (blk_lt HX0.out)).trans HX0.out
    ⟨(World.cell?_of_block (a := ⟨g, o + j * 2, none⟩) (hu.block g hgl)).trans hc0, cell_of_row _ _ 0 _ _ _ hxu, cell_of_row _ _ 1 _ _ _ hxu, cell_of_row _ _ 2 _ _ _ hxu⟩))
   have HCD := Lib.hid (show wr.drew.cell? ⟨g, o + j * 2, none⟩ = some (.string (str x.1)) ∧ wr.drew.cell? ⟨g, o + j * 2 + 1, none⟩ = some (.int .i64 (x.2 : Int)) from ⟨c0, c1⟩)
   clear c0 c1 c2 c3 c4
   have hb := hbw.drew
   have HX := Lib.hid (And.intro hjl (And.intro hro hbw))
   have HLN := Lib.hid hlen
   clear hro hbw hlen hx hdr hall hc0 hc1 hjl hgl hj hxw
   go_wp2_with fail
   refine wp_region_held_drew (S := fun u => Below w.heap.size w u) (by kernel_rfl) (hb) (fun hHeld => ?_)
   refine wpAnyH_take (i := 0) (oi := ({ dst := some 15, op := .move (.tmp 0), type := 22, pos := "law.go:133", after := #[], guard := none } : Oper)) (v := ?_) rfl (by kernel_rfl) (by kernel_rfl) (by kernel_rfl) (fun _ _ _ h => h) (Or.inl ⟨by rfl, ?_⟩) (by assumption) ?_
   rotate_left 1
   ·(intro u hSw; go_simp; try with_reducible rfl)
   try simp only [Act.put, List.setIfInBounds_toArray, List.set_cons_zero, List.set_cons_succ]
   refine wpAnyH_take (i := 1) (oi := ({ dst := some 16, op := .move (.tmp 6), type := 3, pos := "law.go:133", after := #[], guard := none } : Oper)) (v := ?_) rfl (by kernel_rfl) (by kernel_rfl) (by kernel_rfl) (fun _ _ _ h => h) (Or.inl ⟨by rfl, ?_⟩) (by assumption) ?_
   rotate_left 1
   ·(intro u hSw; go_simp; try with_reducible rfl)
   try simp only [Act.put, List.setIfInBounds_toArray, List.set_cons_zero, List.set_cons_succ]
   refine wpAnyH_take (i := 2) (oi := ({ dst := some 17, op := .indexAddr 22 (.tmp 15) (.tmp 16), type := 0, pos := "law.go:133", after := #[{ on := 0, ground := .data }, { on := 1, ground := .data }], guard := none } : Oper)) (v := ?_) rfl (by kernel_rfl) (by kernel_rfl) (by kernel_rfl) (fun _ _ _ h => h) (Or.inl ⟨by rfl, ?_⟩) (by assumption) ?_
   rotate_left 1
   ·(intro u hSw; go_simp; try with_reducible rfl)
   try simp only [Act.put, List.setIfInBounds_toArray, List.set_cons_zero, List.set_cons_succ]
   refine wpAnyH_take (i := 3) (oi := ({ dst := some 18, op := .fieldAddr 45 (.tmp 17) 0, type := 0, pos := "law.go:133", after := #[{ on := 2, ground := .data }], guard := none } : Oper)) (v := ?_) rfl (by kernel_rfl) (by kernel_rfl) (by kernel_rfl) (fun _ _ _ h => h) (Or.inl ⟨by rfl, ?_⟩) (by assumption) ?_
   rotate_left 1
   ·(intro u hSw; go_simp; try with_reducible rfl)
   try simp only [Act.put, List.setIfInBounds_toArray, List.set_cons_zero, List.set_cons_succ]
   refine wpAnyH_take (i := 4) (oi := ({ dst := some 19, op := .load 9 (.tmp 18), type := 9, pos := "law.go:133", after := #[{ on := 3, ground := .data }], guard := none } : Oper)) (v := ?_) rfl (by kernel_rfl) (by kernel_rfl) (by kernel_rfl) (fun _ _ _ h => h) (Or.inl ⟨by rfl, ?_⟩) (by assumption) ?_
   rotate_left 1
   ·(intro u hSw; have y0 := (HC.out _ hSw).1; have y1 := (HC.out _ hSw).2.1; have y2 := (HC.out _ hSw).2.2.1; have y3 := (HC.out _ hSw).2.2.2; go_simp; try with_reducible rfl)
   try simp only [Act.put, List.setIfInBounds_toArray, List.set_cons_zero, List.set_cons_succ]
   refine wpAnyH_take (i := 5) (oi := ({ dst := some 20, op := .fieldAddr 24 (.tmp 3) 0, type := 0, pos := "law.go:133", after := #[], guard := none } : Oper)) (v := ?_) rfl (by kernel_rfl) (by kernel_rfl) (by kernel_rfl) (fun _ _ _ h => h) (Or.inl ⟨by rfl, ?_⟩) (by assumption) ?_
   rotate_left 1
   ·(intro u hSw; go_simp; try with_reducible rfl)
   try simp only [Act.put, List.setIfInBounds_toArray, List.set_cons_zero, List.set_cons_succ]
   refine wpAnyH_take (i := 6) (oi := ({ dst := some 21, op := .load 9 (.tmp 20), type := 9, pos := "law.go:133", after := #[{ on := 5, ground := .data }], guard := none } : Oper)) (v := ?_) rfl (by kernel_rfl) (by kernel_rfl) (by kernel_rfl) (fun _ _ _ h => h) (Or.inl ⟨by rfl, ?_⟩) (by assumption) ?_
   rotate_left 1
   ·(intro u hSw; have y0 := (HC.out _ hSw).1; have y1 := (HC.out _ hSw).2.1; have y2 := (HC.out _ hSw).2.2.1; have y3 := (HC.out _ hSw).2.2.2; go_simp; try with_reducible rfl)
   try simp only [Act.put, List.setIfInBounds_toArray, List.set_cons_zero, List.set_cons_succ]
   refine wpAnyH_take (i := 7) (oi := ({ dst := some 22, op := .fieldAddr 24 (.tmp 3) 1, type := 0, pos := "law.go:133", after := #[], guard := none } : Oper)) (v := ?_) rfl (by kernel_rfl) (by kernel_rfl) (by kernel_rfl) (fun _ _ _ h => h) (Or.inl ⟨by rfl, ?_⟩) (by assumption) ?_
   rotate_left 1
   ·(intro u hSw; go_simp; try with_reducible rfl)
   try simp only [Act.put, List.setIfInBounds_toArray, List.set_cons_zero, List.set_cons_succ]
   refine wpAnyH_take (i := 8) (oi := ({ dst := some 23, op := .load 9 (.tmp 22), type := 9, pos := "law.go:133", after := #[{ on := 7, ground := .data }], guard := none } : Oper)) (v := ?_) rfl (by kernel_rfl) (by kernel_rfl) (by kernel_rfl) (fun _ _ _ h => h) (Or.inl ⟨by rfl, ?_⟩) (by assumption) ?_
   rotate_left 1
   ·(intro u hSw; have y0 := (HC.out _ hSw).1; have y1 := (HC.out _ hSw).2.1; have y2 := (HC.out _ hSw).2.2.1; have y3 := (HC.out _ hSw).2.2.2; go_simp; try with_reducible rfl)
   try simp only [Act.put, List.setIfInBounds_toArray, List.set_cons_zero, List.set_cons_succ]
   refine wpAnyH_take (i := 9) (oi := ({ dst := some 24, op := .fieldAddr 24 (.tmp 3) 2, type := 0, pos := "law.go:133", after := #[], guard := none } : Oper)) (v := ?_) rfl (by kernel_rfl) (by kernel_rfl) (by kernel_rfl) (fun _ _ _ h => h) (Or.inl ⟨by rfl, ?_⟩) (by assumption) ?_
   rotate_left 1
   ·(intro u hSw; go_simp; try with_reducible rfl)
   try simp only [Act.put, List.setIfInBounds_toArray, List.set_cons_zero, List.set_cons_succ]
   refine wpAnyH_take (i := 10) (oi := ({ dst := some 25, op := .load 4 (.tmp 24), type := 4, pos := "law.go:133", after := #[{ on := 9, ground := .data }], guard := none } : Oper)) (v := ?_) rfl (by kernel_rfl) (by kernel_rfl) (by kernel_rfl) (fun _ _ _ h => h) (Or.inl ⟨by rfl, ?_⟩) (by assumption) ?_
   rotate_left 1
   ·(intro u hSw; have y0 := (HC.out _ hSw).1; have y1 := (HC.out _ hSw).2.1; have y2 := (HC.out _ hSw).2.2.1; have y3 := (HC.out _ hSw).2.2.2; go_simp; try with_reducible rfl)
   try simp only [Act.put, List.setIfInBounds_toArray, List.set_cons_zero, List.set_cons_succ]
   refine wpAnyH_ready (rs := [11]) (by kernel_rfl) (by simp) ?_
   refine (AllReadyH.cons (o := ({ dst := some 26, op := .call { callee := Callee.value (Operand.func 43), args := #[.tmp 19, .tmp 21, .tmp 23, .tmp 25], argTypes := #[9, 9, 9, 4] }, type := 4, pos := "law.go:133", after := #[{ on := 4, ground := .data }, { on := 6, ground := .data }, { on := 8, ground := .data }, { on := 10, ground := .data }], guard := none } : Oper)) rfl (fun K hK => ?_) AllReadyH.nil)
   go_simp
   refine (HIN.out _).mono ?_
   rintro d w9 ⟨rfl, rfl⟩
   go_wp2_with fail
   refine hK.out _ _ hb (fun hHeld => ?_)
   clear hK K
   try simp only [Act.put, List.setIfInBounds_toArray, List.set_cons_zero, List.set_cons_succ]
   refine wpAnyH_take (i := 12) (oi := ({ dst := some 7, op := .assign (.tmp 26), type := 4, pos := "law.go:133", after := #[{ on := 11, ground := .data }, { on := 11, ground := .chain }, { on := 0, ground := .phase }, { on := 1, ground := .phase }, { on := 2, ground := .phase }, { on := 3, ground := .phase }, { on := 4, ground := .phase }, { on := 5, ground := .phase }, { on := 6, ground := .phase }, { on := 7, ground := .phase }, { on := 8, ground := .phase }, { on := 9, ground := .phase }, { on := 10, ground := .phase }, { on := 11, ground := .phase }], guard := none } : Oper)) (v := ?_) rfl (by kernel_rfl) (by kernel_rfl) (by kernel_rfl) (fun _ _ _ h => h) (Or.inl ⟨by rfl, ?_⟩) (by assumption) ?_
   rotate_left 1
   ·(intro u hSw; go_simp; try with_reducible rfl)
   try simp only [Act.put, List.setIfInBounds_toArray, List.set_cons_zero, List.set_cons_succ]
   refine wpAnyH_done (by kernel_rfl) ?_ _
   clear HIN hb HC
   have HX := Lib.hid (show j < es.length ∧ RfO wr.drew w.heap.size (.slice ao acc.length co) acc ∧ Below w.heap.size w wr.drew from ⟨HX.out.1, HX.out.2.1, HX.out.2.2.drew⟩)
   have c0 := HCD.out.1
   have c1 := HCD.out.2
   clear HCD
   generalize World.drew wr = w9 at *
   generalize hasQ fr to e x.1 = q at *
   clear hHeld
   cases q with
   | false =>
    have HR := Lib.hid (show acc ++ (es.drop (j + 1)).filter (fun x => hasQ fr to e x.1) = R from by rw [← hacc]; simp)
    clear hacc
    go_wp2_with fail
    go_roundw
    case rel => exact ⟨j + 1, acc, HX.out.1, HX.out.2.1, by go_num, HR.out, HX.out.2.2, by have := HLN.out; omega⟩
    case measure => have := HX.out.1; simp [intOf]; omega
   | true =>
    have HR := Lib.hid (show (acc ++ [x]) ++ (es.drop (j + 1)).filter (fun x => hasQ fr to e x.1) = R from by rw [← hacc]; simp)
    clear hacc
    go_wp2_with (at_builtin; refine wpList_append_re (o := ⟨some 34, _, _, _, _, _⟩) rfl (Operand.tmp 28) (Operand.tmp 33) rfl w.heap.size _ acc rfl (HX.out.2.1.below ((Below.refl _ _).alloc (Nat.le_refl _) _)) w9.heap.size x.1 x.2 rfl (heap_alloc_new _ _) (by have := HLN.out; have := HX.out.1; omega) (by have := HX.out.2.2.size; simp; omega) ?_; intro a8 c8 w8 hr8 hb8; have H8 := Lib.hid (And.intro hr8 ((HX.out.2.2.alloc HX.out.2.2.size (.cells #[.string (str x.1), .int .i64 (x.2 : Int)] 45)).trans hb8)); clear hr8 hb8)
    go_roundw
    case rel => exact ⟨j + 1, acc ++ [x], HX.out.1, H8.out.1, by go_num, HR.out, H8.out.2, by have := HLN.out; simp; omega⟩
    case measure => have := HX.out.1; simp [intOf]; omega
  ·have hj2 : j = es.length := by omega
   subst hj2
   rw [List.drop_length] at hacc
   have HX := Lib.hid (And.intro hro hbw)
   have HR := Lib.hid (show acc = R from by rw [← hacc]; simp)
   clear hro hbw hlen hacc
   go_wp2_with fail
   go_ret
   exact ⟨_, rfl, by rw [← HR.out]; exact HX.out.1.base (Nat.le_of_lt hwz), HB0.out.trans (HX.out.2.mono (Nat.le_of_lt hwz))⟩
theorem step_append_re {ops : Array Oper} {o : Oper} {a : Act} {w : World} {K : Act → World → Prop} {Q : Exit → Act → World → Prop} {E : Prop}
  (hg : o.guard = none) (s x : Operand) (hop : o.op = Op.call { callee := Callee.builtin Builtin.append, args := #[s, x], argTypes := #[22, 22] })
  (v v2 : Value) (hs : a.eval s = v) (hx : a.eval x = v2) {v' : Value} {w' : World} (h1 : (Builtin.append_ #[22, 22] o.type #[v, v2]).run Tryd.prog w = .ok v' w') (hK : K (a.put o.dst v') w') :
  if Region.wanted o (yielded ops a.tmps) = true then Oper.wp Tryd.prog o a w K Q else E := by
 have hw : Region.wanted o (yielded ops a.tmps) = true := by simp [Region.wanted, hg]
 rw [if_pos hw]
 unfold Oper.wp
 simp [execOp, hop, resolve, invoke, builtin, hs, hx, h1, Result.andThen]
 exact hK
theorem enL_get : ∀ (l : List (Value × Nat)) (i : Nat) (x : Value × Nat) (j : Nat), l[i]? = some x → j < 2 → (enL l)[i * 2 + j]? = ([x.1, Value.int .i64 (x.2 : Int)] : List Value)[j]?
 | [], i, x, j, h, _ => by simp at h
 | y :: l, 0, x, j, h, hj => by
  injection h with h
  subst h
  show ([y.1, Value.int .i64 (y.2 : Int)] ++ enL l)[0 * 2 + j]? = _
  rw [List.getElem?_append_left (by simp; omega), Nat.zero_mul, Nat.zero_add]
 | y :: l, i + 1, x, j, h, hj => by
  have ih := enL_get l i x j (by simpa using h) hj
  show ([y.1, Value.int .i64 (y.2 : Int)] ++ enL l)[(i + 1) * 2 + j]? = _
  rw [List.getElem?_append_right (by simp; omega)]
  rw [← ih]
  congr 1
  simp only [List.length_cons, List.length_nil]
  omega
/-- a made list of entries is read -/
theorem EnN.ens {w w' : World} {v : Value} {es : List (List Int × Nat)} (h : EnN w w' v es) : EnS w' v es := by
 obtain ⟨K, ⟨xs, h1, h2, h3, h4⟩, hK⟩ := h
 obtain ⟨e1, ⟨rfl, hn⟩ | ⟨g, cap, cur, rfl, q1, q2, q3, q4, q5, q6⟩⟩ := h2
 ·exact ⟨none, 0, by rw [hn], fun i x hx => by have := (List.getElem?_eq_some_iff.1 hx).1; omega⟩
 ·refine ⟨some ⟨g, 0, none⟩, cap, rfl, fun i x hx => ?_⟩
  have hi := (List.getElem?_eq_some_iff.1 hx).1
  have hy : xs[i]? = some (xs[i]'(by omega)) := List.getElem?_eq_getElem (by omega)
  generalize xs[i]'(by omega) = y at hy
  obtain ⟨k1, k2⟩ := h4 i y x hy hx
  have hc : ∀ j, j < 2 → w'.cell? ⟨g, i * 2 + j, none⟩ = ([y.1, Value.int .i64 (y.2 : Int)] : List Value)[j]? := fun j hj => by
   rw [cell_of_row _ _ _ _ _ _ q2, ← Array.getElem?_toList, ← enL_get xs i y j hy hj, ← q6, List.getElem?_take, if_pos (by omega)]
  refine ⟨g, y.1, rfl, blk_lt q2, hc 0 (by omega), ?_, k2.1⟩
  rw [← k1]
  exact hc 1 (by omega)
set_option maxRecDepth 100000 in
set_option maxHeartbeats 8000000 in
theorem back_any (w : World) (v : Value) (es : List (List Int × Nat)) (hv : EnS w v es) (hn : es.length ≤ 1048576) :
  Calls Tryd.prog 18 #[v] w fun d w' => ∃ v', d = .returned v' ∧ RfO w' w.heap.size v' es ∧ Below w.heap.size w w' := by
 have HV := Lib.hid hv
 obtain ⟨av, cv, rfl, -⟩ := hv
 go_enter Tryd.func18, Tryd.ntmps18
 go_wp2_with fail
 go_loopw [3, 4] (fun ov iv wr => ∃ (j : Nat), j ≤ es.length ∧ RfO wr w.heap.size ov (es.take j) ∧ iv = .int .i64 (j : Int) ∧ Below w.heap.size w wr) (fun _ iv _ => es.length - (intOf iv).toNat)
 case atStart => exact ⟨0, Nat.zero_le _, ⟨rfl, .inr ⟨w.heap.size, 0, #[], rfl, Nat.le_refl _, heap_alloc_new _ _, Nat.le_refl _, Nat.zero_le _, rfl, rfl⟩⟩, rfl, (Below.refl _ _).alloc (Nat.le_refl _) _⟩
 case round =>
  obtain ⟨j, hj, hro, rfl, hbw⟩ := hrel
  obtain ⟨ao, co, rfl⟩ := hro.slc
  have htl : (es.take j).length = j := by rw [List.length_take]; omega
  rw [htl]
  by_cases hjl : j < es.length
  ·have hx : es[j]? = some (es[j]'hjl) := List.getElem?_eq_getElem hjl
   have hts : es.take (j + 1) = es.take j ++ [es[j]'hjl] := by rw [List.take_add_one, hx]; rfl
   generalize es[j]'hjl = x at hx hts
   obtain ⟨a', c', he, hall⟩ := HV.out
   injection he with e1 e0 e2
   clear e0
   subst e1 e2
   obtain ⟨g, kv, hag, hgl, hc0, hc1, hk⟩ := hall j x hx
   subst hag
   obtain ⟨ak, ck, rfl⟩ := (show ∃ a c, kv = .slice a x.1.length c from by obtain ⟨a, c, e, -⟩ := hk; exact ⟨a, c, e⟩)
   have c0 : wr.cell? ⟨g, j * 2, none⟩ = some (.slice ak x.1.length ck) := (World.cell?_of_block (a := ⟨g, j * 2, none⟩) (hbw.block g hgl)).trans hc0
   have c1 : wr.cell? ⟨g, j * 2 + 1, none⟩ = some (.int .i64 (x.2 : Int)) := (World.cell?_of_block (a := ⟨g, j * 2 + 1, none⟩) (hbw.block g hgl)).trans hc1
   have hj0 : (0 : Int) ≤ (j : Int) := by omega
   have hj1 : (j : Int) < (es.length : Int) := by omega
   have HCV := Lib.hid (fun u (hu : Below w.heap.size w u) => conv_bs u ak x.1.length ck x.1 (hk.below hu))
   have HC := Lib.hid (fun u (hu : Below w.heap.size w u) => (show u.cell? ⟨g, j * 2, none⟩ = some (.slice ak x.1.length ck) ∧ u.cell? ⟨g, j * 2 + 1, none⟩ = some (.int .i64 (x.2 : Int)) from ⟨(World.cell?_of_block (a := ⟨g, j * 2, none⟩) (hu.block g hgl)).trans hc0, (World.cell?_of_block (a := ⟨g, j * 2 + 1, none⟩) (hu.block g hgl)).trans hc1⟩))
   clear c0 c1
   have hb := hbw.drew
   have HX := Lib.hid (And.intro hjl (And.intro hro (And.intro hbw (And.intro hts htl))))
   have HTL := Lib.hid htl
   rw [htl] at HX hro
   have HXD := Lib.hid (show RfO wr.drew w.heap.size (.slice ao j co) (es.take j) from hro)
   clear hro hbw hx hts hall hc0 hc1 hk hjl hgl hj htl
   go_wp2_with fail
   refine wp_region_held_drew (S := fun u => Below w.heap.size w u) (by kernel_rfl) (hb) (fun hHeld => ?_)
   refine wpAnyH_take (i := 0) (oi := ({ dst := some 12, op := .move (.tmp 3), type := 22, pos := "law.go:38", after := #[], guard := none } : Oper)) (v := ?_) rfl (by kernel_rfl) (by kernel_rfl) (by kernel_rfl) (fun _ _ _ h => h) (Or.inl ⟨by rfl, ?_⟩) (by assumption) ?_
   rotate_left 1
   ·(intro u hSw; go_simp; try with_reducible rfl)
   try simp only [Act.put, List.setIfInBounds_toArray, List.set_cons_zero, List.set_cons_succ]
   refine wpAnyH_take (i := 1) (oi := ({ dst := some 13, op := .move (.tmp 0), type := 26, pos := "law.go:38", after := #[], guard := none } : Oper)) (v := ?_) rfl (by kernel_rfl) (by kernel_rfl) (by kernel_rfl) (fun _ _ _ h => h) (Or.inl ⟨by rfl, ?_⟩) (by assumption) ?_
   rotate_left 1
   ·(intro u hSw; go_simp; try with_reducible rfl)
   try simp only [Act.put, List.setIfInBounds_toArray, List.set_cons_zero, List.set_cons_succ]
   refine wpAnyH_take (i := 2) (oi := ({ dst := some 14, op := .move (.tmp 4), type := 3, pos := "law.go:38", after := #[], guard := none } : Oper)) (v := ?_) rfl (by kernel_rfl) (by kernel_rfl) (by kernel_rfl) (fun _ _ _ h => h) (Or.inl ⟨by rfl, ?_⟩) (by assumption) ?_
   rotate_left 1
   ·(intro u hSw; go_simp; try with_reducible rfl)
   try simp only [Act.put, List.setIfInBounds_toArray, List.set_cons_zero, List.set_cons_succ]
   refine wpAnyH_take (i := 3) (oi := ({ dst := some 15, op := .indexAddr 26 (.tmp 13) (.tmp 14), type := 0, pos := "law.go:38", after := #[{ on := 1, ground := .data }, { on := 2, ground := .data }], guard := none } : Oper)) (v := ?_) rfl (by kernel_rfl) (by kernel_rfl) (by kernel_rfl) (fun _ _ _ h => h) (Or.inl ⟨by rfl, ?_⟩) (by assumption) ?_
   rotate_left 1
   ·(intro u hSw; go_simp; try with_reducible rfl)
   try simp only [Act.put, List.setIfInBounds_toArray, List.set_cons_zero, List.set_cons_succ]
   refine wpAnyH_take (i := 4) (oi := ({ dst := some 16, op := .fieldAddr 33 (.tmp 15) 0, type := 0, pos := "law.go:38", after := #[{ on := 3, ground := .data }], guard := none } : Oper)) (v := ?_) rfl (by kernel_rfl) (by kernel_rfl) (by kernel_rfl) (fun _ _ _ h => h) (Or.inl ⟨by rfl, ?_⟩) (by assumption) ?_
   rotate_left 1
   ·(intro u hSw; go_simp; try with_reducible rfl)
   try simp only [Act.put, List.setIfInBounds_toArray, List.set_cons_zero, List.set_cons_succ]
   refine wpAnyH_take (i := 5) (oi := ({ dst := some 17, op := .load 31 (.tmp 16), type := 31, pos := "law.go:38", after := #[{ on := 4, ground := .data }], guard := none } : Oper)) (v := ?_) rfl (by kernel_rfl) (by kernel_rfl) (by kernel_rfl) (fun _ _ _ h => h) (Or.inl ⟨by rfl, ?_⟩) (by assumption) ?_
   rotate_left 1
   ·(intro u hSw; have y0 := (HC.out _ hSw).1; have y1 := (HC.out _ hSw).2; go_simp; try with_reducible rfl)
   try simp only [Act.put, List.setIfInBounds_toArray, List.set_cons_zero, List.set_cons_succ]
   refine wpAnyH_take (i := 6) (oi := ({ dst := some 18, op := .convert 31 9 (.tmp 17), type := 9, pos := "law.go:38", after := #[{ on := 5, ground := .data }], guard := none } : Oper)) (v := .string (str x.1)) rfl (by kernel_rfl) (by kernel_rfl) (by kernel_rfl) (fun _ _ _ h => h) (Or.inl ⟨by rfl, ?_⟩) (by assumption) ?_
   ·intro u hSw
    exact exec_convP 31 9 (Operand.tmp 17) rfl _ rfl _ (HCV.out _ hSw)
   try simp only [Act.put, List.setIfInBounds_toArray, List.set_cons_zero, List.set_cons_succ]
   refine wpAnyH_take (i := 7) (oi := ({ dst := some 19, op := .move (.tmp 0), type := 26, pos := "law.go:38", after := #[], guard := none } : Oper)) (v := ?_) rfl (by kernel_rfl) (by kernel_rfl) (by kernel_rfl) (fun _ _ _ h => h) (Or.inl ⟨by rfl, ?_⟩) (by assumption) ?_
   rotate_left 1
   ·(intro u hSw; go_simp; try with_reducible rfl)
   try simp only [Act.put, List.setIfInBounds_toArray, List.set_cons_zero, List.set_cons_succ]
   refine wpAnyH_take (i := 8) (oi := ({ dst := some 20, op := .move (.tmp 4), type := 3, pos := "law.go:38", after := #[], guard := none } : Oper)) (v := ?_) rfl (by kernel_rfl) (by kernel_rfl) (by kernel_rfl) (fun _ _ _ h => h) (Or.inl ⟨by rfl, ?_⟩) (by assumption) ?_
   rotate_left 1
   ·(intro u hSw; go_simp; try with_reducible rfl)
   try simp only [Act.put, List.setIfInBounds_toArray, List.set_cons_zero, List.set_cons_succ]
   refine wpAnyH_take (i := 9) (oi := ({ dst := some 21, op := .indexAddr 26 (.tmp 19) (.tmp 20), type := 0, pos := "law.go:38", after := #[{ on := 7, ground := .data }, { on := 8, ground := .data }], guard := none } : Oper)) (v := ?_) rfl (by kernel_rfl) (by kernel_rfl) (by kernel_rfl) (fun _ _ _ h => h) (Or.inl ⟨by rfl, ?_⟩) (by assumption) ?_
   rotate_left 1
   ·(intro u hSw; go_simp; try with_reducible rfl)
   try simp only [Act.put, List.setIfInBounds_toArray, List.set_cons_zero, List.set_cons_succ]
   refine wpAnyH_take (i := 10) (oi := ({ dst := some 22, op := .fieldAddr 33 (.tmp 21) 1, type := 0, pos := "law.go:38", after := #[{ on := 9, ground := .data }], guard := none } : Oper)) (v := ?_) rfl (by kernel_rfl) (by kernel_rfl) (by kernel_rfl) (fun _ _ _ h => h) (Or.inl ⟨by rfl, ?_⟩) (by assumption) ?_
   rotate_left 1
   ·(intro u hSw; go_simp; try with_reducible rfl)
   try simp only [Act.put, List.setIfInBounds_toArray, List.set_cons_zero, List.set_cons_succ]
   refine wpAnyH_take (i := 11) (oi := ({ dst := some 23, op := .load 2 (.tmp 22), type := 2, pos := "law.go:38", after := #[{ on := 10, ground := .data }], guard := none } : Oper)) (v := ?_) rfl (by kernel_rfl) (by kernel_rfl) (by kernel_rfl) (fun _ _ _ h => h) (Or.inl ⟨by rfl, ?_⟩) (by assumption) ?_
   rotate_left 1
   ·(intro u hSw; have y0 := (HC.out _ hSw).1; have y1 := (HC.out _ hSw).2; go_simp; try with_reducible rfl)
   try simp only [Act.put, List.setIfInBounds_toArray, List.set_cons_zero, List.set_cons_succ]
   refine wpAnyH_take (i := 12) (oi := ({ dst := some 24, op := .build 45 #[(0, .tmp 18), (1, .tmp 23)], type := 45, pos := "law.go:38", after := #[{ on := 6, ground := .data }, { on := 11, ground := .data }], guard := none } : Oper)) (v := ?_) rfl (by kernel_rfl) (by kernel_rfl) (by kernel_rfl) (fun _ _ _ h => h) (Or.inl ⟨by rfl, ?_⟩) (by assumption) ?_
   rotate_left 1
   ·(intro u hSw; go_simp; try with_reducible rfl)
   try simp only [Act.put, List.setIfInBounds_toArray, List.set_cons_zero, List.set_cons_succ]
   refine wpAnyH_ready (rs := [13]) (by kernel_rfl) (by simp) ?_
   refine (AllReadyH.cons (o := ({ dst := some 25, op := .buildSlice 22 1 #[(0, .tmp 24)], type := 22, pos := "law.go:38", after := #[{ on := 12, ground := .data }], guard := none } : Oper)) rfl (fun K hK => ?_) AllReadyH.nil)
   try (generalize World.drew wr = ud at *)
   go_simp
   refine al_step2 hb (fun nu hbn q1 hcn => ?_)
   have hro := ((show RfO ud w.heap.size (.slice ao j co) (es.take j) from HXD.out).below hcn)
   have hb := hbn
   clear hcn hbn
   refine hK.out _ _ hb (fun hHeld => ?_)
   clear hK K
   try simp only [Act.put, List.setIfInBounds_toArray, List.set_cons_zero, List.set_cons_succ]
   refine wpAnyH_ready (rs := [14]) (by kernel_rfl) (by simp) ?_
   refine (AllReadyH.cons (o := ({ dst := some 26, op := .call { callee := Callee.builtin Builtin.append, args := #[.tmp 12, .tmp 25], argTypes := #[22, 22] }, type := 22, pos := "law.go:38", after := #[{ on := 0, ground := .data }, { on := 13, ground := .data }], guard := none } : Oper)) rfl (fun K hK => ?_) AllReadyH.nil)
   obtain ⟨v8, w8, hr8, ho8, hc8, -⟩ := hro.app hb.size _ x.1 x.2 q1 (by rw [HTL.out]; have := HX.out.1; omega) 22
   have hlt8 := hro.lt
   refine step_append_re (by rfl) (Operand.tmp 12) (Operand.tmp 25) (by rfl) _ _ (by rfl) (by rfl) hr8 ?_
   have hb := hb.trans (hc8.below (B := w.heap.size) (fun q e => (hlt8 q e).1) hb.size)
   obtain ⟨a8, c8, rfl⟩ := ho8.slc
   have hl8 : (es.take j ++ [(x.1, x.2)]).length = j + 1 := by rw [List.length_append, HTL.out]; rfl
   rw [hl8] at ho8 ⊢
   clear hc8 hr8 hro hlt8 hl8
   refine hK.out _ _ hb (fun hHeld => ?_)
   clear hK K
   try simp only [Act.put, List.setIfInBounds_toArray, List.set_cons_zero, List.set_cons_succ]
   refine wpAnyH_take (i := 15) (oi := ({ dst := some 3, op := .assign (.tmp 26), type := 22, pos := "law.go:38", after := #[{ on := 14, ground := .data }, { on := 14, ground := .chain }, { on := 0, ground := .phase }, { on := 1, ground := .phase }, { on := 2, ground := .phase }, { on := 3, ground := .phase }, { on := 4, ground := .phase }, { on := 5, ground := .phase }, { on := 6, ground := .phase }, { on := 7, ground := .phase }, { on := 8, ground := .phase }, { on := 9, ground := .phase }, { on := 10, ground := .phase }, { on := 11, ground := .phase }, { on := 12, ground := .phase }, { on := 13, ground := .phase }, { on := 14, ground := .phase }], guard := none } : Oper)) (v := ?_) rfl (by kernel_rfl) (by kernel_rfl) (by kernel_rfl) (fun _ _ _ h => h) (Or.inl ⟨by rfl, ?_⟩) (by assumption) ?_
   rotate_left 1
   ·(intro u hSw; go_simp; try with_reducible rfl)
   try simp only [Act.put, List.setIfInBounds_toArray, List.set_cons_zero, List.set_cons_succ]
   refine wpAnyH_done (by kernel_rfl) ?_ _
   have H8 := Lib.hid (And.intro ho8 hb)
   clear ho8 hb hHeld q1
   go_wp2_with fail
   go_roundw
   case rel => exact ⟨j + 1, HX.out.1, by rw [HX.out.2.2.2.1]; exact H8.out.1, by go_num, H8.out.2⟩
   case measure => have := HX.out.1; simp [intOf]; omega
  ·have hj2 : j = es.length := by omega
   subst hj2
   have HX := Lib.hid (And.intro hro hbw)
   rw [htl, List.take_length] at HX
   clear hro hbw htl
   go_wp2_with fail
   go_ret
   exact ⟨_, rfl, HX.out.1, HX.out.2⟩
end Go.Proofs.YtmejjjkbbkgioaaDoor
