/- stage 7: In of the reference; rows of its entries -/
import Derived.Test.YtbmlkocpjboodaaDoorMt23
import Derived.Laws.StructEq
namespace Go.Proofs.YtbmlkocpjboodaaDoor
open Go.RowKit
open Go.Lib (hid)
theorem less_str : ∀ (s t : List Int), Rng s → Rng t → Op.bytesLess (str s).toList (str t).toList = decide (cmpI s t = -1) := by
 have key : ∀ (s t : List Int), Rng s → Rng t → Op.bytesLess (s.map fun x => UInt8.ofNat x.toNat) (t.map fun x => UInt8.ofNat x.toNat) = decide (cmpI s t = -1) := by
  intro s
  induction s with
  | nil => intro t _ _; cases t <;> simp [Op.bytesLess, cmpI]
  | cons x s ih =>
   intro t hs ht
   cases t with
   | nil => simp [Op.bytesLess, cmpI]
   | cons y t =>
    have hx := hs x (by simp)
    have hy := ht y (by simp)
    have h1 : (UInt8.ofNat x.toNat < UInt8.ofNat y.toNat) ↔ x < y := by
     rw [UInt8.lt_iff_toNat_lt, UInt8.toNat_ofNat', UInt8.toNat_ofNat']; omega
    have h2 : (UInt8.ofNat x.toNat = UInt8.ofNat y.toNat) ↔ x = y := by
     rw [← UInt8.toNat_inj, UInt8.toNat_ofNat', UInt8.toNat_ofNat']; omega
    have ih2 := ih t (fun z hz => hs z (by simp [hz])) (fun z hz => ht z (by simp [hz]))
    simp only [List.map_cons, Op.bytesLess, cmpI, ih2]
    by_cases a : x < y
    ·simp [h1, a]
    ·by_cases b : x = y
     ·subst b; simp
     ·have c : y < x := by omega
      simp [h1, h2, a, b, c]
 intro s t hs ht
 rw [ByteArray.toList_eq, ByteArray.toList_eq]
 simpa [str] using key s t hs ht
theorem bl {s t : List Int} (hs : Rng s) (ht : Rng t) : Op.bytesLess (str s).toList (str t).toList = decide (cmpI s t < 0) := by
 rw [less_str s t hs ht]
 rcases cmpI_rng s t with h | h | h <;> rw [h] <;> rfl
/-- the cells of a row of the reference's entries -/
def rfL (l : List (List Int × Nat)) : List Value := l.flatMap fun x => [Value.string (str x.1), Value.int .i64 (x.2 : Int)]
theorem rfL_snoc (l : List (List Int × Nat)) (x : List Int × Nat) : rfL (l ++ [x]) = rfL l ++ [.string (str x.1), .int .i64 (x.2 : Int)] := by simp [rfL]
theorem rfL_get : ∀ (l : List (List Int × Nat)) (i : Nat) (x : List Int × Nat) (j : Nat), l[i]? = some x → j < 2 → (rfL l)[i * 2 + j]? = ([Value.string (str x.1), Value.int .i64 (x.2 : Int)] : List Value)[j]?
 | [], i, x, j, h, _ => by simp at h
 | y :: l, 0, x, j, h, hj => by
  injection h with h
  subst h
  show ([Value.string (str y.1), Value.int .i64 (y.2 : Int)] ++ rfL l)[0 * 2 + j]? = _
  rw [List.getElem?_append_left (by simp; omega), Nat.zero_mul, Nat.zero_add]
 | y :: l, i + 1, x, j, h, hj => by
  have ih := rfL_get l i x j (by simpa using h) hj
  show ([Value.string (str y.1), Value.int .i64 (y.2 : Int)] ++ rfL l)[(i + 1) * 2 + j]? = _
  rw [List.getElem?_append_right (by simp; omega)]
  rw [← ih]
  congr 1
  simp only [List.length_cons, List.length_nil]
  omega
/-- an own row of the reference's entries -/
def RfO (w : World) (B : Nat) (v : Value) (l : List (List Int × Nat)) : Prop := w.ownsRow B 45 2 v l.length (rfL l)
def toI (x : List Int × Nat) : List Int × Int := (x.1, (x.2 : Int))
theorem RfO.rfs {w : World} {B : Nat} {v : Value} {l : List (List Int × Nat)} (h : RfO w B v l) : RfS w v (l.map toI) := by
  obtain ⟨hl, ⟨rfl, hn⟩ | ⟨g, cap, cur, rfl, q1, q2, q3, q4, q5, q6⟩⟩ := h
  · refine ⟨none, 0, by rw [List.length_map, hn], fun i x hx => ?_⟩
    have := (List.getElem?_eq_some_iff.1 hx).1
    rw [List.length_map] at this
    omega
  · refine ⟨some ⟨g, 0, none⟩, cap, by rw [List.length_map], fun i x hx => ?_⟩
    rw [List.getElem?_map, Option.map_eq_some_iff] at hx
    obtain ⟨y, hy, rfl⟩ := hx
    have hi := (List.getElem?_eq_some_iff.1 hy).1
    have hc : ∀ j, j < 2 → w.cell? ⟨g, 0 + (i * 2 + j), none⟩ = ([Value.string (str y.1), Value.int .i64 (y.2 : Int)] : List Value)[j]? := fun j hj => by
      rw [cell_of_row _ _ _ _ _ _ q2, Nat.zero_add, ← Array.getElem?_toList, ← rfL_get l i y j hy hj, ← q6, List.getElem?_take, if_pos (by omega)]
    exact ⟨g, 0, rfl, blk_lt q2, hc 0 (by omega), hc 1 (by omega)⟩
theorem RfO.nil (w : World) (B : Nat) : RfO w B (.slice none 0 0) [] := World.ownsRow_nil _ _ _ _
theorem RfO.below {w w' : World} {B : Nat} {v : Value} {l : List (List Int × Nat)} (h : RfO w B v l) (hb : Below w.heap.size w w') : RfO w' B v l := by
 have hg : w.grownBy w' none := ⟨hb.os, hb.tape, hb.output, hb.size, fun k hk _ => hb.block k hk⟩
 refine World.ownsRow.kept h hg ?_
 cases hv : v.ownBlock with
 | none => exact .inl rfl
 | some g => exact .inr (by simp)
theorem RfO.base {w : World} {B B' : Nat} {v : Value} {l : List (List Int × Nat)} (h : RfO w B' v l) (hB : B ≤ B') : RfO w B v l :=
 ⟨h.1, h.2.imp id (fun ⟨g, cap, cur, a, b, c⟩ => ⟨g, cap, cur, a, Nat.le_trans hB b, c⟩)⟩
theorem RfO.slc {w : World} {B : Nat} {v : Value} {l : List (List Int × Nat)} (h : RfO w B v l) : ∃ a c, v = .slice a l.length c := ownsRow_slc h
theorem infoRe : ∃ i, Tryd.prog.info? 45 = some i ∧ (∃ z : Value, i.zero = some z ∧ z = .agg #[.string ⟨#[]⟩, .int .i64 0]) ∧ i.size = 2 ∧ i.bytes ≤ 64 := by
 have h : (Tryd.prog.info? 45).map (fun i => (i.zero, i.size, decide (i.bytes ≤ 64))) = some (some (.agg #[.string ⟨#[]⟩, .int .i64 0]), 2, true) := by kernel_rfl
 cases hi : Tryd.prog.info? 45 with
 | none => rw [hi] at h; cases h
 | some i =>
  rw [hi] at h
  simp only [Option.map_some, Option.some.injEq, Prod.mk.injEq] at h
  exact ⟨i, rfl, ⟨_, h.1, rfl⟩, h.2.1, of_decide_eq_true h.2.2⟩
theorem RfO.app {w : World} {B : Nat} {v : Value} {l : List (List Int × Nat)} (h : RfO w B v l) (hb : B ≤ w.heap.size) (b : Nat) (k : List Int) (n : Nat) (hx : w.heap[b]? = some (.cells #[.string (str k), .int .i64 (n : Int)] 45 (0, 0))) (hn : l.length ≤ 1073741824) (ty : TypeId) :
  ∃ v' w', (Builtin.append_ #[22, 22] ty #[v, .slice (some ⟨b, 0, none⟩) 1 1]).run Tryd.prog w = .ok v' w' ∧ RfO w' B v' (l ++ [(k, n)]) ∧ Chg (fun g => v.ownBlock = some g) w w' ∧ OwnTo w v v' := by
 obtain ⟨i, hi, ⟨z, hz, rfl⟩, hs, hby⟩ := infoRe
 obtain ⟨v', w', r1, r2, r3, -, r5⟩ := run_append_own_at (P := Tryd.prog) w B 22 ty 45 i _ 2 i.bytes Tryd.underlying22 hi hz hs rfl rfl (by decide) v l.length (rfL l) h ⟨b, 0, none⟩ 1 1 [.string (str k), .int .i64 (n : Int)] rfl (by
  intro j u hj
  rw [Addr.add_mid, cell_of_row _ b _ _ _ _ hx]
  rw [Nat.zero_add]
  simpa using hj) (by intro u hu; simp only [List.mem_cons, List.not_mem_nil, or_false] at hu; rcases hu with rfl | rfl <;> rfl) (by unfold maxLen; omega) (by
  have : (l.length + 1) * i.bytes ≤ (l.length + 1) * 64 := Nat.mul_le_mul_left _ hby
  omega) hb
 refine ⟨v', w', r1, by unfold RfO; rw [List.length_append, rfL_snoc]; exact r2, Chg.grown r3 (fun k hk => hk), fun g hg => ?_⟩
 rcases r5 with h5 | h5
 ·exact .inl (by rw [← h5]; exact hg)
 ·rw [h5] at hg; injection hg with hg; exact .inr (by omega)
theorem RfO.lt {w : World} {B : Nat} {v : Value} {l : List (List Int × Nat)} (h : RfO w B v l) : ∀ g, v.ownBlock = some g → B ≤ g ∧ g < w.heap.size := World.ownsRow.lt h
theorem wpList_append_re {ops : Array Oper} {rest : List Oper} {o : Oper} {a : Act} {w : World} {Q : Exit → Act → World → Prop} (hgd : o.guard = none) (s x : Operand)
  (ho : o.op = .call { callee := .builtin .append, args := #[s, x], argTypes := #[22, 22] }) (B : Nat) (v : Value) (l : List (List Int × Nat)) (hs : a.eval s = v) (hown : RfO w B v l) (b : Nat) (k : List Int) (n : Nat) (hx : a.eval x = .slice (some ⟨b, 0, none⟩) 1 1) (hxb : w.heap[b]? = some (.cells #[.string (str k), .int .i64 (n : Int)] 45 (0, 0))) (hn : l.length ≤ 1073741824) (hbase : B ≤ w.heap.size)
  (h : ∀ a' c' w', RfO w' B (.slice a' (l.length + 1) c') (l ++ [(k, n)]) → Below B w w' → wpList Tryd.prog ops Q rest (a.put o.dst (.slice a' (l.length + 1) c')) w') : wpList Tryd.prog ops Q (o :: rest) a w := by
 obtain ⟨v', w', h1, h2, h3, h4⟩ := hown.app hbase b k n hxb hn o.type
 obtain ⟨a', c', rfl⟩ := h2.slc
 rw [List.length_append, List.length_cons, List.length_nil, Nat.zero_add] at *
 refine wpList_plain hgd fun K hK => ?_
 unfold Oper.wp
 simp [execOp, ho, resolve, invoke, builtin, hs, hx, h1, Result.andThen]
 exact hK _ _ (h a' c' w' h2 (h3.below (fun q hq => (hown.lt q hq).1) hbase))
end Go.Proofs.YtbmlkocpjboodaaDoor
/- stage 7: Set of the reference -/
namespace Go.Proofs.YtbmlkocpjboodaaDoor
open Go.RowKit
open Go.Lib (hid)
set_option maxRecDepth 100000 in
set_option maxHeartbeats 8000000 in
theorem refSet_any (w : World) (v : Value) (es : List (List Int × Nat)) (key : List Int) (cnt : Nat) (hv : RfS w v (es.map toI)) (hes : ∀ x ∈ es, Rng x.1) (gk : Rng key) (hn : es.length ≤ 1048576) :
  Calls Tryd.prog 21 #[v, .string (str key), .int .i64 (cnt : Int)] w fun d w' => ∃ v', d = .returned v' ∧ RfO w' w.heap.size v' (rSet key cnt es false) ∧ Below w.heap.size w w' := by
 have HV := hid hv
 obtain ⟨av, cv, rfl, -⟩ := hv
 rw [List.length_map] at *
 have HES := hid hes
 generalize hR : rSet key cnt es false = R at *
 have HR0 := hid hR
 clear hes hR
 go_enter Tryd.func21, Tryd.ntmps21
 go_wp2_with fail
 go_loopw [7, 8, 9] (fun ov dv iv wr => ∃ (j : Nat) (acc : List (List Int × Nat)) (done : Bool), j ≤ es.length ∧ RfO wr w.heap.size ov acc ∧ dv = .bool done ∧ iv = .int .i64 (j : Int) ∧ acc ++ rSet key cnt (es.drop j) done = R ∧ Below w.heap.size w wr ∧ acc.length ≤ 2 * j) (fun _ _ iv _ => es.length - (intOf iv).toNat)
 case atStart => exact ⟨0, [], false, Nat.zero_le _, ⟨rfl, .inr ⟨w.heap.size, 0, #[], rfl, Nat.le_refl _, heap_alloc_new _ _, Nat.le_refl _, Nat.zero_le _, rfl, rfl⟩⟩, rfl, rfl, HR0.out, (Below.refl _ _).alloc (Nat.le_refl _) _, Nat.zero_le _⟩
 case round =>
  obtain ⟨j, acc, done, hj, hro, rfl, rfl, hacc, hbw, hlen⟩ := hrel
  obtain ⟨ao, co, rfl⟩ := hro.slc
  by_cases hjl : j < es.length
  ·have hx : es[j]? = some (es[j]'hjl) := List.getElem?_eq_getElem hjl
   have hdr : es.drop j = es[j]'hjl :: es.drop (j + 1) := List.drop_eq_getElem_cons hjl
   generalize es[j]'hjl = x at hx hdr
   rw [hdr] at hacc
   obtain ⟨a', c', he, hall⟩ := HV.out
   injection he with e1 e0 e2
   clear e0
   subst e1 e2
   obtain ⟨g, o, hag, hgl, hc0, hc1⟩ := hall j (toI x) (by rw [List.getElem?_map, hx]; rfl)
   subst hag
   have c0 : wr.cell? ⟨g, o + j * 2, none⟩ = some (.string (str x.1)) := (World.cell?_of_block (a := ⟨g, o + j * 2, none⟩) (hbw.block g hgl)).trans hc0
   have c1 : wr.cell? ⟨g, o + j * 2 + 1, none⟩ = some (.int .i64 (x.2 : Int)) := (World.cell?_of_block (a := ⟨g, o + j * 2 + 1, none⟩) (hbw.block g hgl)).trans hc1
   have hj0 : (0 : Int) ≤ (j : Int) := by omega
   have hj1 : (j : Int) < (es.length : Int) := by omega
   have HX := hid (And.intro hjl (And.intro hx (And.intro (HES.out x (List.mem_of_getElem? hx)) (And.intro hro hbw))))
   have HLN := hid hlen
   have HGL := hid hgl
   have hbl := bl HX.out.2.2.1 gk
   unfold rSet at hacc
   clear hro hbw hlen hx hdr hall hc0 hc1 hjl hgl hj
   cases done with
   | true =>
    have HR := hid hacc
    clear hacc hbl
    rw [if_neg (by simp), Bool.true_or, List.nil_append] at HR
    by_cases ck : x.1 = key
    ·have hq : ((str x.1).toList == (str key).toList) = true := by rw [str_beq HX.out.2.2.1 gk]; exact decide_eq_true ck
     have HT := hid (show acc ++ rSet key cnt (es.drop (j + 1)) true = R from by
      rw [← HR.out]
      simp [ck])
     clear ck
     go_wp2_with fail
     go_roundw
     case rel => exact ⟨j + 1, acc, true, HX.out.1, HX.out.2.2.2.1, rfl, by go_num, HT.out, HX.out.2.2.2.2, by have := HLN.out; simp; omega⟩
     case measure => have := HX.out.1; simp [intOf]; omega
    ·have hq : ((str x.1).toList == (str key).toList) = false := by rw [str_beq HX.out.2.2.1 gk]; exact decide_eq_false ck
     have HT := hid (show (acc ++ [x]) ++ rSet key cnt (es.drop (j + 1)) true = R from by
      rw [← HR.out]
      simp [ck])
     clear ck
     go_wp2_with (at_builtin; refine wpList_append_re (o := ⟨some 49, _, _, _, _, _⟩) rfl (Operand.tmp 43) (Operand.tmp 48) rfl w.heap.size _ (acc) rfl (HX.out.2.2.2.1.below ((Below.refl _ _).alloc (Nat.le_refl _) _)) wr.heap.size x.1 x.2 rfl (heap_alloc_new _ _) (by have := HLN.out; simp; omega) (by have := HX.out.2.2.2.2.size; have := World.size_alloc (w := wr); simp; omega) ?_; intro a9 c9 w9 hr9 hb9; have H9 := hid (And.intro hr9 hb9); clear hr9 hb9)
     go_roundw
     case rel => exact ⟨j + 1, acc ++ [x], true, HX.out.1, H9.out.1, rfl, by go_num, HT.out, (HX.out.2.2.2.2.alloc HX.out.2.2.2.2.size _).trans (H9.out.2), by have := HLN.out; simp; omega⟩
     case measure => have := HX.out.1; simp [intOf]; omega
   | false =>
    by_cases c : cmpI x.1 key < 0
    ·rw [decide_eq_true c] at hbl
     rw [if_neg (by simp [c]), List.nil_append, decide_eq_true c] at hacc
     have HR := hid (show acc ++ ((if x.1 = key then [] else [x]) ++ rSet key cnt (es.drop (j + 1)) false) = R from hacc)
     clear hacc c
     by_cases ck : x.1 = key
     ·have hq : ((str x.1).toList == (str key).toList) = true := by rw [str_beq HX.out.2.2.1 gk]; exact decide_eq_true ck
      have HT := hid (show acc ++ rSet key cnt (es.drop (j + 1)) false = R from by
       rw [← HR.out]
       simp [ck])
      clear ck
      go_wp2_with fail
      go_roundw
      case rel => exact ⟨j + 1, acc, false, HX.out.1, HX.out.2.2.2.1, rfl, by go_num, HT.out, HX.out.2.2.2.2, by have := HLN.out; simp; omega⟩
      case measure => have := HX.out.1; simp [intOf]; omega
     ·have hq : ((str x.1).toList == (str key).toList) = false := by rw [str_beq HX.out.2.2.1 gk]; exact decide_eq_false ck
      have HT := hid (show (acc ++ [x]) ++ rSet key cnt (es.drop (j + 1)) false = R from by
       rw [← HR.out]
       simp [ck])
      clear ck
      go_wp2_with (at_builtin; refine wpList_append_re (o := ⟨some 49, _, _, _, _, _⟩) rfl (Operand.tmp 43) (Operand.tmp 48) rfl w.heap.size _ (acc) rfl (HX.out.2.2.2.1.below ((Below.refl _ _).alloc (Nat.le_refl _) _)) wr.heap.size x.1 x.2 rfl (heap_alloc_new _ _) (by have := HLN.out; simp; omega) (by have := HX.out.2.2.2.2.size; have := World.size_alloc (w := wr); simp; omega) ?_; intro a9 c9 w9 hr9 hb9; have H9 := hid (And.intro hr9 hb9); clear hr9 hb9)
      go_roundw
      case rel => exact ⟨j + 1, acc ++ [x], false, HX.out.1, H9.out.1, rfl, by go_num, HT.out, (HX.out.2.2.2.2.alloc HX.out.2.2.2.2.size _).trans (H9.out.2), by have := HLN.out; simp; omega⟩
      case measure => have := HX.out.1; simp [intOf]; omega
    ·rw [decide_eq_false c] at hbl
     by_cases hc : 0 < cnt
     ·rw [if_pos ⟨rfl, c, hc⟩, decide_eq_false c] at hacc
      have HR := hid (show (acc ++ [(key, cnt)]) ++ ((if x.1 = key then [] else [x]) ++ rSet key cnt (es.drop (j + 1)) true) = R from by rw [← hacc]; simp)
      have hcn : ((cnt : Int)) > 0 := by omega
      have hcn2 : (0 : Int) < (cnt : Int) := by omega
      clear hacc c hc
      by_cases ck : x.1 = key
      ·have hq : ((str x.1).toList == (str key).toList) = true := by rw [str_beq HX.out.2.2.1 gk]; exact decide_eq_true ck
       have HT := hid (show (acc ++ [(key, cnt)]) ++ rSet key cnt (es.drop (j + 1)) true = R from by
        rw [← HR.out]
        simp [ck])
       clear ck
       go_wp2_with (at_builtin; refine wpList_append_re (o := ⟨some 35, _, _, _, _, _⟩) rfl (Operand.tmp 30) (Operand.tmp 34) rfl w.heap.size _ acc rfl (HX.out.2.2.2.1.below ((Below.refl _ _).alloc (Nat.le_refl _) _)) wr.heap.size key cnt rfl (heap_alloc_new _ _) (by have := HLN.out; have := HX.out.1; omega) (by have := HX.out.2.2.2.2.size; simp; omega) ?_; intro a8 c8 w8 hr8 hb8; have hb8' := (HX.out.2.2.2.2.alloc HX.out.2.2.2.2.size (.cells #[.string (str key), .int .i64 (cnt : Int)] 45)).trans hb8; have H8 := hid (And.intro hr8 hb8'); have c0 := (World.cell?_of_block (a := ⟨g, o + j * 2, none⟩) ((hb8'.block g HGL.out).trans (HX.out.2.2.2.2.block g HGL.out).symm)).trans c0; have c1 := (World.cell?_of_block (a := ⟨g, o + j * 2 + 1, none⟩) ((hb8'.block g HGL.out).trans (HX.out.2.2.2.2.block g HGL.out).symm)).trans c1; clear hr8 hb8 hb8')
       go_roundw
       case rel => exact ⟨j + 1, acc ++ [(key, cnt)], true, HX.out.1, H8.out.1, rfl, by go_num, HT.out, H8.out.2, by have := HLN.out; simp; omega⟩
       case measure => have := HX.out.1; simp [intOf]; omega
      ·have hq : ((str x.1).toList == (str key).toList) = false := by rw [str_beq HX.out.2.2.1 gk]; exact decide_eq_false ck
       have HT := hid (show ((acc ++ [(key, cnt)]) ++ [x]) ++ rSet key cnt (es.drop (j + 1)) true = R from by
        rw [← HR.out]
        simp [ck])
       have hal : (acc ++ [(key, cnt)]).length = acc.length + 1 := by simp
       have HAL := hid hal
       clear ck hal
       go_wp2_with (first
        | (at_builtin; refine wpList_append_re (o := ⟨some 35, _, _, _, _, _⟩) rfl (Operand.tmp 30) (Operand.tmp 34) rfl w.heap.size _ acc rfl (HX.out.2.2.2.1.below ((Below.refl _ _).alloc (Nat.le_refl _) _)) wr.heap.size key cnt rfl (heap_alloc_new _ _) (by have := HLN.out; have := HX.out.1; omega) (by have := HX.out.2.2.2.2.size; simp; omega) ?_; intro a8 c8 w8 hr8 hb8; have hb8' := (HX.out.2.2.2.2.alloc HX.out.2.2.2.2.size (.cells #[.string (str key), .int .i64 (cnt : Int)] 45)).trans hb8; have H8 := hid (And.intro hr8 hb8'); have c0 := (World.cell?_of_block (a := ⟨g, o + j * 2, none⟩) ((hb8'.block g HGL.out).trans (HX.out.2.2.2.2.block g HGL.out).symm)).trans c0; have c1 := (World.cell?_of_block (a := ⟨g, o + j * 2 + 1, none⟩) ((hb8'.block g HGL.out).trans (HX.out.2.2.2.2.block g HGL.out).symm)).trans c1; clear hr8 hb8 hb8')
        | (at_builtin; refine wpList_append_re (o := ⟨some 49, _, _, _, _, _⟩) rfl (Operand.tmp 43) (Operand.tmp 48) rfl w.heap.size _ (acc ++ [(key, cnt)]) rfl (H8.out.1.below ((Below.refl _ _).alloc (Nat.le_refl _) _)) w8.heap.size x.1 x.2 rfl (heap_alloc_new _ _) (by have := HLN.out; have := HX.out.1; simp; omega) (by have := H8.out.2.size; simp; omega) ?_; intro a9 c9 w9 hr9 hb9; have H9 := hid (And.intro hr9 ((H8.out.2.alloc H8.out.2.size (.cells #[.string (str x.1), .int .i64 (x.2 : Int)] 45)).trans hb9)); clear hr9 hb9))
       go_roundw
       case rel =>
        have h9 := H9.out.1
        rw [HAL.out] at h9
        exact ⟨j + 1, (acc ++ [(key, cnt)]) ++ [x], true, HX.out.1, h9, rfl, by go_num, HT.out, H9.out.2, by have := HLN.out; simp; omega⟩
       case measure => have := HX.out.1; simp [intOf]; omega
     ·rw [if_neg (by omega), decide_eq_false c] at hacc
      have HR := hid (show acc ++ ((if x.1 = key then [] else [x]) ++ rSet key cnt (es.drop (j + 1)) true) = R from by rw [← hacc]; simp)
      have hcn : ¬ ((cnt : Int)) > 0 := by omega
      have hcn2 : ¬ (0 : Int) < (cnt : Int) := by omega
      clear hacc c hc
      by_cases ck : x.1 = key
      ·have hq : ((str x.1).toList == (str key).toList) = true := by rw [str_beq HX.out.2.2.1 gk]; exact decide_eq_true ck
       have HT := hid (show acc ++ rSet key cnt (es.drop (j + 1)) true = R from by
        rw [← HR.out]
        simp [ck])
       clear ck
       go_wp2_with fail
       go_roundw
       case rel => exact ⟨j + 1, acc, true, HX.out.1, HX.out.2.2.2.1, rfl, by go_num, HT.out, HX.out.2.2.2.2, by have := HLN.out; simp; omega⟩
       case measure => have := HX.out.1; simp [intOf]; omega
      ·have hq : ((str x.1).toList == (str key).toList) = false := by rw [str_beq HX.out.2.2.1 gk]; exact decide_eq_false ck
       have HT := hid (show (acc ++ [x]) ++ rSet key cnt (es.drop (j + 1)) true = R from by
        rw [← HR.out]
        simp [ck])
       clear ck
       go_wp2_with (at_builtin; refine wpList_append_re (o := ⟨some 49, _, _, _, _, _⟩) rfl (Operand.tmp 43) (Operand.tmp 48) rfl w.heap.size _ (acc) rfl (HX.out.2.2.2.1.below ((Below.refl _ _).alloc (Nat.le_refl _) _)) wr.heap.size x.1 x.2 rfl (heap_alloc_new _ _) (by have := HLN.out; simp; omega) (by have := HX.out.2.2.2.2.size; have := World.size_alloc (w := wr); simp; omega) ?_; intro a9 c9 w9 hr9 hb9; have H9 := hid (And.intro hr9 hb9); clear hr9 hb9)
       go_roundw
       case rel => exact ⟨j + 1, acc ++ [x], true, HX.out.1, H9.out.1, rfl, by go_num, HT.out, (HX.out.2.2.2.2.alloc HX.out.2.2.2.2.size _).trans (H9.out.2), by have := HLN.out; simp; omega⟩
       case measure => have := HX.out.1; simp [intOf]; omega
  ·have hj2 : j = es.length := by omega
   subst hj2
   rw [List.drop_length] at hacc
   have HX := hid (And.intro hro hbw)
   have HLN := hid hlen
   unfold rSet at hacc
   clear hro hbw hlen
   cases done with
   | true =>
    rw [if_neg (by simp), List.append_nil] at hacc
    have HR := hid hacc
    clear hacc
    go_wp2_with fail
    go_ret
    exact ⟨_, rfl, by rw [← HR.out]; exact HX.out.1, HX.out.2⟩
   | false =>
    by_cases hc : 0 < cnt
    ·rw [if_pos ⟨rfl, hc⟩] at hacc
     have HR := hid hacc
     have hcn : ((cnt : Int)) > 0 := by omega
     have hcn2 : (0 : Int) < (cnt : Int) := by omega
     clear hacc hc
     go_wp2_with (at_builtin; refine wpList_append_re (o := ⟨some 61, _, _, _, _, _⟩) rfl (Operand.tmp 56) (Operand.tmp 60) rfl w.heap.size _ acc rfl (HX.out.1.below ((Below.refl _ _).alloc (Nat.le_refl _) _)) wr.heap.size key cnt rfl (heap_alloc_new _ _) (by have := HLN.out; omega) (by have := HX.out.2.size; simp; omega) ?_; intro a8 c8 w8 hr8 hb8; have H8 := hid (And.intro hr8 ((HX.out.2.alloc HX.out.2.size (.cells #[.string (str key), .int .i64 (cnt : Int)] 45)).trans hb8)); clear hr8 hb8)
     go_ret
     exact ⟨_, rfl, by rw [← HR.out]; exact H8.out.1, H8.out.2⟩
    ·rw [if_neg (by omega), List.append_nil] at hacc
     have HR := hid hacc
     have hcn : ¬ ((cnt : Int)) > 0 := by omega
     have hcn2 : ¬ (0 : Int) < (cnt : Int) := by omega
     clear hacc hc
     go_wp2_with fail
     go_ret
     exact ⟨_, rfl, by rw [← HR.out]; exact HX.out.1, HX.out.2⟩
end Go.Proofs.YtbmlkocpjboodaaDoor
/- stage 7: the law's in, back; Same of the reference -/
namespace Go.Proofs.YtbmlkocpjboodaaDoor
open Go.RowKit
open Go.Lib (hid)
theorem step_append_re {ops : Array Oper} {o : Oper} {a : Act} {w : World} {K : Act → World → Prop} {Q : Exit → Act → World → Prop} {E : Prop}
  (hg : o.guard = none) (s x : Operand) (hop : o.op = Op.call { callee := Callee.builtin Builtin.append, args := #[s, x], argTypes := #[22, 22] })
  (v v2 : Value) (hs : a.eval s = v) (hx : a.eval x = v2) {v' : Value} {w' : World} (h1 : (Builtin.append_ #[22, 22] o.type #[v, v2]).run Tryd.prog w = .ok v' w') (hK : K (a.put o.dst v') w') :
  if Region.wanted o (yielded ops a.tmps) = true then Oper.wp Tryd.prog o a w K Q else E := by
 have hw : Region.wanted o (yielded ops a.tmps) = true := by simp [Region.wanted, hg]
 rw [if_pos hw]
 unfold Oper.wp
 simp [execOp, hop, resolve, invoke, builtin, hs, hx, h1, Result.andThen]
 exact hK
theorem enL_get : ∀ (l : List (Value × Nat)) (i : Nat) (x : Value × Nat) (j : Nat), l[i]? = some x → j < 2 → (enL l)[i * 2 + j]? = ([x.1, Value.int .i64 (x.2 : Int)] : List Value)[j]?
 | [], i, x, j, h, _ => by simp at h
 | y :: l, 0, x, j, h, hj => by
  injection h with h
  subst h
  show ([y.1, Value.int .i64 (y.2 : Int)] ++ enL l)[0 * 2 + j]? = _
  rw [List.getElem?_append_left (by simp; omega), Nat.zero_mul, Nat.zero_add]
 | y :: l, i + 1, x, j, h, hj => by
  have ih := enL_get l i x j (by simpa using h) hj
  show ([y.1, Value.int .i64 (y.2 : Int)] ++ enL l)[(i + 1) * 2 + j]? = _
  rw [List.getElem?_append_right (by simp; omega)]
  rw [← ih]
  congr 1
  simp only [List.length_cons, List.length_nil]
  omega
/-- a made list of entries is read -/
theorem EnN.ens {w w' : World} {v : Value} {es : List (List Int × Nat)} (h : EnN w w' v es) : EnS w' v es := by
 obtain ⟨K, ⟨xs, h1, h2, h3, h4⟩, hK⟩ := h
 obtain ⟨e1, ⟨rfl, hn⟩ | ⟨g, cap, cur, rfl, q1, q2, q3, q4, q5, q6⟩⟩ := h2
 ·exact ⟨none, 0, by rw [hn], fun i x hx => by have := (List.getElem?_eq_some_iff.1 hx).1; omega⟩
 ·refine ⟨some ⟨g, 0, none⟩, cap, rfl, fun i x hx => ?_⟩
  have hi := (List.getElem?_eq_some_iff.1 hx).1
  have hy : xs[i]? = some (xs[i]'(by omega)) := List.getElem?_eq_getElem (by omega)
  generalize xs[i]'(by omega) = y at hy
  obtain ⟨k1, k2⟩ := h4 i y x hy hx
  have hc : ∀ j, j < 2 → w'.cell? ⟨g, i * 2 + j, none⟩ = ([y.1, Value.int .i64 (y.2 : Int)] : List Value)[j]? := fun j hj => by
   rw [cell_of_row _ _ _ _ _ _ q2, ← Array.getElem?_toList, ← enL_get xs i y j hy hj, ← q6, List.getElem?_take, if_pos (by omega)]
  refine ⟨g, y.1, rfl, blk_lt q2, hc 0 (by omega), ?_, k2.1⟩
  rw [← k1]
  exact hc 1 (by omega)
set_option maxRecDepth 100000 in
set_option maxHeartbeats 8000000 in
theorem back_any (w : World) (v : Value) (es : List (List Int × Nat)) (hv : EnS w v es) (hn : es.length ≤ 1048576) :
  Calls Tryd.prog 18 #[v] w fun d w' => ∃ v', d = .returned v' ∧ RfO w' w.heap.size v' es ∧ Below w.heap.size w w' := by
 have HV := hid hv
 obtain ⟨av, cv, rfl, -⟩ := hv
 go_enter Tryd.func18, Tryd.ntmps18
 go_wp2_with fail
 go_loopw [3, 4] (fun ov iv wr => ∃ (j : Nat), j ≤ es.length ∧ RfO wr w.heap.size ov (es.take j) ∧ iv = .int .i64 (j : Int) ∧ Below w.heap.size w wr) (fun _ iv _ => es.length - (intOf iv).toNat)
 case atStart => exact ⟨0, Nat.zero_le _, ⟨rfl, .inr ⟨w.heap.size, 0, #[], rfl, Nat.le_refl _, heap_alloc_new _ _, Nat.le_refl _, Nat.zero_le _, rfl, rfl⟩⟩, rfl, (Below.refl _ _).alloc (Nat.le_refl _) _⟩
 case round =>
  obtain ⟨j, hj, hro, rfl, hbw⟩ := hrel
  obtain ⟨ao, co, rfl⟩ := hro.slc
  have htl : (es.take j).length = j := by rw [List.length_take]; omega
  rw [htl]
  by_cases hjl : j < es.length
  ·have hx : es[j]? = some (es[j]'hjl) := List.getElem?_eq_getElem hjl
   have hts : es.take (j + 1) = es.take j ++ [es[j]'hjl] := by rw [List.take_add_one, hx]; rfl
   generalize es[j]'hjl = x at hx hts
   obtain ⟨a', c', he, hall⟩ := HV.out
   injection he with e1 e0 e2
   clear e0
   subst e1 e2
   obtain ⟨g, kv, hag, hgl, hc0, hc1, hk⟩ := hall j x hx
   subst hag
   obtain ⟨ak, ck, rfl⟩ := (show ∃ a c, kv = .slice a x.1.length c from by obtain ⟨a, c, e, -⟩ := hk; exact ⟨a, c, e⟩)
   have c0 : wr.cell? ⟨g, j * 2, none⟩ = some (.slice ak x.1.length ck) := (World.cell?_of_block (a := ⟨g, j * 2, none⟩) (hbw.block g hgl)).trans hc0
   have c1 : wr.cell? ⟨g, j * 2 + 1, none⟩ = some (.int .i64 (x.2 : Int)) := (World.cell?_of_block (a := ⟨g, j * 2 + 1, none⟩) (hbw.block g hgl)).trans hc1
   have hj0 : (0 : Int) ≤ (j : Int) := by omega
   have hj1 : (j : Int) < (es.length : Int) := by omega
   have HCV := hid (fun u (hu : Below w.heap.size w u) => conv_bs u ak x.1.length ck x.1 (hk.below hu))
   have HC := hid (fun u (hu : Below w.heap.size w u) => (show u.cell? ⟨g, j * 2, none⟩ = some (.slice ak x.1.length ck) ∧ u.cell? ⟨g, j * 2 + 1, none⟩ = some (.int .i64 (x.2 : Int)) from ⟨(World.cell?_of_block (a := ⟨g, j * 2, none⟩) (hu.block g hgl)).trans hc0, (World.cell?_of_block (a := ⟨g, j * 2 + 1, none⟩) (hu.block g hgl)).trans hc1⟩))
   clear c0 c1
   have hb := hbw.drew
   have HX := hid (And.intro hjl (And.intro hro (And.intro hbw (And.intro hts htl))))
   have HTL := hid htl
   rw [htl] at HX hro
   have HXD := hid (show RfO wr.drew w.heap.size (.slice ao j co) (es.take j) from hro)
   clear hro hbw hx hts hall hc0 hc1 hk hjl hgl hj htl
   go_wp2_with fail
   refine wp_region_held_drew (S := fun u => Below w.heap.size w u) (by kernel_rfl) (hb) (fun hHeld => ?_)
   refine tk (i := 0) (oi := ⟨some 12, .move (.tmp 3), 22, "law.go:38", #[], none⟩) (v := ?_) (Or.inl ⟨by rfl, ?_⟩) ?_
   rotate_left 1
   ·(intro u hSw; go_simp; try with_reducible rfl)
   try simp only [Act.put, sA, sB, sC]
   refine tk (i := 1) (oi := ⟨some 13, .move (.tmp 0), 26, "law.go:38", #[], none⟩) (v := ?_) (Or.inl ⟨by rfl, ?_⟩) ?_
   rotate_left 1
   ·(intro u hSw; go_simp; try with_reducible rfl)
   try simp only [Act.put, sA, sB, sC]
   refine tk (i := 2) (oi := ⟨some 14, .move (.tmp 4), 3, "law.go:38", #[], none⟩) (v := ?_) (Or.inl ⟨by rfl, ?_⟩) ?_
   rotate_left 1
   ·(intro u hSw; go_simp; try with_reducible rfl)
   try simp only [Act.put, sA, sB, sC]
   refine tk (i := 3) (oi := ⟨some 15, .indexAddr 26 (.tmp 13) (.tmp 14), 0, "law.go:38", #[⟨1, .data⟩, ⟨2, .data⟩], none⟩) (v := ?_) (Or.inl ⟨by rfl, ?_⟩) ?_
   rotate_left 1
   ·(intro u hSw; go_simp; try with_reducible rfl)
   try simp only [Act.put, sA, sB, sC]
   refine tk (i := 4) (oi := ⟨some 16, .fieldAddr 33 (.tmp 15) 0, 0, "law.go:38", #[⟨3, .data⟩], none⟩) (v := ?_) (Or.inl ⟨by rfl, ?_⟩) ?_
   rotate_left 1
   ·(intro u hSw; go_simp; try with_reducible rfl)
   try simp only [Act.put, sA, sB, sC]
   refine tk (i := 5) (oi := ⟨some 17, .load 31 (.tmp 16), 31, "law.go:38", #[⟨4, .data⟩], none⟩) (v := ?_) (Or.inl ⟨by rfl, ?_⟩) ?_
   rotate_left 1
   ·(intro u hSw; have y0 := (HC.out _ hSw).1; have y1 := (HC.out _ hSw).2; go_simp; try with_reducible rfl)
   try simp only [Act.put, sA, sB, sC]
   refine tk (i := 6) (oi := ⟨some 18, .convert 31 9 (.tmp 17), 9, "law.go:38", #[⟨5, .data⟩], none⟩) (v := .string (str x.1)) (Or.inl ⟨by rfl, ?_⟩) ?_
   ·intro u hSw
    exact exec_convP 31 9 (Operand.tmp 17) rfl _ rfl _ (HCV.out _ hSw)
   try simp only [Act.put, sA, sB, sC]
   refine tk (i := 7) (oi := ⟨some 19, .move (.tmp 0), 26, "law.go:38", #[], none⟩) (v := ?_) (Or.inl ⟨by rfl, ?_⟩) ?_
   rotate_left 1
   ·(intro u hSw; go_simp; try with_reducible rfl)
   try simp only [Act.put, sA, sB, sC]
   refine tk (i := 8) (oi := ⟨some 20, .move (.tmp 4), 3, "law.go:38", #[], none⟩) (v := ?_) (Or.inl ⟨by rfl, ?_⟩) ?_
   rotate_left 1
   ·(intro u hSw; go_simp; try with_reducible rfl)
   try simp only [Act.put, sA, sB, sC]
   refine tk (i := 9) (oi := ⟨some 21, .indexAddr 26 (.tmp 19) (.tmp 20), 0, "law.go:38", #[⟨7, .data⟩, ⟨8, .data⟩], none⟩) (v := ?_) (Or.inl ⟨by rfl, ?_⟩) ?_
   rotate_left 1
   ·(intro u hSw; go_simp; try with_reducible rfl)
   try simp only [Act.put, sA, sB, sC]
   refine tk (i := 10) (oi := ⟨some 22, .fieldAddr 33 (.tmp 21) 1, 0, "law.go:38", #[⟨9, .data⟩], none⟩) (v := ?_) (Or.inl ⟨by rfl, ?_⟩) ?_
   rotate_left 1
   ·(intro u hSw; go_simp; try with_reducible rfl)
   try simp only [Act.put, sA, sB, sC]
   refine tk (i := 11) (oi := ⟨some 23, .load 2 (.tmp 22), 2, "law.go:38", #[⟨10, .data⟩], none⟩) (v := ?_) (Or.inl ⟨by rfl, ?_⟩) ?_
   rotate_left 1
   ·(intro u hSw; have y0 := (HC.out _ hSw).1; have y1 := (HC.out _ hSw).2; go_simp; try with_reducible rfl)
   try simp only [Act.put, sA, sB, sC]
   refine tk (i := 12) (oi := ⟨some 24, .build 45 #[(0, .tmp 18), (1, .tmp 23)], 45, "law.go:38", #[⟨6, .data⟩, ⟨11, .data⟩], none⟩) (v := ?_) (Or.inl ⟨by rfl, ?_⟩) ?_
   rotate_left 1
   ·(intro u hSw; go_simp; try with_reducible rfl)
   try simp only [Act.put, sA, sB, sC]
   refine wpAnyH_ready (rs := [13]) (by kernel_rfl) (by simp) ?_
   refine (AllReadyH.cons (o := ⟨some 25, .buildSlice 22 1 #[(0, .tmp 24)], 22, "law.go:38", #[⟨12, .data⟩], none⟩) rfl (fun K hK => ?_) AllReadyH.nil)
   try (generalize World.drew wr = ud at *)
   go_simp
   refine al_step2 hb (fun nu hbn q1 hcn => ?_)
   have hro := ((show RfO ud w.heap.size (.slice ao j co) (es.take j) from HXD.out).below hcn)
   have hb := hbn
   clear hcn hbn
   refine hK.out _ _ hb (fun hHeld => ?_)
   clear hK K
   try simp only [Act.put, sA, sB, sC]
   refine wpAnyH_ready (rs := [14]) (by kernel_rfl) (by simp) ?_
   refine (AllReadyH.cons (o := ⟨some 26, .call ⟨.builtin .append, #[.tmp 12, .tmp 25], #[22, 22]⟩, 22, "law.go:38", #[⟨0, .data⟩, ⟨13, .data⟩], none⟩) rfl (fun K hK => ?_) AllReadyH.nil)
   obtain ⟨v8, w8, hr8, ho8, hc8, -⟩ := hro.app hb.size _ x.1 x.2 q1 (by rw [HTL.out]; have := HX.out.1; omega) 22
   have hlt8 := hro.lt
   refine step_append_re (by rfl) (Operand.tmp 12) (Operand.tmp 25) (by rfl) _ _ (by rfl) (by rfl) hr8 ?_
   have hb := hb.trans (hc8.below (B := w.heap.size) (fun q e => (hlt8 q e).1) hb.size)
   obtain ⟨a8, c8, rfl⟩ := ho8.slc
   have hl8 : (es.take j ++ [(x.1, x.2)]).length = j + 1 := by rw [List.length_append, HTL.out]; rfl
   rw [hl8] at ho8 ⊢
   clear hc8 hr8 hro hlt8 hl8
   refine hK.out _ _ hb (fun hHeld => ?_)
   clear hK K
   try simp only [Act.put, sA, sB, sC]
   refine tk (i := 15) (oi := ⟨some 3, .assign (.tmp 26), 22, "law.go:38", #[⟨14, .data⟩, ⟨14, .chain⟩, ⟨0, .phase⟩, ⟨1, .phase⟩, ⟨2, .phase⟩, ⟨3, .phase⟩, ⟨4, .phase⟩, ⟨5, .phase⟩, ⟨6, .phase⟩, ⟨7, .phase⟩, ⟨8, .phase⟩, ⟨9, .phase⟩, ⟨10, .phase⟩, ⟨11, .phase⟩, ⟨12, .phase⟩, ⟨13, .phase⟩, ⟨14, .phase⟩], none⟩) (v := ?_) (Or.inl ⟨by rfl, ?_⟩) ?_
   rotate_left 1
   ·(intro u hSw; go_simp; try with_reducible rfl)
   try simp only [Act.put, sA, sB, sC]
   refine wpAnyH_done (by kernel_rfl) ?_ _
   have H8 := hid (And.intro ho8 hb)
   clear ho8 hb hHeld q1
   go_wp2_with fail
   go_roundw
   case rel => exact ⟨j + 1, HX.out.1, by rw [HX.out.2.2.2.1]; exact H8.out.1, by go_num, H8.out.2⟩
   case measure => have := HX.out.1; simp [intOf]; omega
  ·have hj2 : j = es.length := by omega
   subst hj2
   have HX := hid (And.intro hro hbw)
   rw [htl, List.take_length] at HX
   clear hro hbw htl
   go_wp2_with fail
   go_ret
   exact ⟨_, rfl, HX.out.1, HX.out.2⟩
end Go.Proofs.YtbmlkocpjboodaaDoor
/- stage 7: Same of the reference; the law's verify -/
namespace Go.Proofs.YtbmlkocpjboodaaDoor
open Go.RowKit
open Go.Lib (hid)
set_option maxRecDepth 100000 in
theorem run_equalInE (w : World) (x y : List Int × Int) (hx : Rng x.1) (hy : Rng y.1) : (Op.equalIn 10000 45 (.agg #[.string (str x.1), .int .i64 x.2]) (.agg #[.string (str y.1), .int .i64 y.2])).run Tryd.prog w = .ok (decide (x = y)) w := by
 have u2 := Tryd.underlying2
 have u3 := Tryd.underlying9
 have a2 := Tryd.isAgg2
 have a3 := Tryd.isAgg9
 have hS : Tryd.prog.underlying 45 = some (.struct (Tryd.prog.fieldsOf 45)) := by kernel_rfl
 have hp : Tryd.prog.stoodInHeld 45 = false := by kernel_rfl
 have hb := str_beq hx hy
 rw [show (10000 : Nat) = 9999 + 1 from rfl, run_equalIn_agg w 9999 45 _ _ hS hp]
 simp only [Program.fieldsOf, Tryd.underlying45]
 go_simp
 obtain ⟨xs, xn⟩ := x
 obtain ⟨ys, yn⟩ := y
 by_cases h2 : xn = yn <;> by_cases h3 : xs = ys <;> simp [h2, h3]
set_option maxRecDepth 100000 in
theorem exec_neqE {ρ : Operand → Value} {o : Oper} {w : World} (x y : Operand) (U : TypeId) (ho : o.op = .binOp .neq 45 x y U) (a b : List Int × Int) (hx : ρ x = .agg #[.string (str a.1), .int .i64 a.2]) (hy : ρ y = .agg #[.string (str b.1), .int .i64 b.2]) (ga : Rng a.1) (gb : Rng b.1) :
  (execOp ρ o).run Tryd.prog w = .ok (.value (.bool (!decide (a = b)))) w := by
 have h := run_equalInE w a b ga gb
 have hg : Tryd.prog.eqGuardType Tryd.prog.depth 45 = false := by kernel_rfl
 have hgd : ∀ p q : Array Value, (eqGuard .neq 45 x y (.agg p) (.agg q)).run Tryd.prog w = .ok () w := fun p q => by
  unfold eqGuard
  simp [hg]
 unfold execOp
 rw [ho]
 simp only [hx, hy, Sem.run_bind, hgd, Result.andThen_ok, run_neq_struct, h, Sem.run_pure]
set_option maxRecDepth 100000 in
set_option maxHeartbeats 8000000 in
theorem refSame_any (w : World) (va vb : Value) (la lb : List (List Int × Int)) (ha : RfS w va la) (hb : RfS w vb lb) (ga : ∀ x ∈ la, Rng x.1) (gb : ∀ x ∈ lb, Rng x.1) (hla : la.length ≤ 1073741824) :
  Calls Tryd.prog 17 #[va, vb] w fun d w' => d = .returned (.bool (decide (la = lb))) ∧ Below w.heap.size w w' := by
 have HA := hid ha
 have HB := hid hb
 have GA := hid ga
 have GB := hid gb
 obtain ⟨aa, ca, rfl, -⟩ := ha
 obtain ⟨ab, cb, rfl, -⟩ := hb
 by_cases hl : la.length = lb.length
 ·have HL := hid hl
  have hl1 : (la.length : Int) = (lb.length : Int) := by omega
  clear ga gb hl
  generalize hN : la.length = N at *
  have hl2 : lb.length = N := HL.out.symm
  rw [hl2]
  clear hl1
  generalize hQ : decide (la = lb) = Q
  have HQ := hid hQ
  have HN := hid (And.intro hN hl2)
  clear hQ hN hl2 HL
  rw [HN.out.2] at HB
  go_enter Tryd.func17, Tryd.ntmps17
  go_wp2_with fail
  go_loopw [5] (fun iv wr => ∃ (j : Nat), j ≤ N ∧ iv = .int .i64 (j : Int) ∧ (∀ i, i < j → la[i]? = lb[i]?) ∧ Below w.heap.size w wr) (fun iv _ => N - (intOf iv).toNat)
  case atStart => exact ⟨0, Nat.zero_le _, rfl, fun i hi => absurd hi (Nat.not_lt_zero _), Below.refl _ _⟩
  case round =>
   obtain ⟨j, hj, rfl, hso, hbw⟩ := hrel
   by_cases hjl : j < N
   ·have hx : la[j]? = some (la[j]'(by rw [HN.out.1]; exact hjl)) := List.getElem?_eq_getElem _
    have hy : lb[j]? = some (lb[j]'(by rw [HN.out.2]; exact hjl)) := List.getElem?_eq_getElem _
    generalize la[j]'(by rw [HN.out.1]; exact hjl) = x at hx
    generalize lb[j]'(by rw [HN.out.2]; exact hjl) = y at hy
    obtain ⟨a', c', he, hall⟩ := HA.out
    injection he with e1 e0 e2
    clear e0
    subst e1 e2
    obtain ⟨g, o, hag, hgl, hc0, hc1⟩ := hall j x hx
    subst hag
    obtain ⟨a'', c'', he2, hall2⟩ := HB.out
    injection he2 with e1 e0 e2
    clear e0
    subst e1 e2
    obtain ⟨g2, o2, hag2, hgl2, hd0, hd1⟩ := hall2 j y hy
    subst hag2
    have hj0 : (0 : Int) ≤ (j : Int) := by omega
    have hj1 : (j : Int) < (N : Int) := by omega
    have HC := hid (fun u (hu : Below w.heap.size w u) => (show (u.cell? ⟨g, o + j * 2, none⟩ = some (.string (str x.1)) ∧ u.cell? ⟨g, o + j * 2 + 1, none⟩ = some (.int .i64 x.2)) ∧ u.cell? ⟨g2, o2 + j * 2, none⟩ = some (.string (str y.1)) ∧ u.cell? ⟨g2, o2 + j * 2 + 1, none⟩ = some (.int .i64 y.2) from ⟨⟨(World.cell?_of_block (a := ⟨g, o + j * 2, none⟩) (hu.block g hgl)).trans hc0, (World.cell?_of_block (a := ⟨g, o + j * 2 + 1, none⟩) (hu.block g hgl)).trans hc1⟩, (World.cell?_of_block (a := ⟨g2, o2 + j * 2, none⟩) (hu.block g2 hgl2)).trans hd0, (World.cell?_of_block (a := ⟨g2, o2 + j * 2 + 1, none⟩) (hu.block g2 hgl2)).trans hd1⟩))
    have HX := hid (And.intro hjl (And.intro hso (And.intro hx hy)))
    have gx := GA.out x (List.mem_of_getElem? hx)
    have gy := GB.out y (List.mem_of_getElem? hy)
    have HG := hid (And.intro gx gy)
    have hb := hbw.drew
    clear gx gy hso hx hy hjl hj hall hall2 hc0 hc1 hd0 hd1 hgl hgl2 hbw
    go_wp2_with fail
    refine wp_region_held_drew (S := fun u => Below w.heap.size w u) (by kernel_rfl) (hb) (fun hHeld => ?_)
    refine tk (i := 0) (oi := ⟨some 17, .move (.tmp 0), 22, "ref.go:251", #[], none⟩) (v := ?_) (Or.inl ⟨by rfl, ?_⟩) ?_
    rotate_left 1
    ·(intro u hSw; go_simp; try with_reducible rfl)
    try simp only [Act.put, sA, sB, sC]
    refine tk (i := 1) (oi := ⟨some 18, .move (.tmp 5), 3, "ref.go:251", #[], none⟩) (v := ?_) (Or.inl ⟨by rfl, ?_⟩) ?_
    rotate_left 1
    ·(intro u hSw; go_simp; try with_reducible rfl)
    try simp only [Act.put, sA, sB, sC]
    refine tk (i := 2) (oi := ⟨some 19, .indexAddr 22 (.tmp 17) (.tmp 18), 0, "ref.go:251", #[⟨0, .data⟩, ⟨1, .data⟩], none⟩) (v := ?_) (Or.inl ⟨by rfl, ?_⟩) ?_
    rotate_left 1
    ·(intro u hSw; go_simp; try with_reducible rfl)
    try simp only [Act.put, sA, sB, sC]
    refine tk (i := 3) (oi := ⟨some 20, .load 45 (.tmp 19), 45, "ref.go:251", #[⟨2, .data⟩], none⟩) (v := ?_) (Or.inl ⟨by rfl, ?_⟩) ?_
    rotate_left 1
    ·(intro u hSw; have y0 := (HC.out _ hSw).1.1; have y1 := (HC.out _ hSw).1.2; have y2 := (HC.out _ hSw).2.1; have y3 := (HC.out _ hSw).2.2; go_simp; try with_reducible rfl)
    try simp only [Act.put, sA, sB, sC]
    refine tk (i := 4) (oi := ⟨some 21, .move (.tmp 1), 22, "ref.go:251", #[], none⟩) (v := ?_) (Or.inl ⟨by rfl, ?_⟩) ?_
    rotate_left 1
    ·(intro u hSw; go_simp; try with_reducible rfl)
    try simp only [Act.put, sA, sB, sC]
    refine tk (i := 5) (oi := ⟨some 22, .move (.tmp 5), 3, "ref.go:251", #[], none⟩) (v := ?_) (Or.inl ⟨by rfl, ?_⟩) ?_
    rotate_left 1
    ·(intro u hSw; go_simp; try with_reducible rfl)
    try simp only [Act.put, sA, sB, sC]
    refine tk (i := 6) (oi := ⟨some 23, .indexAddr 22 (.tmp 21) (.tmp 22), 0, "ref.go:251", #[⟨4, .data⟩, ⟨5, .data⟩], none⟩) (v := ?_) (Or.inl ⟨by rfl, ?_⟩) ?_
    rotate_left 1
    ·(intro u hSw; go_simp; try with_reducible rfl)
    try simp only [Act.put, sA, sB, sC]
    refine tk (i := 7) (oi := ⟨some 24, .load 45 (.tmp 23), 45, "ref.go:251", #[⟨6, .data⟩], none⟩) (v := ?_) (Or.inl ⟨by rfl, ?_⟩) ?_
    rotate_left 1
    ·(intro u hSw; have y0 := (HC.out _ hSw).1.1; have y1 := (HC.out _ hSw).1.2; have y2 := (HC.out _ hSw).2.1; have y3 := (HC.out _ hSw).2.2; go_simp; try with_reducible rfl)
    try simp only [Act.put, sA, sB, sC]
    refine tk (i := 8) (oi := ⟨some 25, .binOp BinOp.neq 45 (.tmp 20) (.tmp 24) 45, 4, "ref.go:251", #[⟨3, .data⟩, ⟨7, .data⟩], none⟩) (v := .bool (!decide (x = y))) (Or.inl ⟨by rfl, ?_⟩) ?_
    ·intro u hSw
     exact exec_neqE (Operand.tmp 20) (Operand.tmp 24) _ rfl x y rfl rfl HG.out.1 HG.out.2
    try simp only [Act.put, sA, sB, sC]
    refine wpAnyH_done (by kernel_rfl) ?_ _
    clear HC hHeld
    have HBB := hid hb
    clear hb
    by_cases hxy : x = y
    ·have HXY := hid hxy
     have hd : (!decide (x = y)) = false := by rw [decide_eq_true hxy]; rfl
     rw [hd]
     clear hd hxy
     go_wp2_with fail
     go_roundw
     case rel =>
      refine ⟨j + 1, HX.out.1, by go_num, fun i hi => ?_, HBB.out⟩
      by_cases hij : i < j
      ·exact HX.out.2.1 i hij
      ·have : i = j := by omega
       rw [this, HX.out.2.2.1, HX.out.2.2.2, HXY.out]
     case measure => have := HX.out.1; simp [intOf]; omega
    ·have hd : (!decide (x = y)) = true := by rw [decide_eq_false hxy]; rfl
     rw [hd]
     have HF := hid (show Q = false by
      rw [← HQ.out]
      exact decide_eq_false (fun e => hxy (by
       have h1 := HX.out.2.2.1
       rw [e, HX.out.2.2.2] at h1
       injection h1 with h1
       exact h1.symm)))
     clear hd hxy
     go_wp2_with fail
     go_ret
     rw [HF.out]
     exact ⟨rfl, HBB.out⟩
   ·have hj2 : j = N := by omega
    subst hj2
    have HF := hid (show Q = true by
     rw [← HQ.out]
     refine decide_eq_true (List.ext_getElem? (fun i => ?_))
     by_cases hi : i < j
     ·exact hso i hi
     ·rw [List.getElem?_eq_none (by rw [HN.out.1]; omega), List.getElem?_eq_none (by rw [HN.out.2]; omega)])
    have HBB := hid hbw
    clear hso hbw
    go_wp2_with fail
    go_ret
    rw [HF.out]
    exact ⟨rfl, HBB.out⟩
 ·have HF := hid (decide_eq_false (fun e : la = lb => hl (by rw [e])))
  have hl1 : ¬ (la.length : Int) = (lb.length : Int) := by omega
  have hl2 : ¬ la.length = lb.length := hl
  clear hl ga gb
  go_enter Tryd.func17, Tryd.ntmps17
  go_wp2_with fail
  go_ret
  rw [HF.out]
  exact ⟨rfl, Below.refl _ _⟩
end Go.Proofs.YtbmlkocpjboodaaDoor
/- stage 7: the law's verify -/
namespace Go.Proofs.YtbmlkocpjboodaaDoor
open Go.RowKit
open Go.Lib (hid)
end Go.Proofs.YtbmlkocpjboodaaDoor
/- stage 7: MerkleComplete -/
namespace Go.Proofs.YtbmlkocpjboodaaDoor
open Go.RowKit
open Go.Lib (hid)
theorem ino_len : ∀ t : MT, t.ino.length ≤ t.size
 | .nil => Nat.le_refl _
 | .cut _ => Nat.le_refl _
 | .nd k n rk d l r => by
  have h1 := ino_len l
  have h2 := ino_len r
  simp only [MT.ino, MT.size, List.length_append, List.length_cons]
  omega
theorem ino_rng : ∀ t : MT, t.Good → ∀ x ∈ t.ino, Rng x.1
 | .nil, _, x, h => by cases h
 | .cut _, _, x, h => by cases h
 | .nd k n rk d l r, g, x, h => by
  obtain ⟨-, gl, gr, -, hk, -⟩ := g
  unfold MT.ino at h
  rcases List.mem_append.1 h with h | h
  ·exact ino_rng l gl x h
  ·rcases List.mem_cons.1 h with rfl | h
   ·exact hk
   ·exact ino_rng r gr x h
theorem RfO.cgX {w w' : World} {B X : Nat} {v : Value} {l : List (List Int × Nat)} (h : RfO w B v l) (hc : Chg (fun q => q = X) w w') (hX : X < B) : RfO w' B v l := by
 have hlt := h.lt
 refine ⟨h.1, h.2.imp id ?_⟩
 rintro ⟨g, cap, cur, rfl, q1, q2, q3⟩
 exact ⟨g, cap, cur, rfl, q1, (hc.block g (hlt g rfl).2 (by omega)).trans q2, q3⟩
theorem toI_rng {l : List (List Int × Nat)} (h : ∀ x ∈ l, Rng x.1) : ∀ x ∈ l.map toI, Rng x.1 := fun x hx => by
 obtain ⟨y, hy, rfl⟩ := List.mem_map.1 hx
 exact h y hy
end Go.Proofs.YtbmlkocpjboodaaDoor
/- stage 7, plain: how much a proof's bytes can tell -/
namespace Go.Proofs.YtbmlkocpjboodaaDoor
open Go.RowKit
open Go.Lib (hid)
end Go.Proofs.YtbmlkocpjboodaaDoor
