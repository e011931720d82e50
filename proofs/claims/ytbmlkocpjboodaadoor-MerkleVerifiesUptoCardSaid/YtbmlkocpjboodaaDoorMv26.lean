/- stage 7: Read, sum, text, misses of the reference -/
import Derived.Test.YtbmlkocpjboodaaDoorMv25
namespace Go.Proofs.YtbmlkocpjboodaaDoor
open Go.RowKit
open Go.Lib (hid)
/-- how Read ends -/
def AEnd (w : World) (e : Ending) (w' : World) : Int ⊕ MT → Prop
 | .inl c => c ≠ 0 ∧ e = .returned (.tuple #[.pointer none, .int .i64 c]) ∧ Below w.heap.size w w'
 | .inr t => ∃ b, e = .returned (.tuple #[.pointer (some ⟨b, 0, none⟩), .int .i64 0]) ∧ PTs w' w.heap.size (.pointer (some ⟨b, 0, none⟩)) t ∧ Below w.heap.size w w'
set_option maxRecDepth 100000 in
set_option maxHeartbeats 8000000 in
theorem refReadAll_any (w : World) (a : Option Addr) (c m : Nat) (l : List Int) (hm : l.length = m) (hb : Bs w (.slice a m c) l) (hr : Rng l) (hl : l.length ≤ 1048576) :
  Calls Tryd.prog 41 #[.slice a m c] w fun e w' => AEnd w e w' (rdAll l) := by
 have hT : Calls Tryd.prog 72 #[.slice a m c, .int .i64 0] w fun e w' => PEnd (fun q => q < w.heap.size) w e w' (rdT 4097 l) := refRead_any 4097 0 (by omega) w a c m l hm hb.kis (fun q h => h) hr hl
 have hA : rdAll l = match rdT 4097 l with
  | .inl c => .inl c
  | .inr (t, r) => if r = [] then .inr t else .inl 7 := rfl
 have HA := hid hA
 have HT := hid hT
 clear hb hr hl hA hT hm
 go_enter Tryd.func41, Tryd.ntmps41
 go_wp2_with fail
 have hT := HT.out
 have hA := HA.out
 generalize rdT 4097 l = R at *
 refine hT.mono ?_
 cases R with
 | inl c1 =>
  rintro e w1 ⟨hc, rfl, hb1⟩
  have HB := hid (And.intro hc hb1)
  have HRS := hid (show rdAll l = .inl c1 from hA)
  have hne : (c1 == 0) = false := beq_false_of_ne hc
  clear hc hb1 hT hA
  go_wp2_with fail
  go_ret2
  rw [HRS.out]
  exact ⟨HB.out.1, rfl, HB.out.2⟩
 | inr x =>
  obtain ⟨t, r⟩ := x
  rintro e w1 ⟨b1, a1, c1, rfl, hp, hk, hb1⟩
  have HB := hid (And.intro hp hb1)
  have hA' : rdAll l = if r = [] then .inr t else .inl 7 := hA
  clear hp hk hb1 hT hA
  by_cases h0 : r = []
  ·have HRS := hid (show rdAll l = .inr t from by rw [hA', if_pos h0])
   have hl0 : ¬ (r.length : Int) > 0 := by rw [h0]; simp
   clear hA' h0
   generalize r.length = n at *
   go_wp2_with fail
   go_ret2
   rw [HRS.out]
   exact ⟨_, rfl, HB.out.1, HB.out.2⟩
  ·have HRS := hid (show rdAll l = .inl 7 from by rw [hA', if_neg h0])
   have hl0 : (r.length : Int) > 0 := by have := List.length_pos_iff.2 h0; omega
   clear hA' h0
   generalize r.length = n at *
   go_wp2_with fail
   go_ret2
   rw [HRS.out]
   exact ⟨by decide, rfl, HB.out.2⟩
set_option maxRecDepth 100000 in
set_option maxHeartbeats 8000000 in
theorem ptext_nil (w : World) (b : Nat) (cut k : List Int) (n : Int) (lp rp : Value) (hp : PB w b 0 cut k n lp rp) :
  Calls Tryd.prog 73 #[.pointer (some ⟨b, 0, none⟩)] w fun e w' => ∃ v', e = .returned v' ∧ Bs w' v' txt0 ∧ Below w.heap.size w w' := by
 have k0 := hp.c0
 clear hp
 go_enter Tryd.func73, Tryd.ntmps73
 go_wp2_with fail
 refine (refEmpty_any w).mono ?_
 rintro e w1 ⟨v1, rfl, hbs, hb⟩
 have H := hid (And.intro hbs hb)
 obtain ⟨a1, c1, rfl⟩ : ∃ a c, v1 = .slice a txt0.length c := by obtain ⟨a, c, h, _⟩ := hbs; exact ⟨a, c, h⟩
 clear hbs hb
 go_wp2_with fail
 go_ret
 exact ⟨_, rfl, H.out.1, H.out.2⟩
set_option maxRecDepth 100000 in
set_option maxHeartbeats 8000000 in
theorem psum_of (w : World) (b : Nat) (kd : Int) (cut k : List Int) (n : Int) (lp rp : Value) (hp : PB w b kd cut k n lp rp) (hk : kd ≠ 1) (T : List Int) (hTl : T.length ≤ 549755813888)
  (hT : ∀ u, Below w.heap.size w u → Calls Tryd.prog 73 #[.pointer (some ⟨b, 0, none⟩)] u fun e w' => ∃ v', e = .returned v' ∧ Bs w' v' T ∧ Below u.heap.size u w') :
  Calls Tryd.prog 45 #[.pointer (some ⟨b, 0, none⟩)] w fun e w' => e = .returned (.agg (ArrU8 (sha T))) ∧ Below w.heap.size w w' := by
 have b1 : Below w.heap.size w (w.alloc (.cells #[.int .u8 0, .int .u8 0, .int .u8 0, .int .u8 0, .int .u8 0, .int .u8 0, .int .u8 0, .int .u8 0, .int .u8 0, .int .u8 0, .int .u8 0, .int .u8 0, .int .u8 0, .int .u8 0, .int .u8 0, .int .u8 0, .int .u8 0, .int .u8 0, .int .u8 0, .int .u8 0, .int .u8 0, .int .u8 0, .int .u8 0, .int .u8 0, .int .u8 0, .int .u8 0, .int .u8 0, .int .u8 0, .int .u8 0, .int .u8 0, .int .u8 0, .int .u8 0] 35)) := (Below.refl _ _).alloc (Nat.le_refl _) _
 have hX : (w.alloc (.cells #[.int .u8 0, .int .u8 0, .int .u8 0, .int .u8 0, .int .u8 0, .int .u8 0, .int .u8 0, .int .u8 0, .int .u8 0, .int .u8 0, .int .u8 0, .int .u8 0, .int .u8 0, .int .u8 0, .int .u8 0, .int .u8 0, .int .u8 0, .int .u8 0, .int .u8 0, .int .u8 0, .int .u8 0, .int .u8 0, .int .u8 0, .int .u8 0, .int .u8 0, .int .u8 0, .int .u8 0, .int .u8 0, .int .u8 0, .int .u8 0, .int .u8 0, .int .u8 0] 35)).heap[w.heap.size]? = some (.cells #[.int .u8 0, .int .u8 0, .int .u8 0, .int .u8 0, .int .u8 0, .int .u8 0, .int .u8 0, .int .u8 0, .int .u8 0, .int .u8 0, .int .u8 0, .int .u8 0, .int .u8 0, .int .u8 0, .int .u8 0, .int .u8 0, .int .u8 0, .int .u8 0, .int .u8 0, .int .u8 0, .int .u8 0, .int .u8 0, .int .u8 0, .int .u8 0, .int .u8 0, .int .u8 0, .int .u8 0, .int .u8 0, .int .u8 0, .int .u8 0, .int .u8 0, .int .u8 0] 35 (0, 0)) := heap_alloc_new _ _
 have hp1 := hp.below b1
 have k0 := hp1.c0
 have hk1 : (kd == 1) = false := beq_false_of_ne hk
 have HT := hid hT
 have HSUM := hid (fun w2 v2 (h : Bs w2 v2 T) => refSum_any v2 T w2 h hTl)
 have hsl := sha_len T
 generalize sha T = R at *
 have HI := hid (info_re32 R hsl)
 have HS := hid (sz32 R hsl)
 clear hp hp1 hk hT hTl hsl
 go_enter Tryd.func45, Tryd.ntmps45
 go_wp2_with fail
 generalize w.alloc (.cells #[.int .u8 0, .int .u8 0, .int .u8 0, .int .u8 0, .int .u8 0, .int .u8 0, .int .u8 0, .int .u8 0, .int .u8 0, .int .u8 0, .int .u8 0, .int .u8 0, .int .u8 0, .int .u8 0, .int .u8 0, .int .u8 0, .int .u8 0, .int .u8 0, .int .u8 0, .int .u8 0, .int .u8 0, .int .u8 0, .int .u8 0, .int .u8 0, .int .u8 0, .int .u8 0, .int .u8 0, .int .u8 0, .int .u8 0, .int .u8 0, .int .u8 0, .int .u8 0] 35) = w1 at *
 refine (HT.out w1 b1).mono ?_
 rintro e w2 ⟨v2, rfl, hbs, hb2⟩
 obtain ⟨a2, c2, rfl⟩ : ∃ a c, v2 = .slice a T.length c := by obtain ⟨a, c, h, _⟩ := hbs; exact ⟨a, c, h⟩
 have HX := hid (And.intro ((hb2.block _ (blk_lt hX)).trans hX) (b1.trans (hb2.mono b1.size)))
 have HBS := hid hbs
 clear b1 hX hbs hb2 k0 HT
 go_wp2_with fail
 refine (HSUM.out w2 _ HBS.out).mono ?_
 rintro e w3 ⟨rfl, hb3⟩
 have HX3 := hid (And.intro ((hb3.block _ (blk_lt HX.out.1)).trans HX.out.1) (HX.out.2.trans (hb3.mono HX.out.2.size)))
 clear hb3 HBS
 go_wp2_with (first | (refine wpList_store_row rfl 35 (Operand.tmp 2) (Operand.tmp 14) rfl w.heap.size (ArrU8 R) rfl rfl 35 _ HX3.out.1 HI.out HS.out.symm (ArrU8_one _) ?_) | fail)
 refine bodyPost_ret (results_cell_row rfl _ _ w.heap.size 35 (ArrU8 R) (0,0) _ rfl (setRow_heap _ _ _ _ _ _ HX3.out.1) Tryd.underlying35 rfl HI.out) rfl ⟨rfl, ?_⟩
 exact below_setRow HX3.out.2 (Nat.le_refl _) _
set_option maxRecDepth 100000 in
set_option maxHeartbeats 8000000 in
theorem psum_cut (w : World) (b : Nat) (cut k : List Int) (n : Int) (lp rp : Value) (hp : PB w b 1 cut k n lp rp) :
  Calls Tryd.prog 45 #[.pointer (some ⟨b, 0, none⟩)] w fun e w' => e = .returned (.agg (ArrU8 cut)) ∧ Below w.heap.size w w' := by
 have b1 : Below w.heap.size w (w.alloc (.cells #[.int .u8 0, .int .u8 0, .int .u8 0, .int .u8 0, .int .u8 0, .int .u8 0, .int .u8 0, .int .u8 0, .int .u8 0, .int .u8 0, .int .u8 0, .int .u8 0, .int .u8 0, .int .u8 0, .int .u8 0, .int .u8 0, .int .u8 0, .int .u8 0, .int .u8 0, .int .u8 0, .int .u8 0, .int .u8 0, .int .u8 0, .int .u8 0, .int .u8 0, .int .u8 0, .int .u8 0, .int .u8 0, .int .u8 0, .int .u8 0, .int .u8 0, .int .u8 0] 35)) := (Below.refl _ _).alloc (Nat.le_refl _) _
 have hX : (w.alloc (.cells #[.int .u8 0, .int .u8 0, .int .u8 0, .int .u8 0, .int .u8 0, .int .u8 0, .int .u8 0, .int .u8 0, .int .u8 0, .int .u8 0, .int .u8 0, .int .u8 0, .int .u8 0, .int .u8 0, .int .u8 0, .int .u8 0, .int .u8 0, .int .u8 0, .int .u8 0, .int .u8 0, .int .u8 0, .int .u8 0, .int .u8 0, .int .u8 0, .int .u8 0, .int .u8 0, .int .u8 0, .int .u8 0, .int .u8 0, .int .u8 0, .int .u8 0, .int .u8 0] 35)).heap[w.heap.size]? = some (.cells #[.int .u8 0, .int .u8 0, .int .u8 0, .int .u8 0, .int .u8 0, .int .u8 0, .int .u8 0, .int .u8 0, .int .u8 0, .int .u8 0, .int .u8 0, .int .u8 0, .int .u8 0, .int .u8 0, .int .u8 0, .int .u8 0, .int .u8 0, .int .u8 0, .int .u8 0, .int .u8 0, .int .u8 0, .int .u8 0, .int .u8 0, .int .u8 0, .int .u8 0, .int .u8 0, .int .u8 0, .int .u8 0, .int .u8 0, .int .u8 0, .int .u8 0, .int .u8 0] 35 (0, 0)) := heap_alloc_new _ _
 have hp1 := hp.below b1
 have k0 := hp1.c0
 have HI := hid (info_re32 cut hp.1)
 have HS := hid (sz32 cut hp.1)
 have HIM := hid (show (Tryd.prog.info? 35).map (·.size) = some (cut.map (Value.int .u8)).length by rw [List.length_map, hp.1]; exact (info_re32 cut hp.1).trans (by rw [sz32 cut hp.1]))
 have HRG := hid hp1.rg
 have HX := hid (And.intro hX b1)
 clear hp hp1 hX b1
 go_enter Tryd.func45, Tryd.ntmps45
 go_wp2_with (first
  | (refine wpList_load_mid rfl 35 (Operand.tmp 10) rfl b 1 rfl (cut.map (Value.int .u8)) _ HRG.out Tryd.underlying35 rfl HIM.out ?_)
  | (refine wpList_store_row rfl 35 (Operand.tmp 2) (Operand.tmp 11) rfl w.heap.size (ArrU8 cut) rfl rfl 35 _ HX.out.1 HI.out HS.out.symm (ArrU8_one _) ?_))
 refine bodyPost_ret (results_cell_row rfl _ _ w.heap.size 35 (ArrU8 cut) (0,0) _ rfl (setRow_heap _ _ _ _ _ _ HX.out.1) Tryd.underlying35 rfl HI.out) rfl ⟨rfl, ?_⟩
 exact below_setRow HX.out.2 (Nat.le_refl _) _
end Go.Proofs.YtbmlkocpjboodaaDoor
