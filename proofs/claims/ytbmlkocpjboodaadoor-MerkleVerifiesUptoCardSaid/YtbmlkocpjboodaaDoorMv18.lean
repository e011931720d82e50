/- stage 7: the law's fixed tree -/
import Derived.Test.YtbmlkocpjboodaaDoorMv17
namespace Go.Proofs.YtbmlkocpjboodaaDoor
open Go.RowKit
open Go.Lib (hid)
/-- the tree of one entry and the empty tree stand -/
structure FX (u : World) (X1 X2 : Nat) (p1 : Value) : Prop where
 t1 : TIs u X1 p1
 m1 : MIs u (fun _ => True) p1 Tone
 t2 : TIs u X2 (.pointer none)
 kc : KC u
theorem FX.below {u u' : World} {X1 X2 : Nat} {p1 : Value} (h : FX u X1 X2 p1) (hb : Below u.heap.size u u') : FX u' X1 X2 p1 :=
 ⟨(hb.block _ (blk_lt h.t1)).trans h.t1, h.m1.below hb, (hb.block _ (blk_lt h.t2)).trans h.t2, h.kc.below hb h.kc.1⟩
theorem own_lit1 {u : World} {g B : Nat} {x : Int} (h : u.heap[g]? = some (.cells #[.int .u8 x] 5 (0, 0))) (hB : B ≤ g) : Own u B (.slice (some ⟨g, 0, none⟩) 1 1) [x] :=
 ⟨rfl, .inr ⟨g, 1, _, rfl, hB, h, Nat.le_refl _, by decide, rfl, rfl⟩⟩
theorem step_append_u8 {ops : Array Oper} {o : Oper} {a : Act} {w : World} {K : Act → World → Prop} {Q : Exit → Act → World → Prop} {E : Prop}
  (hg : o.guard = none) (s x : Operand) (hop : o.op = Op.call { callee := Callee.builtin Builtin.append, args := #[s, x], argTypes := #[31, 31] })
  (v v2 : Value) (hs : a.eval s = v) (hx : a.eval x = v2) {v' : Value} {w' : World} (h1 : (Builtin.append_ #[31, 31] o.type #[v, v2]).run Tryd.prog w = .ok v' w') (hK : K (a.put o.dst v') w') :
  if Region.wanted o (yielded ops a.tmps) = true then Oper.wp Tryd.prog o a w K Q else E := by
 have hw : Region.wanted o (yielded ops a.tmps) = true := by simp [Region.wanted, hg]
 rw [if_pos hw]
 unfold Oper.wp
 simp [execOp, hop, resolve, invoke, builtin, hs, hx, h1, Result.andThen]
 exact hK
theorem cut_rd (d : List Int) (h : d.length = 32) : rdAll ([1] ++ d) = .inr (.cut d) := by
 unfold rdAll
 show (match rdP d with | .inl c => (.inl c : Int ⊕ MT) | .inr (t, r) => if r = [] then .inr t else .inl 7) = _
 unfold rdP
 rw [if_neg (by omega)]
 have h2 : d.take 32 = d := List.take_of_length_le (by omega)
 have h3 : d.drop 32 = [] := List.drop_eq_nil_of_le (by omega)
 rw [h2, h3]
 rfl
theorem str0 : (str [0]).toList = [0] := by kernel_rfl
theorem step_of_runP {P : Program} {ops : Array Oper} {o : Oper} {a : Act} {w w' : World} {v : Value} {K : Act → World → Prop} {Q : Exit → Act → World → Prop} {E : Prop} (hw : Region.wanted o (yielded ops a.tmps) = true) (hr : (execOp a.eval o).run P w = .ok (.value v) w') (hK : K (a.put o.dst v) w') :
  if Region.wanted o (yielded ops a.tmps) = true then Oper.wp P o a w K Q else E := by
 rw [if_pos hw]
 unfold Oper.wp
 simp [hr]
 exact hK
theorem exec_convP {P : Program} {ρ : Operand → Value} {o : Oper} {w V1 : World} (T1 T2 : TypeId) (x : Operand) (ho : o.op = .convert T1 T2 x) (b : Value) (hx : ρ x = b) (v : Value) (h : (convert T1 T2 b).run P w = .ok v V1) : (execOp ρ o).run P w = .ok (.value v) V1 := by
 unfold execOp
 simp only [ho, hx, Sem.run_bind, h, Result.andThen_ok, Sem.run_pure]
/-- the first count of a list of one entry -/
def En1 (w : World) (v : Value) (n : Nat) : Prop := ∃ g cap, v = .slice (some ⟨g, 0, none⟩) 1 cap ∧ g < w.heap.size ∧ w.cell? ⟨g, 1, none⟩ = some (.int .i64 (n : Int))
theorem EnN.one {w w' : World} {v : Value} {k : List Int} {n : Nat} (h : EnN w w' v [(k, n)]) : En1 w' v n := by
 obtain ⟨K, ⟨xs, h1, h2, h3, h4⟩, hK⟩ := h
 obtain ⟨e1, ⟨-, e⟩ | ⟨g, cap, cur, rfl, q1, q2, q3, q4, q5, q6⟩⟩ := h2
 ·simp at e
 ·have hx : ∃ x, xs = [x] := by
   cases xs with
   | nil => simp at h1
   | cons x xs =>
    cases xs with
    | nil => exact ⟨x, rfl⟩
    | cons y ys => simp at h1
  obtain ⟨x, rfl⟩ := hx
  have h5 : x.2 = n := (h4 0 x (k, n) rfl rfl).1
  refine ⟨g, cap, rfl, blk_lt q2, ?_⟩
  rw [cell_of_row _ _ _ _ _ _ q2, ← Array.getElem?_toList]
  have h6 : (cur.toList.take ([(k, n)].length * 2))[1]? = cur.toList[1]? := by
   rw [List.getElem?_take, if_pos (by simp)]
  rw [← h6, q6, ← h5]
  rfl
theorem En1.keepN {w w' : World} {v : Value} {n : Nat} (h : En1 w v n) (hb : Below w.heap.size w w') : En1 w' v n := by
 obtain ⟨g, cap, e, h1, h2⟩ := h
 exact ⟨g, cap, e, Nat.lt_of_lt_of_le h1 hb.size, (World.cell?_of_block (a := ⟨g, 1, none⟩) (hb.block g h1)).trans h2⟩
theorem dag_intro {P : Program} {md : Region.Mode} {ops : Array Oper} {Q : Exit → Act → World → Prop} {S : World → Prop} {fuel : Nat} {listed : Array Bool} {a : Act} {w : World} (h : ∀ W : Nat → Array Bool → Act → World → Prop, W = wpAnyH P md ops Q S → W fuel listed a w) : wpAnyH P md ops Q S fuel listed a w := h _ rfl
theorem bs_mark {u nu : World} {g : Nat} {C : Array Value} {T : TypeId} {fr : Nat × Nat} {v : Value} {l : List Int} (h : Bs u v l) (hq : u.heap[g]? = some (.cells C T (0, 0))) (q : nu.heap[g]? = some (.cells C T fr)) (hc : Chg (fun q => q = g) u nu) : Bs nu v l := by
 obtain ⟨a, cap, hv, hca, h⟩ := h
 refine ⟨a, cap, hv, hca, fun h0 => ?_⟩
 obtain ⟨b, off, e1, e2, e3⟩ := h h0
 refine ⟨b, off, e1, Nat.lt_of_lt_of_le e2 hc.size, fun i hi => ?_⟩
 by_cases hb : b = g
 ·subst hb
  have e4 := e3 i hi
  rw [cell_of_row _ _ _ _ _ _ hq] at e4
  rw [cell_of_row _ _ _ _ _ _ q]
  exact e4
 ·exact (World.cell?_of_block (a := ⟨b, off + i, none⟩) (hc.block b e2 hb)).trans (e3 i hi)
/-- the frame at region 6 -/
def fr6 (X1 X2 a7 a0 a3 a5 : Nat) (de : List Int) (v4 v37 v38 v40 v41 v42 v44 v45 : Value) : Act := ⟨List.toArray (.bool false :: .pointer (some ⟨X1, 0, none⟩) :: .pointer (some ⟨X2, 0, none⟩) :: .pointer (some ⟨a7, 0, none⟩) :: v4 :: undef :: undef :: undef :: undef :: undef :: undef :: undef :: undef :: .slice (some ⟨a0, 0, none⟩) 1 1 :: .slice (some ⟨a0, 0, none⟩) 1 1 :: .agg #[.slice (some ⟨a0, 0, none⟩) 1 1, .int .i64 1] :: .slice (some ⟨a0 + 1, 0, none⟩) 1 1 :: .pointer (some ⟨X1, 0, none⟩) :: .pointer (some ⟨X2, 0, none⟩) :: .pointer (some ⟨X1, 0, none⟩) :: .bool false :: .bool false :: .pointer (some ⟨X2, 0, none⟩) :: .bool false :: .bool false :: .bool false :: .slice (some ⟨a3, 0, none⟩) 1 1 :: .slice (some ⟨a3, 0, none⟩) 1 1 :: .agg #[.slice (some ⟨a3, 0, none⟩) 1 1, .int .i64 0] :: .slice (some ⟨a3 + 1, 0, none⟩) 1 1 :: .pointer none :: .bool false :: .bool false :: .slice (some ⟨a5, 0, none⟩) 5 5 :: .slice (some ⟨a5, 0, none⟩) 5 5 :: .slice (some ⟨a5 + 1, 0, none⟩) 1 1 :: .agg (ArrU8 de) :: v37 :: v38 :: .slice (some ⟨a7, 0, none⟩) 32 32 :: v40 :: v41 :: v42 :: .slice (some ⟨a7, 0, none⟩) 32 32 :: v44 :: v45 :: undef :: undef :: undef :: undef :: undef :: undef :: undef :: undef :: undef :: undef :: undef :: undef :: undef :: undef :: undef :: undef :: undef :: undef :: undef :: undef :: undef :: undef :: undef :: undef :: undef :: undef :: undef :: undef :: undef :: undef :: undef :: undef :: undef :: undef :: undef :: undef :: undef :: undef :: undef :: undef :: undef :: undef :: undef :: undef :: undef :: undef :: undef :: undef :: undef :: undef :: undef :: undef :: undef :: undef :: undef :: undef :: undef :: undef :: undef :: undef :: undef :: undef :: undef :: undef :: undef :: undef :: undef :: undef :: undef :: undef :: []), []⟩
set_option maxRecDepth 100000 in
theorem zeroDg (u : World) : (zeroValue 36).run Tryd.prog u = .ok (.agg (ArrU8 (zeros 32))) u := by kernel_rfl
set_option maxRecDepth 100000 in
set_option maxHeartbeats 8000000 in
theorem fixed_any (w : World) (hK : KC w) : Calls Tryd.prog 9 #[] w fun d w' => d = .returned (.bool true) ∧ Below w.heap.size w w' := by
 have kc := fun (w : World) (C : Array Value) (n c : Nat) => Lib.run_convert_bytes_const (P := Tryd.prog) w 31 5 C n c Tryd.underlying31 Tryd.underlying5
 have HK := hid hK
 clear hK
 go_enter Tryd.func9, Tryd.ntmps9
 go_wp2_with fail
 have hb1 : Below w.heap.size w ((w.alloc (.cells #[.int .u8 97] 5 (1, 2))).alloc (.cells #[.slice (some ⟨w.heap.size, 0, none⟩) 1 1, .int .i64 1] 33)) := ((Below.refl _ _).alloc (Nat.le_refl _) _).alloc (by simp) _
 have hx1 : ((w.alloc (.cells #[.int .u8 97] 5 (1, 2))).alloc (.cells #[.slice (some ⟨w.heap.size, 0, none⟩) 1 1, .int .i64 1] 33)).heap[w.heap.size + 1]? = some (.cells #[.slice (some ⟨w.heap.size, 0, none⟩) 1 1, .int .i64 1] 33 (0, 0)) := by
  have e := heap_alloc_new (w.alloc (.cells #[.int .u8 97] 5 (1, 2))) (.cells #[.slice (some ⟨w.heap.size, 0, none⟩) 1 1, .int .i64 1] 33)
  rwa [World.size_alloc] at e
 have hs1 : Bs ((w.alloc (.cells #[.int .u8 97] 5 (1, 2))).alloc (.cells #[.slice (some ⟨w.heap.size, 0, none⟩) 1 1, .int .i64 1] 33)) (.slice (some ⟨w.heap.size, 0, none⟩) 1 1) [97] := (lit_bs w 5 [97] (1, 2) 1 1 rfl (Nat.le_refl _)).below ((Below.refl _ _).alloc (Nat.le_refl _) _)
 generalize (w.alloc (.cells #[.int .u8 97] 5 (1, 2))).alloc (.cells #[.slice (some ⟨w.heap.size, 0, none⟩) 1 1, .int .i64 1] 33) = w1 at *
 have HBO := hid (build_one w1 (w.heap.size + 1) (some ⟨w.heap.size, 0, none⟩) 1 hx1 hs1 (HK.out.below hb1 HK.out.1))
 have HB1 := hid hb1
 clear hb1 hx1 hs1
 refine HBO.out.mono ?_
 rintro d w2 ⟨X1, p1, rfl, ht1, hm1, hX1, hb2⟩
 have hb2' := HB1.out.trans (hb2.mono HB1.out.size)
 have HB2 := hid (And.intro hb2' (And.intro ht1 (hm1.mono (S' := fun _ => True) (fun _ _ => trivial))))
 have HBN := hid (build_nil w2)
 clear hb2 hb2' ht1 hm1 hX1 HBO HB1
 go_wp2_with fail
 refine HBN.out.mono ?_
 rintro d w3 ⟨X2, rfl, ht2, hX2, hb3⟩
 have hf3 : FX w3 X1 X2 p1 := ⟨(hb3.block _ (blk_lt HB2.out.2.1)).trans HB2.out.2.1, HB2.out.2.2.below hb3, ht2, (HK.out.below HB2.out.1 HK.out.1).below hb3 (Nat.lt_of_lt_of_le HK.out.1 HB2.out.1.size)⟩
 have HF3 := hid (And.intro hf3 (HB2.out.1.trans (hb3.mono HB2.out.1.size)))
 clear hf3 ht2 hX2 hb3 HB2 HBN
 go_wp2_with fail
 have hb1 : Below w3.heap.size w3 ((w3.alloc (.cells #[.int .u8 97] 5 (1, 2))).alloc (.cells #[.slice (some ⟨w3.heap.size, 0, none⟩) 1 1, .int .i64 0] 33)) := ((Below.refl _ _).alloc (Nat.le_refl _) _).alloc (by simp) _
 have hx1 : ((w3.alloc (.cells #[.int .u8 97] 5 (1, 2))).alloc (.cells #[.slice (some ⟨w3.heap.size, 0, none⟩) 1 1, .int .i64 0] 33)).heap[w3.heap.size + 1]? = some (.cells #[.slice (some ⟨w3.heap.size, 0, none⟩) 1 1, .int .i64 0] 33 (0, 0)) := by
  have e := heap_alloc_new (w3.alloc (.cells #[.int .u8 97] 5 (1, 2))) (.cells #[.slice (some ⟨w3.heap.size, 0, none⟩) 1 1, .int .i64 0] 33)
  rwa [World.size_alloc] at e
 generalize (w3.alloc (.cells #[.int .u8 97] 5 (1, 2))).alloc (.cells #[.slice (some ⟨w3.heap.size, 0, none⟩) 1 1, .int .i64 0] 33) = w4 at *
 have HBZ := hid (build_zero w4 (w3.heap.size + 1) 1 (some ⟨w3.heap.size, 0, none⟩) 1 1 hx1)
 have HB4 := hid hb1
 clear hb1 hx1
 refine HBZ.out.mono ?_
 rintro d w5 ⟨rfl, hb5⟩
 have hb35 : Below w3.heap.size w3 w5 := HB4.out.trans (hb5.mono HB4.out.size)
 have HF5 := hid (And.intro (HF3.out.1.below hb35) (HF3.out.2.trans (hb35.mono HF3.out.2.size)))
 clear hb5 hb35 HB4 HBZ HF3
 obtain ⟨Z, hZ, hz⟩ : ∃ Z : Array Value, Z.size = 32 ∧ ∀ u : World, (zeroValue 36).run Tryd.prog u = .ok (.agg Z) u := ⟨ArrU8 (zeros 32), sz32 _ (zeros_len _), zeroDg⟩
 have HZ := hid hZ
 clear hZ
 go_wp2_with fail
 have hb0 : Bs (w5.alloc (.cells #[.int .u8 101, .int .u8 109, .int .u8 112, .int .u8 116, .int .u8 121] 5 (5, 6))) (.slice (some ⟨w5.heap.size, 0, none⟩) 5 5) [101, 109, 112, 116, 121] := lit_bs w5 5 [101, 109, 112, 116, 121] (5, 6) 5 5 rfl (Nat.le_refl _)
 have hb6 : Below w5.heap.size w5 ((w5.alloc (.cells #[.int .u8 101, .int .u8 109, .int .u8 112, .int .u8 116, .int .u8 121] 5 (5, 6))).alloc (.cells #[.slice (some ⟨w5.heap.size, 0, none⟩) 5 5] 31)) := ((Below.refl _ _).alloc (Nat.le_refl _) _).alloc (by simp) _
 have hp6 : Pss ((w5.alloc (.cells #[.int .u8 101, .int .u8 109, .int .u8 112, .int .u8 116, .int .u8 121] 5 (5, 6))).alloc (.cells #[.slice (some ⟨w5.heap.size, 0, none⟩) 5 5] 31)) (.slice (some ⟨w5.heap.size + 1, 0, none⟩) 1 1) [[101, 109, 112, 116, 121]] := by
  have e := heap_alloc_new (w5.alloc (.cells #[.int .u8 101, .int .u8 109, .int .u8 112, .int .u8 116, .int .u8 121] 5 (5, 6))) (.cells #[.slice (some ⟨w5.heap.size, 0, none⟩) 5 5] 31)
  rw [World.size_alloc] at e
  exact pss1 e (hb0.below ((Below.refl _ _).alloc (Nat.le_refl _) _))
 generalize (w5.alloc (.cells #[.int .u8 101, .int .u8 109, .int .u8 112, .int .u8 116, .int .u8 121] 5 (5, 6))).alloc (.cells #[.slice (some ⟨w5.heap.size, 0, none⟩) 5 5] 31) = w6 at *
 have HOF := hid (of_any _ _ w6 hp6 (HF5.out.1.kc.below hb6 HF5.out.1.kc.1) (by decide))
 have HB6 := hid hb6
 clear hb0 hb6 hp6
 refine HOF.out.mono ?_
 rintro d w7 ⟨rfl, hb7⟩
 have hb57 : Below w5.heap.size w5 w7 := HB6.out.trans (hb7.mono HB6.out.size)
 have HF7 := hid (And.intro (HF5.out.1.below hb57) (HF5.out.2.trans (hb57.mono HF5.out.2.size)))
 rw [show sha (joined [[101, 109, 112, 116, 121]]) = sha txt0 from rfl]
 have hde : (sha txt0).length = 32 := sha_len _
 have HS32 := hid (sz32 _ hde)
 have HDE := hid hde
 have HI := hid (show (Tryd.prog.info? 36).map (·.size) = some (ArrU8 (sha txt0)).size by rw [HS32.out]; exact info_dg)
 clear hb7 hb57 HB6 HOF HF5 hde
 generalize hDE : sha txt0 = de at *
 have HDX := hid hDE
 clear hDE
 go_wp2_with (refine wpList_store_nw rfl 36 (Operand.tmp 3) (Operand.tmp 36) rfl w7 _ 36 rfl w7.heap.size (ArrU8 de) rfl rfl rfl HI.out (by rw [HZ.out, HS32.out]) (ArrU8_one _) ?_; intro w8 hd8 hb8 hs8; have HD8 := hid hd8; have HB8 := hid hb8; clear hd8 hb8 hs8)
 have HF8 := hid (And.intro (HF7.out.1.below HB8.out) (HF7.out.2.trans (HB8.out.mono HF7.out.2.size)))
 have HKC8 := hid HF8.out.1.kc
 have hw78 : w7.heap.size < w8.heap.size := blk_lt HD8.out
 have hdg : (sha (txtN [97] 1 de de)).length = 32 := sha_len _
 have HSG := hid (sz32 _ hdg)
 have HIG := hid (show (Tryd.prog.info? 36).map (·.size) = some (ArrU8 (sha (txtN [97] 1 de de))).size by rw [HSG.out]; exact info_dg)
 have HDG := hid (show sha (joined [[110, 111, 100, 101], de, [97], be8 1, de]) = sha (txtN [97] 1 de de) from rfl)
 have HDGL := hid hdg
 have HCR := hid (show Rng ([1] ++ sha (txtN [97] 1 de de)) from fun x hx => by
  rcases List.mem_cons.1 hx with rfl | hx
  ·omega
  ·exact sha_rng _ x hx)
 have HCB := hid (show ∀ t, rdAll ([1] ++ sha (txtN [97] 1 de de)) = .inr t → (t.ents [] [] false).length ≤ 1099511627776 from fun t ht => by
  rw [cut_rd _ hdg] at ht
  injection ht with ht
  subst ht
  exact Nat.zero_le _)
 have HTD := hid (show Tone.dg = sha (txtN [97] 1 de de) by rw [Tone_dg, HDX.out])
 clear hdg
 generalize sha (txtN [97] 1 de de) = dg at *
 have SA3 := fun u => slice32_all u w7.heap.size
 refine rest_first (fun _ b' u => ∃ g0 g3 g5 g7 g9 : Nat, b' = (fr6 X1 X2 w7.heap.size w.heap.size w3.heap.size w5.heap.size de (.pointer (some ⟨g9, 0, none⟩)) (.slice (some ⟨g0, 0, none⟩) 4 4) (.slice (some ⟨g0, 0, none⟩) 4 4) (.slice (some ⟨g3, 0, none⟩) 1 1) (.slice (some ⟨g3, 0, none⟩) 1 1) (.slice (some ⟨g5, 0, none⟩) 8 8) (.slice (some ⟨g7, 0, none⟩) 5 5) (.agg (ArrU8 dg))) ∧ Below w8.heap.size w8 u ∧ w8.heap.size ≤ g9 ∧ u.heap[g9]? = some (.cells (ArrU8 dg) 36 (0, 0))) ?_ ?_
 rotate_left
 ·intro K' hKK
  clear kc
  refine wp_region_held_drew (S := fun u => Below w8.heap.size w8 u) (by kernel_rfl) ((Below.refl _ _).drew) (fun hHeld => ?_)
  refine tk (i := 2) (oi := ⟨some 39, .slice 36 (.tmp 3) none none none, 31, "law.go:51", #[], none⟩) (v := .slice (some ⟨w7.heap.size, 0, none⟩) 32 32) (Or.inl ⟨by rfl, ?_⟩) ?_
  ·intro u hSw
   go_simp
  try simp only [Act.put, sA, sB, sC]
  refine tk (i := 6) (oi := ⟨some 43, .slice 36 (.tmp 3) none none none, 31, "law.go:51", #[], none⟩) (v := .slice (some ⟨w7.heap.size, 0, none⟩) 32 32) (Or.inl ⟨by rfl, ?_⟩) ?_
  ·intro u hSw
   go_simp
  try simp only [Act.put, sA, sB, sC]
  refine dag_intro (fun W hW => ?_)
  have n01345789 : ∀ (u : World) (g0 g3 g5 g7 g9 : Nat) , (Below w8.heap.size w8 u) → (u.heap[g9]? = some (.cells Z 36 (0, 0))) → (w8.heap.size ≤ g9) → W 1 #[true, true, true, true, true, true, true, true, true, true, false] (fr6 X1 X2 w7.heap.size w.heap.size w3.heap.size w5.heap.size de (.pointer (some ⟨g9, 0, none⟩)) (.slice (some ⟨g0, 0, none⟩) 4 4) (.slice (some ⟨g0, 0, none⟩) 4 4) (.slice (some ⟨g3, 0, none⟩) 1 1) (.slice (some ⟨g3, 0, none⟩) 1 1) (.slice (some ⟨g5, 0, none⟩) 8 8) (.slice (some ⟨g7, 0, none⟩) 5 5) (.agg (ArrU8 dg))) u := by
   intro u g0 g3 g5 g7 g9 hb h9 l9
   rw [hW]
   unfold fr6
   refine wpAnyH_ready (rs := [10]) (by kernel_rfl) (by simp) ?_
   refine (AllReadyH.cons (o := ⟨none, .store 36 (.tmp 4) (.tmp 45), 0, "law.go:51", #[⟨9, .data⟩, ⟨8, .data⟩, ⟨8, .chain⟩, ⟨0, .phase⟩, ⟨1, .phase⟩, ⟨2, .phase⟩, ⟨3, .phase⟩, ⟨4, .phase⟩, ⟨5, .phase⟩, ⟨6, .phase⟩, ⟨7, .phase⟩, ⟨8, .phase⟩, ⟨9, .phase⟩], none⟩) rfl (fun K hK => ?_) AllReadyH.nil)
   ·rw [if_pos (by rfl)]
    refine wp_store_row 36 (Operand.tmp 4) (Operand.tmp 45) rfl _ (ArrU8 dg) rfl rfl 36 _ h9 HIG.out (by rw [HZ.out, HSG.out]) (ArrU8_one _) ?_
    have q := setRow_heap _ _ _ (ArrU8 dg) _ _ h9
    have hbn := below_setRow hb l9 (ArrU8 dg)
    generalize World.setRow _ _ _ = nu at *
    refine hK.out _ _ hbn (fun _ => ?_)
    refine wpAnyH_done (by kernel_rfl) ?_ _
    exact hKK _ _ ⟨g0, g3, g5, g7, g9, rfl, hbn, l9, q⟩
  have n0134579 : ∀ (u : World) (g0 g3 g5 g7 g9 : Nat) , (Below w8.heap.size w8 u) → (u.heap[g9]? = some (.cells Z 36 (0, 0))) → (w8.heap.size ≤ g9) → (Pss u (.slice (some ⟨g7, 0, none⟩) 5 5) [[110, 111, 100, 101], de, [97], be8 1, de]) → W 2 #[true, true, true, true, true, true, true, true, false, true, false] (fr6 X1 X2 w7.heap.size w.heap.size w3.heap.size w5.heap.size de (.pointer (some ⟨g9, 0, none⟩)) (.slice (some ⟨g0, 0, none⟩) 4 4) (.slice (some ⟨g0, 0, none⟩) 4 4) (.slice (some ⟨g3, 0, none⟩) 1 1) (.slice (some ⟨g3, 0, none⟩) 1 1) (.slice (some ⟨g5, 0, none⟩) 8 8) (.slice (some ⟨g7, 0, none⟩) 5 5) undef) u := by
   intro u g0 g3 g5 g7 g9 hb h9 l9 k7
   rw [hW]
   unfold fr6
   refine wpAnyH_ready (rs := [8]) (by kernel_rfl) (by simp) ?_
   refine (AllReadyH.cons (o := ⟨some 45, .call ⟨.value (.func 27), #[.tmp 44], #[99]⟩, 36, "law.go:51", #[⟨7, .data⟩], none⟩) rfl (fun K hK => ?_) AllReadyH.nil)
   ·go_simp
    refine (of_any _ _ u k7 (HKC8.out.below hb (Nat.lt_of_lt_of_le HKC8.out.1 (Nat.le_refl _))) (by have e := HDE.out; simp only [jlen, List.length_cons, List.length_nil, be8_len, e]; omega)).mono ?_
    rintro e nu ⟨rfl, hb4⟩
    have hbn := hb.trans (hb4.mono hb.size)
    rw [HDG.out]
    go_wp2_with fail
    refine hK.out _ _ hbn (fun _ => ?_)
    rw [← hW]
    exact n01345789 nu g0 g3 g5 g7 g9 hbn ((hb4.block _ (blk_lt h9)).trans h9) l9
  have n0134578 : ∀ (u : World) (g0 g3 g5 g7 : Nat) , (Below w8.heap.size w8 u) → W 2 #[true, true, true, true, true, true, true, true, true, false, false] (fr6 X1 X2 w7.heap.size w.heap.size w3.heap.size w5.heap.size de undef (.slice (some ⟨g0, 0, none⟩) 4 4) (.slice (some ⟨g0, 0, none⟩) 4 4) (.slice (some ⟨g3, 0, none⟩) 1 1) (.slice (some ⟨g3, 0, none⟩) 1 1) (.slice (some ⟨g5, 0, none⟩) 8 8) (.slice (some ⟨g7, 0, none⟩) 5 5) (.agg (ArrU8 dg))) u := by
   intro u g0 g3 g5 g7 hb
   rw [hW]
   unfold fr6
   refine wpAnyH_ready (rs := [9]) (by kernel_rfl) (by simp) ?_
   refine (AllReadyH.cons (o := ⟨some 4, .alloc 36, 0, "law.go:51", #[], none⟩) rfl (fun K hK => ?_) AllReadyH.nil)
   ·go_simp
    refine al_step2 hb (fun nu hbn q hcn => ?_)
    refine hK.out _ _ hbn (fun _ => ?_)
    rw [← hW]
    exact n01345789 nu g0 g3 g5 g7 u.heap.size hbn q hb.size
  have n013459 : ∀ (u : World) (g0 g3 g5 g9 : Nat) , (Below w8.heap.size w8 u) → (u.heap[g9]? = some (.cells Z 36 (0, 0))) → (w8.heap.size ≤ g9) → (Bs u (.slice (some ⟨g0, 0, none⟩) 4 4) [110, 111, 100, 101]) → (Bs u (.slice (some ⟨g3, 0, none⟩) 1 1) [97]) → (Bs u (.slice (some ⟨g5, 0, none⟩) 8 8) (be8 1)) → W 3 #[true, true, true, true, true, true, true, false, false, true, false] (fr6 X1 X2 w7.heap.size w.heap.size w3.heap.size w5.heap.size de (.pointer (some ⟨g9, 0, none⟩)) (.slice (some ⟨g0, 0, none⟩) 4 4) (.slice (some ⟨g0, 0, none⟩) 4 4) (.slice (some ⟨g3, 0, none⟩) 1 1) (.slice (some ⟨g3, 0, none⟩) 1 1) (.slice (some ⟨g5, 0, none⟩) 8 8) undef undef) u := by
   intro u g0 g3 g5 g9 hb h9 l9 k0 k3 k5
   rw [hW]
   unfold fr6
   refine wpAnyH_ready (rs := [7]) (by kernel_rfl) (by simp) ?_
   refine (AllReadyH.cons (o := ⟨some 44, .buildSlice 99 5 #[(0, .tmp 38), (1, .tmp 39), (2, .tmp 41), (3, .tmp 42), (4, .tmp 43)], 99, "law.go:51", #[⟨1, .data⟩, ⟨2, .data⟩, ⟨4, .data⟩, ⟨5, .data⟩, ⟨6, .data⟩], none⟩) rfl (fun K hK => ?_) AllReadyH.nil)
   ·go_simp
    refine al_step2 hb (fun nu hbn q hcn => ?_)
    refine hK.out _ _ hbn (fun _ => ?_)
    rw [← hW]
    exact n0134579 nu g0 g3 g5 u.heap.size g9 hbn ((hcn.block _ (blk_lt h9)).trans h9) l9 (pss5 q (k0.below hcn) (box_bs ((hbn.block _ (blk_lt HD8.out)).trans HD8.out) HDE.out) (k3.below hcn) (k5.below hcn) (box_bs ((hbn.block _ (blk_lt HD8.out)).trans HD8.out) HDE.out))
  have n013457 : ∀ (u : World) (g0 g3 g5 g7 : Nat) , (Below w8.heap.size w8 u) → (Pss u (.slice (some ⟨g7, 0, none⟩) 5 5) [[110, 111, 100, 101], de, [97], be8 1, de]) → W 3 #[true, true, true, true, true, true, true, true, false, false, false] (fr6 X1 X2 w7.heap.size w.heap.size w3.heap.size w5.heap.size de undef (.slice (some ⟨g0, 0, none⟩) 4 4) (.slice (some ⟨g0, 0, none⟩) 4 4) (.slice (some ⟨g3, 0, none⟩) 1 1) (.slice (some ⟨g3, 0, none⟩) 1 1) (.slice (some ⟨g5, 0, none⟩) 8 8) (.slice (some ⟨g7, 0, none⟩) 5 5) undef) u := by
   intro u g0 g3 g5 g7 hb k7
   rw [hW]
   unfold fr6
   refine wpAnyH_ready (rs := [8, 9]) (by kernel_rfl) (by simp) ?_
   refine (AllReadyH.cons (o := ⟨some 45, .call ⟨.value (.func 27), #[.tmp 44], #[99]⟩, 36, "law.go:51", #[⟨7, .data⟩], none⟩) rfl (fun K hK => ?_) (AllReadyH.cons (o := ⟨some 4, .alloc 36, 0, "law.go:51", #[], none⟩) rfl (fun K hK => ?_) AllReadyH.nil))
   ·go_simp
    refine (of_any _ _ u k7 (HKC8.out.below hb (Nat.lt_of_lt_of_le HKC8.out.1 (Nat.le_refl _))) (by have e := HDE.out; simp only [jlen, List.length_cons, List.length_nil, be8_len, e]; omega)).mono ?_
    rintro e nu ⟨rfl, hb4⟩
    have hbn := hb.trans (hb4.mono hb.size)
    rw [HDG.out]
    go_wp2_with fail
    refine hK.out _ _ hbn (fun _ => ?_)
    rw [← hW]
    exact n0134578 nu g0 g3 g5 g7 hbn
   ·go_simp
    refine al_step2 hb (fun nu hbn q hcn => ?_)
    refine hK.out _ _ hbn (fun _ => ?_)
    rw [← hW]
    exact n0134579 nu g0 g3 g5 g7 u.heap.size hbn q hb.size (k7.below hcn)
  have n03459 : ∀ (u : World) (g0 g3 g5 g9 : Nat) , (Below w8.heap.size w8 u) → (u.heap[g0]? = some (.cells #[.int .u8 110, .int .u8 111, .int .u8 100, .int .u8 101] 5 (0, 0))) → (w8.heap.size ≤ g0) → (u.heap[g9]? = some (.cells Z 36 (0, 0))) → (w8.heap.size ≤ g9) → (Bs u (.slice (some ⟨g3, 0, none⟩) 1 1) [97]) → (Bs u (.slice (some ⟨g5, 0, none⟩) 8 8) (be8 1)) → (g0 ≠ g9) → W 4 #[true, false, true, true, true, true, true, false, false, true, false] (fr6 X1 X2 w7.heap.size w.heap.size w3.heap.size w5.heap.size de (.pointer (some ⟨g9, 0, none⟩)) (.slice (some ⟨g0, 0, none⟩) 4 4) undef (.slice (some ⟨g3, 0, none⟩) 1 1) (.slice (some ⟨g3, 0, none⟩) 1 1) (.slice (some ⟨g5, 0, none⟩) 8 8) undef undef) u := by
   intro u g0 g3 g5 g9 hb h0 l0 h9 l9 k3 k5 d09
   rw [hW]
   unfold fr6
   refine wpAnyH_ready (rs := [1]) (by kernel_rfl) (by simp) ?_
   refine (AllReadyH.cons (o := ⟨some 38, .convert 31 31 (.tmp 37), 31, "law.go:51", #[⟨0, .data⟩], none⟩) rfl (fun K hK => ?_) AllReadyH.nil)
   ·obtain ⟨nu, hrn, q, hcn⟩ := run_mark u g0 4 4 _ h0
    have hbn := hb.trans (hcn.below (B := w8.heap.size) (fun q e => by omega) hb.size)
    go_simp
    try rw [hrn]
    try simp only [Result.andThen]
    try rw [Oper.upon_value]
    clear hrn
    refine hK.out _ _ hbn (fun _ => ?_)
    rw [← hW]
    exact n013459 nu g0 g3 g5 g9 hbn ((hcn.block _ (blk_lt h9) (Ne.symm d09)).trans h9) l9 (bs_blk q rfl) (bs_mark k3 h0 q hcn) (bs_mark k5 h0 q hcn)
  have n01359 : ∀ (u : World) (g0 g3 g5 g9 : Nat) , (Below w8.heap.size w8 u) → (u.heap[g3]? = some (.cells #[.int .u8 97] 5 (0, 0))) → (w8.heap.size ≤ g3) → (u.heap[g9]? = some (.cells Z 36 (0, 0))) → (w8.heap.size ≤ g9) → (Bs u (.slice (some ⟨g0, 0, none⟩) 4 4) [110, 111, 100, 101]) → (Bs u (.slice (some ⟨g5, 0, none⟩) 8 8) (be8 1)) → (g3 ≠ g9) → W 4 #[true, true, true, true, false, true, true, false, false, true, false] (fr6 X1 X2 w7.heap.size w.heap.size w3.heap.size w5.heap.size de (.pointer (some ⟨g9, 0, none⟩)) (.slice (some ⟨g0, 0, none⟩) 4 4) (.slice (some ⟨g0, 0, none⟩) 4 4) (.slice (some ⟨g3, 0, none⟩) 1 1) undef (.slice (some ⟨g5, 0, none⟩) 8 8) undef undef) u := by
   intro u g0 g3 g5 g9 hb h3 l3 h9 l9 k0 k5 d39
   rw [hW]
   unfold fr6
   refine wpAnyH_ready (rs := [4]) (by kernel_rfl) (by simp) ?_
   refine (AllReadyH.cons (o := ⟨some 41, .convert 31 31 (.tmp 40), 31, "law.go:51", #[⟨3, .data⟩], none⟩) rfl (fun K hK => ?_) AllReadyH.nil)
   ·obtain ⟨nu, hrn, q, hcn⟩ := run_mark u g3 1 1 _ h3
    have hbn := hb.trans (hcn.below (B := w8.heap.size) (fun q e => by omega) hb.size)
    go_simp
    try rw [hrn]
    try simp only [Result.andThen]
    try rw [Oper.upon_value]
    clear hrn
    refine hK.out _ _ hbn (fun _ => ?_)
    rw [← hW]
    exact n013459 nu g0 g3 g5 g9 hbn ((hcn.block _ (blk_lt h9) (Ne.symm d39)).trans h9) l9 (bs_mark k0 h3 q hcn) (bs_blk q rfl) (bs_mark k5 h3 q hcn)
  have n01349 : ∀ (u : World) (g0 g3 g9 : Nat) , (Below w8.heap.size w8 u) → (u.heap[g9]? = some (.cells Z 36 (0, 0))) → (w8.heap.size ≤ g9) → (Bs u (.slice (some ⟨g0, 0, none⟩) 4 4) [110, 111, 100, 101]) → (Bs u (.slice (some ⟨g3, 0, none⟩) 1 1) [97]) → W 4 #[true, true, true, true, true, false, true, false, false, true, false] (fr6 X1 X2 w7.heap.size w.heap.size w3.heap.size w5.heap.size de (.pointer (some ⟨g9, 0, none⟩)) (.slice (some ⟨g0, 0, none⟩) 4 4) (.slice (some ⟨g0, 0, none⟩) 4 4) (.slice (some ⟨g3, 0, none⟩) 1 1) (.slice (some ⟨g3, 0, none⟩) 1 1) undef undef undef) u := by
   intro u g0 g3 g9 hb h9 l9 k0 k3
   rw [hW]
   unfold fr6
   refine wpAnyH_ready (rs := [5]) (by kernel_rfl) (by simp) ?_
   refine (AllReadyH.cons (o := ⟨some 42, .buildSlice 31 8 #[(0, .const (Value.int IntKind.u8 0)), (1, .const (Value.int IntKind.u8 0)), (2, .const (Value.int IntKind.u8 0)), (3, .const (Value.int IntKind.u8 0)), (4, .const (Value.int IntKind.u8 0)), (5, .const (Value.int IntKind.u8 0)), (6, .const (Value.int IntKind.u8 0)), (7, .const (Value.int IntKind.u8 1))], 31, "law.go:51", #[], none⟩) rfl (fun K hK => ?_) AllReadyH.nil)
   ·go_simp
    refine al_step2 hb (fun nu hbn q hcn => ?_)
    refine hK.out _ _ hbn (fun _ => ?_)
    rw [← hW]
    exact n013459 nu g0 g3 u.heap.size g9 hbn ((hcn.block _ (blk_lt h9)).trans h9) l9 (k0.below hcn) (k3.below hcn) (bs_blk (l := be8 1) q rfl)
  have n01345 : ∀ (u : World) (g0 g3 g5 : Nat) , (Below w8.heap.size w8 u) → (Bs u (.slice (some ⟨g0, 0, none⟩) 4 4) [110, 111, 100, 101]) → (Bs u (.slice (some ⟨g3, 0, none⟩) 1 1) [97]) → (Bs u (.slice (some ⟨g5, 0, none⟩) 8 8) (be8 1)) → W 4 #[true, true, true, true, true, true, true, false, false, false, false] (fr6 X1 X2 w7.heap.size w.heap.size w3.heap.size w5.heap.size de undef (.slice (some ⟨g0, 0, none⟩) 4 4) (.slice (some ⟨g0, 0, none⟩) 4 4) (.slice (some ⟨g3, 0, none⟩) 1 1) (.slice (some ⟨g3, 0, none⟩) 1 1) (.slice (some ⟨g5, 0, none⟩) 8 8) undef undef) u := by
   intro u g0 g3 g5 hb k0 k3 k5
   rw [hW]
   unfold fr6
   refine wpAnyH_ready (rs := [7, 9]) (by kernel_rfl) (by simp) ?_
   refine (AllReadyH.cons (o := ⟨some 44, .buildSlice 99 5 #[(0, .tmp 38), (1, .tmp 39), (2, .tmp 41), (3, .tmp 42), (4, .tmp 43)], 99, "law.go:51", #[⟨1, .data⟩, ⟨2, .data⟩, ⟨4, .data⟩, ⟨5, .data⟩, ⟨6, .data⟩], none⟩) rfl (fun K hK => ?_) (AllReadyH.cons (o := ⟨some 4, .alloc 36, 0, "law.go:51", #[], none⟩) rfl (fun K hK => ?_) AllReadyH.nil))
   ·go_simp
    refine al_step2 hb (fun nu hbn q hcn => ?_)
    refine hK.out _ _ hbn (fun _ => ?_)
    rw [← hW]
    exact n013457 nu g0 g3 g5 u.heap.size hbn (pss5 q (k0.below hcn) (box_bs ((hbn.block _ (blk_lt HD8.out)).trans HD8.out) HDE.out) (k3.below hcn) (k5.below hcn) (box_bs ((hbn.block _ (blk_lt HD8.out)).trans HD8.out) HDE.out))
   ·go_simp
    refine al_step2 hb (fun nu hbn q hcn => ?_)
    refine hK.out _ _ hbn (fun _ => ?_)
    rw [← hW]
    exact n013459 nu g0 g3 g5 u.heap.size hbn q hb.size (k0.below hcn) (k3.below hcn) (k5.below hcn)
  have n3459 : ∀ (u : World) (g3 g5 g9 : Nat) , (Below w8.heap.size w8 u) → (u.heap[g9]? = some (.cells Z 36 (0, 0))) → (w8.heap.size ≤ g9) → (Bs u (.slice (some ⟨g3, 0, none⟩) 1 1) [97]) → (Bs u (.slice (some ⟨g5, 0, none⟩) 8 8) (be8 1)) → W 5 #[false, false, true, true, true, true, true, false, false, true, false] (fr6 X1 X2 w7.heap.size w.heap.size w3.heap.size w5.heap.size de (.pointer (some ⟨g9, 0, none⟩)) undef undef (.slice (some ⟨g3, 0, none⟩) 1 1) (.slice (some ⟨g3, 0, none⟩) 1 1) (.slice (some ⟨g5, 0, none⟩) 8 8) undef undef) u := by
   intro u g3 g5 g9 hb h9 l9 k3 k5
   rw [hW]
   unfold fr6
   refine wpAnyH_ready (rs := [0]) (by kernel_rfl) (by simp) ?_
   refine (AllReadyH.cons (o := ⟨some 37, .buildSlice 31 4 #[(0, .const (Value.int IntKind.u8 110)), (1, .const (Value.int IntKind.u8 111)), (2, .const (Value.int IntKind.u8 100)), (3, .const (Value.int IntKind.u8 101))], 31, "law.go:51", #[], none⟩) rfl (fun K hK => ?_) AllReadyH.nil)
   ·go_simp
    refine al_step2 hb (fun nu hbn q hcn => ?_)
    refine hK.out _ _ hbn (fun _ => ?_)
    rw [← hW]
    exact n03459 nu u.heap.size g3 g5 g9 hbn q hb.size ((hcn.block _ (blk_lt h9)).trans h9) l9 (k3.below hcn) (k5.below hcn) (Nat.ne_of_gt (blk_lt h9))
  have n0359 : ∀ (u : World) (g0 g3 g5 g9 : Nat) , (Below w8.heap.size w8 u) → (u.heap[g0]? = some (.cells #[.int .u8 110, .int .u8 111, .int .u8 100, .int .u8 101] 5 (0, 0))) → (w8.heap.size ≤ g0) → (u.heap[g3]? = some (.cells #[.int .u8 97] 5 (0, 0))) → (w8.heap.size ≤ g3) → (u.heap[g9]? = some (.cells Z 36 (0, 0))) → (w8.heap.size ≤ g9) → (Bs u (.slice (some ⟨g5, 0, none⟩) 8 8) (be8 1)) → (g0 ≠ g3) → (g0 ≠ g9) → (g3 ≠ g9) → W 5 #[true, false, true, true, false, true, true, false, false, true, false] (fr6 X1 X2 w7.heap.size w.heap.size w3.heap.size w5.heap.size de (.pointer (some ⟨g9, 0, none⟩)) (.slice (some ⟨g0, 0, none⟩) 4 4) undef (.slice (some ⟨g3, 0, none⟩) 1 1) undef (.slice (some ⟨g5, 0, none⟩) 8 8) undef undef) u := by
   intro u g0 g3 g5 g9 hb h0 l0 h3 l3 h9 l9 k5 d03 d09 d39
   rw [hW]
   unfold fr6
   refine wpAnyH_ready (rs := [1, 4]) (by kernel_rfl) (by simp) ?_
   refine (AllReadyH.cons (o := ⟨some 38, .convert 31 31 (.tmp 37), 31, "law.go:51", #[⟨0, .data⟩], none⟩) rfl (fun K hK => ?_) (AllReadyH.cons (o := ⟨some 41, .convert 31 31 (.tmp 40), 31, "law.go:51", #[⟨3, .data⟩], none⟩) rfl (fun K hK => ?_) AllReadyH.nil))
   ·obtain ⟨nu, hrn, q, hcn⟩ := run_mark u g0 4 4 _ h0
    have hbn := hb.trans (hcn.below (B := w8.heap.size) (fun q e => by omega) hb.size)
    go_simp
    try rw [hrn]
    try simp only [Result.andThen]
    try rw [Oper.upon_value]
    clear hrn
    refine hK.out _ _ hbn (fun _ => ?_)
    rw [← hW]
    exact n01359 nu g0 g3 g5 g9 hbn ((hcn.block _ (blk_lt h3) (Ne.symm d03)).trans h3) l3 ((hcn.block _ (blk_lt h9) (Ne.symm d09)).trans h9) l9 (bs_blk q rfl) (bs_mark k5 h0 q hcn) d39
   ·obtain ⟨nu, hrn, q, hcn⟩ := run_mark u g3 1 1 _ h3
    have hbn := hb.trans (hcn.below (B := w8.heap.size) (fun q e => by omega) hb.size)
    go_simp
    try rw [hrn]
    try simp only [Result.andThen]
    try rw [Oper.upon_value]
    clear hrn
    refine hK.out _ _ hbn (fun _ => ?_)
    rw [← hW]
    exact n03459 nu g0 g3 g5 g9 hbn ((hcn.block _ (blk_lt h0) d03).trans h0) l0 ((hcn.block _ (blk_lt h9) (Ne.symm d39)).trans h9) l9 (bs_blk q rfl) (bs_mark k5 h3 q hcn) d09
  have n0159 : ∀ (u : World) (g0 g5 g9 : Nat) , (Below w8.heap.size w8 u) → (u.heap[g9]? = some (.cells Z 36 (0, 0))) → (w8.heap.size ≤ g9) → (Bs u (.slice (some ⟨g0, 0, none⟩) 4 4) [110, 111, 100, 101]) → (Bs u (.slice (some ⟨g5, 0, none⟩) 8 8) (be8 1)) → W 5 #[true, true, true, false, false, true, true, false, false, true, false] (fr6 X1 X2 w7.heap.size w.heap.size w3.heap.size w5.heap.size de (.pointer (some ⟨g9, 0, none⟩)) (.slice (some ⟨g0, 0, none⟩) 4 4) (.slice (some ⟨g0, 0, none⟩) 4 4) undef undef (.slice (some ⟨g5, 0, none⟩) 8 8) undef undef) u := by
   intro u g0 g5 g9 hb h9 l9 k0 k5
   rw [hW]
   unfold fr6
   refine wpAnyH_ready (rs := [3]) (by kernel_rfl) (by simp) ?_
   refine (AllReadyH.cons (o := ⟨some 40, .buildSlice 31 1 #[(0, .const (Value.int IntKind.u8 97))], 31, "law.go:51", #[], none⟩) rfl (fun K hK => ?_) AllReadyH.nil)
   ·go_simp
    refine al_step2 hb (fun nu hbn q hcn => ?_)
    refine hK.out _ _ hbn (fun _ => ?_)
    rw [← hW]
    exact n01359 nu g0 u.heap.size g5 g9 hbn q hb.size ((hcn.block _ (blk_lt h9)).trans h9) l9 (k0.below hcn) (k5.below hcn) (Nat.ne_of_gt (blk_lt h9))
  have n0349 : ∀ (u : World) (g0 g3 g9 : Nat) , (Below w8.heap.size w8 u) → (u.heap[g0]? = some (.cells #[.int .u8 110, .int .u8 111, .int .u8 100, .int .u8 101] 5 (0, 0))) → (w8.heap.size ≤ g0) → (u.heap[g9]? = some (.cells Z 36 (0, 0))) → (w8.heap.size ≤ g9) → (Bs u (.slice (some ⟨g3, 0, none⟩) 1 1) [97]) → (g0 ≠ g9) → W 5 #[true, false, true, true, true, false, true, false, false, true, false] (fr6 X1 X2 w7.heap.size w.heap.size w3.heap.size w5.heap.size de (.pointer (some ⟨g9, 0, none⟩)) (.slice (some ⟨g0, 0, none⟩) 4 4) undef (.slice (some ⟨g3, 0, none⟩) 1 1) (.slice (some ⟨g3, 0, none⟩) 1 1) undef undef undef) u := by
   intro u g0 g3 g9 hb h0 l0 h9 l9 k3 d09
   rw [hW]
   unfold fr6
   refine wpAnyH_ready (rs := [1, 5]) (by kernel_rfl) (by simp) ?_
   refine (AllReadyH.cons (o := ⟨some 38, .convert 31 31 (.tmp 37), 31, "law.go:51", #[⟨0, .data⟩], none⟩) rfl (fun K hK => ?_) (AllReadyH.cons (o := ⟨some 42, .buildSlice 31 8 #[(0, .const (Value.int IntKind.u8 0)), (1, .const (Value.int IntKind.u8 0)), (2, .const (Value.int IntKind.u8 0)), (3, .const (Value.int IntKind.u8 0)), (4, .const (Value.int IntKind.u8 0)), (5, .const (Value.int IntKind.u8 0)), (6, .const (Value.int IntKind.u8 0)), (7, .const (Value.int IntKind.u8 1))], 31, "law.go:51", #[], none⟩) rfl (fun K hK => ?_) AllReadyH.nil))
   ·obtain ⟨nu, hrn, q, hcn⟩ := run_mark u g0 4 4 _ h0
    have hbn := hb.trans (hcn.below (B := w8.heap.size) (fun q e => by omega) hb.size)
    go_simp
    try rw [hrn]
    try simp only [Result.andThen]
    try rw [Oper.upon_value]
    clear hrn
    refine hK.out _ _ hbn (fun _ => ?_)
    rw [← hW]
    exact n01349 nu g0 g3 g9 hbn ((hcn.block _ (blk_lt h9) (Ne.symm d09)).trans h9) l9 (bs_blk q rfl) (bs_mark k3 h0 q hcn)
   ·go_simp
    refine al_step2 hb (fun nu hbn q hcn => ?_)
    refine hK.out _ _ hbn (fun _ => ?_)
    rw [← hW]
    exact n03459 nu g0 g3 u.heap.size g9 hbn ((hcn.block _ (blk_lt h0)).trans h0) l0 ((hcn.block _ (blk_lt h9)).trans h9) l9 (k3.below hcn) (bs_blk (l := be8 1) q rfl) d09
  have n0139 : ∀ (u : World) (g0 g3 g9 : Nat) , (Below w8.heap.size w8 u) → (u.heap[g3]? = some (.cells #[.int .u8 97] 5 (0, 0))) → (w8.heap.size ≤ g3) → (u.heap[g9]? = some (.cells Z 36 (0, 0))) → (w8.heap.size ≤ g9) → (Bs u (.slice (some ⟨g0, 0, none⟩) 4 4) [110, 111, 100, 101]) → (g3 ≠ g9) → W 5 #[true, true, true, true, false, false, true, false, false, true, false] (fr6 X1 X2 w7.heap.size w.heap.size w3.heap.size w5.heap.size de (.pointer (some ⟨g9, 0, none⟩)) (.slice (some ⟨g0, 0, none⟩) 4 4) (.slice (some ⟨g0, 0, none⟩) 4 4) (.slice (some ⟨g3, 0, none⟩) 1 1) undef undef undef undef) u := by
   intro u g0 g3 g9 hb h3 l3 h9 l9 k0 d39
   rw [hW]
   unfold fr6
   refine wpAnyH_ready (rs := [4, 5]) (by kernel_rfl) (by simp) ?_
   refine (AllReadyH.cons (o := ⟨some 41, .convert 31 31 (.tmp 40), 31, "law.go:51", #[⟨3, .data⟩], none⟩) rfl (fun K hK => ?_) (AllReadyH.cons (o := ⟨some 42, .buildSlice 31 8 #[(0, .const (Value.int IntKind.u8 0)), (1, .const (Value.int IntKind.u8 0)), (2, .const (Value.int IntKind.u8 0)), (3, .const (Value.int IntKind.u8 0)), (4, .const (Value.int IntKind.u8 0)), (5, .const (Value.int IntKind.u8 0)), (6, .const (Value.int IntKind.u8 0)), (7, .const (Value.int IntKind.u8 1))], 31, "law.go:51", #[], none⟩) rfl (fun K hK => ?_) AllReadyH.nil))
   ·obtain ⟨nu, hrn, q, hcn⟩ := run_mark u g3 1 1 _ h3
    have hbn := hb.trans (hcn.below (B := w8.heap.size) (fun q e => by omega) hb.size)
    go_simp
    try rw [hrn]
    try simp only [Result.andThen]
    try rw [Oper.upon_value]
    clear hrn
    refine hK.out _ _ hbn (fun _ => ?_)
    rw [← hW]
    exact n01349 nu g0 g3 g9 hbn ((hcn.block _ (blk_lt h9) (Ne.symm d39)).trans h9) l9 (bs_mark k0 h3 q hcn) (bs_blk q rfl)
   ·go_simp
    refine al_step2 hb (fun nu hbn q hcn => ?_)
    refine hK.out _ _ hbn (fun _ => ?_)
    rw [← hW]
    exact n01359 nu g0 g3 u.heap.size g9 hbn ((hcn.block _ (blk_lt h3)).trans h3) l3 ((hcn.block _ (blk_lt h9)).trans h9) l9 (k0.below hcn) (bs_blk (l := be8 1) q rfl) d39
  have n0345 : ∀ (u : World) (g0 g3 g5 : Nat) , (Below w8.heap.size w8 u) → (u.heap[g0]? = some (.cells #[.int .u8 110, .int .u8 111, .int .u8 100, .int .u8 101] 5 (0, 0))) → (w8.heap.size ≤ g0) → (Bs u (.slice (some ⟨g3, 0, none⟩) 1 1) [97]) → (Bs u (.slice (some ⟨g5, 0, none⟩) 8 8) (be8 1)) → W 5 #[true, false, true, true, true, true, true, false, false, false, false] (fr6 X1 X2 w7.heap.size w.heap.size w3.heap.size w5.heap.size de undef (.slice (some ⟨g0, 0, none⟩) 4 4) undef (.slice (some ⟨g3, 0, none⟩) 1 1) (.slice (some ⟨g3, 0, none⟩) 1 1) (.slice (some ⟨g5, 0, none⟩) 8 8) undef undef) u := by
   intro u g0 g3 g5 hb h0 l0 k3 k5
   rw [hW]
   unfold fr6
   refine wpAnyH_ready (rs := [1, 9]) (by kernel_rfl) (by simp) ?_
   refine (AllReadyH.cons (o := ⟨some 38, .convert 31 31 (.tmp 37), 31, "law.go:51", #[⟨0, .data⟩], none⟩) rfl (fun K hK => ?_) (AllReadyH.cons (o := ⟨some 4, .alloc 36, 0, "law.go:51", #[], none⟩) rfl (fun K hK => ?_) AllReadyH.nil))
   ·obtain ⟨nu, hrn, q, hcn⟩ := run_mark u g0 4 4 _ h0
    have hbn := hb.trans (hcn.below (B := w8.heap.size) (fun q e => by omega) hb.size)
    go_simp
    try rw [hrn]
    try simp only [Result.andThen]
    try rw [Oper.upon_value]
    clear hrn
    refine hK.out _ _ hbn (fun _ => ?_)
    rw [← hW]
    exact n01345 nu g0 g3 g5 hbn (bs_blk q rfl) (bs_mark k3 h0 q hcn) (bs_mark k5 h0 q hcn)
   ·go_simp
    refine al_step2 hb (fun nu hbn q hcn => ?_)
    refine hK.out _ _ hbn (fun _ => ?_)
    rw [← hW]
    exact n03459 nu g0 g3 g5 u.heap.size hbn ((hcn.block _ (blk_lt h0)).trans h0) l0 q hb.size (k3.below hcn) (k5.below hcn) (Nat.ne_of_lt (blk_lt h0))
  have n0135 : ∀ (u : World) (g0 g3 g5 : Nat) , (Below w8.heap.size w8 u) → (u.heap[g3]? = some (.cells #[.int .u8 97] 5 (0, 0))) → (w8.heap.size ≤ g3) → (Bs u (.slice (some ⟨g0, 0, none⟩) 4 4) [110, 111, 100, 101]) → (Bs u (.slice (some ⟨g5, 0, none⟩) 8 8) (be8 1)) → W 5 #[true, true, true, true, false, true, true, false, false, false, false] (fr6 X1 X2 w7.heap.size w.heap.size w3.heap.size w5.heap.size de undef (.slice (some ⟨g0, 0, none⟩) 4 4) (.slice (some ⟨g0, 0, none⟩) 4 4) (.slice (some ⟨g3, 0, none⟩) 1 1) undef (.slice (some ⟨g5, 0, none⟩) 8 8) undef undef) u := by
   intro u g0 g3 g5 hb h3 l3 k0 k5
   rw [hW]
   unfold fr6
   refine wpAnyH_ready (rs := [4, 9]) (by kernel_rfl) (by simp) ?_
   refine (AllReadyH.cons (o := ⟨some 41, .convert 31 31 (.tmp 40), 31, "law.go:51", #[⟨3, .data⟩], none⟩) rfl (fun K hK => ?_) (AllReadyH.cons (o := ⟨some 4, .alloc 36, 0, "law.go:51", #[], none⟩) rfl (fun K hK => ?_) AllReadyH.nil))
   ·obtain ⟨nu, hrn, q, hcn⟩ := run_mark u g3 1 1 _ h3
    have hbn := hb.trans (hcn.below (B := w8.heap.size) (fun q e => by omega) hb.size)
    go_simp
    try rw [hrn]
    try simp only [Result.andThen]
    try rw [Oper.upon_value]
    clear hrn
    refine hK.out _ _ hbn (fun _ => ?_)
    rw [← hW]
    exact n01345 nu g0 g3 g5 hbn (bs_mark k0 h3 q hcn) (bs_blk q rfl) (bs_mark k5 h3 q hcn)
   ·go_simp
    refine al_step2 hb (fun nu hbn q hcn => ?_)
    refine hK.out _ _ hbn (fun _ => ?_)
    rw [← hW]
    exact n01359 nu g0 g3 g5 u.heap.size hbn ((hcn.block _ (blk_lt h3)).trans h3) l3 q hb.size (k0.below hcn) (k5.below hcn) (Nat.ne_of_lt (blk_lt h3))
  have n0134 : ∀ (u : World) (g0 g3 : Nat) , (Below w8.heap.size w8 u) → (Bs u (.slice (some ⟨g0, 0, none⟩) 4 4) [110, 111, 100, 101]) → (Bs u (.slice (some ⟨g3, 0, none⟩) 1 1) [97]) → W 5 #[true, true, true, true, true, false, true, false, false, false, false] (fr6 X1 X2 w7.heap.size w.heap.size w3.heap.size w5.heap.size de undef (.slice (some ⟨g0, 0, none⟩) 4 4) (.slice (some ⟨g0, 0, none⟩) 4 4) (.slice (some ⟨g3, 0, none⟩) 1 1) (.slice (some ⟨g3, 0, none⟩) 1 1) undef undef undef) u := by
   intro u g0 g3 hb k0 k3
   rw [hW]
   unfold fr6
   refine wpAnyH_ready (rs := [5, 9]) (by kernel_rfl) (by simp) ?_
   refine (AllReadyH.cons (o := ⟨some 42, .buildSlice 31 8 #[(0, .const (Value.int IntKind.u8 0)), (1, .const (Value.int IntKind.u8 0)), (2, .const (Value.int IntKind.u8 0)), (3, .const (Value.int IntKind.u8 0)), (4, .const (Value.int IntKind.u8 0)), (5, .const (Value.int IntKind.u8 0)), (6, .const (Value.int IntKind.u8 0)), (7, .const (Value.int IntKind.u8 1))], 31, "law.go:51", #[], none⟩) rfl (fun K hK => ?_) (AllReadyH.cons (o := ⟨some 4, .alloc 36, 0, "law.go:51", #[], none⟩) rfl (fun K hK => ?_) AllReadyH.nil))
   ·go_simp
    refine al_step2 hb (fun nu hbn q hcn => ?_)
    refine hK.out _ _ hbn (fun _ => ?_)
    rw [← hW]
    exact n01345 nu g0 g3 u.heap.size hbn (k0.below hcn) (k3.below hcn) (bs_blk (l := be8 1) q rfl)
   ·go_simp
    refine al_step2 hb (fun nu hbn q hcn => ?_)
    refine hK.out _ _ hbn (fun _ => ?_)
    rw [← hW]
    exact n01349 nu g0 g3 u.heap.size hbn q hb.size (k0.below hcn) (k3.below hcn)
  have n359 : ∀ (u : World) (g3 g5 g9 : Nat) , (Below w8.heap.size w8 u) → (u.heap[g3]? = some (.cells #[.int .u8 97] 5 (0, 0))) → (w8.heap.size ≤ g3) → (u.heap[g9]? = some (.cells Z 36 (0, 0))) → (w8.heap.size ≤ g9) → (Bs u (.slice (some ⟨g5, 0, none⟩) 8 8) (be8 1)) → (g3 ≠ g9) → W 6 #[false, false, true, true, false, true, true, false, false, true, false] (fr6 X1 X2 w7.heap.size w.heap.size w3.heap.size w5.heap.size de (.pointer (some ⟨g9, 0, none⟩)) undef undef (.slice (some ⟨g3, 0, none⟩) 1 1) undef (.slice (some ⟨g5, 0, none⟩) 8 8) undef undef) u := by
   intro u g3 g5 g9 hb h3 l3 h9 l9 k5 d39
   rw [hW]
   unfold fr6
   refine wpAnyH_ready (rs := [0, 4]) (by kernel_rfl) (by simp) ?_
   refine (AllReadyH.cons (o := ⟨some 37, .buildSlice 31 4 #[(0, .const (Value.int IntKind.u8 110)), (1, .const (Value.int IntKind.u8 111)), (2, .const (Value.int IntKind.u8 100)), (3, .const (Value.int IntKind.u8 101))], 31, "law.go:51", #[], none⟩) rfl (fun K hK => ?_) (AllReadyH.cons (o := ⟨some 41, .convert 31 31 (.tmp 40), 31, "law.go:51", #[⟨3, .data⟩], none⟩) rfl (fun K hK => ?_) AllReadyH.nil))
   ·go_simp
    refine al_step2 hb (fun nu hbn q hcn => ?_)
    refine hK.out _ _ hbn (fun _ => ?_)
    rw [← hW]
    exact n0359 nu u.heap.size g3 g5 g9 hbn q hb.size ((hcn.block _ (blk_lt h3)).trans h3) l3 ((hcn.block _ (blk_lt h9)).trans h9) l9 (k5.below hcn) (Nat.ne_of_gt (blk_lt h3)) (Nat.ne_of_gt (blk_lt h9)) d39
   ·obtain ⟨nu, hrn, q, hcn⟩ := run_mark u g3 1 1 _ h3
    have hbn := hb.trans (hcn.below (B := w8.heap.size) (fun q e => by omega) hb.size)
    go_simp
    try rw [hrn]
    try simp only [Result.andThen]
    try rw [Oper.upon_value]
    clear hrn
    refine hK.out _ _ hbn (fun _ => ?_)
    rw [← hW]
    exact n3459 nu g3 g5 g9 hbn ((hcn.block _ (blk_lt h9) (Ne.symm d39)).trans h9) l9 (bs_blk q rfl) (bs_mark k5 h3 q hcn)
  have n059 : ∀ (u : World) (g0 g5 g9 : Nat) , (Below w8.heap.size w8 u) → (u.heap[g0]? = some (.cells #[.int .u8 110, .int .u8 111, .int .u8 100, .int .u8 101] 5 (0, 0))) → (w8.heap.size ≤ g0) → (u.heap[g9]? = some (.cells Z 36 (0, 0))) → (w8.heap.size ≤ g9) → (Bs u (.slice (some ⟨g5, 0, none⟩) 8 8) (be8 1)) → (g0 ≠ g9) → W 6 #[true, false, true, false, false, true, true, false, false, true, false] (fr6 X1 X2 w7.heap.size w.heap.size w3.heap.size w5.heap.size de (.pointer (some ⟨g9, 0, none⟩)) (.slice (some ⟨g0, 0, none⟩) 4 4) undef undef undef (.slice (some ⟨g5, 0, none⟩) 8 8) undef undef) u := by
   intro u g0 g5 g9 hb h0 l0 h9 l9 k5 d09
   rw [hW]
   unfold fr6
   refine wpAnyH_ready (rs := [1, 3]) (by kernel_rfl) (by simp) ?_
   refine (AllReadyH.cons (o := ⟨some 38, .convert 31 31 (.tmp 37), 31, "law.go:51", #[⟨0, .data⟩], none⟩) rfl (fun K hK => ?_) (AllReadyH.cons (o := ⟨some 40, .buildSlice 31 1 #[(0, .const (Value.int IntKind.u8 97))], 31, "law.go:51", #[], none⟩) rfl (fun K hK => ?_) AllReadyH.nil))
   ·obtain ⟨nu, hrn, q, hcn⟩ := run_mark u g0 4 4 _ h0
    have hbn := hb.trans (hcn.below (B := w8.heap.size) (fun q e => by omega) hb.size)
    go_simp
    try rw [hrn]
    try simp only [Result.andThen]
    try rw [Oper.upon_value]
    clear hrn
    refine hK.out _ _ hbn (fun _ => ?_)
    rw [← hW]
    exact n0159 nu g0 g5 g9 hbn ((hcn.block _ (blk_lt h9) (Ne.symm d09)).trans h9) l9 (bs_blk q rfl) (bs_mark k5 h0 q hcn)
   ·go_simp
    refine al_step2 hb (fun nu hbn q hcn => ?_)
    refine hK.out _ _ hbn (fun _ => ?_)
    rw [← hW]
    exact n0359 nu g0 u.heap.size g5 g9 hbn ((hcn.block _ (blk_lt h0)).trans h0) l0 q hb.size ((hcn.block _ (blk_lt h9)).trans h9) l9 (k5.below hcn) (Nat.ne_of_lt (blk_lt h0)) d09 (Nat.ne_of_gt (blk_lt h9))
  have n349 : ∀ (u : World) (g3 g9 : Nat) , (Below w8.heap.size w8 u) → (u.heap[g9]? = some (.cells Z 36 (0, 0))) → (w8.heap.size ≤ g9) → (Bs u (.slice (some ⟨g3, 0, none⟩) 1 1) [97]) → W 6 #[false, false, true, true, true, false, true, false, false, true, false] (fr6 X1 X2 w7.heap.size w.heap.size w3.heap.size w5.heap.size de (.pointer (some ⟨g9, 0, none⟩)) undef undef (.slice (some ⟨g3, 0, none⟩) 1 1) (.slice (some ⟨g3, 0, none⟩) 1 1) undef undef undef) u := by
   intro u g3 g9 hb h9 l9 k3
   rw [hW]
   unfold fr6
   refine wpAnyH_ready (rs := [0, 5]) (by kernel_rfl) (by simp) ?_
   refine (AllReadyH.cons (o := ⟨some 37, .buildSlice 31 4 #[(0, .const (Value.int IntKind.u8 110)), (1, .const (Value.int IntKind.u8 111)), (2, .const (Value.int IntKind.u8 100)), (3, .const (Value.int IntKind.u8 101))], 31, "law.go:51", #[], none⟩) rfl (fun K hK => ?_) (AllReadyH.cons (o := ⟨some 42, .buildSlice 31 8 #[(0, .const (Value.int IntKind.u8 0)), (1, .const (Value.int IntKind.u8 0)), (2, .const (Value.int IntKind.u8 0)), (3, .const (Value.int IntKind.u8 0)), (4, .const (Value.int IntKind.u8 0)), (5, .const (Value.int IntKind.u8 0)), (6, .const (Value.int IntKind.u8 0)), (7, .const (Value.int IntKind.u8 1))], 31, "law.go:51", #[], none⟩) rfl (fun K hK => ?_) AllReadyH.nil))
   ·go_simp
    refine al_step2 hb (fun nu hbn q hcn => ?_)
    refine hK.out _ _ hbn (fun _ => ?_)
    rw [← hW]
    exact n0349 nu u.heap.size g3 g9 hbn q hb.size ((hcn.block _ (blk_lt h9)).trans h9) l9 (k3.below hcn) (Nat.ne_of_gt (blk_lt h9))
   ·go_simp
    refine al_step2 hb (fun nu hbn q hcn => ?_)
    refine hK.out _ _ hbn (fun _ => ?_)
    rw [← hW]
    exact n3459 nu g3 u.heap.size g9 hbn ((hcn.block _ (blk_lt h9)).trans h9) l9 (k3.below hcn) (bs_blk (l := be8 1) q rfl)
  have n039 : ∀ (u : World) (g0 g3 g9 : Nat) , (Below w8.heap.size w8 u) → (u.heap[g0]? = some (.cells #[.int .u8 110, .int .u8 111, .int .u8 100, .int .u8 101] 5 (0, 0))) → (w8.heap.size ≤ g0) → (u.heap[g3]? = some (.cells #[.int .u8 97] 5 (0, 0))) → (w8.heap.size ≤ g3) → (u.heap[g9]? = some (.cells Z 36 (0, 0))) → (w8.heap.size ≤ g9) → (g0 ≠ g3) → (g0 ≠ g9) → (g3 ≠ g9) → W 6 #[true, false, true, true, false, false, true, false, false, true, false] (fr6 X1 X2 w7.heap.size w.heap.size w3.heap.size w5.heap.size de (.pointer (some ⟨g9, 0, none⟩)) (.slice (some ⟨g0, 0, none⟩) 4 4) undef (.slice (some ⟨g3, 0, none⟩) 1 1) undef undef undef undef) u := by
   intro u g0 g3 g9 hb h0 l0 h3 l3 h9 l9 d03 d09 d39
   rw [hW]
   unfold fr6
   refine wpAnyH_ready (rs := [1, 4, 5]) (by kernel_rfl) (by simp) ?_
   refine (AllReadyH.cons (o := ⟨some 38, .convert 31 31 (.tmp 37), 31, "law.go:51", #[⟨0, .data⟩], none⟩) rfl (fun K hK => ?_) (AllReadyH.cons (o := ⟨some 41, .convert 31 31 (.tmp 40), 31, "law.go:51", #[⟨3, .data⟩], none⟩) rfl (fun K hK => ?_) (AllReadyH.cons (o := ⟨some 42, .buildSlice 31 8 #[(0, .const (Value.int IntKind.u8 0)), (1, .const (Value.int IntKind.u8 0)), (2, .const (Value.int IntKind.u8 0)), (3, .const (Value.int IntKind.u8 0)), (4, .const (Value.int IntKind.u8 0)), (5, .const (Value.int IntKind.u8 0)), (6, .const (Value.int IntKind.u8 0)), (7, .const (Value.int IntKind.u8 1))], 31, "law.go:51", #[], none⟩) rfl (fun K hK => ?_) AllReadyH.nil)))
   ·obtain ⟨nu, hrn, q, hcn⟩ := run_mark u g0 4 4 _ h0
    have hbn := hb.trans (hcn.below (B := w8.heap.size) (fun q e => by omega) hb.size)
    go_simp
    try rw [hrn]
    try simp only [Result.andThen]
    try rw [Oper.upon_value]
    clear hrn
    refine hK.out _ _ hbn (fun _ => ?_)
    rw [← hW]
    exact n0139 nu g0 g3 g9 hbn ((hcn.block _ (blk_lt h3) (Ne.symm d03)).trans h3) l3 ((hcn.block _ (blk_lt h9) (Ne.symm d09)).trans h9) l9 (bs_blk q rfl) d39
   ·obtain ⟨nu, hrn, q, hcn⟩ := run_mark u g3 1 1 _ h3
    have hbn := hb.trans (hcn.below (B := w8.heap.size) (fun q e => by omega) hb.size)
    go_simp
    try rw [hrn]
    try simp only [Result.andThen]
    try rw [Oper.upon_value]
    clear hrn
    refine hK.out _ _ hbn (fun _ => ?_)
    rw [← hW]
    exact n0349 nu g0 g3 g9 hbn ((hcn.block _ (blk_lt h0) d03).trans h0) l0 ((hcn.block _ (blk_lt h9) (Ne.symm d39)).trans h9) l9 (bs_blk q rfl) d09
   ·go_simp
    refine al_step2 hb (fun nu hbn q hcn => ?_)
    refine hK.out _ _ hbn (fun _ => ?_)
    rw [← hW]
    exact n0359 nu g0 g3 u.heap.size g9 hbn ((hcn.block _ (blk_lt h0)).trans h0) l0 ((hcn.block _ (blk_lt h3)).trans h3) l3 ((hcn.block _ (blk_lt h9)).trans h9) l9 (bs_blk (l := be8 1) q rfl) d03 d09 d39
  have n019 : ∀ (u : World) (g0 g9 : Nat) , (Below w8.heap.size w8 u) → (u.heap[g9]? = some (.cells Z 36 (0, 0))) → (w8.heap.size ≤ g9) → (Bs u (.slice (some ⟨g0, 0, none⟩) 4 4) [110, 111, 100, 101]) → W 6 #[true, true, true, false, false, false, true, false, false, true, false] (fr6 X1 X2 w7.heap.size w.heap.size w3.heap.size w5.heap.size de (.pointer (some ⟨g9, 0, none⟩)) (.slice (some ⟨g0, 0, none⟩) 4 4) (.slice (some ⟨g0, 0, none⟩) 4 4) undef undef undef undef undef) u := by
   intro u g0 g9 hb h9 l9 k0
   rw [hW]
   unfold fr6
   refine wpAnyH_ready (rs := [3, 5]) (by kernel_rfl) (by simp) ?_
   refine (AllReadyH.cons (o := ⟨some 40, .buildSlice 31 1 #[(0, .const (Value.int IntKind.u8 97))], 31, "law.go:51", #[], none⟩) rfl (fun K hK => ?_) (AllReadyH.cons (o := ⟨some 42, .buildSlice 31 8 #[(0, .const (Value.int IntKind.u8 0)), (1, .const (Value.int IntKind.u8 0)), (2, .const (Value.int IntKind.u8 0)), (3, .const (Value.int IntKind.u8 0)), (4, .const (Value.int IntKind.u8 0)), (5, .const (Value.int IntKind.u8 0)), (6, .const (Value.int IntKind.u8 0)), (7, .const (Value.int IntKind.u8 1))], 31, "law.go:51", #[], none⟩) rfl (fun K hK => ?_) AllReadyH.nil))
   ·go_simp
    refine al_step2 hb (fun nu hbn q hcn => ?_)
    refine hK.out _ _ hbn (fun _ => ?_)
    rw [← hW]
    exact n0139 nu g0 u.heap.size g9 hbn q hb.size ((hcn.block _ (blk_lt h9)).trans h9) l9 (k0.below hcn) (Nat.ne_of_gt (blk_lt h9))
   ·go_simp
    refine al_step2 hb (fun nu hbn q hcn => ?_)
    refine hK.out _ _ hbn (fun _ => ?_)
    rw [← hW]
    exact n0159 nu g0 u.heap.size g9 hbn ((hcn.block _ (blk_lt h9)).trans h9) l9 (k0.below hcn) (bs_blk (l := be8 1) q rfl)
  have n345 : ∀ (u : World) (g3 g5 : Nat) , (Below w8.heap.size w8 u) → (Bs u (.slice (some ⟨g3, 0, none⟩) 1 1) [97]) → (Bs u (.slice (some ⟨g5, 0, none⟩) 8 8) (be8 1)) → W 6 #[false, false, true, true, true, true, true, false, false, false, false] (fr6 X1 X2 w7.heap.size w.heap.size w3.heap.size w5.heap.size de undef undef undef (.slice (some ⟨g3, 0, none⟩) 1 1) (.slice (some ⟨g3, 0, none⟩) 1 1) (.slice (some ⟨g5, 0, none⟩) 8 8) undef undef) u := by
   intro u g3 g5 hb k3 k5
   rw [hW]
   unfold fr6
   refine wpAnyH_ready (rs := [0, 9]) (by kernel_rfl) (by simp) ?_
   refine (AllReadyH.cons (o := ⟨some 37, .buildSlice 31 4 #[(0, .const (Value.int IntKind.u8 110)), (1, .const (Value.int IntKind.u8 111)), (2, .const (Value.int IntKind.u8 100)), (3, .const (Value.int IntKind.u8 101))], 31, "law.go:51", #[], none⟩) rfl (fun K hK => ?_) (AllReadyH.cons (o := ⟨some 4, .alloc 36, 0, "law.go:51", #[], none⟩) rfl (fun K hK => ?_) AllReadyH.nil))
   ·go_simp
    refine al_step2 hb (fun nu hbn q hcn => ?_)
    refine hK.out _ _ hbn (fun _ => ?_)
    rw [← hW]
    exact n0345 nu u.heap.size g3 g5 hbn q hb.size (k3.below hcn) (k5.below hcn)
   ·go_simp
    refine al_step2 hb (fun nu hbn q hcn => ?_)
    refine hK.out _ _ hbn (fun _ => ?_)
    rw [← hW]
    exact n3459 nu g3 g5 u.heap.size hbn q hb.size (k3.below hcn) (k5.below hcn)
  have n035 : ∀ (u : World) (g0 g3 g5 : Nat) , (Below w8.heap.size w8 u) → (u.heap[g0]? = some (.cells #[.int .u8 110, .int .u8 111, .int .u8 100, .int .u8 101] 5 (0, 0))) → (w8.heap.size ≤ g0) → (u.heap[g3]? = some (.cells #[.int .u8 97] 5 (0, 0))) → (w8.heap.size ≤ g3) → (Bs u (.slice (some ⟨g5, 0, none⟩) 8 8) (be8 1)) → (g0 ≠ g3) → W 6 #[true, false, true, true, false, true, true, false, false, false, false] (fr6 X1 X2 w7.heap.size w.heap.size w3.heap.size w5.heap.size de undef (.slice (some ⟨g0, 0, none⟩) 4 4) undef (.slice (some ⟨g3, 0, none⟩) 1 1) undef (.slice (some ⟨g5, 0, none⟩) 8 8) undef undef) u := by
   intro u g0 g3 g5 hb h0 l0 h3 l3 k5 d03
   rw [hW]
   unfold fr6
   refine wpAnyH_ready (rs := [1, 4, 9]) (by kernel_rfl) (by simp) ?_
   refine (AllReadyH.cons (o := ⟨some 38, .convert 31 31 (.tmp 37), 31, "law.go:51", #[⟨0, .data⟩], none⟩) rfl (fun K hK => ?_) (AllReadyH.cons (o := ⟨some 41, .convert 31 31 (.tmp 40), 31, "law.go:51", #[⟨3, .data⟩], none⟩) rfl (fun K hK => ?_) (AllReadyH.cons (o := ⟨some 4, .alloc 36, 0, "law.go:51", #[], none⟩) rfl (fun K hK => ?_) AllReadyH.nil)))
   ·obtain ⟨nu, hrn, q, hcn⟩ := run_mark u g0 4 4 _ h0
    have hbn := hb.trans (hcn.below (B := w8.heap.size) (fun q e => by omega) hb.size)
    go_simp
    try rw [hrn]
    try simp only [Result.andThen]
    try rw [Oper.upon_value]
    clear hrn
    refine hK.out _ _ hbn (fun _ => ?_)
    rw [← hW]
    exact n0135 nu g0 g3 g5 hbn ((hcn.block _ (blk_lt h3) (Ne.symm d03)).trans h3) l3 (bs_blk q rfl) (bs_mark k5 h0 q hcn)
   ·obtain ⟨nu, hrn, q, hcn⟩ := run_mark u g3 1 1 _ h3
    have hbn := hb.trans (hcn.below (B := w8.heap.size) (fun q e => by omega) hb.size)
    go_simp
    try rw [hrn]
    try simp only [Result.andThen]
    try rw [Oper.upon_value]
    clear hrn
    refine hK.out _ _ hbn (fun _ => ?_)
    rw [← hW]
    exact n0345 nu g0 g3 g5 hbn ((hcn.block _ (blk_lt h0) d03).trans h0) l0 (bs_blk q rfl) (bs_mark k5 h3 q hcn)
   ·go_simp
    refine al_step2 hb (fun nu hbn q hcn => ?_)
    refine hK.out _ _ hbn (fun _ => ?_)
    rw [← hW]
    exact n0359 nu g0 g3 g5 u.heap.size hbn ((hcn.block _ (blk_lt h0)).trans h0) l0 ((hcn.block _ (blk_lt h3)).trans h3) l3 q hb.size (k5.below hcn) d03 (Nat.ne_of_lt (blk_lt h0)) (Nat.ne_of_lt (blk_lt h3))
  have n015 : ∀ (u : World) (g0 g5 : Nat) , (Below w8.heap.size w8 u) → (Bs u (.slice (some ⟨g0, 0, none⟩) 4 4) [110, 111, 100, 101]) → (Bs u (.slice (some ⟨g5, 0, none⟩) 8 8) (be8 1)) → W 6 #[true, true, true, false, false, true, true, false, false, false, false] (fr6 X1 X2 w7.heap.size w.heap.size w3.heap.size w5.heap.size de undef (.slice (some ⟨g0, 0, none⟩) 4 4) (.slice (some ⟨g0, 0, none⟩) 4 4) undef undef (.slice (some ⟨g5, 0, none⟩) 8 8) undef undef) u := by
   intro u g0 g5 hb k0 k5
   rw [hW]
   unfold fr6
   refine wpAnyH_ready (rs := [3, 9]) (by kernel_rfl) (by simp) ?_
   refine (AllReadyH.cons (o := ⟨some 40, .buildSlice 31 1 #[(0, .const (Value.int IntKind.u8 97))], 31, "law.go:51", #[], none⟩) rfl (fun K hK => ?_) (AllReadyH.cons (o := ⟨some 4, .alloc 36, 0, "law.go:51", #[], none⟩) rfl (fun K hK => ?_) AllReadyH.nil))
   ·go_simp
    refine al_step2 hb (fun nu hbn q hcn => ?_)
    refine hK.out _ _ hbn (fun _ => ?_)
    rw [← hW]
    exact n0135 nu g0 u.heap.size g5 hbn q hb.size (k0.below hcn) (k5.below hcn)
   ·go_simp
    refine al_step2 hb (fun nu hbn q hcn => ?_)
    refine hK.out _ _ hbn (fun _ => ?_)
    rw [← hW]
    exact n0159 nu g0 g5 u.heap.size hbn q hb.size (k0.below hcn) (k5.below hcn)
  have n034 : ∀ (u : World) (g0 g3 : Nat) , (Below w8.heap.size w8 u) → (u.heap[g0]? = some (.cells #[.int .u8 110, .int .u8 111, .int .u8 100, .int .u8 101] 5 (0, 0))) → (w8.heap.size ≤ g0) → (Bs u (.slice (some ⟨g3, 0, none⟩) 1 1) [97]) → W 6 #[true, false, true, true, true, false, true, false, false, false, false] (fr6 X1 X2 w7.heap.size w.heap.size w3.heap.size w5.heap.size de undef (.slice (some ⟨g0, 0, none⟩) 4 4) undef (.slice (some ⟨g3, 0, none⟩) 1 1) (.slice (some ⟨g3, 0, none⟩) 1 1) undef undef undef) u := by
   intro u g0 g3 hb h0 l0 k3
   rw [hW]
   unfold fr6
   refine wpAnyH_ready (rs := [1, 5, 9]) (by kernel_rfl) (by simp) ?_
   refine (AllReadyH.cons (o := ⟨some 38, .convert 31 31 (.tmp 37), 31, "law.go:51", #[⟨0, .data⟩], none⟩) rfl (fun K hK => ?_) (AllReadyH.cons (o := ⟨some 42, .buildSlice 31 8 #[(0, .const (Value.int IntKind.u8 0)), (1, .const (Value.int IntKind.u8 0)), (2, .const (Value.int IntKind.u8 0)), (3, .const (Value.int IntKind.u8 0)), (4, .const (Value.int IntKind.u8 0)), (5, .const (Value.int IntKind.u8 0)), (6, .const (Value.int IntKind.u8 0)), (7, .const (Value.int IntKind.u8 1))], 31, "law.go:51", #[], none⟩) rfl (fun K hK => ?_) (AllReadyH.cons (o := ⟨some 4, .alloc 36, 0, "law.go:51", #[], none⟩) rfl (fun K hK => ?_) AllReadyH.nil)))
   ·obtain ⟨nu, hrn, q, hcn⟩ := run_mark u g0 4 4 _ h0
    have hbn := hb.trans (hcn.below (B := w8.heap.size) (fun q e => by omega) hb.size)
    go_simp
    try rw [hrn]
    try simp only [Result.andThen]
    try rw [Oper.upon_value]
    clear hrn
    refine hK.out _ _ hbn (fun _ => ?_)
    rw [← hW]
    exact n0134 nu g0 g3 hbn (bs_blk q rfl) (bs_mark k3 h0 q hcn)
   ·go_simp
    refine al_step2 hb (fun nu hbn q hcn => ?_)
    refine hK.out _ _ hbn (fun _ => ?_)
    rw [← hW]
    exact n0345 nu g0 g3 u.heap.size hbn ((hcn.block _ (blk_lt h0)).trans h0) l0 (k3.below hcn) (bs_blk (l := be8 1) q rfl)
   ·go_simp
    refine al_step2 hb (fun nu hbn q hcn => ?_)
    refine hK.out _ _ hbn (fun _ => ?_)
    rw [← hW]
    exact n0349 nu g0 g3 u.heap.size hbn ((hcn.block _ (blk_lt h0)).trans h0) l0 q hb.size (k3.below hcn) (Nat.ne_of_lt (blk_lt h0))
  have n013 : ∀ (u : World) (g0 g3 : Nat) , (Below w8.heap.size w8 u) → (u.heap[g3]? = some (.cells #[.int .u8 97] 5 (0, 0))) → (w8.heap.size ≤ g3) → (Bs u (.slice (some ⟨g0, 0, none⟩) 4 4) [110, 111, 100, 101]) → W 6 #[true, true, true, true, false, false, true, false, false, false, false] (fr6 X1 X2 w7.heap.size w.heap.size w3.heap.size w5.heap.size de undef (.slice (some ⟨g0, 0, none⟩) 4 4) (.slice (some ⟨g0, 0, none⟩) 4 4) (.slice (some ⟨g3, 0, none⟩) 1 1) undef undef undef undef) u := by
   intro u g0 g3 hb h3 l3 k0
   rw [hW]
   unfold fr6
   refine wpAnyH_ready (rs := [4, 5, 9]) (by kernel_rfl) (by simp) ?_
   refine (AllReadyH.cons (o := ⟨some 41, .convert 31 31 (.tmp 40), 31, "law.go:51", #[⟨3, .data⟩], none⟩) rfl (fun K hK => ?_) (AllReadyH.cons (o := ⟨some 42, .buildSlice 31 8 #[(0, .const (Value.int IntKind.u8 0)), (1, .const (Value.int IntKind.u8 0)), (2, .const (Value.int IntKind.u8 0)), (3, .const (Value.int IntKind.u8 0)), (4, .const (Value.int IntKind.u8 0)), (5, .const (Value.int IntKind.u8 0)), (6, .const (Value.int IntKind.u8 0)), (7, .const (Value.int IntKind.u8 1))], 31, "law.go:51", #[], none⟩) rfl (fun K hK => ?_) (AllReadyH.cons (o := ⟨some 4, .alloc 36, 0, "law.go:51", #[], none⟩) rfl (fun K hK => ?_) AllReadyH.nil)))
   ·obtain ⟨nu, hrn, q, hcn⟩ := run_mark u g3 1 1 _ h3
    have hbn := hb.trans (hcn.below (B := w8.heap.size) (fun q e => by omega) hb.size)
    go_simp
    try rw [hrn]
    try simp only [Result.andThen]
    try rw [Oper.upon_value]
    clear hrn
    refine hK.out _ _ hbn (fun _ => ?_)
    rw [← hW]
    exact n0134 nu g0 g3 hbn (bs_mark k0 h3 q hcn) (bs_blk q rfl)
   ·go_simp
    refine al_step2 hb (fun nu hbn q hcn => ?_)
    refine hK.out _ _ hbn (fun _ => ?_)
    rw [← hW]
    exact n0135 nu g0 g3 u.heap.size hbn ((hcn.block _ (blk_lt h3)).trans h3) l3 (k0.below hcn) (bs_blk (l := be8 1) q rfl)
   ·go_simp
    refine al_step2 hb (fun nu hbn q hcn => ?_)
    refine hK.out _ _ hbn (fun _ => ?_)
    rw [← hW]
    exact n0139 nu g0 g3 u.heap.size hbn ((hcn.block _ (blk_lt h3)).trans h3) l3 q hb.size (k0.below hcn) (Nat.ne_of_lt (blk_lt h3))
  have n59 : ∀ (u : World) (g5 g9 : Nat) , (Below w8.heap.size w8 u) → (u.heap[g9]? = some (.cells Z 36 (0, 0))) → (w8.heap.size ≤ g9) → (Bs u (.slice (some ⟨g5, 0, none⟩) 8 8) (be8 1)) → W 7 #[false, false, true, false, false, true, true, false, false, true, false] (fr6 X1 X2 w7.heap.size w.heap.size w3.heap.size w5.heap.size de (.pointer (some ⟨g9, 0, none⟩)) undef undef undef undef (.slice (some ⟨g5, 0, none⟩) 8 8) undef undef) u := by
   intro u g5 g9 hb h9 l9 k5
   rw [hW]
   unfold fr6
   refine wpAnyH_ready (rs := [0, 3]) (by kernel_rfl) (by simp) ?_
   refine (AllReadyH.cons (o := ⟨some 37, .buildSlice 31 4 #[(0, .const (Value.int IntKind.u8 110)), (1, .const (Value.int IntKind.u8 111)), (2, .const (Value.int IntKind.u8 100)), (3, .const (Value.int IntKind.u8 101))], 31, "law.go:51", #[], none⟩) rfl (fun K hK => ?_) (AllReadyH.cons (o := ⟨some 40, .buildSlice 31 1 #[(0, .const (Value.int IntKind.u8 97))], 31, "law.go:51", #[], none⟩) rfl (fun K hK => ?_) AllReadyH.nil))
   ·go_simp
    refine al_step2 hb (fun nu hbn q hcn => ?_)
    refine hK.out _ _ hbn (fun _ => ?_)
    rw [← hW]
    exact n059 nu u.heap.size g5 g9 hbn q hb.size ((hcn.block _ (blk_lt h9)).trans h9) l9 (k5.below hcn) (Nat.ne_of_gt (blk_lt h9))
   ·go_simp
    refine al_step2 hb (fun nu hbn q hcn => ?_)
    refine hK.out _ _ hbn (fun _ => ?_)
    rw [← hW]
    exact n359 nu u.heap.size g5 g9 hbn q hb.size ((hcn.block _ (blk_lt h9)).trans h9) l9 (k5.below hcn) (Nat.ne_of_gt (blk_lt h9))
  have n39 : ∀ (u : World) (g3 g9 : Nat) , (Below w8.heap.size w8 u) → (u.heap[g3]? = some (.cells #[.int .u8 97] 5 (0, 0))) → (w8.heap.size ≤ g3) → (u.heap[g9]? = some (.cells Z 36 (0, 0))) → (w8.heap.size ≤ g9) → (g3 ≠ g9) → W 7 #[false, false, true, true, false, false, true, false, false, true, false] (fr6 X1 X2 w7.heap.size w.heap.size w3.heap.size w5.heap.size de (.pointer (some ⟨g9, 0, none⟩)) undef undef (.slice (some ⟨g3, 0, none⟩) 1 1) undef undef undef undef) u := by
   intro u g3 g9 hb h3 l3 h9 l9 d39
   rw [hW]
   unfold fr6
   refine wpAnyH_ready (rs := [0, 4, 5]) (by kernel_rfl) (by simp) ?_
   refine (AllReadyH.cons (o := ⟨some 37, .buildSlice 31 4 #[(0, .const (Value.int IntKind.u8 110)), (1, .const (Value.int IntKind.u8 111)), (2, .const (Value.int IntKind.u8 100)), (3, .const (Value.int IntKind.u8 101))], 31, "law.go:51", #[], none⟩) rfl (fun K hK => ?_) (AllReadyH.cons (o := ⟨some 41, .convert 31 31 (.tmp 40), 31, "law.go:51", #[⟨3, .data⟩], none⟩) rfl (fun K hK => ?_) (AllReadyH.cons (o := ⟨some 42, .buildSlice 31 8 #[(0, .const (Value.int IntKind.u8 0)), (1, .const (Value.int IntKind.u8 0)), (2, .const (Value.int IntKind.u8 0)), (3, .const (Value.int IntKind.u8 0)), (4, .const (Value.int IntKind.u8 0)), (5, .const (Value.int IntKind.u8 0)), (6, .const (Value.int IntKind.u8 0)), (7, .const (Value.int IntKind.u8 1))], 31, "law.go:51", #[], none⟩) rfl (fun K hK => ?_) AllReadyH.nil)))
   ·go_simp
    refine al_step2 hb (fun nu hbn q hcn => ?_)
    refine hK.out _ _ hbn (fun _ => ?_)
    rw [← hW]
    exact n039 nu u.heap.size g3 g9 hbn q hb.size ((hcn.block _ (blk_lt h3)).trans h3) l3 ((hcn.block _ (blk_lt h9)).trans h9) l9 (Nat.ne_of_gt (blk_lt h3)) (Nat.ne_of_gt (blk_lt h9)) d39
   ·obtain ⟨nu, hrn, q, hcn⟩ := run_mark u g3 1 1 _ h3
    have hbn := hb.trans (hcn.below (B := w8.heap.size) (fun q e => by omega) hb.size)
    go_simp
    try rw [hrn]
    try simp only [Result.andThen]
    try rw [Oper.upon_value]
    clear hrn
    refine hK.out _ _ hbn (fun _ => ?_)
    rw [← hW]
    exact n349 nu g3 g9 hbn ((hcn.block _ (blk_lt h9) (Ne.symm d39)).trans h9) l9 (bs_blk q rfl)
   ·go_simp
    refine al_step2 hb (fun nu hbn q hcn => ?_)
    refine hK.out _ _ hbn (fun _ => ?_)
    rw [← hW]
    exact n359 nu g3 u.heap.size g9 hbn ((hcn.block _ (blk_lt h3)).trans h3) l3 ((hcn.block _ (blk_lt h9)).trans h9) l9 (bs_blk (l := be8 1) q rfl) d39
  have n09 : ∀ (u : World) (g0 g9 : Nat) , (Below w8.heap.size w8 u) → (u.heap[g0]? = some (.cells #[.int .u8 110, .int .u8 111, .int .u8 100, .int .u8 101] 5 (0, 0))) → (w8.heap.size ≤ g0) → (u.heap[g9]? = some (.cells Z 36 (0, 0))) → (w8.heap.size ≤ g9) → (g0 ≠ g9) → W 7 #[true, false, true, false, false, false, true, false, false, true, false] (fr6 X1 X2 w7.heap.size w.heap.size w3.heap.size w5.heap.size de (.pointer (some ⟨g9, 0, none⟩)) (.slice (some ⟨g0, 0, none⟩) 4 4) undef undef undef undef undef undef) u := by
   intro u g0 g9 hb h0 l0 h9 l9 d09
   rw [hW]
   unfold fr6
   refine wpAnyH_ready (rs := [1, 3, 5]) (by kernel_rfl) (by simp) ?_
   refine (AllReadyH.cons (o := ⟨some 38, .convert 31 31 (.tmp 37), 31, "law.go:51", #[⟨0, .data⟩], none⟩) rfl (fun K hK => ?_) (AllReadyH.cons (o := ⟨some 40, .buildSlice 31 1 #[(0, .const (Value.int IntKind.u8 97))], 31, "law.go:51", #[], none⟩) rfl (fun K hK => ?_) (AllReadyH.cons (o := ⟨some 42, .buildSlice 31 8 #[(0, .const (Value.int IntKind.u8 0)), (1, .const (Value.int IntKind.u8 0)), (2, .const (Value.int IntKind.u8 0)), (3, .const (Value.int IntKind.u8 0)), (4, .const (Value.int IntKind.u8 0)), (5, .const (Value.int IntKind.u8 0)), (6, .const (Value.int IntKind.u8 0)), (7, .const (Value.int IntKind.u8 1))], 31, "law.go:51", #[], none⟩) rfl (fun K hK => ?_) AllReadyH.nil)))
   ·obtain ⟨nu, hrn, q, hcn⟩ := run_mark u g0 4 4 _ h0
    have hbn := hb.trans (hcn.below (B := w8.heap.size) (fun q e => by omega) hb.size)
    go_simp
    try rw [hrn]
    try simp only [Result.andThen]
    try rw [Oper.upon_value]
    clear hrn
    refine hK.out _ _ hbn (fun _ => ?_)
    rw [← hW]
    exact n019 nu g0 g9 hbn ((hcn.block _ (blk_lt h9) (Ne.symm d09)).trans h9) l9 (bs_blk q rfl)
   ·go_simp
    refine al_step2 hb (fun nu hbn q hcn => ?_)
    refine hK.out _ _ hbn (fun _ => ?_)
    rw [← hW]
    exact n039 nu g0 u.heap.size g9 hbn ((hcn.block _ (blk_lt h0)).trans h0) l0 q hb.size ((hcn.block _ (blk_lt h9)).trans h9) l9 (Nat.ne_of_lt (blk_lt h0)) d09 (Nat.ne_of_gt (blk_lt h9))
   ·go_simp
    refine al_step2 hb (fun nu hbn q hcn => ?_)
    refine hK.out _ _ hbn (fun _ => ?_)
    rw [← hW]
    exact n059 nu g0 u.heap.size g9 hbn ((hcn.block _ (blk_lt h0)).trans h0) l0 ((hcn.block _ (blk_lt h9)).trans h9) l9 (bs_blk (l := be8 1) q rfl) d09
  have n35 : ∀ (u : World) (g3 g5 : Nat) , (Below w8.heap.size w8 u) → (u.heap[g3]? = some (.cells #[.int .u8 97] 5 (0, 0))) → (w8.heap.size ≤ g3) → (Bs u (.slice (some ⟨g5, 0, none⟩) 8 8) (be8 1)) → W 7 #[false, false, true, true, false, true, true, false, false, false, false] (fr6 X1 X2 w7.heap.size w.heap.size w3.heap.size w5.heap.size de undef undef undef (.slice (some ⟨g3, 0, none⟩) 1 1) undef (.slice (some ⟨g5, 0, none⟩) 8 8) undef undef) u := by
   intro u g3 g5 hb h3 l3 k5
   rw [hW]
   unfold fr6
   refine wpAnyH_ready (rs := [0, 4, 9]) (by kernel_rfl) (by simp) ?_
   refine (AllReadyH.cons (o := ⟨some 37, .buildSlice 31 4 #[(0, .const (Value.int IntKind.u8 110)), (1, .const (Value.int IntKind.u8 111)), (2, .const (Value.int IntKind.u8 100)), (3, .const (Value.int IntKind.u8 101))], 31, "law.go:51", #[], none⟩) rfl (fun K hK => ?_) (AllReadyH.cons (o := ⟨some 41, .convert 31 31 (.tmp 40), 31, "law.go:51", #[⟨3, .data⟩], none⟩) rfl (fun K hK => ?_) (AllReadyH.cons (o := ⟨some 4, .alloc 36, 0, "law.go:51", #[], none⟩) rfl (fun K hK => ?_) AllReadyH.nil)))
   ·go_simp
    refine al_step2 hb (fun nu hbn q hcn => ?_)
    refine hK.out _ _ hbn (fun _ => ?_)
    rw [← hW]
    exact n035 nu u.heap.size g3 g5 hbn q hb.size ((hcn.block _ (blk_lt h3)).trans h3) l3 (k5.below hcn) (Nat.ne_of_gt (blk_lt h3))
   ·obtain ⟨nu, hrn, q, hcn⟩ := run_mark u g3 1 1 _ h3
    have hbn := hb.trans (hcn.below (B := w8.heap.size) (fun q e => by omega) hb.size)
    go_simp
    try rw [hrn]
    try simp only [Result.andThen]
    try rw [Oper.upon_value]
    clear hrn
    refine hK.out _ _ hbn (fun _ => ?_)
    rw [← hW]
    exact n345 nu g3 g5 hbn (bs_blk q rfl) (bs_mark k5 h3 q hcn)
   ·go_simp
    refine al_step2 hb (fun nu hbn q hcn => ?_)
    refine hK.out _ _ hbn (fun _ => ?_)
    rw [← hW]
    exact n359 nu g3 g5 u.heap.size hbn ((hcn.block _ (blk_lt h3)).trans h3) l3 q hb.size (k5.below hcn) (Nat.ne_of_lt (blk_lt h3))
  have n05 : ∀ (u : World) (g0 g5 : Nat) , (Below w8.heap.size w8 u) → (u.heap[g0]? = some (.cells #[.int .u8 110, .int .u8 111, .int .u8 100, .int .u8 101] 5 (0, 0))) → (w8.heap.size ≤ g0) → (Bs u (.slice (some ⟨g5, 0, none⟩) 8 8) (be8 1)) → W 7 #[true, false, true, false, false, true, true, false, false, false, false] (fr6 X1 X2 w7.heap.size w.heap.size w3.heap.size w5.heap.size de undef (.slice (some ⟨g0, 0, none⟩) 4 4) undef undef undef (.slice (some ⟨g5, 0, none⟩) 8 8) undef undef) u := by
   intro u g0 g5 hb h0 l0 k5
   rw [hW]
   unfold fr6
   refine wpAnyH_ready (rs := [1, 3, 9]) (by kernel_rfl) (by simp) ?_
   refine (AllReadyH.cons (o := ⟨some 38, .convert 31 31 (.tmp 37), 31, "law.go:51", #[⟨0, .data⟩], none⟩) rfl (fun K hK => ?_) (AllReadyH.cons (o := ⟨some 40, .buildSlice 31 1 #[(0, .const (Value.int IntKind.u8 97))], 31, "law.go:51", #[], none⟩) rfl (fun K hK => ?_) (AllReadyH.cons (o := ⟨some 4, .alloc 36, 0, "law.go:51", #[], none⟩) rfl (fun K hK => ?_) AllReadyH.nil)))
   ·obtain ⟨nu, hrn, q, hcn⟩ := run_mark u g0 4 4 _ h0
    have hbn := hb.trans (hcn.below (B := w8.heap.size) (fun q e => by omega) hb.size)
    go_simp
    try rw [hrn]
    try simp only [Result.andThen]
    try rw [Oper.upon_value]
    clear hrn
    refine hK.out _ _ hbn (fun _ => ?_)
    rw [← hW]
    exact n015 nu g0 g5 hbn (bs_blk q rfl) (bs_mark k5 h0 q hcn)
   ·go_simp
    refine al_step2 hb (fun nu hbn q hcn => ?_)
    refine hK.out _ _ hbn (fun _ => ?_)
    rw [← hW]
    exact n035 nu g0 u.heap.size g5 hbn ((hcn.block _ (blk_lt h0)).trans h0) l0 q hb.size (k5.below hcn) (Nat.ne_of_lt (blk_lt h0))
   ·go_simp
    refine al_step2 hb (fun nu hbn q hcn => ?_)
    refine hK.out _ _ hbn (fun _ => ?_)
    rw [← hW]
    exact n059 nu g0 g5 u.heap.size hbn ((hcn.block _ (blk_lt h0)).trans h0) l0 q hb.size (k5.below hcn) (Nat.ne_of_lt (blk_lt h0))
  have n34 : ∀ (u : World) (g3 : Nat) , (Below w8.heap.size w8 u) → (Bs u (.slice (some ⟨g3, 0, none⟩) 1 1) [97]) → W 7 #[false, false, true, true, true, false, true, false, false, false, false] (fr6 X1 X2 w7.heap.size w.heap.size w3.heap.size w5.heap.size de undef undef undef (.slice (some ⟨g3, 0, none⟩) 1 1) (.slice (some ⟨g3, 0, none⟩) 1 1) undef undef undef) u := by
   intro u g3 hb k3
   rw [hW]
   unfold fr6
   refine wpAnyH_ready (rs := [0, 5, 9]) (by kernel_rfl) (by simp) ?_
   refine (AllReadyH.cons (o := ⟨some 37, .buildSlice 31 4 #[(0, .const (Value.int IntKind.u8 110)), (1, .const (Value.int IntKind.u8 111)), (2, .const (Value.int IntKind.u8 100)), (3, .const (Value.int IntKind.u8 101))], 31, "law.go:51", #[], none⟩) rfl (fun K hK => ?_) (AllReadyH.cons (o := ⟨some 42, .buildSlice 31 8 #[(0, .const (Value.int IntKind.u8 0)), (1, .const (Value.int IntKind.u8 0)), (2, .const (Value.int IntKind.u8 0)), (3, .const (Value.int IntKind.u8 0)), (4, .const (Value.int IntKind.u8 0)), (5, .const (Value.int IntKind.u8 0)), (6, .const (Value.int IntKind.u8 0)), (7, .const (Value.int IntKind.u8 1))], 31, "law.go:51", #[], none⟩) rfl (fun K hK => ?_) (AllReadyH.cons (o := ⟨some 4, .alloc 36, 0, "law.go:51", #[], none⟩) rfl (fun K hK => ?_) AllReadyH.nil)))
   ·go_simp
    refine al_step2 hb (fun nu hbn q hcn => ?_)
    refine hK.out _ _ hbn (fun _ => ?_)
    rw [← hW]
    exact n034 nu u.heap.size g3 hbn q hb.size (k3.below hcn)
   ·go_simp
    refine al_step2 hb (fun nu hbn q hcn => ?_)
    refine hK.out _ _ hbn (fun _ => ?_)
    rw [← hW]
    exact n345 nu g3 u.heap.size hbn (k3.below hcn) (bs_blk (l := be8 1) q rfl)
   ·go_simp
    refine al_step2 hb (fun nu hbn q hcn => ?_)
    refine hK.out _ _ hbn (fun _ => ?_)
    rw [← hW]
    exact n349 nu g3 u.heap.size hbn q hb.size (k3.below hcn)
  have n03 : ∀ (u : World) (g0 g3 : Nat) , (Below w8.heap.size w8 u) → (u.heap[g0]? = some (.cells #[.int .u8 110, .int .u8 111, .int .u8 100, .int .u8 101] 5 (0, 0))) → (w8.heap.size ≤ g0) → (u.heap[g3]? = some (.cells #[.int .u8 97] 5 (0, 0))) → (w8.heap.size ≤ g3) → (g0 ≠ g3) → W 7 #[true, false, true, true, false, false, true, false, false, false, false] (fr6 X1 X2 w7.heap.size w.heap.size w3.heap.size w5.heap.size de undef (.slice (some ⟨g0, 0, none⟩) 4 4) undef (.slice (some ⟨g3, 0, none⟩) 1 1) undef undef undef undef) u := by
   intro u g0 g3 hb h0 l0 h3 l3 d03
   rw [hW]
   unfold fr6
   refine wpAnyH_ready (rs := [1, 4, 5, 9]) (by kernel_rfl) (by simp) ?_
   refine (AllReadyH.cons (o := ⟨some 38, .convert 31 31 (.tmp 37), 31, "law.go:51", #[⟨0, .data⟩], none⟩) rfl (fun K hK => ?_) (AllReadyH.cons (o := ⟨some 41, .convert 31 31 (.tmp 40), 31, "law.go:51", #[⟨3, .data⟩], none⟩) rfl (fun K hK => ?_) (AllReadyH.cons (o := ⟨some 42, .buildSlice 31 8 #[(0, .const (Value.int IntKind.u8 0)), (1, .const (Value.int IntKind.u8 0)), (2, .const (Value.int IntKind.u8 0)), (3, .const (Value.int IntKind.u8 0)), (4, .const (Value.int IntKind.u8 0)), (5, .const (Value.int IntKind.u8 0)), (6, .const (Value.int IntKind.u8 0)), (7, .const (Value.int IntKind.u8 1))], 31, "law.go:51", #[], none⟩) rfl (fun K hK => ?_) (AllReadyH.cons (o := ⟨some 4, .alloc 36, 0, "law.go:51", #[], none⟩) rfl (fun K hK => ?_) AllReadyH.nil))))
   ·obtain ⟨nu, hrn, q, hcn⟩ := run_mark u g0 4 4 _ h0
    have hbn := hb.trans (hcn.below (B := w8.heap.size) (fun q e => by omega) hb.size)
    go_simp
    try rw [hrn]
    try simp only [Result.andThen]
    try rw [Oper.upon_value]
    clear hrn
    refine hK.out _ _ hbn (fun _ => ?_)
    rw [← hW]
    exact n013 nu g0 g3 hbn ((hcn.block _ (blk_lt h3) (Ne.symm d03)).trans h3) l3 (bs_blk q rfl)
   ·obtain ⟨nu, hrn, q, hcn⟩ := run_mark u g3 1 1 _ h3
    have hbn := hb.trans (hcn.below (B := w8.heap.size) (fun q e => by omega) hb.size)
    go_simp
    try rw [hrn]
    try simp only [Result.andThen]
    try rw [Oper.upon_value]
    clear hrn
    refine hK.out _ _ hbn (fun _ => ?_)
    rw [← hW]
    exact n034 nu g0 g3 hbn ((hcn.block _ (blk_lt h0) d03).trans h0) l0 (bs_blk q rfl)
   ·go_simp
    refine al_step2 hb (fun nu hbn q hcn => ?_)
    refine hK.out _ _ hbn (fun _ => ?_)
    rw [← hW]
    exact n035 nu g0 g3 u.heap.size hbn ((hcn.block _ (blk_lt h0)).trans h0) l0 ((hcn.block _ (blk_lt h3)).trans h3) l3 (bs_blk (l := be8 1) q rfl) d03
   ·go_simp
    refine al_step2 hb (fun nu hbn q hcn => ?_)
    refine hK.out _ _ hbn (fun _ => ?_)
    rw [← hW]
    exact n039 nu g0 g3 u.heap.size hbn ((hcn.block _ (blk_lt h0)).trans h0) l0 ((hcn.block _ (blk_lt h3)).trans h3) l3 q hb.size d03 (Nat.ne_of_lt (blk_lt h0)) (Nat.ne_of_lt (blk_lt h3))
  have n01 : ∀ (u : World) (g0 : Nat) , (Below w8.heap.size w8 u) → (Bs u (.slice (some ⟨g0, 0, none⟩) 4 4) [110, 111, 100, 101]) → W 7 #[true, true, true, false, false, false, true, false, false, false, false] (fr6 X1 X2 w7.heap.size w.heap.size w3.heap.size w5.heap.size de undef (.slice (some ⟨g0, 0, none⟩) 4 4) (.slice (some ⟨g0, 0, none⟩) 4 4) undef undef undef undef undef) u := by
   intro u g0 hb k0
   rw [hW]
   unfold fr6
   refine wpAnyH_ready (rs := [3, 5, 9]) (by kernel_rfl) (by simp) ?_
   refine (AllReadyH.cons (o := ⟨some 40, .buildSlice 31 1 #[(0, .const (Value.int IntKind.u8 97))], 31, "law.go:51", #[], none⟩) rfl (fun K hK => ?_) (AllReadyH.cons (o := ⟨some 42, .buildSlice 31 8 #[(0, .const (Value.int IntKind.u8 0)), (1, .const (Value.int IntKind.u8 0)), (2, .const (Value.int IntKind.u8 0)), (3, .const (Value.int IntKind.u8 0)), (4, .const (Value.int IntKind.u8 0)), (5, .const (Value.int IntKind.u8 0)), (6, .const (Value.int IntKind.u8 0)), (7, .const (Value.int IntKind.u8 1))], 31, "law.go:51", #[], none⟩) rfl (fun K hK => ?_) (AllReadyH.cons (o := ⟨some 4, .alloc 36, 0, "law.go:51", #[], none⟩) rfl (fun K hK => ?_) AllReadyH.nil)))
   ·go_simp
    refine al_step2 hb (fun nu hbn q hcn => ?_)
    refine hK.out _ _ hbn (fun _ => ?_)
    rw [← hW]
    exact n013 nu g0 u.heap.size hbn q hb.size (k0.below hcn)
   ·go_simp
    refine al_step2 hb (fun nu hbn q hcn => ?_)
    refine hK.out _ _ hbn (fun _ => ?_)
    rw [← hW]
    exact n015 nu g0 u.heap.size hbn (k0.below hcn) (bs_blk (l := be8 1) q rfl)
   ·go_simp
    refine al_step2 hb (fun nu hbn q hcn => ?_)
    refine hK.out _ _ hbn (fun _ => ?_)
    rw [← hW]
    exact n019 nu g0 u.heap.size hbn q hb.size (k0.below hcn)
  have n9 : ∀ (u : World) (g9 : Nat) , (Below w8.heap.size w8 u) → (u.heap[g9]? = some (.cells Z 36 (0, 0))) → (w8.heap.size ≤ g9) → W 8 #[false, false, true, false, false, false, true, false, false, true, false] (fr6 X1 X2 w7.heap.size w.heap.size w3.heap.size w5.heap.size de (.pointer (some ⟨g9, 0, none⟩)) undef undef undef undef undef undef undef) u := by
   intro u g9 hb h9 l9
   rw [hW]
   unfold fr6
   refine wpAnyH_ready (rs := [0, 3, 5]) (by kernel_rfl) (by simp) ?_
   refine (AllReadyH.cons (o := ⟨some 37, .buildSlice 31 4 #[(0, .const (Value.int IntKind.u8 110)), (1, .const (Value.int IntKind.u8 111)), (2, .const (Value.int IntKind.u8 100)), (3, .const (Value.int IntKind.u8 101))], 31, "law.go:51", #[], none⟩) rfl (fun K hK => ?_) (AllReadyH.cons (o := ⟨some 40, .buildSlice 31 1 #[(0, .const (Value.int IntKind.u8 97))], 31, "law.go:51", #[], none⟩) rfl (fun K hK => ?_) (AllReadyH.cons (o := ⟨some 42, .buildSlice 31 8 #[(0, .const (Value.int IntKind.u8 0)), (1, .const (Value.int IntKind.u8 0)), (2, .const (Value.int IntKind.u8 0)), (3, .const (Value.int IntKind.u8 0)), (4, .const (Value.int IntKind.u8 0)), (5, .const (Value.int IntKind.u8 0)), (6, .const (Value.int IntKind.u8 0)), (7, .const (Value.int IntKind.u8 1))], 31, "law.go:51", #[], none⟩) rfl (fun K hK => ?_) AllReadyH.nil)))
   ·go_simp
    refine al_step2 hb (fun nu hbn q hcn => ?_)
    refine hK.out _ _ hbn (fun _ => ?_)
    rw [← hW]
    exact n09 nu u.heap.size g9 hbn q hb.size ((hcn.block _ (blk_lt h9)).trans h9) l9 (Nat.ne_of_gt (blk_lt h9))
   ·go_simp
    refine al_step2 hb (fun nu hbn q hcn => ?_)
    refine hK.out _ _ hbn (fun _ => ?_)
    rw [← hW]
    exact n39 nu u.heap.size g9 hbn q hb.size ((hcn.block _ (blk_lt h9)).trans h9) l9 (Nat.ne_of_gt (blk_lt h9))
   ·go_simp
    refine al_step2 hb (fun nu hbn q hcn => ?_)
    refine hK.out _ _ hbn (fun _ => ?_)
    rw [← hW]
    exact n59 nu u.heap.size g9 hbn ((hcn.block _ (blk_lt h9)).trans h9) l9 (bs_blk (l := be8 1) q rfl)
  have n5 : ∀ (u : World) (g5 : Nat) , (Below w8.heap.size w8 u) → (Bs u (.slice (some ⟨g5, 0, none⟩) 8 8) (be8 1)) → W 8 #[false, false, true, false, false, true, true, false, false, false, false] (fr6 X1 X2 w7.heap.size w.heap.size w3.heap.size w5.heap.size de undef undef undef undef undef (.slice (some ⟨g5, 0, none⟩) 8 8) undef undef) u := by
   intro u g5 hb k5
   rw [hW]
   unfold fr6
   refine wpAnyH_ready (rs := [0, 3, 9]) (by kernel_rfl) (by simp) ?_
   refine (AllReadyH.cons (o := ⟨some 37, .buildSlice 31 4 #[(0, .const (Value.int IntKind.u8 110)), (1, .const (Value.int IntKind.u8 111)), (2, .const (Value.int IntKind.u8 100)), (3, .const (Value.int IntKind.u8 101))], 31, "law.go:51", #[], none⟩) rfl (fun K hK => ?_) (AllReadyH.cons (o := ⟨some 40, .buildSlice 31 1 #[(0, .const (Value.int IntKind.u8 97))], 31, "law.go:51", #[], none⟩) rfl (fun K hK => ?_) (AllReadyH.cons (o := ⟨some 4, .alloc 36, 0, "law.go:51", #[], none⟩) rfl (fun K hK => ?_) AllReadyH.nil)))
   ·go_simp
    refine al_step2 hb (fun nu hbn q hcn => ?_)
    refine hK.out _ _ hbn (fun _ => ?_)
    rw [← hW]
    exact n05 nu u.heap.size g5 hbn q hb.size (k5.below hcn)
   ·go_simp
    refine al_step2 hb (fun nu hbn q hcn => ?_)
    refine hK.out _ _ hbn (fun _ => ?_)
    rw [← hW]
    exact n35 nu u.heap.size g5 hbn q hb.size (k5.below hcn)
   ·go_simp
    refine al_step2 hb (fun nu hbn q hcn => ?_)
    refine hK.out _ _ hbn (fun _ => ?_)
    rw [← hW]
    exact n59 nu g5 u.heap.size hbn q hb.size (k5.below hcn)
  have n3 : ∀ (u : World) (g3 : Nat) , (Below w8.heap.size w8 u) → (u.heap[g3]? = some (.cells #[.int .u8 97] 5 (0, 0))) → (w8.heap.size ≤ g3) → W 8 #[false, false, true, true, false, false, true, false, false, false, false] (fr6 X1 X2 w7.heap.size w.heap.size w3.heap.size w5.heap.size de undef undef undef (.slice (some ⟨g3, 0, none⟩) 1 1) undef undef undef undef) u := by
   intro u g3 hb h3 l3
   rw [hW]
   unfold fr6
   refine wpAnyH_ready (rs := [0, 4, 5, 9]) (by kernel_rfl) (by simp) ?_
   refine (AllReadyH.cons (o := ⟨some 37, .buildSlice 31 4 #[(0, .const (Value.int IntKind.u8 110)), (1, .const (Value.int IntKind.u8 111)), (2, .const (Value.int IntKind.u8 100)), (3, .const (Value.int IntKind.u8 101))], 31, "law.go:51", #[], none⟩) rfl (fun K hK => ?_) (AllReadyH.cons (o := ⟨some 41, .convert 31 31 (.tmp 40), 31, "law.go:51", #[⟨3, .data⟩], none⟩) rfl (fun K hK => ?_) (AllReadyH.cons (o := ⟨some 42, .buildSlice 31 8 #[(0, .const (Value.int IntKind.u8 0)), (1, .const (Value.int IntKind.u8 0)), (2, .const (Value.int IntKind.u8 0)), (3, .const (Value.int IntKind.u8 0)), (4, .const (Value.int IntKind.u8 0)), (5, .const (Value.int IntKind.u8 0)), (6, .const (Value.int IntKind.u8 0)), (7, .const (Value.int IntKind.u8 1))], 31, "law.go:51", #[], none⟩) rfl (fun K hK => ?_) (AllReadyH.cons (o := ⟨some 4, .alloc 36, 0, "law.go:51", #[], none⟩) rfl (fun K hK => ?_) AllReadyH.nil))))
   ·go_simp
    refine al_step2 hb (fun nu hbn q hcn => ?_)
    refine hK.out _ _ hbn (fun _ => ?_)
    rw [← hW]
    exact n03 nu u.heap.size g3 hbn q hb.size ((hcn.block _ (blk_lt h3)).trans h3) l3 (Nat.ne_of_gt (blk_lt h3))
   ·obtain ⟨nu, hrn, q, hcn⟩ := run_mark u g3 1 1 _ h3
    have hbn := hb.trans (hcn.below (B := w8.heap.size) (fun q e => by omega) hb.size)
    go_simp
    try rw [hrn]
    try simp only [Result.andThen]
    try rw [Oper.upon_value]
    clear hrn
    refine hK.out _ _ hbn (fun _ => ?_)
    rw [← hW]
    exact n34 nu g3 hbn (bs_blk q rfl)
   ·go_simp
    refine al_step2 hb (fun nu hbn q hcn => ?_)
    refine hK.out _ _ hbn (fun _ => ?_)
    rw [← hW]
    exact n35 nu g3 u.heap.size hbn ((hcn.block _ (blk_lt h3)).trans h3) l3 (bs_blk (l := be8 1) q rfl)
   ·go_simp
    refine al_step2 hb (fun nu hbn q hcn => ?_)
    refine hK.out _ _ hbn (fun _ => ?_)
    rw [← hW]
    exact n39 nu g3 u.heap.size hbn ((hcn.block _ (blk_lt h3)).trans h3) l3 q hb.size (Nat.ne_of_lt (blk_lt h3))
  have n0 : ∀ (u : World) (g0 : Nat) , (Below w8.heap.size w8 u) → (u.heap[g0]? = some (.cells #[.int .u8 110, .int .u8 111, .int .u8 100, .int .u8 101] 5 (0, 0))) → (w8.heap.size ≤ g0) → W 8 #[true, false, true, false, false, false, true, false, false, false, false] (fr6 X1 X2 w7.heap.size w.heap.size w3.heap.size w5.heap.size de undef (.slice (some ⟨g0, 0, none⟩) 4 4) undef undef undef undef undef undef) u := by
   intro u g0 hb h0 l0
   rw [hW]
   unfold fr6
   refine wpAnyH_ready (rs := [1, 3, 5, 9]) (by kernel_rfl) (by simp) ?_
   refine (AllReadyH.cons (o := ⟨some 38, .convert 31 31 (.tmp 37), 31, "law.go:51", #[⟨0, .data⟩], none⟩) rfl (fun K hK => ?_) (AllReadyH.cons (o := ⟨some 40, .buildSlice 31 1 #[(0, .const (Value.int IntKind.u8 97))], 31, "law.go:51", #[], none⟩) rfl (fun K hK => ?_) (AllReadyH.cons (o := ⟨some 42, .buildSlice 31 8 #[(0, .const (Value.int IntKind.u8 0)), (1, .const (Value.int IntKind.u8 0)), (2, .const (Value.int IntKind.u8 0)), (3, .const (Value.int IntKind.u8 0)), (4, .const (Value.int IntKind.u8 0)), (5, .const (Value.int IntKind.u8 0)), (6, .const (Value.int IntKind.u8 0)), (7, .const (Value.int IntKind.u8 1))], 31, "law.go:51", #[], none⟩) rfl (fun K hK => ?_) (AllReadyH.cons (o := ⟨some 4, .alloc 36, 0, "law.go:51", #[], none⟩) rfl (fun K hK => ?_) AllReadyH.nil))))
   ·obtain ⟨nu, hrn, q, hcn⟩ := run_mark u g0 4 4 _ h0
    have hbn := hb.trans (hcn.below (B := w8.heap.size) (fun q e => by omega) hb.size)
    go_simp
    try rw [hrn]
    try simp only [Result.andThen]
    try rw [Oper.upon_value]
    clear hrn
    refine hK.out _ _ hbn (fun _ => ?_)
    rw [← hW]
    exact n01 nu g0 hbn (bs_blk q rfl)
   ·go_simp
    refine al_step2 hb (fun nu hbn q hcn => ?_)
    refine hK.out _ _ hbn (fun _ => ?_)
    rw [← hW]
    exact n03 nu g0 u.heap.size hbn ((hcn.block _ (blk_lt h0)).trans h0) l0 q hb.size (Nat.ne_of_lt (blk_lt h0))
   ·go_simp
    refine al_step2 hb (fun nu hbn q hcn => ?_)
    refine hK.out _ _ hbn (fun _ => ?_)
    rw [← hW]
    exact n05 nu g0 u.heap.size hbn ((hcn.block _ (blk_lt h0)).trans h0) l0 (bs_blk (l := be8 1) q rfl)
   ·go_simp
    refine al_step2 hb (fun nu hbn q hcn => ?_)
    refine hK.out _ _ hbn (fun _ => ?_)
    rw [← hW]
    exact n09 nu g0 u.heap.size hbn ((hcn.block _ (blk_lt h0)).trans h0) l0 q hb.size (Nat.ne_of_lt (blk_lt h0))
  have n0 : ∀ (u : World) , (Below w8.heap.size w8 u) → W 9 #[false, false, true, false, false, false, true, false, false, false, false] (fr6 X1 X2 w7.heap.size w.heap.size w3.heap.size w5.heap.size de undef undef undef undef undef undef undef undef) u := by
   intro u  hb
   rw [hW]
   unfold fr6
   refine wpAnyH_ready (rs := [0, 3, 5, 9]) (by kernel_rfl) (by simp) ?_
   refine (AllReadyH.cons (o := ⟨some 37, .buildSlice 31 4 #[(0, .const (Value.int IntKind.u8 110)), (1, .const (Value.int IntKind.u8 111)), (2, .const (Value.int IntKind.u8 100)), (3, .const (Value.int IntKind.u8 101))], 31, "law.go:51", #[], none⟩) rfl (fun K hK => ?_) (AllReadyH.cons (o := ⟨some 40, .buildSlice 31 1 #[(0, .const (Value.int IntKind.u8 97))], 31, "law.go:51", #[], none⟩) rfl (fun K hK => ?_) (AllReadyH.cons (o := ⟨some 42, .buildSlice 31 8 #[(0, .const (Value.int IntKind.u8 0)), (1, .const (Value.int IntKind.u8 0)), (2, .const (Value.int IntKind.u8 0)), (3, .const (Value.int IntKind.u8 0)), (4, .const (Value.int IntKind.u8 0)), (5, .const (Value.int IntKind.u8 0)), (6, .const (Value.int IntKind.u8 0)), (7, .const (Value.int IntKind.u8 1))], 31, "law.go:51", #[], none⟩) rfl (fun K hK => ?_) (AllReadyH.cons (o := ⟨some 4, .alloc 36, 0, "law.go:51", #[], none⟩) rfl (fun K hK => ?_) AllReadyH.nil))))
   ·go_simp
    refine al_step2 hb (fun nu hbn q hcn => ?_)
    refine hK.out _ _ hbn (fun _ => ?_)
    rw [← hW]
    exact n0 nu u.heap.size hbn q hb.size
   ·go_simp
    refine al_step2 hb (fun nu hbn q hcn => ?_)
    refine hK.out _ _ hbn (fun _ => ?_)
    rw [← hW]
    exact n3 nu u.heap.size hbn q hb.size
   ·go_simp
    refine al_step2 hb (fun nu hbn q hcn => ?_)
    refine hK.out _ _ hbn (fun _ => ?_)
    rw [← hW]
    exact n5 nu u.heap.size hbn (bs_blk (l := be8 1) q rfl)
   ·go_simp
    refine al_step2 hb (fun nu hbn q hcn => ?_)
    refine hK.out _ _ hbn (fun _ => ?_)
    rw [← hW]
    exact n9 nu u.heap.size hbn q hb.size
  exact n0 _ hHeld
 ·rintro _ u0 ⟨g0, g3, g5, g7, g9, rfl, hb9, hl9, hx9⟩
  unfold fr6
  have hf0 := HF8.out.1.below hb9
  have HPV := hid (treeProve_any (S := fun _ => True) X1 u0 p1 (.slice none 0 0) (.slice none 0 0) [] [] false Tone hf0.t1 hf0.m1 Tone_good (Bs.nil _) (Bs.nil _) (fun x hx => by cases hx) (fun x hx => by cases hx) (by show Pone.length ≤ _; rw [Pone_eq]; decide))
  have H0 := hid (And.intro hf0 (And.intro (HF8.out.2.trans (hb9.mono HF8.out.2.size)) (And.intro ((hb9.block _ (blk_lt HD8.out)).trans HD8.out) hx9)))
  have hwu : w.heap.size ≤ u0.heap.size := H0.out.2.1.size
  clear hf0 hb9 hl9 hx9 HF8 HD8 HKC8 hw78 HF7
  generalize w7.heap.size = ge at *
  go_wp2_with fail
  refine HPV.out.mono ?_
  rintro d u1 ⟨pv, rfl, ho1, hb1⟩
  obtain ⟨ap, np, cp, rfl⟩ := ho1.slc
  have hf1 := H0.out.1.below hb1
  have HR1 := hid (treeRoot_any X1 Tone u1 p1 hf1.t1 hf1.m1 Tone_good hf1.kc)
  have H1 := hid (And.intro hf1 (And.intro (H0.out.2.1.trans (hb1.mono H0.out.2.1.size)) (And.intro ((hb1.block _ (blk_lt H0.out.2.2.1)).trans H0.out.2.2.1) (And.intro ((hb1.block _ (blk_lt H0.out.2.2.2)).trans H0.out.2.2.2) (show Bs u1 (.slice ap np cp) Pone from ho1.bs)))))
  clear hf1 ho1 hb1 HPV H0
  go_wp2_with fail
  refine HR1.out.mono ?_
  rintro d u2 ⟨rfl, hb2⟩
  have hp2 := H1.out.2.2.2.2.below hb2
  have hf2 := H1.out.1.below hb2
  have hvf := Verify_any u2 Tone.dg (.slice none 0 0) (.slice none 0 0) (.slice ap np cp) [] [] false Pone (Tone_good.dlen) (Bs.nil _) (Bs.nil _) hp2 (fun x hx => by cases hx) (fun x hx => by cases hx) Pone_rng hf2.kc (fun t ht => by
   rw [Pone_rd] at ht
   injection ht with ht
   subst ht
   decide)
  rw [Pone_ver] at hvf
  have HVF := hid hvf
  have H2 := hid (And.intro hf2 (And.intro (H1.out.2.1.trans (hb2.mono H1.out.2.1.size)) (And.intro ((hb2.block _ (blk_lt H1.out.2.2.1)).trans H1.out.2.2.1) (And.intro ((hb2.block _ (blk_lt H1.out.2.2.2.1)).trans H1.out.2.2.2.1) hp2))))
  clear hvf hf2 hp2 hb2 H1 HR1
  go_wp2_with fail
  refine HVF.out.mono ?_
  rintro d u3 ⟨ev, rfl, hen, hb3⟩
  obtain ⟨ga, ce, rfl, -⟩ := id hen.one
  have H3 := hid (And.intro (H2.out.1.below hb3) (And.intro (H2.out.2.1.trans (hb3.mono H2.out.2.1.size)) (And.intro ((hb3.block _ (blk_lt H2.out.2.2.1)).trans H2.out.2.2.1) (And.intro ((hb3.block _ (blk_lt H2.out.2.2.2.1)).trans H2.out.2.2.2.1) (And.intro (H2.out.2.2.2.2.below hb3) hen.one)))))
  clear hen hb3 HVF H2
  go_wp2_with fail
  have SA9 := fun u => slice32_all u g9
  have HRG9 := hid (fun u (hu : Below u3.heap.size u3 u) => (show u.rangeAt g9 0 (dg.map (Value.int .u8)) from fun q x hq => by
   rw [cell_of_row u g9 (0 + q) _ _ _ ((hu.block _ (blk_lt H3.out.2.2.2.1)).trans H3.out.2.2.2.1), Nat.zero_add]
   simpa [ArrU8] using hq))
  have HIM := hid (show (Tryd.prog.info? 36).map (·.size) = some (dg.map (Value.int .u8)).length by rw [List.length_map, HDGL.out]; exact info_dg)
  have hb := (Below.refl u3.heap.size u3).drew
  refine wp_region_held_drew (S := fun u => Below u3.heap.size u3 u) (by kernel_rfl) (hb) (fun hHeld => ?_)
  refine tk (i := 0) (oi := ⟨some 56, .load 36 (.tmp 4), 36, "law.go:54", #[], none⟩) (v := .agg (ArrU8 dg)) (Or.inl ⟨by rfl, ?_⟩) ?_
  ·intro u hSw
   exact exec_load_mid 36 (Operand.tmp 4) rfl g9 0 rfl (dg.map (Value.int .u8)) _ (HRG9.out u hSw) Tryd.underlying36 rfl HIM.out
  try simp only [Act.put, sA, sB, sC]
  refine tk (i := 2) (oi := ⟨some 58, .slice 36 (.tmp 4) none none none, 31, "law.go:54", #[], none⟩) (v := .slice (some ⟨g9, 0, none⟩) 32 32) (Or.inl ⟨by rfl, ?_⟩) ?_
  ·intro u hSw
   go_simp
  try simp only [Act.put, sA, sB, sC]
  refine wpAnyH_ready (rs := [1]) (by kernel_rfl) (by simp) ?_
  refine (AllReadyH.cons (o := ⟨some 57, .buildSlice 31 1 #[(0, .const (Value.int IntKind.u8 1))], 31, "law.go:54", #[], none⟩) rfl (fun K hK => ?_) AllReadyH.nil)
  try (generalize World.drew u3 = ud at *)
  go_simp
  refine al_step2 hb (fun nu hbn q1 hcn => ?_)
  have lo1 := hb.size
  have hb := hbn
  clear hcn hbn
  refine hK.out _ _ hb (fun hHeld => ?_)
  clear hK K
  try simp only [Act.put, sA, sB, sC]
  refine wpAnyH_ready (rs := [3]) (by kernel_rfl) (by simp) ?_
  refine (AllReadyH.cons (o := ⟨some 59, .call ⟨.builtin .append, #[.tmp 57, .tmp 58], #[31, 31]⟩, 31, "law.go:54", #[⟨1, .data⟩, ⟨2, .data⟩], none⟩) rfl (fun K hK => ?_) AllReadyH.nil)
  have ho1 : Own nu u3.heap.size _ [1] := own_lit1 q1 lo1
  obtain ⟨v5, w5', hr5, ho5, hc5, -⟩ := run_append_OwnT ho1 (box_bs ((hb.block _ (blk_lt H3.out.2.2.2.1)).trans H3.out.2.2.2.1) HDGL.out) (by have e := HDGL.out; simp only [List.length_cons, List.length_nil]; omega) hb.size 31
  refine step_append_u8 (by rfl) (Operand.tmp 57) (Operand.tmp 58) (by rfl) _ _ (by rfl) (by rfl) hr5 ?_
  have hb := hb.trans (hc5.below (B := u3.heap.size) (fun q e => by cases e; omega) hb.size)
  have hbs5 := ho5.bs
  clear hc5 ho1 hr5
  refine hK.out _ _ hb (fun hHeld => ?_)
  clear hK K
  try simp only [Act.put, sA, sB, sC]
  refine wpAnyH_ready (rs := [4]) (by kernel_rfl) (by simp) ?_
  refine (AllReadyH.cons (o := ⟨some 60, .call ⟨.value (.func 29), #[.tmp 56, .const (Value.slice none 0 0), .const (Value.slice none 0 0), .const (Value.bool false), .tmp 59], #[36, 31, 31, 4, 31]⟩, 49, "law.go:54", #[⟨0, .data⟩, ⟨3, .data⟩, ⟨3, .chain⟩], none⟩) rfl (fun K hK => ?_) AllReadyH.nil)
  have hvf := Verify_any w5' dg (.slice none 0 0) (.slice none 0 0) v5 [] [] false ([1] ++ dg) HDGL.out (Bs.nil _) (Bs.nil _) hbs5 (fun x hx => by cases hx) (fun x hx => by cases hx) HCR.out (H3.out.1.below hb).kc (HCB.out)
  rw [cut_ver dg HDGL.out] at hvf
  go_simp
  refine hvf.mono ?_
  rintro e u4 ⟨-, rfl, hb4⟩
  have hb := hb.trans (hb4.mono hb.size)
  clear hb4 hvf
  go_wp2_with fail
  refine hK.out _ _ hb (fun hHeld => ?_)
  clear hK K
  try simp only [Act.put, sA, sB, sC]
  refine tk (i := 5) (oi := ⟨some 55, .move (.tmp 60), 49, "law.go:54", #[⟨4, .data⟩], none⟩) (v := ?_) (Or.inl ⟨by rfl, ?_⟩) ?_
  rotate_left 1
  ·(intro u hSw; go_simp; try with_reducible rfl)
  try simp only [Act.put, sA, sB, sC]
  refine tk (i := 6) (oi := ⟨some 61, .extract (.tmp 55) 0, 26, "law.go:54", #[⟨5, .data⟩], none⟩) (v := ?_) (Or.inl ⟨by rfl, ?_⟩) ?_
  rotate_left 1
  ·(intro u hSw; go_simp; try with_reducible rfl)
  try simp only [Act.put, sA, sB, sC]
  refine tk (i := 7) (oi := ⟨some 62, .extract (.tmp 55) 1, 48, "law.go:54", #[⟨5, .data⟩, ⟨8, .gcOnly Departure.lateStores⟩], none⟩) (v := ?_) (Or.inl ⟨by rfl, ?_⟩) ?_
  rotate_left 1
  ·(intro u hSw; go_simp; try with_reducible rfl)
  try simp only [Act.put, sA, sB, sC]
  refine tk (i := 8) (oi := ⟨some 8, .assign (.tmp 61), 26, "law.go:54", #[⟨6, .data⟩, ⟨4, .chain⟩, ⟨0, .phase⟩, ⟨1, .phase⟩, ⟨2, .phase⟩, ⟨3, .phase⟩, ⟨4, .phase⟩, ⟨5, .phase⟩, ⟨6, .phase⟩, ⟨7, .textOnly Departure.lateStores⟩], none⟩) (v := ?_) (Or.inl ⟨by rfl, ?_⟩) ?_
  rotate_left 1
  ·(intro u hSw; go_simp; try with_reducible rfl)
  try simp only [Act.put, sA, sB, sC]
  refine tk (i := 9) (oi := ⟨some 9, .assign (.tmp 62), 48, "law.go:54", #[⟨7, .data⟩, ⟨8, .chain⟩, ⟨0, .phase⟩, ⟨1, .phase⟩, ⟨2, .phase⟩, ⟨3, .phase⟩, ⟨4, .phase⟩, ⟨5, .phase⟩, ⟨6, .phase⟩, ⟨7, .phase⟩, ⟨8, .phase⟩], none⟩) (v := ?_) (Or.inl ⟨by rfl, ?_⟩) ?_
  rotate_left 1
  ·(intro u hSw; go_simp; try with_reducible rfl)
  try simp only [Act.put, sA, sB, sC]
  refine wpAnyH_done (by kernel_rfl) ?_ _
  have H5 := hid (And.intro (H3.out.1.below hb) (And.intro (H3.out.2.1.trans (hb.mono H3.out.2.1.size)) (And.intro ((hb.block _ (blk_lt H3.out.2.2.1)).trans H3.out.2.2.1) (And.intro ((hb.block _ (blk_lt H3.out.2.2.2.1)).trans H3.out.2.2.2.1) (And.intro (H3.out.2.2.2.2.1.below hb) (And.intro H3.out.2.2.2.2.2 hb))))))
  have hcl := Clash_any Pone Pone u4 (.slice ap np cp) (.slice ap np cp) H5.out.2.2.2.2.1 H5.out.2.2.2.2.1 Pone_rng Pone_rng H5.out.1.kc
  rw [Pone_clash] at hcl
  have HCL := hid hcl
  clear hcl hb ho5 hbs5 HRG9 HIM SA9 q1 lo1
  go_wp2_with fail
  refine HCL.out.mono ?_
  rintro d u5 hce
  obtain ⟨va, vb, rfl, hb5, hva, hvb⟩ := hce.form
  subst hva hvb
  rw [show (Option.isSome (none : Option (List Int × List Int))) = false from rfl]
  have H6 := hid (And.intro (H5.out.1.below hb5) (And.intro (H5.out.2.1.trans (hb5.mono H5.out.2.1.size)) (And.intro ((hb5.block _ (blk_lt H5.out.2.2.1)).trans H5.out.2.2.1) (And.intro ((hb5.block _ (blk_lt H5.out.2.2.2.1)).trans H5.out.2.2.2.1) (And.intro (H5.out.2.2.2.2.2.1.keepN (H5.out.2.2.2.2.2.2.trans (hb5.mono H5.out.2.2.2.2.2.2.size))) hb5)))))
  clear hb5 hce HCL H5 H3
  go_wp2_with fail
  have HGE := hid (fun u (hu : Below u5.heap.size u5 u) => (show u.rangeAt ge 0 (de.map (Value.int .u8)) from fun q x hq => by
   rw [cell_of_row u ge (0 + q) _ _ _ ((hu.block _ (blk_lt H6.out.2.2.1)).trans H6.out.2.2.1), Nat.zero_add]
   simpa [ArrU8] using hq))
  have HG9 := hid (fun u (hu : Below u5.heap.size u5 u) => (show u.rangeAt g9 0 (dg.map (Value.int .u8)) from fun q x hq => by
   rw [cell_of_row u g9 (0 + q) _ _ _ ((hu.block _ (blk_lt H6.out.2.2.2.1)).trans H6.out.2.2.2.1), Nat.zero_add]
   simpa [ArrU8] using hq))
  have HIE := hid (show (Tryd.prog.info? 36).map (·.size) = some (de.map (Value.int .u8)).length by rw [List.length_map, HDE.out]; exact info_dg)
  have HIM := hid (show (Tryd.prog.info? 36).map (·.size) = some (dg.map (Value.int .u8)).length by rw [List.length_map, HDGL.out]; exact info_dg)
  have HCE := hid (fun u (hu : Below u5.heap.size u5 u) => (show u.cell? ⟨ga, 1, none⟩ = some (.int .i64 1) from by
   obtain ⟨g', c', e1, e2, e3⟩ := H6.out.2.2.2.2.1
   injection e1 with e1
   injection e1 with e1
   injection e1 with e1
   subst e1
   exact (World.cell?_of_block (a := ⟨ga, 1, none⟩) (hu.block _ e2)).trans e3))
  have hb := (Below.refl u5.heap.size u5).drew
  refine wp_region_held_drew (S := fun u => Below u5.heap.size u5 u) (by kernel_rfl) (hb) (fun hHeld => ?_)
  refine tk (i := 0) (oi := ⟨some 70, .move (.tmp 2), 28, "law.go:56", #[], none⟩) (v := ?_) (Or.inl ⟨by rfl, ?_⟩) ?_
  rotate_left 1
  ·(intro u hSw; go_simp; try with_reducible rfl)
  try simp only [Act.put, sA, sB, sC]
  refine tk (i := 2) (oi := ⟨some 72, .load 36 (.tmp 3), 36, "law.go:56", #[], none⟩) (v := .agg (ArrU8 de)) (Or.inl ⟨by rfl, ?_⟩) ?_
  ·intro u hSw
   exact exec_load_mid 36 (Operand.tmp 3) rfl ge 0 rfl (de.map (Value.int .u8)) _ (HGE.out u hSw) Tryd.underlying36 rfl HIE.out
  try simp only [Act.put, sA, sB, sC]
  refine wpAnyH_ready (rs := [1]) (by kernel_rfl) (by simp) ?_
  refine (AllReadyH.cons (o := ⟨some 71, .call ⟨.value (.func 14), #[.tmp 70], #[28]⟩, 36, "law.go:56", #[⟨0, .data⟩], none⟩) rfl (fun K hK => ?_) AllReadyH.nil)
  try (generalize World.drew u5 = ud at *)
  have hf := H6.out.1.below hb
  have hrt := treeRoot_any X2 .nil _ (.pointer none) hf.t2 (show MIs _ (fun _ => True) (.pointer none) .nil from rfl) trivial hf.kc
  rw [show MT.nil.dg = de from HDX.out] at hrt
  go_simp
  refine hrt.mono ?_
  rintro e u6 ⟨rfl, hb4⟩
  have hb := hb.trans (hb4.mono hb.size)
  clear hb4 hf hrt
  go_wp2_with fail
  refine hK.out _ _ hb (fun hHeld => ?_)
  clear hK K
  try simp only [Act.put, sA, sB, sC]
  refine tk (i := 3) (oi := ⟨some 73, .binOp BinOp.eql 36 (.tmp 71) (.tmp 72) 36, 4, "law.go:56", #[⟨1, .data⟩, ⟨2, .data⟩], none⟩) (v := .bool true) (Or.inl ⟨by rfl, ?_⟩) ?_
  ·intro u hSw
   exact exec_eql_dg (Operand.tmp 71) (Operand.tmp 72) _ rfl de de rfl rfl HDE.out HDE.out true (decide_eq_true rfl)
  try simp only [Act.put, sA, sB, sC]
  refine tk (i := 4) (oi := ⟨some 74, .move (.tmp 73), 4, "law.go:56", #[⟨3, .data⟩, ⟨1, .chain⟩], none⟩) (v := ?_) (Or.inl ⟨by rfl, ?_⟩) ?_
  rotate_left 1
  ·(intro u hSw; go_simp; try with_reducible rfl)
  try simp only [Act.put, sA, sB, sC]
  refine tk (i := 5) (oi := ⟨some 75, .move (.tmp 1), 28, "law.go:56", #[⟨4, .guard⟩], some (4, true)⟩) (v := ?_) (Or.inl ⟨by rfl, ?_⟩) ?_
  rotate_left 1
  ·(intro u hSw; go_simp; try with_reducible rfl)
  try simp only [Act.put, sA, sB, sC]
  refine tk (i := 7) (oi := ⟨some 77, .load 36 (.tmp 4), 36, "law.go:56", #[⟨4, .guard⟩], some (4, true)⟩) (v := .agg (ArrU8 dg)) (Or.inl ⟨by rfl, ?_⟩) ?_
  ·intro u hSw
   exact exec_load_mid 36 (Operand.tmp 4) rfl g9 0 rfl (dg.map (Value.int .u8)) _ (HG9.out u hSw) Tryd.underlying36 rfl HIM.out
  try simp only [Act.put, sA, sB, sC]
  refine wpAnyH_ready (rs := [6]) (by kernel_rfl) (by simp) ?_
  refine (AllReadyH.cons (o := ⟨some 76, .call ⟨.value (.func 14), #[.tmp 75], #[28]⟩, 36, "law.go:56", #[⟨5, .data⟩, ⟨4, .chain⟩, ⟨4, .guard⟩], some (4, true)⟩) rfl (fun K hK => ?_) AllReadyH.nil)
  have hf := H6.out.1.below hb
  have hrt := treeRoot_any X1 Tone _ p1 hf.t1 hf.m1 Tone_good hf.kc
  rw [HTD.out] at hrt
  go_simp
  refine hrt.mono ?_
  rintro e u7 ⟨rfl, hb4⟩
  have hb := hb.trans (hb4.mono hb.size)
  clear hb4 hf hrt
  go_wp2_with fail
  refine hK.out _ _ hb (fun hHeld => ?_)
  clear hK K
  try simp only [Act.put, sA, sB, sC]
  refine tk (i := 8) (oi := ⟨some 78, .binOp BinOp.eql 36 (.tmp 76) (.tmp 77) 36, 4, "law.go:56", #[⟨6, .data⟩, ⟨7, .data⟩, ⟨4, .guard⟩], some (4, true)⟩) (v := .bool true) (Or.inl ⟨by rfl, ?_⟩) ?_
  ·intro u hSw
   exact exec_eql_dg (Operand.tmp 76) (Operand.tmp 77) _ rfl dg dg rfl rfl HDGL.out HDGL.out true (decide_eq_true rfl)
  try simp only [Act.put, sA, sB, sC]
  refine tk (i := 9) (oi := ⟨some 79, .pick (.tmp 74) (.tmp 78) (.const (Value.bool false)), 4, "law.go:56", #[⟨4, .data⟩, ⟨8, .data⟩], none⟩) (v := ?_) (Or.inl ⟨by rfl, ?_⟩) ?_
  rotate_left 1
  ·(intro u hSw; go_simp; try with_reducible rfl)
  try simp only [Act.put, sA, sB, sC]
  refine tk (i := 10) (oi := ⟨some 80, .move (.tmp 79), 4, "law.go:56", #[⟨9, .data⟩, ⟨6, .chain⟩], none⟩) (v := ?_) (Or.inl ⟨by rfl, ?_⟩) ?_
  rotate_left 1
  ·(intro u hSw; go_simp; try with_reducible rfl)
  try simp only [Act.put, sA, sB, sC]
  refine tk (i := 11) (oi := ⟨some 81, .move (.tmp 2), 28, "law.go:56", #[⟨10, .guard⟩], some (10, true)⟩) (v := ?_) (Or.inl ⟨by rfl, ?_⟩) ?_
  rotate_left 1
  ·(intro u hSw; go_simp; try with_reducible rfl)
  try simp only [Act.put, sA, sB, sC]
  refine wpAnyH_ready (rs := [12]) (by kernel_rfl) (by simp) ?_
  refine (AllReadyH.cons (o := ⟨some 82, .call ⟨.value (.func 28), #[.tmp 81, .const (Value.slice none 0 0), .const (Value.slice none 0 0), .const (Value.bool false)], #[28, 31, 31, 4]⟩, 31, "law.go:56", #[⟨11, .data⟩, ⟨10, .chain⟩, ⟨10, .guard⟩], some (10, true)⟩) rfl (fun K hK => ?_) AllReadyH.nil)
  have hf := H6.out.1.below hb
  have hrt := treeProve_any (S := fun _ => True) X2 _ (.pointer none) (.slice none 0 0) (.slice none 0 0) [] [] false .nil hf.t2 rfl trivial (Bs.nil _) (Bs.nil _) (fun x hx => by cases hx) (fun x hx => by cases hx) (by decide)
  rw [nil_prove] at hrt
  go_simp
  refine hrt.mono ?_
  rintro e u8 ⟨v8, rfl, ho8, hb4⟩
  obtain ⟨a8, n8, c8, rfl⟩ := ho8.slc
  have hb := hb.trans (hb4.mono hb.size)
  have HO8 := hid ho8.bs
  clear hb4 hf hrt ho8
  go_wp2_with fail
  refine hK.out _ _ hb (fun hHeld => ?_)
  clear hK K
  try simp only [Act.put, sA, sB, sC]
  refine wpAnyH_ready (rs := [13]) (by kernel_rfl) (by simp) ?_
  refine (AllReadyH.cons (o := ⟨some 83, .convert 31 9 (.tmp 82), 9, "law.go:56", #[⟨12, .data⟩, ⟨10, .guard⟩], some (10, true)⟩) rfl (fun K hK => ?_) AllReadyH.nil)
  refine step_of_runP (by rfl) (exec_convP 31 9 (Operand.tmp 82) (by rfl) _ (by rfl) _ (conv_bs _ _ _ _ _ HO8.out)) ?_
  refine hK.out _ _ hb (fun hHeld => ?_)
  clear hK K
  try simp only [Act.put, sA, sB, sC]
  refine tk (i := 14) (oi := ⟨some 84, .binOp BinOp.eql 9 (.tmp 83) (.const (Value.string { data := #[0] })) 9, 4, "law.go:56", #[⟨13, .data⟩, ⟨10, .guard⟩], some (10, true)⟩) (v := .bool true) (Or.inl ⟨by rfl, ?_⟩) ?_
  ·intro u hSw
   (go_simp; exact str0)
  try simp only [Act.put, sA, sB, sC]
  refine tk (i := 15) (oi := ⟨some 85, .pick (.tmp 80) (.tmp 84) (.const (Value.bool false)), 4, "law.go:56", #[⟨10, .data⟩, ⟨14, .data⟩], none⟩) (v := ?_) (Or.inl ⟨by rfl, ?_⟩) ?_
  rotate_left 1
  ·(intro u hSw; go_simp; try with_reducible rfl)
  try simp only [Act.put, sA, sB, sC]
  refine tk (i := 16) (oi := ⟨some 86, .move (.tmp 85), 4, "law.go:56", #[⟨15, .data⟩, ⟨12, .chain⟩], none⟩) (v := ?_) (Or.inl ⟨by rfl, ?_⟩) ?_
  rotate_left 1
  ·(intro u hSw; go_simp; try with_reducible rfl)
  try simp only [Act.put, sA, sB, sC]
  refine tk (i := 17) (oi := ⟨some 87, .move (.tmp 7), 48, "law.go:56", #[⟨16, .guard⟩], some (16, true)⟩) (v := ?_) (Or.inl ⟨by rfl, ?_⟩) ?_
  rotate_left 1
  ·(intro u hSw; go_simp; try with_reducible rfl)
  try simp only [Act.put, sA, sB, sC]
  refine tk (i := 18) (oi := ⟨some 88, .binOp BinOp.eql 48 (.tmp 87) (.const (Value.int IntKind.i64 0)) 48, 4, "law.go:56", #[⟨17, .data⟩, ⟨16, .guard⟩], some (16, true)⟩) (v := ?_) (Or.inl ⟨by rfl, ?_⟩) ?_
  rotate_left 1
  ·(intro u hSw; go_simp; try with_reducible rfl)
  try simp only [Act.put, sA, sB, sC]
  refine tk (i := 19) (oi := ⟨some 89, .pick (.tmp 86) (.tmp 88) (.const (Value.bool false)), 4, "law.go:56", #[⟨16, .data⟩, ⟨18, .data⟩], none⟩) (v := ?_) (Or.inl ⟨by rfl, ?_⟩) ?_
  rotate_left 1
  ·(intro u hSw; go_simp; try with_reducible rfl)
  try simp only [Act.put, sA, sB, sC]
  refine tk (i := 20) (oi := ⟨some 90, .move (.tmp 89), 4, "law.go:56", #[⟨19, .data⟩, ⟨16, .chain⟩], none⟩) (v := ?_) (Or.inl ⟨by rfl, ?_⟩) ?_
  rotate_left 1
  ·(intro u hSw; go_simp; try with_reducible rfl)
  try simp only [Act.put, sA, sB, sC]
  refine tk (i := 21) (oi := ⟨some 91, .move (.tmp 6), 26, "law.go:56", #[⟨20, .guard⟩], some (20, true)⟩) (v := ?_) (Or.inl ⟨by rfl, ?_⟩) ?_
  rotate_left 1
  ·(intro u hSw; go_simp; try with_reducible rfl)
  try simp only [Act.put, sA, sB, sC]
  refine tk (i := 22) (oi := ⟨some 92, .call ⟨.builtin .len, #[.tmp 91], #[26]⟩, 3, "law.go:56", #[⟨21, .data⟩, ⟨20, .guard⟩], some (20, true)⟩) (v := ?_) (Or.inl ⟨by rfl, ?_⟩) ?_
  rotate_left 1
  ·(intro u hSw; go_simp; try with_reducible rfl)
  try simp only [Act.put, sA, sB, sC]
  refine tk (i := 23) (oi := ⟨some 93, .binOp BinOp.eql 3 (.tmp 92) (.const (Value.int IntKind.i64 1)) 3, 4, "law.go:56", #[⟨22, .data⟩, ⟨20, .guard⟩], some (20, true)⟩) (v := ?_) (Or.inl ⟨by rfl, ?_⟩) ?_
  rotate_left 1
  ·(intro u hSw; go_simp; try with_reducible rfl)
  try simp only [Act.put, sA, sB, sC]
  refine tk (i := 24) (oi := ⟨some 94, .pick (.tmp 90) (.tmp 93) (.const (Value.bool false)), 4, "law.go:56", #[⟨20, .data⟩, ⟨23, .data⟩], none⟩) (v := ?_) (Or.inl ⟨by rfl, ?_⟩) ?_
  rotate_left 1
  ·(intro u hSw; go_simp; try with_reducible rfl)
  try simp only [Act.put, sA, sB, sC]
  refine tk (i := 25) (oi := ⟨some 95, .move (.tmp 94), 4, "law.go:56", #[⟨24, .data⟩, ⟨20, .chain⟩], none⟩) (v := ?_) (Or.inl ⟨by rfl, ?_⟩) ?_
  rotate_left 1
  ·(intro u hSw; go_simp; try with_reducible rfl)
  try simp only [Act.put, sA, sB, sC]
  refine tk (i := 26) (oi := ⟨some 96, .move (.tmp 6), 26, "law.go:56", #[⟨25, .guard⟩], some (25, true)⟩) (v := ?_) (Or.inl ⟨by rfl, ?_⟩) ?_
  rotate_left 1
  ·(intro u hSw; go_simp; try with_reducible rfl)
  try simp only [Act.put, sA, sB, sC]
  refine tk (i := 27) (oi := ⟨some 97, .indexAddr 26 (.tmp 96) (.const (Value.int IntKind.i64 0)), 0, "law.go:56", #[⟨26, .data⟩, ⟨25, .guard⟩], some (25, true)⟩) (v := ?_) (Or.inl ⟨by rfl, ?_⟩) ?_
  rotate_left 1
  ·(intro u hSw; go_simp; try with_reducible rfl)
  try simp only [Act.put, sA, sB, sC]
  refine tk (i := 28) (oi := ⟨some 98, .fieldAddr 33 (.tmp 97) 1, 0, "law.go:56", #[⟨27, .data⟩, ⟨25, .guard⟩], some (25, true)⟩) (v := ?_) (Or.inl ⟨by rfl, ?_⟩) ?_
  rotate_left 1
  ·(intro u hSw; go_simp; try with_reducible rfl)
  try simp only [Act.put, sA, sB, sC]
  refine tk (i := 29) (oi := ⟨some 99, .load 2 (.tmp 98), 2, "law.go:56", #[⟨28, .data⟩, ⟨25, .guard⟩], some (25, true)⟩) (v := ?_) (Or.inl ⟨by rfl, ?_⟩) ?_
  rotate_left 1
  ·(intro u hSw; have y1 := HCE.out _ hSw; go_simp; try with_reducible rfl)
  try simp only [Act.put, sA, sB, sC]
  refine tk (i := 30) (oi := ⟨some 100, .binOp BinOp.eql 2 (.tmp 99) (.const (Value.int IntKind.i64 1)) 2, 4, "law.go:56", #[⟨29, .data⟩, ⟨25, .guard⟩], some (25, true)⟩) (v := ?_) (Or.inl ⟨by rfl, ?_⟩) ?_
  rotate_left 1
  ·(intro u hSw; go_simp; try with_reducible rfl)
  try simp only [Act.put, sA, sB, sC]
  refine tk (i := 31) (oi := ⟨some 101, .pick (.tmp 95) (.tmp 100) (.const (Value.bool false)), 4, "law.go:56", #[⟨25, .data⟩, ⟨30, .data⟩], none⟩) (v := ?_) (Or.inl ⟨by rfl, ?_⟩) ?_
  rotate_left 1
  ·(intro u hSw; go_simp; try with_reducible rfl)
  try simp only [Act.put, sA, sB, sC]
  refine tk (i := 32) (oi := ⟨some 102, .move (.tmp 101), 4, "law.go:56", #[⟨31, .data⟩, ⟨25, .chain⟩], none⟩) (v := ?_) (Or.inl ⟨by rfl, ?_⟩) ?_
  rotate_left 1
  ·(intro u hSw; go_simp; try with_reducible rfl)
  try simp only [Act.put, sA, sB, sC]
  refine tk (i := 33) (oi := ⟨some 103, .move (.tmp 9), 48, "law.go:56", #[⟨32, .guard⟩], some (32, true)⟩) (v := ?_) (Or.inl ⟨by rfl, ?_⟩) ?_
  rotate_left 1
  ·(intro u hSw; go_simp; try with_reducible rfl)
  try simp only [Act.put, sA, sB, sC]
  refine tk (i := 34) (oi := ⟨some 104, .binOp BinOp.eql 48 (.tmp 103) (.const (Value.int IntKind.i64 50)) 48, 4, "law.go:56", #[⟨33, .data⟩, ⟨32, .guard⟩], some (32, true)⟩) (v := ?_) (Or.inl ⟨by rfl, ?_⟩) ?_
  rotate_left 1
  ·(intro u hSw; go_simp; try with_reducible rfl)
  try simp only [Act.put, sA, sB, sC]
  refine tk (i := 35) (oi := ⟨some 105, .pick (.tmp 102) (.tmp 104) (.const (Value.bool false)), 4, "law.go:56", #[⟨32, .data⟩, ⟨34, .data⟩], none⟩) (v := ?_) (Or.inl ⟨by rfl, ?_⟩) ?_
  rotate_left 1
  ·(intro u hSw; go_simp; try with_reducible rfl)
  try simp only [Act.put, sA, sB, sC]
  refine tk (i := 36) (oi := ⟨some 106, .move (.tmp 105), 4, "law.go:56", #[⟨35, .data⟩, ⟨32, .chain⟩], none⟩) (v := ?_) (Or.inl ⟨by rfl, ?_⟩) ?_
  rotate_left 1
  ·(intro u hSw; go_simp; try with_reducible rfl)
  try simp only [Act.put, sA, sB, sC]
  refine tk (i := 37) (oi := ⟨some 107, .move (.tmp 12), 4, "law.go:56", #[⟨36, .guard⟩], some (36, true)⟩) (v := ?_) (Or.inl ⟨by rfl, ?_⟩) ?_
  rotate_left 1
  ·(intro u hSw; go_simp; try with_reducible rfl)
  try simp only [Act.put, sA, sB, sC]
  refine tk (i := 38) (oi := ⟨some 108, .unOp UnOp.not 4 (.tmp 107), 4, "law.go:56", #[⟨37, .data⟩, ⟨36, .guard⟩], some (36, true)⟩) (v := ?_) (Or.inl ⟨by rfl, ?_⟩) ?_
  rotate_left 1
  ·(intro u hSw; go_simp; try with_reducible rfl)
  try simp only [Act.put, sA, sB, sC]
  refine tk (i := 39) (oi := ⟨some 109, .pick (.tmp 106) (.tmp 108) (.const (Value.bool false)), 4, "law.go:56", #[⟨36, .data⟩, ⟨38, .data⟩], none⟩) (v := ?_) (Or.inl ⟨by rfl, ?_⟩) ?_
  rotate_left 1
  ·(intro u hSw; go_simp; try with_reducible rfl)
  try simp only [Act.put, sA, sB, sC]
  refine tk (i := 40) (oi := ⟨some 110, .move (.tmp 109), 4, "law.go:56", #[⟨39, .data⟩, ⟨36, .chain⟩], none⟩) (v := ?_) (Or.inl ⟨by rfl, ?_⟩) ?_
  rotate_left 1
  ·(intro u hSw; go_simp; try with_reducible rfl)
  try simp only [Act.put, sA, sB, sC]
  refine tk (i := 41) (oi := ⟨some 111, .move (.tmp 1), 28, "law.go:56", #[⟨40, .guard⟩], some (40, true)⟩) (v := ?_) (Or.inl ⟨by rfl, ?_⟩) ?_
  rotate_left 1
  ·(intro u hSw; go_simp; try with_reducible rfl)
  try simp only [Act.put, sA, sB, sC]
  refine wpAnyH_ready (rs := [42]) (by kernel_rfl) (by simp) ?_
  refine (AllReadyH.cons (o := ⟨some 112, .call ⟨.value (.func 13), #[.tmp 111], #[28]⟩, 26, "law.go:56", #[⟨41, .data⟩, ⟨40, .chain⟩, ⟨40, .guard⟩], some (40, true)⟩) rfl (fun K hK => ?_) AllReadyH.nil)
  have hf := H6.out.1.below hb
  have hrt := treeAll_any X1 _ p1 Tone hf.t1 hf.m1 Tone_good (by decide)
  go_simp
  refine hrt.mono ?_
  rintro e u9 ⟨v9, rfl, he9, hb4⟩
  obtain ⟨a9, c9, rfl⟩ := he9.slc
  rw [Tone_ents]
  have hb := hb.trans (hb4.mono hb.size)
  clear hb4 hf hrt he9
  go_wp2_with fail
  refine hK.out _ _ hb (fun hHeld => ?_)
  clear hK K
  try simp only [Act.put, sA, sB, sC]
  refine tk (i := 43) (oi := ⟨some 113, .call ⟨.builtin .len, #[.tmp 112], #[26]⟩, 3, "law.go:56", #[⟨42, .data⟩, ⟨40, .guard⟩], some (40, true)⟩) (v := ?_) (Or.inl ⟨by rfl, ?_⟩) ?_
  rotate_left 1
  ·(intro u hSw; go_simp; try with_reducible rfl)
  try simp only [Act.put, sA, sB, sC]
  refine tk (i := 44) (oi := ⟨some 114, .binOp BinOp.eql 3 (.tmp 113) (.const (Value.int IntKind.i64 1)) 3, 4, "law.go:56", #[⟨43, .data⟩, ⟨40, .guard⟩], some (40, true)⟩) (v := ?_) (Or.inl ⟨by rfl, ?_⟩) ?_
  rotate_left 1
  ·(intro u hSw; go_simp; try with_reducible rfl)
  try simp only [Act.put, sA, sB, sC]
  refine tk (i := 45) (oi := ⟨some 115, .pick (.tmp 110) (.tmp 114) (.const (Value.bool false)), 4, "law.go:56", #[⟨40, .data⟩, ⟨44, .data⟩], none⟩) (v := ?_) (Or.inl ⟨by rfl, ?_⟩) ?_
  rotate_left 1
  ·(intro u hSw; go_simp; try with_reducible rfl)
  try simp only [Act.put, sA, sB, sC]
  refine tk (i := 46) (oi := ⟨some 0, .assign (.tmp 115), 4, "law.go:56", #[⟨45, .data⟩, ⟨42, .chain⟩, ⟨0, .phase⟩, ⟨1, .phase⟩, ⟨2, .phase⟩, ⟨3, .phase⟩, ⟨4, .phase⟩, ⟨5, .phase⟩, ⟨6, .phase⟩, ⟨7, .phase⟩, ⟨8, .phase⟩, ⟨9, .phase⟩, ⟨10, .phase⟩, ⟨11, .phase⟩, ⟨12, .phase⟩, ⟨13, .phase⟩, ⟨14, .phase⟩, ⟨15, .phase⟩, ⟨16, .phase⟩, ⟨17, .phase⟩, ⟨18, .phase⟩, ⟨19, .phase⟩, ⟨20, .phase⟩, ⟨21, .phase⟩, ⟨22, .phase⟩, ⟨23, .phase⟩, ⟨24, .phase⟩, ⟨25, .phase⟩, ⟨26, .phase⟩, ⟨27, .phase⟩, ⟨28, .phase⟩, ⟨29, .phase⟩, ⟨30, .phase⟩, ⟨31, .phase⟩, ⟨32, .phase⟩, ⟨33, .phase⟩, ⟨34, .phase⟩, ⟨35, .phase⟩, ⟨36, .phase⟩, ⟨37, .phase⟩, ⟨38, .phase⟩, ⟨39, .phase⟩, ⟨40, .phase⟩, ⟨41, .phase⟩, ⟨42, .phase⟩, ⟨43, .phase⟩, ⟨44, .phase⟩, ⟨45, .phase⟩], none⟩) (v := ?_) (Or.inl ⟨by rfl, ?_⟩) ?_
  rotate_left 1
  ·(intro u hSw; go_simp; try with_reducible rfl)
  try simp only [Act.put, sA, sB]
  refine wpAnyH_done (by kernel_rfl) ?_ _
  have HBE := hid (H6.out.2.1.trans (hb.mono H6.out.2.1.size))
  clear hb
  go_wp2_with fail
  go_ret
  exact ⟨rfl, HBE.out⟩
end Go.Proofs.YtbmlkocpjboodaaDoor
