/- stage 7: a node is made -/
import Derived.Test.YtbmlkocpjboodaaDoorMv05
import Derived.Great.BuildSlice
namespace Go.Proofs.YtbmlkocpjboodaaDoor
open Go.RowKit
open Go.Lib (hid)
theorem setAt_list (off : Nat) (cs : List Value) (A : Array Value) (h : off + cs.length ≤ A.size) :
  ((cs.zipIdx 0).foldl (fun a (x : Value × Nat) => a.setIfInBounds (off + x.2) x.1) A) = (A.toList.take off ++ cs ++ A.toList.drop (off + cs.length)).toArray := by
 obtain ⟨h1, h2⟩ := Great.foldl_set off cs 0 A
 apply Array.ext_getElem?
 intro k
 rw [h2 k]
 simp only [Nat.add_zero, List.getElem?_toArray]
 have hl : (A.toList.take off ++ cs).length = off + cs.length := by simp; omega
 by_cases hin : off ≤ k ∧ k < off + cs.length ∧ k < A.size
 ·rw [if_pos hin, List.getElem?_append_left (by omega), List.getElem?_append_right (by simp; omega)]
  congr 1
  simp; omega
 ·rw [if_neg hin]
  by_cases hk : k < off
  ·rw [List.getElem?_append_left (by omega), List.getElem?_append_left (by simp; omega), List.getElem?_take_of_lt hk]
   simp
  ·by_cases hk2 : k < off + cs.length
   ·exfalso; exact hin ⟨by omega, hk2, by omega⟩
   ·rw [List.getElem?_append_right (by omega), hl, List.getElem?_drop, show off + cs.length + (k - (off + cs.length)) = k by omega]
    simp
theorem fill_cons {place : Nat → Option (Nat × Nat)} {cells : Array Value} {i : Nat} {v : Value} {rest : List (Nat × Value)} (off : Nat) (cs : List Value) (hv : v.cells = cs.toArray) (hp : place i = some (off, cs.length)) (hfit : off + cs.length ≤ cells.size) :
  Instr.fill place cells ((i, v) :: rest) = Instr.fill place (cells.toList.take off ++ cs ++ cells.toList.drop (off + cs.length)).toArray rest := by
 rw [Instr.fill, hp]
 simp only [hv, List.size_toArray]
 rw [if_neg (by simp; omega), ← setAt_list off cs cells hfit, ← Array.foldl_toList]
 simp
theorem agg_cells (c : Array Value) : (Value.agg c).cells = c := rfl
theorem zeros_len (n : Nat) : (zeros n).length = n := List.length_replicate
def setArr (C : Array Value) : Nat → List Value → Array Value
 | _, [] => C
 | o, v :: r => setArr (C.setIfInBounds o v) (o + 1) r
theorem heap_setCells (g : Nat) (T : TypeId) : ∀ (vs : List Value) (o : Nat) (w : World) (C : Array Value), w.heap[g]? = some (.cells C T (0, 0)) → (w.setCells g o vs).heap[g]? = some (.cells (setArr C o vs) T (0, 0))
 | [], _, _, _, h => h
 | v :: r, o, w, C, h => heap_setCells g T r (o + 1) _ _ (heap_setCell_same w g o C T v h)
theorem setArr_mid (D : List Value) : ∀ (vs B A : List Value), B.length = vs.length → setArr (A ++ B ++ D).toArray A.length vs = (A ++ vs ++ D).toArray
 | [], [], A, _ => rfl
 | [], _ :: _, _, h => by simp at h
 | _ :: _, [], _, h => by simp at h
 | v :: r, b :: B, A, h => by
  have ih := setArr_mid D r B (A ++ [v]) (by simpa using h)
  unfold setArr
  rw [show (A ++ b :: B ++ D).toArray.setIfInBounds A.length v = ((A ++ [v]) ++ B ++ D).toArray by simp, show A.length + 1 = (A ++ [v]).length by simp, ih]
  simp
theorem Chg.setCells {F : Nat → Prop} {a : World} (g : Nat) : ∀ (vs : List Value) (o : Nat) (b : World), Chg F a b → F g → Chg F a (b.setCells g o vs)
 | [], _, _, h, _ => h
 | v :: r, o, _, h, hg => Chg.setCells g r (o + 1) _ (h.setCell ⟨g, o, none⟩ v (.inl hg)) hg
/-- an entry and its rank -/
def rkC (kv : Value) (n : Nat) (rk : List Int) : Array Value := ([kv, Value.int .i64 n] ++ rk.map (Value.int .u8)).toArray
theorem rkC_size {kv : Value} {n : Nat} {rk : List Int} (h : rk.length = 32) : (rkC kv n rk).size = 34 := by simp [rkC, h]
theorem splice_eq (A B B' C : List Value) (o m : Nat) (ho : A.length = o) (hm : B.length = m) : (A ++ (B ++ C)).take o ++ B' ++ (A ++ (B ++ C)).drop (o + m) = A ++ (B' ++ C) := by
 subst ho hm
 rw [List.take_left, ← List.append_assoc A B C, ← List.length_append, List.drop_left, List.append_assoc]
theorem fill_at {place : Nat → Option (Nat × Nat)} (A B C B' : List Value) {i : Nat} {v : Value} {rest : List (Nat × Value)} (hv : v.cells = B'.toArray) (hp : place i = some (A.length, B'.length)) (hl : B.length = B'.length) :
  Instr.fill place (A ++ (B ++ C)).toArray ((i, v) :: rest) = Instr.fill place (A ++ (B' ++ C)).toArray rest := by
 rw [fill_cons A.length B' hv hp (by simp [hl])]
 congr 2
 rw [← hl]
 exact splice_eq A B B' C _ _ rfl rfl
theorem fill_nd (kv kv0 : Value) (n n0 : Nat) (rk rk0 dg : List Int) (pl pr pl0 pr0 : Option Addr) (b : Bool) (h : rk.length = 32) (h0 : rk0.length = 32) :
  Instr.fill (fun x => (#[(0, 34), (34, 1), (35, 1), (36, 32), (68, 1)] : Array (Nat × Nat))[x]?) (ndC kv0 n0 rk0 (.pointer pl0) (.pointer pr0) dg b) [(0, .agg (rkC kv n rk)), (1, .pointer pl), (2, .pointer pr)] = some (ndC kv n rk (.pointer pl) (.pointer pr) dg b) := by
 have hr : ([kv, Value.int .i64 n] ++ rk.map (Value.int .u8)).length = 34 := by simp [h]
 have hr0 : ([kv0, Value.int .i64 n0] ++ rk0.map (Value.int .u8)).length = 34 := by simp [h0]
 have e1 := fill_at (place := fun x => (#[(0, 34), (34, 1), (35, 1), (36, 32), (68, 1)] : Array (Nat × Nat))[x]?) [] ([kv0, Value.int .i64 n0] ++ rk0.map (Value.int .u8)) ([.pointer pl0, .pointer pr0] ++ (dg.map (Value.int .u8) ++ [Value.bool b])) ([kv, Value.int .i64 n] ++ rk.map (Value.int .u8)) (i := 0) (v := .agg (rkC kv n rk)) (rest := [(1, .pointer pl), (2, .pointer pr)]) rfl (by rw [hr]; rfl) (by rw [hr, hr0])
 have e2 := fill_at (place := fun x => (#[(0, 34), (34, 1), (35, 1), (36, 32), (68, 1)] : Array (Nat × Nat))[x]?) ([kv, Value.int .i64 n] ++ rk.map (Value.int .u8)) [.pointer pl0] ([.pointer pr0] ++ (dg.map (Value.int .u8) ++ [Value.bool b])) [.pointer pl] (i := 1) (v := .pointer pl) (rest := [(2, .pointer pr)]) rfl (by rw [hr]; rfl) rfl
 have e3 := fill_at (place := fun x => (#[(0, 34), (34, 1), (35, 1), (36, 32), (68, 1)] : Array (Nat × Nat))[x]?) ([kv, Value.int .i64 n] ++ rk.map (Value.int .u8) ++ [.pointer pl]) [.pointer pr0] (dg.map (Value.int .u8) ++ [Value.bool b]) [.pointer pr] (i := 2) (v := .pointer pr) (rest := []) rfl (by rw [List.length_append, hr]; rfl) rfl
 have q0 : ndC kv0 n0 rk0 (.pointer pl0) (.pointer pr0) dg b = ([] ++ (([kv0, Value.int .i64 n0] ++ rk0.map (Value.int .u8)) ++ ([Value.pointer pl0, Value.pointer pr0] ++ (dg.map (Value.int .u8) ++ [Value.bool b])))).toArray := by unfold ndC; simp
 rw [q0, e1]
 rw [show ([] ++ (([kv, Value.int .i64 n] ++ rk.map (Value.int .u8)) ++ ([Value.pointer pl0, Value.pointer pr0] ++ (dg.map (Value.int .u8) ++ [Value.bool b]))) : List Value) = ([kv, Value.int .i64 n] ++ rk.map (Value.int .u8)) ++ ([Value.pointer pl0] ++ ([Value.pointer pr0] ++ (dg.map (Value.int .u8) ++ [Value.bool b]))) by simp, e2]
 rw [show (([kv, Value.int .i64 n] ++ rk.map (Value.int .u8)) ++ ([Value.pointer pl] ++ ([Value.pointer pr0] ++ (dg.map (Value.int .u8) ++ [Value.bool b]))) : List Value) = ([kv, Value.int .i64 n] ++ rk.map (Value.int .u8) ++ [Value.pointer pl]) ++ ([Value.pointer pr0] ++ (dg.map (Value.int .u8) ++ [Value.bool b])) by simp, e3, Instr.fill]
 congr 2
 simp
set_option maxRecDepth 100000 in
theorem run_build_nd (u : World) (kv : Value) (n : Nat) (rk : List Int) (pl pr : Option Addr) (h : rk.length = 32) :
  (Instr.build 115 #[(0, .agg (rkC kv n rk)), (1, .pointer pl), (2, .pointer pr)]).run Tryd.prog u = .ok (.agg (ndC kv n rk (.pointer pl) (.pointer pr) (zeros 32) false)) u := by
 have hz : (zeroValue 115).run Tryd.prog u = .ok (.agg (ndC (.slice none 0 0) 0 (zeros 32) (.pointer none) (.pointer none) (zeros 32) false)) u := by kernel_rfl
 have hpl : ∀ fs, Tryd.prog.underlying 115 = some (.struct fs) → (fs.mapM fun f => do pure (f.offset, ← sizeOf f.type) : Sem (Array (Nat × Nat))).run Tryd.prog u = .ok #[(0, 34), (34, 1), (35, 1), (36, 32), (68, 1)] u := by
  intro fs h
  rw [Tryd.underlying115] at h
  injection h with h
  injection h with h
  subst h
  kernel_rfl
 have hp2 := hpl _ Tryd.underlying115
 have hf := fill_nd kv (.slice none 0 0) n 0 rk (zeros 32) (zeros 32) pl pr none none false h (zeros_len _)
 generalize (ndC (.slice none 0 0) 0 (zeros 32) (.pointer none) (.pointer none) (zeros 32) false) = Z at *
 unfold Instr.build
 simp only [Sem.run_bind, hz, run_underlying Tryd.underlying115, Result.andThen_ok, agg_cells, hp2, hf]
 rfl
theorem ndC_setdg (kv lp rp : Value) (n : Nat) (rk d0 dg : List Int) (b : Bool) (h : rk.length = 32) (h0 : d0.length = 32) (h1 : dg.length = 32) : setArr (ndC kv n rk lp rp d0 b) 36 (dg.map (Value.int .u8)) = ndC kv n rk lp rp dg b := by
 have e := setArr_mid [Value.bool b] (dg.map (Value.int .u8)) (d0.map (Value.int .u8)) ([kv, Value.int .i64 n] ++ (rk.map (Value.int .u8) ++ [lp, rp])) (by simp [h0, h1])
 rw [show ([kv, Value.int .i64 n] ++ (rk.map (Value.int .u8) ++ [lp, rp])).length = 36 by simp [h]] at e
 simpa [ndC] using e
theorem MIs.form {w : World} {S : Nat → Prop} {p : Value} {t : MT} (h : MIs w S p t) : ∃ a, p = .pointer a := by
 cases t with
 | nil => exact ⟨none, h⟩
 | cut d => obtain ⟨b, h, _⟩ := h; exact ⟨_, h⟩
 | nd k n rk d l r => obtain ⟨b, _, _, _, h, _⟩ := h; exact ⟨_, h⟩
set_option maxRecDepth 100000 in
theorem exec_build_nd {ρ : Operand → Value} {o : Oper} {w : World} (x0 x1 x2 : Operand) (ho : o.op = .build 115 #[(0, x0), (1, x1), (2, x2)]) (kv : Value) (n : Nat) (rk : List Int) (pl pr : Option Addr) (h : rk.length = 32) (h0 : ρ x0 = .agg (rkC kv n rk)) (h1 : ρ x1 = .pointer pl) (h2 : ρ x2 = .pointer pr) :
  (execOp ρ o).run Tryd.prog w = .ok (.value (.agg (ndC kv n rk (.pointer pl) (.pointer pr) (zeros 32) false))) w := by
 have hb := run_build_nd w kv n rk pl pr h
 unfold execOp
 simp only [ho, List.map_toArray, List.map_cons, List.map_nil, h0, h1, h2, Sem.run_bind, hb, Result.andThen_ok, Sem.run_pure]
/-- the node of an entry and two trees -/
def mkN (k : List Int) (n : Nat) (rk : List Int) (l r : MT) : MT := .nd k n rk (sha (txtN k n l.dg r.dg)) l r
theorem txtN_len (k : List Int) (n : Nat) (dl dr : List Int) : (txtN k n dl dr).length = 8 + (12 + (8 + dl.length + (8 + k.length + (16 + (8 + dr.length))))) := by
 unfold txtN
 rw [joined_len]
 simp only [jlen, List.length_cons, List.length_nil, be8_len]
 omega
set_option maxRecDepth 100000 in
set_option maxHeartbeats 4000000 in
theorem newNode_any {S : Nat → Prop} (w : World) (kv lp rp : Value) (k : List Int) (n : Nat) (rk : List Int) (l r : MT) (hS : ∀ b, w.heap.size ≤ b → S b) (h1 : rk.length = 32)
  (hk : KIs w S kv k) (hl : MIs w S lp l) (hr : MIs w S rp r) (gl : l.Good) (gr : r.Good) (hK : KC w) (hkl : k.length ≤ 65535) (hn : n < 9223372036854775808) :
  Calls Tryd.prog 59 #[.agg (rkC kv n rk), lp, rp] w fun e w' => ∃ p, e = .returned p ∧ MIs w' S p (mkN k n rk l r) ∧ Below w.heap.size w w' := by
 obtain ⟨pl, rfl⟩ := hl.form
 obtain ⟨pr, rfl⟩ := hr.form
 have HRS := hid (rkC_size (kv := kv) (n := n) h1)
 have HIR := hid (show (Tryd.prog.info? 66).map (·.size) = some (rkC kv n rk).size by rw [HRS.out]; kernel_rfl)
 have HH := hid (And.intro hk (And.intro hl (And.intro hr (And.intro gl (And.intro gr (And.intro hK (And.intro hkl hn)))))))
 have H1 := hid h1
 have HSS := hid hS
 clear h1 hk hl hr gl gr hK hkl hn hS
 go_enter Tryd.func59, Tryd.ntmps59
 go_wp2_with (first
  | (refine wpList_load_row rfl 66 (Operand.tmp 3) rfl w.heap.size rfl 66 (rkC kv n rk) (0, 0) _ (heap_alloc_new _ _) Tryd.underlying66 rfl HIR.out ?_)
  | (refine wpList_of_run (o := ⟨some 11, _, _, _, _, _⟩) rfl (exec_build_nd (Operand.tmp 8) (Operand.tmp 9) (Operand.tmp 10) rfl kv n rk pl pr H1.out rfl rfl rfl) ?_))
 obtain ⟨hk, hl, hr, gl, gr, hK, hkl, hn⟩ := HH.out
 have hx : ((w.alloc (.cells (rkC kv n rk) 66)).alloc (.cells (ndC kv n rk (.pointer pl) (.pointer pr) (zeros 32) false) 115)).heap[w.heap.size + 1]? = some (.cells (ndC kv n rk (.pointer pl) (.pointer pr) (zeros 32) false) 115 (0, 0)) := by
  have e := heap_alloc_new (w.alloc (.cells (rkC kv n rk) 66)) (.cells (ndC kv n rk (.pointer pl) (.pointer pr) (zeros 32) false) 115)
  rwa [World.size_alloc] at e
 have hb2 : Below w.heap.size w ((w.alloc (.cells (rkC kv n rk) 66)).alloc (.cells (ndC kv n rk (.pointer pl) (.pointer pr) (zeros 32) false) 115)) := ((Below.refl _ _).alloc (Nat.le_refl _) _).alloc (by simp) _
 generalize (w.alloc (.cells (rkC kv n rk) 66)).alloc (.cells (ndC kv n rk (.pointer pl) (.pointer pr) (zeros 32) false) 115) = w2 at *
 generalize hB : w.heap.size + 1 = b at *
 have HT := hid (ntext_blk w2 b kv (.pointer pl) (.pointer pr) k n rk (zeros 32) l r false hx H1.out (hk.below hb2) (hl.below hb2) (hr.below hb2) gl gr (hK.below hb2 hK.1) hkl hn)
 have HX := hid hx
 have HB2 := hid hb2
 have HBE := hid hB
 clear hk hl hr gl gr hK hkl hn hx hb2 hB
 refine HT.out.mono ?_
 rintro e w3 ⟨v3, rfl, hk3, hb3⟩
 obtain ⟨a3, c3, rfl⟩ := hk3.form
 obtain ⟨hk, hl, hr, gl, gr, hK, hkl, hn⟩ := HH.out
 have HB3 := hid (HB2.out.trans (hb3.mono HB2.out.size))
 have HX3 := hid ((hb3.block b (blk_lt HX.out)).trans HX.out)
 have HSM := hid (sum_any _ _ w3 hk3.1 (hK.below HB3.out hK.1) (by rw [txtN_len, gl.dlen, gr.dlen]; omega))
 clear hk hl hr gl gr hK hkl hn hk3 hb3 HT
 go_wp2_with fail
 refine HSM.out.mono ?_
 rintro e w4 ⟨rfl, hb4⟩
 have hx4 := (hb4.block b (blk_lt HX3.out)).trans HX3.out
 have hD : (sha (txtN k n l.dg r.dg)).length = 32 := sha_len _
 have HB4 := hid (HB3.out.trans (hb4.mono HB3.out.size))
 have HX4 := hid hx4
 have HS32 := hid (sz32 _ hD)
 have HI := hid (show (Tryd.prog.info? 36).map (·.size) = some (ArrU8 (sha (txtN k n l.dg r.dg))).size by rw [HS32.out]; exact info_dg)
 have HTH := hid (show w4.there b 36 (ArrU8 (sha (txtN k n l.dg r.dg))).size from fun j hj => by
  rw [HS32.out] at hj
  rw [cell_of_row _ _ _ _ _ _ hx4, ndC_dg H1.out (zeros_len _) j hj]
  refine ⟨?_, frozen_of_row _ _ _ _ _ hx4⟩
  rw [List.getElem?_eq_getElem (by simp [zeros]; omega)]
  rfl)
 clear hb4 hx4 hD HSM
 go_wp2_with (refine wpList_store_mid rfl 36 (Operand.tmp 18) (Operand.tmp 16) rfl b 36 (ArrU8 (sha (txtN k n l.dg r.dg))) rfl rfl HTH.out HI.out (ArrU8_one _) ?_)
 go_ret
 obtain ⟨hk, hl, hr, gl, gr, hK, hkl, hn⟩ := HH.out
 have hB := HBE.out
 have hx5 := heap_setCells b _ (ArrU8 (sha (txtN k n l.dg r.dg))).toList 36 _ _ HX4.out
 have hc5 : Chg (fun q => q = b) w4 (w4.setCells b 36 (ArrU8 (sha (txtN k n l.dg r.dg))).toList) := Chg.setCells b _ 36 _ (Chg.refl _ _) rfl
 have hb5 : Below w.heap.size w (w4.setCells b 36 (ArrU8 (sha (txtN k n l.dg r.dg))).toList) := HB4.out.trans (hc5.below (B := w.heap.size) (fun q e => by omega) HB4.out.size)
 rw [show (ArrU8 (sha (txtN k n l.dg r.dg))).toList = (sha (txtN k n l.dg r.dg)).map (Value.int .u8) from rfl, ndC_setdg _ _ _ _ _ _ _ _ H1.out (zeros_len _) (sha_len _)] at hx5
 exact ⟨_, rfl, ⟨b, kv, .pointer pl, .pointer pr, rfl, HSS.out b (by omega), H1.out, sha_len _, hx5, hk.below hb5, hl.below hb5, hr.below hb5⟩, hb5⟩
theorem mkN_good {k : List Int} {n : Nat} {rk : List Int} {l r : MT} (gl : l.Good) (gr : r.Good) (hk : k.length ≤ 65535) (hr : Rng k) (hn : n < 9223372036854775808) (h1 : rk.length = 32) (h2 : Rng rk) : (mkN k n rk l r).Good := ⟨rfl, gl, gr, hk, hr, hn, h1, h2⟩
end Go.Proofs.YtbmlkocpjboodaaDoor
/- stage 7: which of two entries is the root; copies; ranks -/
namespace Go.Proofs.YtbmlkocpjboodaaDoor
open Go.RowKit
open Go.Lib (hid)
theorem slice32_at (u : World) (X o : Nat) : (Instr.sliceAt 36 (.pointer (some ⟨X, o, none⟩)) none none none).run Tryd.prog u = .ok (.slice (some ⟨X, o, none⟩) 32 32) u := by
 rw [run_sliceAt_array_all u 36 ⟨X, o, none⟩ und36, size36]
 simp [Result.andThen, slicedAt, len36, Addr.add_mid]
/-- of two entries: is the first the root? -/
def abv (kx rx ky ry : List Int) : Bool := if cmpI rx ry = 0 then decide (cmpI kx ky < 0) else decide (0 < cmpI rx ry)
theorem rk_bs {u : World} {g : Nat} {kv : Value} {n : Nat} {rk : List Int} {T : TypeId} (h : u.heap[g]? = some (.cells (rkC kv n rk) T (0, 0))) (h1 : rk.length = 32) : Bs u (.slice (some ⟨g, 2, none⟩) 32 32) rk := by
 refine ⟨some ⟨g, 2, none⟩, 32, by rw [h1], ⟨by omega, fun e => by cases e⟩, fun _ => ⟨g, 2, rfl, blk_lt h, fun i hi => ?_⟩⟩
 rw [cell_of_row _ g _ _ _ _ h]
 unfold rkC
 rw [List.getElem?_toArray, List.getElem?_append_right (by simp)]
 simp [hi]
theorem rk_0 {u : World} {g : Nat} {kv : Value} {n : Nat} {rk : List Int} {T : TypeId} (h : u.heap[g]? = some (.cells (rkC kv n rk) T (0, 0))) : u.cell? ⟨g, 0, none⟩ = some kv ∧ u.cell? ⟨g, 1, none⟩ = some (.int .i64 n) := ⟨cell_of_row _ g _ _ _ _ h, cell_of_row _ g _ _ _ _ h⟩
set_option maxRecDepth 100000 in
set_option maxHeartbeats 4000000 in
theorem above_any (w : World) (kvx kvy : Value) (nx ny : Nat) (kx rx ky ry : List Int) (hx : Bs w kvx kx) (hy : Bs w kvy ky) (gx : Rng kx) (gy : Rng ky) (lx : rx.length = 32) (ly : ry.length = 32) (qx : Rng rx) (qy : Rng ry) :
  Calls Tryd.prog 60 #[.agg (rkC kvx nx rx), .agg (rkC kvy ny ry)] w fun e w' => e = .returned (.bool (abv kx rx ky ry)) ∧ Below w.heap.size w w' := by
 have HXY := hid (And.intro hx (And.intro hy (And.intro gx (And.intro gy (And.intro lx (And.intro ly (And.intro qx qy)))))))
 obtain ⟨ax, cx, rfl, -, -⟩ := hx
 obtain ⟨ay, cy, rfl, -, -⟩ := hy
 have HA := hid (show abv kx rx ky ry = if cmpI rx ry = 0 then decide (cmpI kx ky < 0) else decide (0 < cmpI rx ry) from rfl)
 clear gx gy lx ly qx qy
 have SA := fun (u : World) (X o : Nat) => slice32_at u X o
 go_enter Tryd.func60, Tryd.ntmps60
 go_wp2_with fail
 have hx2 : ((w.alloc (.cells (rkC (.slice ax kx.length cx) nx rx) 66)).alloc (.cells (rkC (.slice ay ky.length cy) ny ry) 66)).heap[w.heap.size]? = some (.cells (rkC (.slice ax kx.length cx) nx rx) 66 (0, 0)) := (heap_alloc_old _ _ (by simp)).trans (heap_alloc_new _ _)
 have hy2 : ((w.alloc (.cells (rkC (.slice ax kx.length cx) nx rx) 66)).alloc (.cells (rkC (.slice ay ky.length cy) ny ry) 66)).heap[w.heap.size + 1]? = some (.cells (rkC (.slice ay ky.length cy) ny ry) 66 (0, 0)) := by
  have e := heap_alloc_new (w.alloc (.cells (rkC (.slice ax kx.length cx) nx rx) 66)) (.cells (rkC (.slice ay ky.length cy) ny ry) 66)
  rwa [World.size_alloc] at e
 have hb2 : Below w.heap.size w ((w.alloc (.cells (rkC (.slice ax kx.length cx) nx rx) 66)).alloc (.cells (rkC (.slice ay ky.length cy) ny ry) 66)) := ((Below.refl _ _).alloc (Nat.le_refl _) _).alloc (by simp) _
 generalize (w.alloc (.cells (rkC (.slice ax kx.length cx) nx rx) 66)).alloc (.cells (rkC (.slice ay ky.length cy) ny ry) 66) = w2 at *
 obtain ⟨q1, q2, q3, q4, q5, q6, q7, q8⟩ := HXY.out
 have c0 := (rk_0 hx2).1
 have d0 := (rk_0 hy2).1
 have HC := hid (show Calls Tryd.prog 56 #[.slice (some ⟨w.heap.size, 2, none⟩) 32 32, .slice (some ⟨w.heap.size + 1, 2, none⟩) 32 32] w2.drew fun e w' => e = .returned (.int .i64 (cmpI rx ry)) ∧ w' = w2.drew from compare_any _ _ rx ry w2.drew (rk_bs (T := 66) hx2 q5) (rk_bs (T := 66) hy2 q6) q7 q8)
 have hbd := (Below.refl w2.heap.size w2).drew
 have HD := hid (show Calls Tryd.prog 56 #[.slice ax kx.length cx, .slice ay ky.length cy] w2.drew fun e w' => e = .returned (.int .i64 (cmpI kx ky)) ∧ w' = w2.drew from compare_any _ _ kx ky w2.drew ((q1.below hb2).below hbd) ((q2.below hb2).below hbd) q3 q4)
 have HB2 := hid hb2.drew
 have HQ := hid (cmpI_rng rx ry)
 have HQ2 := hid (cmpI_rng kx ky)
 replace c0 : w2.drew.cell? ⟨w.heap.size, 0, none⟩ = _ := c0
 replace d0 : w2.drew.cell? ⟨w.heap.size + 1, 0, none⟩ = _ := d0
 clear q1 q2 q3 q4 q5 q6 q7 q8 hx2 hy2 hb2 HXY hbd
 refine wp_region_held_drew (S := fun u => u = w2.drew) (by kernel_rfl) (rfl) (fun hHeld => ?_)
 refine tk (i := 0) (oi := ⟨some 6, .fieldAddr 66 (.tmp 2) 1, 0, "node.go:35", #[], none⟩) (v := ?_) (Or.inl ⟨by rfl, ?_⟩) ?_
 rotate_left 1
 ·(intro u hSw; go_simp; try with_reducible rfl)
 try simp only [Act.put, sA, sB, sC]
 refine tk (i := 1) (oi := ⟨some 7, .slice 36 (.tmp 6) none none none, 31, "node.go:35", #[⟨0, .data⟩], none⟩) (v := ?_) (Or.inl ⟨by rfl, ?_⟩) ?_
 rotate_left 1
 ·intro u hSw
  (go_simp; rfl)
 try simp only [Act.put, sA, sB, sC]
 refine tk (i := 2) (oi := ⟨some 8, .fieldAddr 66 (.tmp 3) 1, 0, "node.go:35", #[], none⟩) (v := ?_) (Or.inl ⟨by rfl, ?_⟩) ?_
 rotate_left 1
 ·(intro u hSw; go_simp; try with_reducible rfl)
 try simp only [Act.put, sA, sB, sC]
 refine tk (i := 3) (oi := ⟨some 9, .slice 36 (.tmp 8) none none none, 31, "node.go:35", #[⟨2, .data⟩], none⟩) (v := ?_) (Or.inl ⟨by rfl, ?_⟩) ?_
 rotate_left 1
 ·intro u hSw
  (go_simp; rfl)
 try simp only [Act.put, sA, sB, sC]
 refine wpAnyH_ready (rs := [4]) (by kernel_rfl) (by simp) ?_
 refine AllReadyH.cons (o := ⟨some 10, .call ⟨.value (.func 56), #[.tmp 7, .tmp 9], #[31, 31]⟩, 3, "node.go:35", #[⟨1, .data⟩, ⟨3, .data⟩], none⟩) rfl (fun K hK => ?_) AllReadyH.nil
 go_simp
 refine HC.out.mono ?_
 rintro e w' ⟨rfl, rfl⟩
 go_wp2_with fail
 refine hK.out _ _ rfl (fun hHeld => ?_)
 clear hK K
 try simp only [Act.put, sA, sB, sC]
 refine tk (i := 5) (oi := ⟨some 5, .assign (.tmp 10), 3, "node.go:35", #[⟨4, .data⟩, ⟨4, .chain⟩, ⟨0, .phase⟩, ⟨1, .phase⟩, ⟨2, .phase⟩, ⟨3, .phase⟩, ⟨4, .phase⟩], none⟩) (v := ?_) (Or.inl ⟨by rfl, ?_⟩) ?_
 rotate_left 1
 ·(intro u hSw; go_simp; try with_reducible rfl)
 try simp only [Act.put, sA, sB, sC]
 refine wpAnyH_done (by kernel_rfl) ?_ _
 generalize World.drew w2 = w3 at *
 generalize cmpI rx ry = cr at *
 generalize cmpI kx ky = ck at *
 by_cases h0 : cr = 0
 ·subst h0
  rw [if_pos rfl] at HA
  go_wp2_with fail
  refine HD.out.mono ?_
  rintro e w' ⟨rfl, rfl⟩
  go_wp2_with fail
  go_ret
  exact ⟨by rw [HA.out]; rfl, HB2.out⟩
 ·have h1 : (cr != 0) = true := bne_iff_ne.2 h0
  rw [if_neg h0] at HA
  go_wp2_with fail
  go_ret
  exact ⟨by rw [HA.out]; rfl, HB2.out⟩
/-- an entry -/
def enC (kv : Value) (n : Nat) : Array Value := #[kv, .int .i64 n]
set_option maxRecDepth 100000 in
set_option maxHeartbeats 4000000 in
theorem copied_any (w : World) (kv : Value) (n : Nat) (k : List Int) (hk : Bs w kv k) (hl : k.length ≤ 65535) :
  Calls Tryd.prog 57 #[.agg (enC kv n)] w fun e w' => ∃ kv', e = .returned (.agg (enC kv' n)) ∧ KIs w' (fun b => w.heap.size ≤ b) kv' k ∧ Below w.heap.size w w' := by
 have HK := hid (And.intro hk hl)
 obtain ⟨ak, ck, rfl, -, -⟩ := hk
 have hI : (Tryd.prog.info? 33).map (·.size) = some 2 := by kernel_rfl
 clear hl
 unfold enC
 go_enter Tryd.func57, Tryd.ntmps57
 go_wp2_with fail
 have hx2 : ((w.alloc (.cells #[.slice ak k.length ck, .int .i64 n] 33)).alloc (.cells #[.slice none 0 0, .int .i64 0] 33)).heap[w.heap.size]? = some (.cells #[.slice ak k.length ck, .int .i64 n] 33 (0, 0)) := (heap_alloc_old _ _ (by simp)).trans (heap_alloc_new _ _)
 have hy2 : ((w.alloc (.cells #[.slice ak k.length ck, .int .i64 n] 33)).alloc (.cells #[.slice none 0 0, .int .i64 0] 33)).heap[w.heap.size + 1]? = some (.cells #[.slice none 0 0, .int .i64 0] 33 (0, 0)) := by
  have e := heap_alloc_new (w.alloc (.cells #[.slice ak k.length ck, .int .i64 n] 33)) (.cells #[.slice none 0 0, .int .i64 0] 33)
  rwa [World.size_alloc] at e
 have hb2 : Below w.heap.size w ((w.alloc (.cells #[.slice ak k.length ck, .int .i64 n] 33)).alloc (.cells #[.slice none 0 0, .int .i64 0] 33)) := ((Below.refl _ _).alloc (Nat.le_refl _) _).alloc (by simp) _
 generalize ((w.alloc (.cells #[.slice ak k.length ck, .int .i64 n] 33)).alloc (.cells #[.slice none 0 0, .int .i64 0] 33)) = w2 at *
 have c0 := cell_of_row w2 w.heap.size 0 _ _ _ hx2
 have c1 := cell_of_row w2 w.heap.size 1 _ _ _ hx2
 have hlx := blk_lt hx2
 have HC := hid (clone_any _ k w2.drew ((HK.out.1.below hb2).below (Below.refl _ _).drew) (by have := HK.out.2; omega))
 have HY := hid (show w2.drew.heap[w.heap.size + 1]? = _ from hy2)
 have HB2 := hid hb2.drew
 have HCC := hid (show w2.drew.cell? ⟨w.heap.size, 0, none⟩ = some (.slice ak k.length ck) ∧ w2.drew.cell? ⟨w.heap.size, 1, none⟩ = some (.int .i64 n) from ⟨c0, c1⟩)
 have hbd : Below w2.drew.heap.size w2.drew w2.drew := Below.refl _ _
 replace hlx : w.heap.size < w2.drew.heap.size := hlx
 clear hx2 hy2 hb2 c0 c1
 refine wp_region_held_drew (S := fun u => u.cell? ⟨w.heap.size, 0, none⟩ = some (.slice ak k.length ck) ∧ u.cell? ⟨w.heap.size, 1, none⟩ = some (.int .i64 n)) (by kernel_rfl) (HCC.out) (fun hHeld => ?_)
 refine tk (i := 0) (oi := ⟨some 3, .fieldAddr 33 (.tmp 1) 0, 0, "node.go:30", #[], none⟩) (v := ?_) (Or.inl ⟨by rfl, ?_⟩) ?_
 rotate_left 1
 ·(intro u hSw; go_simp; try with_reducible rfl)
 try simp only [Act.put, sA, sB, sC]
 refine tk (i := 1) (oi := ⟨some 4, .load 31 (.tmp 3), 31, "node.go:30", #[⟨0, .data⟩], none⟩) (v := ?_) (Or.inl ⟨by rfl, ?_⟩) ?_
 rotate_left 1
 ·(intro u hSw; have c0 := hSw.1; have c1 := hSw.2; go_simp; try with_reducible rfl)
 try simp only [Act.put, sA, sB, sC]
 refine tk (i := 3) (oi := ⟨some 6, .fieldAddr 33 (.tmp 1) 1, 0, "node.go:30", #[], none⟩) (v := ?_) (Or.inl ⟨by rfl, ?_⟩) ?_
 rotate_left 1
 ·(intro u hSw; go_simp; try with_reducible rfl)
 try simp only [Act.put, sA, sB, sC]
 refine tk (i := 4) (oi := ⟨some 7, .load 2 (.tmp 6), 2, "node.go:30", #[⟨3, .data⟩], none⟩) (v := ?_) (Or.inl ⟨by rfl, ?_⟩) ?_
 rotate_left 1
 ·(intro u hSw; have c0 := hSw.1; have c1 := hSw.2; go_simp; try with_reducible rfl)
 try simp only [Act.put, sA, sB, sC]
 refine wpAnyH_ready (rs := [2]) (by kernel_rfl) (by simp) ?_
 refine AllReadyH.cons (o := ⟨some 5, .call ⟨.value (.func 92), #[.tmp 4], #[31]⟩, 31, "node.go:30", #[⟨1, .data⟩], none⟩) rfl (fun K hK => ?_) AllReadyH.nil
 go_simp
 refine HC.out.mono ?_
 rintro e w3 ⟨v3, rfl, hk3, hb3⟩
 obtain ⟨a3, c3, rfl⟩ := hk3.form
 have HK3 := hid hk3
 have HY3 := hid ((hb3.block _ (blk_lt HY.out)).trans HY.out)
 have HB3 := hid (HB2.out.trans (hb3.mono HB2.out.size))
 go_wp2_with fail
 refine hK.out _ _ ⟨(hb3.cell (p := ⟨w.heap.size, 0, none⟩) hlx).trans HCC.out.1, (hb3.cell (p := ⟨w.heap.size, 1, none⟩) hlx).trans HCC.out.2⟩ (fun hHeld => ?_)
 clear hK K
 try simp only [Act.put, sA, sB, sC]
 refine tk (i := 5) (oi := ⟨some 8, .build 33 #[(0, .tmp 5), (1, .tmp 7)], 33, "node.go:30", #[⟨2, .data⟩, ⟨4, .data⟩], none⟩) (v := ?_) (Or.inl ⟨by rfl, ?_⟩) ?_
 rotate_left 1
 ·(intro u hSw; go_simp; try with_reducible rfl)
 try simp only [Act.put, sA, sB, sC]
 refine wpAnyH_ready (rs := [6]) (by kernel_rfl) (by simp) ?_
 refine AllReadyH.cons (o := ⟨none, .store 33 (.tmp 2) (.tmp 8), 0, "node.go:30", #[⟨5, .data⟩, ⟨2, .chain⟩, ⟨0, .phase⟩, ⟨1, .phase⟩, ⟨2, .phase⟩, ⟨3, .phase⟩, ⟨4, .phase⟩, ⟨5, .phase⟩], none⟩) rfl (fun K hK => ?_) AllReadyH.nil
 rw [if_pos (by rfl)]
 refine wp_store_row 33 (Operand.tmp 2) (Operand.tmp 8) rfl (w.heap.size + 1) #[.slice a3 k.length c3, .int .i64 n] rfl rfl 33 _ HY3.out hI rfl (all_oneCell_toArray (cs := [.slice a3 k.length c3, .int .i64 n]) (fun v hv => by simp at hv; rcases hv with rfl | rfl <;> rfl)) ?_
 have HY4 := hid (setRow_heap w3 (w.heap.size + 1) _ #[.slice a3 k.length c3, .int .i64 n] 33 (0, 0) HY3.out)
 have HB4 := hid (below_setRow HB3.out (Nat.le_succ _) (g := w.heap.size + 1) #[.slice a3 k.length c3, .int .i64 n])
 have HC4 := hid (show Chg (fun q => q = w.heap.size + 1) w3 (w3.setRow (w.heap.size + 1) #[.slice a3 k.length c3, .int .i64 n]) from Chg.grown (grownBy_setRow _ _ _) (fun k hk => by injection hk with hk; exact hk.symm))
 generalize World.setRow _ _ _ = w4 at *
 refine hK.out _ _ ?_ (fun hHeld => ?_)
 ·have e := HC4.out.block w.heap.size (by have := hb3.size; omega) (by omega); exact ⟨(World.cell?_of_block e).trans ((hb3.cell (p := ⟨w.heap.size, 0, none⟩) hlx).trans HCC.out.1), (World.cell?_of_block e).trans ((hb3.cell (p := ⟨w.heap.size, 1, none⟩) hlx).trans HCC.out.2)⟩
 clear hK K
 try simp only [Act.put]
 refine wpAnyH_done (by kernel_rfl) ?_ _
 go_wp2_with fail
 refine bodyPost_ret (results_cell_row rfl _ _ (w.heap.size + 1) 33 #[.slice a3 k.length c3, .int .i64 n] (0,0) _ rfl HY4.out Tryd.underlying33 rfl hI) rfl ?_
 exact ⟨_, rfl, (HK3.out.bound.cg HC4.out (fun q _ hs e => by have hs2 : _ ∧ _ := hs; have := blk_lt HY.out; omega)).mono (fun q hq => by have := HB2.out.size; have h2 : _ ∧ _ := hq; omega), HB4.out⟩
theorem fill_rk (kv kv0 : Value) (n n0 : Nat) (rk rk0 : List Int) (h : rk.length = 32) (h0 : rk0.length = 32) :
  Instr.fill (fun x => (#[(0, 2), (2, 32)] : Array (Nat × Nat))[x]?) (rkC kv0 n0 rk0) [(0, .agg #[kv, Value.int .i64 n]), (1, .agg (ArrU8 rk))] = some (rkC kv n rk) := by
 have e1 := fill_at (place := fun x => (#[(0, 2), (2, 32)] : Array (Nat × Nat))[x]?) [] [kv0, Value.int .i64 n0] (rk0.map (Value.int .u8)) [kv, Value.int .i64 n] (i := 0) (v := .agg #[kv, Value.int .i64 n]) (rest := [(1, .agg (ArrU8 rk))]) rfl rfl rfl
 have e2 := fill_at (place := fun x => (#[(0, 2), (2, 32)] : Array (Nat × Nat))[x]?) [kv, Value.int .i64 n] (rk0.map (Value.int .u8)) [] (rk.map (Value.int .u8)) (i := 1) (v := .agg (ArrU8 rk)) (rest := []) rfl (by rw [List.length_map, h]; rfl) (by simp [h, h0])
 have q0 : rkC kv0 n0 rk0 = ([] ++ ([kv0, Value.int .i64 n0] ++ rk0.map (Value.int .u8))).toArray := by unfold rkC; simp
 rw [q0, e1]
 rw [show ([] ++ ([kv, Value.int .i64 n] ++ rk0.map (Value.int .u8)) : List Value) = [kv, Value.int .i64 n] ++ (rk0.map (Value.int .u8) ++ []) by simp, e2, Instr.fill]
 congr 2
 simp
set_option maxRecDepth 100000 in
theorem run_build_rk (u : World) (kv : Value) (n : Nat) (rk : List Int) (h : rk.length = 32) :
  (Instr.build 66 #[(0, .agg #[kv, Value.int .i64 n]), (1, .agg (ArrU8 rk))]).run Tryd.prog u = .ok (.agg (rkC kv n rk)) u := by
 have hz : (zeroValue 66).run Tryd.prog u = .ok (.agg (rkC (.slice none 0 0) 0 (zeros 32))) u := by kernel_rfl
 have hpl : ∀ fs, Tryd.prog.underlying 66 = some (.struct fs) → (fs.mapM fun f => do pure (f.offset, ← sizeOf f.type) : Sem (Array (Nat × Nat))).run Tryd.prog u = .ok #[(0, 2), (2, 32)] u := by
  intro fs h
  rw [Tryd.underlying66] at h
  injection h with h
  injection h with h
  subst h
  kernel_rfl
 have hp2 := hpl _ Tryd.underlying66
 have hf := fill_rk kv (.slice none 0 0) n 0 rk (zeros 32) h (zeros_len _)
 generalize (rkC (.slice none 0 0) 0 (zeros 32)) = Z at *
 unfold Instr.build
 simp only [Sem.run_bind, hz, run_underlying Tryd.underlying66, Result.andThen_ok, agg_cells, hp2, hf]
 rfl
set_option maxRecDepth 100000 in
theorem exec_build_rk {ρ : Operand → Value} {o : Oper} {w : World} (x0 x1 : Operand) (ho : o.op = .build 66 #[(0, x0), (1, x1)]) (kv : Value) (n : Nat) (rk : List Int) (h : rk.length = 32) (h0 : ρ x0 = .agg #[kv, .int .i64 n]) (h1 : ρ x1 = .agg (ArrU8 rk)) :
  (execOp ρ o).run Tryd.prog w = .ok (.value (.agg (rkC kv n rk))) w := by
 have hb := run_build_rk w kv n rk h
 unfold execOp
 simp only [ho, List.map_toArray, List.map_cons, List.map_nil, h0, h1, Sem.run_bind, hb, Result.andThen_ok, Sem.run_pure]
theorem pss1 {u : World} {g : Nat} {T : TypeId} {fr : Nat × Nat} {x0 : Value} {p0 : List Int} (hg : u.heap[g]? = some (.cells #[x0] T fr)) (h0 : Bs u x0 p0) : Pss u (.slice (some ⟨g, 0, none⟩) 1 1) [p0] := by
 refine ⟨some ⟨g, 0, none⟩, 1, rfl, ⟨Nat.le_refl _, fun e => by cases e⟩, fun _ => ⟨g, 0, rfl, blk_lt hg, fun i hi => ?_⟩⟩
 rw [Nat.zero_add, cell_of_row _ g _ _ _ _ hg]
 match i, hi with
 | 0, _ => exact ⟨_, rfl, h0⟩
 | i + 1, hi => simp at hi
theorem rkC_one (kv : Value) (n : Nat) (rk : List Int) (h : kv.oneCell' = true := by rfl) : (rkC kv n rk).all (·.oneCell') = true := all_oneCell_toArray (fun v hv => by
 simp only [List.mem_append, List.mem_cons, List.mem_map, List.not_mem_nil, or_false] at hv
 rcases hv with (rfl | rfl) | ⟨x, _, rfl⟩
 ·exact h
 ·rfl
 ·rfl)
theorem st_chg {u : World} {g : Nat} {x : Obj} (d : Array Value) (_ : u.heap[g]? = some x) : Chg (fun q => q = g) u (u.setRow g d) := Chg.grown (grownBy_setRow _ g d) (fun k hk => by injection hk with hk; exact hk.symm)
/-- the rank of a key -/
def rnk (k : List Int) : List Int := sha (joined [k])
set_option maxRecDepth 100000 in
set_option maxHeartbeats 4000000 in
theorem withRank_any (w : World) (kv : Value) (n : Nat) (k : List Int) (hk : Bs w kv k) (hl : k.length ≤ 65535) (hK : KC w) :
  Calls Tryd.prog 31 #[.agg (enC kv n)] w fun e w' => ∃ kv', e = .returned (.agg (rkC kv' n (rnk k))) ∧ KIs w' (fun b => w.heap.size ≤ b) kv' k ∧ Below w.heap.size w w' := by
 have HK := hid (And.intro hk (And.intro hl hK))
 obtain ⟨ak, ck, rfl, -, -⟩ := hk
 have hrl : (rnk k).length = 32 := sha_len _
 have HRS := hid (rkC_size (kv := .slice ak k.length ck) (n := n) hrl)
 have hI : (Tryd.prog.info? 66).map (·.size) = some 34 := by kernel_rfl
 have hz : ∀ u : World, (zeroValue 66).run Tryd.prog u = .ok (.agg (rkC (.slice none 0 0) 0 (zeros 32))) u := fun u => by kernel_rfl
 clear hl hK
 unfold enC
 go_enter Tryd.func31, Tryd.ntmps31
 go_wp2_with fail
 have hx2 : ((w.alloc (.cells #[.slice ak k.length ck, .int .i64 n] 33)).alloc (.cells (rkC (.slice none 0 0) 0 (zeros 32)) 66)).heap[w.heap.size]? = some (.cells #[.slice ak k.length ck, .int .i64 n] 33 (0, 0)) := (heap_alloc_old _ _ (by simp)).trans (heap_alloc_new _ _)
 have hy2 : ((w.alloc (.cells #[.slice ak k.length ck, .int .i64 n] 33)).alloc (.cells (rkC (.slice none 0 0) 0 (zeros 32)) 66)).heap[w.heap.size + 1]? = some (.cells (rkC (.slice none 0 0) 0 (zeros 32)) 66 (0, 0)) := by
  have e := heap_alloc_new (w.alloc (.cells #[.slice ak k.length ck, .int .i64 n] 33)) (.cells (rkC (.slice none 0 0) 0 (zeros 32)) 66)
  rwa [World.size_alloc] at e
 have hb2 : Below w.heap.size w ((w.alloc (.cells #[.slice ak k.length ck, .int .i64 n] 33)).alloc (.cells (rkC (.slice none 0 0) 0 (zeros 32)) 66)) := ((Below.refl _ _).alloc (Nat.le_refl _) _).alloc (by simp) _
 generalize ((w.alloc (.cells #[.slice ak k.length ck, .int .i64 n] 33)).alloc (.cells (rkC (.slice none 0 0) 0 (zeros 32)) 66)) = w2 at *
 have c0 := cell_of_row w2 w.heap.size 0 _ _ _ hx2
 have c1 := cell_of_row w2 w.heap.size 1 _ _ _ hx2
 have hlx : w.heap.size < w2.drew.heap.size := blk_lt hx2
 have HY := hid (show w2.drew.heap[w.heap.size + 1]? = _ from hy2)
 have HB2 := hid hb2.drew
 have HCC := hid (show w2.drew.cell? ⟨w.heap.size, 0, none⟩ = some (.slice ak k.length ck) ∧ w2.drew.cell? ⟨w.heap.size, 1, none⟩ = some (.int .i64 n) from ⟨c0, c1⟩)
 have hb : Below w2.drew.heap.size w2.drew w2.drew := Below.refl _ _
 have HBK := hid (show ∀ u, Below w2.drew.heap.size w2.drew u → Bs u (.slice ak k.length ck) k from fun u hu => (HK.out.1.below HB2.out).below hu)
 have HCP := hid (show ∀ u, Below w2.drew.heap.size w2.drew u → Calls Tryd.prog 57 #[.agg #[.slice ak k.length ck, .int .i64 n]] u fun e w' => ∃ kv', e = .returned (.agg (enC kv' n)) ∧ KIs w' (fun b => u.heap.size ≤ b) kv' k ∧ Below u.heap.size u w' from fun u hu => copied_any u _ n k (HBK.out u hu) HK.out.2.1)
 clear hx2 hy2 hb2 c0 c1
 refine wp_region_held_drew (S := fun u => u.cell? ⟨w.heap.size, 0, none⟩ = some (.slice ak k.length ck) ∧ u.cell? ⟨w.heap.size, 1, none⟩ = some (.int .i64 n)) (by kernel_rfl) (HCC.out) (fun hHeld => ?_)
 refine tk (i := 0) (oi := ⟨some 3, .load 33 (.tmp 1), 33, "node.go:25", #[], none⟩) (v := ?_) (Or.inl ⟨by rfl, ?_⟩) ?_
 rotate_left 1
 ·(intro u hSw; have c0 := hSw.1; have c1 := hSw.2; go_simp; try with_reducible rfl)
 try simp only [Act.put, sA, sB, sC]
 refine tk (i := 2) (oi := ⟨some 5, .fieldAddr 33 (.tmp 1) 0, 0, "node.go:25", #[], none⟩) (v := ?_) (Or.inl ⟨by rfl, ?_⟩) ?_
 rotate_left 1
 ·(intro u hSw; go_simp; try with_reducible rfl)
 try simp only [Act.put, sA, sB, sC]
 refine tk (i := 3) (oi := ⟨some 6, .load 31 (.tmp 5), 31, "node.go:25", #[⟨2, .data⟩], none⟩) (v := ?_) (Or.inl ⟨by rfl, ?_⟩) ?_
 rotate_left 1
 ·(intro u hSw; have c0 := hSw.1; have c1 := hSw.2; go_simp; try with_reducible rfl)
 try simp only [Act.put, sA, sB, sC]
 refine wpAnyH_ready (rs := [1, 4]) (by kernel_rfl) (by simp) ?_
 refine (AllReadyH.cons (o := ⟨some 4, .call ⟨.value (.func 57), #[.tmp 3], #[33]⟩, 33, "node.go:25", #[⟨0, .data⟩], none⟩) rfl (fun K hK => ?_) (AllReadyH.cons (o := ⟨some 7, .buildSlice 99 1 #[(0, .tmp 6)], 99, "node.go:25", #[⟨3, .data⟩], none⟩) rfl (fun K hK => ?_) AllReadyH.nil))
 ·go_simp
  refine (HCP.out _ hb).mono ?_
  rintro e cu ⟨kv4, rfl, hk4, hb4⟩
  obtain ⟨a4, c4, rfl⟩ := hk4.form
  have k4 := hk4.bound
  have l4 := hb.size
  try (have h7 := (hb4.block _ (blk_lt h7)).trans h7)
  have hb := hb.trans (hb4.mono hb.size)
  clear hk4 hb4
  unfold enC
  go_wp2_with fail
  refine hK.out _ _ ⟨(hb.cell (p := ⟨w.heap.size, 0, none⟩) hlx).trans HCC.out.1, (hb.cell (p := ⟨w.heap.size, 1, none⟩) hlx).trans HCC.out.2⟩ (fun hHeld => ?_)
  clear hK K
  try simp only [Act.put, sA, sB, sC]
  refine wpAnyH_ready (rs := [4]) (by kernel_rfl) (by simp) ?_
  refine (AllReadyH.cons (o := ⟨some 7, .buildSlice 99 1 #[(0, .tmp 6)], 99, "node.go:25", #[⟨3, .data⟩], none⟩) rfl (fun K hK => ?_) AllReadyH.nil)
  go_simp
  refine al_step2 hb (fun nu hbn q7 hcn => ?_)
  try (have k4 := k4.below hcn)
  have h7 := q7
  have hb := hbn
  clear hcn hbn q7
  refine hK.out _ _ ⟨(hb.cell (p := ⟨w.heap.size, 0, none⟩) hlx).trans HCC.out.1, (hb.cell (p := ⟨w.heap.size, 1, none⟩) hlx).trans HCC.out.2⟩ (fun hHeld => ?_)
  clear hK K
  try simp only [Act.put, sA, sB, sC]
  refine wpAnyH_ready (rs := [5]) (by kernel_rfl) (by simp) ?_
  refine (AllReadyH.cons (o := ⟨some 8, .call ⟨.value (.func 27), #[.tmp 7], #[99]⟩, 36, "node.go:25", #[⟨4, .data⟩, ⟨1, .chain⟩], none⟩) rfl (fun K hK => ?_) AllReadyH.nil)
  go_simp
  refine (of_any _ [k] _ (pss1 h7 (HBK.out _ hb)) ((HK.out.2.2.below HB2.out HK.out.2.2.1).below hb (Nat.lt_of_lt_of_le HK.out.2.2.1 HB2.out.size)) (by have := HK.out.2.1; simp only [jlen]; omega)).mono ?_
  rintro e cu ⟨rfl, hb5⟩
  have k4 := k4.below hb5
  have hb := hb.trans (hb5.mono hb.size)
  clear hb5 h7
  go_wp2_with fail
  refine hK.out _ _ ⟨(hb.cell (p := ⟨w.heap.size, 0, none⟩) hlx).trans HCC.out.1, (hb.cell (p := ⟨w.heap.size, 1, none⟩) hlx).trans HCC.out.2⟩ (fun hHeld => ?_)
  clear hK K
  try simp only [Act.put, sA, sB, sC]
  refine tk (i := 6) (oi := ⟨some 9, .build 66 #[(0, .tmp 4), (1, .tmp 8)], 66, "node.go:25", #[⟨1, .data⟩, ⟨5, .data⟩], none⟩) (v := .agg (rkC (.slice a4 k.length c4) n (rnk k))) (Or.inl ⟨by rfl, ?_⟩) ?_
  ·intro u hSw
   exact exec_build_rk (Operand.tmp 4) (Operand.tmp 8) rfl _ n (rnk k) hrl rfl rfl
  try simp only [Act.put, sA, sB, sC]
  refine wpAnyH_ready (rs := [7]) (by kernel_rfl) (by simp) ?_
  refine (AllReadyH.cons (o := ⟨none, .store 66 (.tmp 2) (.tmp 9), 0, "node.go:25", #[⟨6, .data⟩, ⟨5, .chain⟩, ⟨0, .phase⟩, ⟨1, .phase⟩, ⟨2, .phase⟩, ⟨3, .phase⟩, ⟨4, .phase⟩, ⟨5, .phase⟩, ⟨6, .phase⟩], none⟩) rfl (fun K hK => ?_) AllReadyH.nil)
  rw [if_pos (by rfl)]
  have hy := (hb.block _ (blk_lt HY.out)).trans HY.out
  refine wp_store_row 66 (Operand.tmp 2) (Operand.tmp 9) rfl (w.heap.size + 1) (rkC (.slice a4 k.length c4) n (rnk k)) rfl rfl 66 _ hy (by rw [rkC_size hrl]; exact hI) (by rw [rkC_size hrl, rkC_size (zeros_len _)]) (rkC_one _ _ _) ?_
  have hy5 := setRow_heap _ _ _ (rkC (.slice a4 k.length c4) n (rnk k)) 66 (0, 0) hy
  have hcg := st_chg (rkC (.slice a4 k.length c4) n (rnk k)) hy
  have HY5 := hid hy5
  have HC5 := hid (And.intro hcg (And.intro hb k4))
  clear hy5 hcg hy
  generalize World.setRow _ _ _ = w5 at *
  refine hK.out _ _ ?_ (fun hHeld => ?_)
  ·have e := HC5.out.1.block w.heap.size (by have := hb.size; omega) (by omega); exact ⟨(World.cell?_of_block e).trans ((hb.cell (p := ⟨w.heap.size, 0, none⟩) hlx).trans HCC.out.1), (World.cell?_of_block e).trans ((hb.cell (p := ⟨w.heap.size, 1, none⟩) hlx).trans HCC.out.2)⟩
  clear hK K
  try simp only [Act.put]
  refine wpAnyH_done (by kernel_rfl) ?_ _
  go_wp2_with fail
  refine bodyPost_ret (results_cell_row rfl _ _ (w.heap.size + 1) 66 (rkC (.slice a4 k.length c4) n (rnk k)) (0,0) _ rfl HY5.out Tryd.underlying66 rfl (by rw [rkC_size hrl]; exact hI)) rfl ?_
  have h9 := blk_lt HY.out
  obtain ⟨q1, q2, q3⟩ := HC5.out
  exact ⟨_, rfl, (q3.cg q1 (fun q _ hs e => by have hs2 : _ ∧ _ := hs; omega)).mono (fun q hq => by have := HB2.out.size; have h2 : _ ∧ _ := hq; omega), HB2.out.trans ((q2.mono HB2.out.size).trans (q1.below (B := w.heap.size) (fun q e => by omega) (by have := HB2.out.size; have := q2.size; omega)))⟩
 ·go_simp
  refine al_step2 hb (fun nu hbn q7 hcn => ?_)
  try (have k4 := k4.below hcn)
  have h7 := q7
  have hb := hbn
  clear hcn hbn q7
  refine hK.out _ _ ⟨(hb.cell (p := ⟨w.heap.size, 0, none⟩) hlx).trans HCC.out.1, (hb.cell (p := ⟨w.heap.size, 1, none⟩) hlx).trans HCC.out.2⟩ (fun hHeld => ?_)
  clear hK K
  try simp only [Act.put, sA, sB, sC]
  refine wpAnyH_ready (rs := [1]) (by kernel_rfl) (by simp) ?_
  refine (AllReadyH.cons (o := ⟨some 4, .call ⟨.value (.func 57), #[.tmp 3], #[33]⟩, 33, "node.go:25", #[⟨0, .data⟩], none⟩) rfl (fun K hK => ?_) AllReadyH.nil)
  go_simp
  refine (HCP.out _ hb).mono ?_
  rintro e cu ⟨kv4, rfl, hk4, hb4⟩
  obtain ⟨a4, c4, rfl⟩ := hk4.form
  have k4 := hk4.bound
  have l4 := hb.size
  try (have h7 := (hb4.block _ (blk_lt h7)).trans h7)
  have hb := hb.trans (hb4.mono hb.size)
  clear hk4 hb4
  unfold enC
  go_wp2_with fail
  refine hK.out _ _ ⟨(hb.cell (p := ⟨w.heap.size, 0, none⟩) hlx).trans HCC.out.1, (hb.cell (p := ⟨w.heap.size, 1, none⟩) hlx).trans HCC.out.2⟩ (fun hHeld => ?_)
  clear hK K
  try simp only [Act.put, sA, sB, sC]
  refine wpAnyH_ready (rs := [5]) (by kernel_rfl) (by simp) ?_
  refine (AllReadyH.cons (o := ⟨some 8, .call ⟨.value (.func 27), #[.tmp 7], #[99]⟩, 36, "node.go:25", #[⟨4, .data⟩, ⟨1, .chain⟩], none⟩) rfl (fun K hK => ?_) AllReadyH.nil)
  go_simp
  refine (of_any _ [k] _ (pss1 h7 (HBK.out _ hb)) ((HK.out.2.2.below HB2.out HK.out.2.2.1).below hb (Nat.lt_of_lt_of_le HK.out.2.2.1 HB2.out.size)) (by have := HK.out.2.1; simp only [jlen]; omega)).mono ?_
  rintro e cu ⟨rfl, hb5⟩
  have k4 := k4.below hb5
  have hb := hb.trans (hb5.mono hb.size)
  clear hb5 h7
  go_wp2_with fail
  refine hK.out _ _ ⟨(hb.cell (p := ⟨w.heap.size, 0, none⟩) hlx).trans HCC.out.1, (hb.cell (p := ⟨w.heap.size, 1, none⟩) hlx).trans HCC.out.2⟩ (fun hHeld => ?_)
  clear hK K
  try simp only [Act.put, sA, sB, sC]
  refine tk (i := 6) (oi := ⟨some 9, .build 66 #[(0, .tmp 4), (1, .tmp 8)], 66, "node.go:25", #[⟨1, .data⟩, ⟨5, .data⟩], none⟩) (v := .agg (rkC (.slice a4 k.length c4) n (rnk k))) (Or.inl ⟨by rfl, ?_⟩) ?_
  ·intro u hSw
   exact exec_build_rk (Operand.tmp 4) (Operand.tmp 8) rfl _ n (rnk k) hrl rfl rfl
  try simp only [Act.put, sA, sB, sC]
  refine wpAnyH_ready (rs := [7]) (by kernel_rfl) (by simp) ?_
  refine (AllReadyH.cons (o := ⟨none, .store 66 (.tmp 2) (.tmp 9), 0, "node.go:25", #[⟨6, .data⟩, ⟨5, .chain⟩, ⟨0, .phase⟩, ⟨1, .phase⟩, ⟨2, .phase⟩, ⟨3, .phase⟩, ⟨4, .phase⟩, ⟨5, .phase⟩, ⟨6, .phase⟩], none⟩) rfl (fun K hK => ?_) AllReadyH.nil)
  rw [if_pos (by rfl)]
  have hy := (hb.block _ (blk_lt HY.out)).trans HY.out
  refine wp_store_row 66 (Operand.tmp 2) (Operand.tmp 9) rfl (w.heap.size + 1) (rkC (.slice a4 k.length c4) n (rnk k)) rfl rfl 66 _ hy (by rw [rkC_size hrl]; exact hI) (by rw [rkC_size hrl, rkC_size (zeros_len _)]) (rkC_one _ _ _) ?_
  have hy5 := setRow_heap _ _ _ (rkC (.slice a4 k.length c4) n (rnk k)) 66 (0, 0) hy
  have hcg := st_chg (rkC (.slice a4 k.length c4) n (rnk k)) hy
  have HY5 := hid hy5
  have HC5 := hid (And.intro hcg (And.intro hb k4))
  clear hy5 hcg hy
  generalize World.setRow _ _ _ = w5 at *
  refine hK.out _ _ ?_ (fun hHeld => ?_)
  ·have e := HC5.out.1.block w.heap.size (by have := hb.size; omega) (by omega); exact ⟨(World.cell?_of_block e).trans ((hb.cell (p := ⟨w.heap.size, 0, none⟩) hlx).trans HCC.out.1), (World.cell?_of_block e).trans ((hb.cell (p := ⟨w.heap.size, 1, none⟩) hlx).trans HCC.out.2)⟩
  clear hK K
  try simp only [Act.put]
  refine wpAnyH_done (by kernel_rfl) ?_ _
  go_wp2_with fail
  refine bodyPost_ret (results_cell_row rfl _ _ (w.heap.size + 1) 66 (rkC (.slice a4 k.length c4) n (rnk k)) (0,0) _ rfl HY5.out Tryd.underlying66 rfl (by rw [rkC_size hrl]; exact hI)) rfl ?_
  have h9 := blk_lt HY.out
  obtain ⟨q1, q2, q3⟩ := HC5.out
  exact ⟨_, rfl, (q3.cg q1 (fun q _ hs e => by have hs2 : _ ∧ _ := hs; omega)).mono (fun q hq => by have := HB2.out.size; have h2 : _ ∧ _ := hq; omega), HB2.out.trans ((q2.mono HB2.out.size).trans (q1.below (B := w.heap.size) (fun q e => by omega) (by have := HB2.out.size; have := q2.size; omega)))⟩
end Go.Proofs.YtbmlkocpjboodaaDoor
/- stage 7: a tree is split at a key -/
namespace Go.Proofs.YtbmlkocpjboodaaDoor
open Go.RowKit
open Go.Lib (hid)
/-- no tree is pruned -/
def MT.Full : MT → Prop
 | .nil => True
 | .cut _ => False
 | .nd _ _ _ _ l r => l.Full ∧ r.Full
/-- the trees ahead of a key and behind it -/
def MT.split (key : List Int) : MT → MT × MT
 | .nil => (.nil, .nil)
 | .cut _ => (.nil, .nil)
 | .nd k n rk _ l r => if cmpI key k < 0 then ((l.split key).1, mkN k n rk (l.split key).2 r) else if 0 < cmpI key k then (mkN k n rk l (r.split key).1, (r.split key).2) else (l, r)
theorem exec_load_mid {P : Program} {ρ : Operand → Value} {op : Oper} {w : World} (ty : TypeId) (x : Operand) (ho : op.op = .load ty x) (b o : Nat) (hx : ρ x = .pointer (some ⟨b, o, none⟩)) (cs : List Value) (d : TypeDesc) (hc : w.rangeAt b o cs)
  (hu : P.underlying ty = some d) (hd : d.isRow = true) (hi : (P.info? ty).map (·.size) = some cs.length) : (execOp ρ op).run P w = .ok (.value (.agg cs.toArray)) w := by
 unfold execOp
 simp only [ho, hx, Instr.loadAt, Instr.sureAddr, Sem.run_bind, Sem.run_pure, Result.andThen_ok, run_loadVar_mid w b o ty cs d hc hu hd hi]
/-- the row of a node's entry and rank -/
def rkL (kv : Value) (n : Nat) (rk : List Int) : List Value := [kv, Value.int .i64 n] ++ rk.map (Value.int .u8)
theorem rkL_info {kv : Value} {n : Nat} {rk : List Int} (h : rk.length = 32) : (Tryd.prog.info? 66).map (·.size) = some (rkL kv n rk).length := by
 rw [show (rkL kv n rk).length = 34 by simp [rkL, h]]; kernel_rfl
theorem nd_rng0 {w : World} {b : Nat} {kv lp rp : Value} {n : Nat} {rk dg : List Int} {pr : Bool} (h : w.heap[b]? = some (.cells (ndC kv n rk lp rp dg pr) 115 (0, 0))) (h1 : rk.length = 32) : w.rangeAt b 0 (rkL kv n rk) := fun j x hj => by
 have hl : j < 34 := by have := (List.getElem?_eq_some_iff.1 hj).1; simpa [rkL, h1] using this
 rw [cell_of_row _ b _ _ _ _ h, Nat.zero_add]
 unfold ndC
 rw [List.getElem?_toArray, ← List.append_assoc, List.getElem?_append_left (by simp [h1]; omega)]
 exact hj
/-- what is read of a node, in each later world -/
structure NR (w : World) (b : Nat) (kv : Value) (n : Nat) (rk : List Int) (lp rp : Value) : Prop where
 c0 : w.cell? ⟨b, 0, none⟩ = some kv
 c34 : w.cell? ⟨b, 34, none⟩ = some lp
 c35 : w.cell? ⟨b, 35, none⟩ = some rp
 rg : w.rangeAt b 0 (rkL kv n rk)
 lt : b < w.heap.size
theorem NR.of {w : World} {b : Nat} {kv lp rp : Value} {n : Nat} {rk dg : List Int} {pr : Bool} (h : w.heap[b]? = some (.cells (ndC kv n rk lp rp dg pr) 115 (0, 0))) (h1 : rk.length = 32) : NR w b kv n rk lp rp :=
 ⟨(cell_of_row w b 0 _ _ _ h).trans ndC_0, (cell_of_row w b 34 _ _ _ h).trans (ndC_l h1), (cell_of_row w b 35 _ _ _ h).trans (ndC_r h1), nd_rng0 h h1, blk_lt h⟩
theorem NR.below {w w' : World} {b : Nat} {kv lp rp : Value} {n : Nat} {rk : List Int} (h : NR w b kv n rk lp rp) (hb : Below w.heap.size w w') : NR w' b kv n rk lp rp :=
 ⟨(hb.cell (p := ⟨b, 0, none⟩) h.lt).trans h.c0, (hb.cell (p := ⟨b, 34, none⟩) h.lt).trans h.c34, (hb.cell (p := ⟨b, 35, none⟩) h.lt).trans h.c35, fun j x hj => (hb.cell (p := ⟨b, 0 + j, none⟩) h.lt).trans (h.rg j x hj), Nat.lt_of_lt_of_le h.lt hb.size⟩
end Go.Proofs.YtbmlkocpjboodaaDoor
