/- stage 7: the law's list -/
import Derived.Test.YtbmlkocpjboodaaDoorMt23
import Derived.Test.YtbmlkocpjboodaaDoorMt24
import Derived.Test.YtbmlkocpjboodaaDoorMt27
namespace Go.Proofs.YtbmlkocpjboodaaDoor
open Go.RowKit
open Go.Lib (hid)
theorem EnR.lt {w : World} {B : Nat} {K : Nat → Prop} {v : Value} {es : List (List Int × Nat)} (h : EnR w B K v es) : ∀ g, v.ownBlock = some g → B ≤ g ∧ g < w.heap.size ∧ ¬ K g := by
 obtain ⟨xs, e1, e2, e3, e4⟩ := h
 exact fun g hg => ⟨(World.ownsRow.lt e2 g hg).1, (World.ownsRow.lt e2 g hg).2, e3 g hg⟩
theorem EnR.slc {w : World} {B : Nat} {K : Nat → Prop} {v : Value} {es : List (List Int × Nat)} (h : EnR w B K v es) : ∃ a c, v = .slice a es.length c := by
 obtain ⟨xs, e1, e2, e3, e4⟩ := h
 exact ownsRow_slc e2
/-- a new key beside the list -/
theorem EnR.key {w w1 : World} {B : Nat} {K : Nat → Prop} {v kv : Value} {k : List Int} {es : List (List Int × Nat)} (h : EnR w B K v es) (hb : Below w.heap.size w w1) (hk : KIs w1 (fun q => w.heap.size ≤ q) kv k) (hB : B ≤ w.heap.size) (hK : ∀ q, K q → B ≤ q ∧ q < w.heap.size) : ∃ K2 : Nat → Prop, EnR w1 B K2 v es ∧ KIs w1 K2 kv k ∧ ∀ q, K2 q → B ≤ q ∧ q < w1.heap.size := by
 have hs := hb.size
 refine ⟨fun q => K q ∨ (w.heap.size ≤ q ∧ q < w1.heap.size), (h.keep hb).mono (fun q h => .inl h) (fun g hg hc => ?_), hk.bound.mono (fun q h => .inr h), fun q hq => ?_⟩
 ·have := h.lt g hg
  rcases hc with hc | hc
  ·exact this.2.2 hc
  ·omega
 ·rcases hq with hq | hq
  ·have := hK q hq; omega
  ·omega
theorem step_append_me {ops : Array Oper} {o : Oper} {a : Act} {w : World} {K : Act → World → Prop} {Q : Exit → Act → World → Prop} {E : Prop}
  (hg : o.guard = none) (s x : Operand) (hop : o.op = Op.call { callee := Callee.builtin Builtin.append, args := #[s, x], argTypes := #[26, 26] })
  (v v2 : Value) (hs : a.eval s = v) (hx : a.eval x = v2) {v' : Value} {w' : World} (h1 : (Builtin.append_ #[26, 26] o.type #[v, v2]).run Tryd.prog w = .ok v' w') (hK : K (a.put o.dst v') w') :
  if Region.wanted o (yielded ops a.tmps) = true then Oper.wp Tryd.prog o a w K Q else E := by
 have hw : Region.wanted o (yielded ops a.tmps) = true := by simp [Region.wanted, hg]
 rw [if_pos hw]
 unfold Oper.wp
 simp [execOp, hop, resolve, invoke, builtin, hs, hx, h1, Result.andThen]
 exact hK
set_option maxRecDepth 100000 in
set_option maxHeartbeats 8000000 in
theorem lawList_any (w : World) (v : Value) (es : List (List Int × Nat)) (hv : RfS w v (es.map toI)) (hes : ∀ x ∈ es, Rng x.1) (hn : es.length ≤ 1048576) :
  Calls Tryd.prog 10 #[v] w fun d w' => ∃ v', d = .returned v' ∧ EnN w w' v' es ∧ Below w.heap.size w w' := by
 have HV := hid hv
 obtain ⟨av, cv, rfl, -⟩ := hv
 rw [List.length_map] at *
 have HES := hid hes
 clear hes
 go_enter Tryd.func10, Tryd.ntmps10
 go_wp2_with fail
 go_loopw [3, 4] (fun ov iv wr => ∃ (j : Nat) (K : Nat → Prop), j ≤ es.length ∧ iv = .int .i64 (j : Int) ∧ EnR wr w.heap.size K ov (es.take j) ∧ (∀ q, K q → w.heap.size ≤ q ∧ q < wr.heap.size) ∧ Below w.heap.size w wr) (fun _ iv _ => es.length - (intOf iv).toNat)
 case atStart => exact ⟨0, fun _ => False, Nat.zero_le _, rfl, ⟨[], rfl, ⟨rfl, .inr ⟨w.heap.size, 0, #[], rfl, Nat.le_refl _, heap_alloc_new _ _, Nat.le_refl _, Nat.zero_le _, rfl, rfl⟩⟩, fun _ _ h => h, fun i x y h => by simp at h⟩, fun q h => h.elim, (Below.refl _ _).alloc (Nat.le_refl _) _⟩
 case round =>
  obtain ⟨j, K, hj, rfl, hro, hKb, hbw⟩ := hrel
  obtain ⟨ao, co, rfl⟩ := hro.slc
  have htl : (es.take j).length = j := by rw [List.length_take]; omega
  by_cases hjl : j < es.length
  ·have hx : es[j]? = some (es[j]'hjl) := List.getElem?_eq_getElem hjl
   have hts : es.take (j + 1) = es.take j ++ [es[j]'hjl] := by rw [List.take_add_one, hx]; rfl
   generalize es[j]'hjl = x at hx hts
   have gx := HES.out x (List.mem_of_getElem? hx)
   obtain ⟨a', c', he, hall⟩ := HV.out
   injection he with e1 e0 e2
   clear e0
   subst e1 e2
   obtain ⟨g, o, hag, hgl, hc0, hc1⟩ := hall j (toI x) (by rw [List.getElem?_map, hx]; rfl)
   subst hag
   have hj0 : (0 : Int) ≤ (j : Int) := by omega
   have hj1 : (j : Int) < (es.length : Int) := by omega
   have HC := hid (fun u (hu : Below w.heap.size w u) => (show u.cell? ⟨g, o + j * 2, none⟩ = some (.string (str x.1)) ∧ u.cell? ⟨g, o + j * 2 + 1, none⟩ = some (.int .i64 (x.2 : Int)) from ⟨(World.cell?_of_block (a := ⟨g, o + j * 2, none⟩) (hu.block g hgl)).trans hc0, (World.cell?_of_block (a := ⟨g, o + j * 2 + 1, none⟩) (hu.block g hgl)).trans hc1⟩))
   have hb := hbw.drew
   have hlt : j ≤ 1099511627776 := by omega
   have HX := hid (And.intro hjl (And.intro hts (And.intro htl (And.intro gx hlt))))
   rw [htl] at hro ⊢
   have HXD := hid (show EnR wr.drew w.heap.size K (.slice ao j co) (es.take j) ∧ ∀ q, K q → w.heap.size ≤ q ∧ q < wr.drew.heap.size from ⟨hro, hKb⟩)
   clear hro hbw hx hts hall hc0 hc1 hjl hgl hj htl gx hKb hlt
   go_wp2_with fail
   refine wp_region_held_drew (S := fun u => Below w.heap.size w u) (by kernel_rfl) (hb) (fun hHeld => ?_)
   refine tk (i := 0) (oi := ⟨some 12, .move (.tmp 3), 26, "law.go:29", #[], none⟩) (v := ?_) (Or.inl ⟨by rfl, ?_⟩) ?_
   rotate_left 1
   ·(intro u hSw; go_simp; try with_reducible rfl)
   try simp only [Act.put, sA, sB, sC]
   refine tk (i := 1) (oi := ⟨some 13, .move (.tmp 0), 22, "law.go:29", #[], none⟩) (v := ?_) (Or.inl ⟨by rfl, ?_⟩) ?_
   rotate_left 1
   ·(intro u hSw; go_simp; try with_reducible rfl)
   try simp only [Act.put, sA, sB, sC]
   refine tk (i := 2) (oi := ⟨some 14, .move (.tmp 4), 3, "law.go:29", #[], none⟩) (v := ?_) (Or.inl ⟨by rfl, ?_⟩) ?_
   rotate_left 1
   ·(intro u hSw; go_simp; try with_reducible rfl)
   try simp only [Act.put, sA, sB, sC]
   refine tk (i := 3) (oi := ⟨some 15, .indexAddr 22 (.tmp 13) (.tmp 14), 0, "law.go:29", #[⟨1, .data⟩, ⟨2, .data⟩], none⟩) (v := ?_) (Or.inl ⟨by rfl, ?_⟩) ?_
   rotate_left 1
   ·(intro u hSw; go_simp; try with_reducible rfl)
   try simp only [Act.put, sA, sB, sC]
   refine tk (i := 4) (oi := ⟨some 16, .fieldAddr 45 (.tmp 15) 0, 0, "law.go:29", #[⟨3, .data⟩], none⟩) (v := ?_) (Or.inl ⟨by rfl, ?_⟩) ?_
   rotate_left 1
   ·(intro u hSw; go_simp; try with_reducible rfl)
   try simp only [Act.put, sA, sB, sC]
   refine tk (i := 5) (oi := ⟨some 17, .load 9 (.tmp 16), 9, "law.go:29", #[⟨4, .data⟩], none⟩) (v := ?_) (Or.inl ⟨by rfl, ?_⟩) ?_
   rotate_left 1
   ·(intro u hSw; have y0 := (HC.out _ hSw).1; have y1 := (HC.out _ hSw).2; go_simp; try with_reducible rfl)
   try simp only [Act.put, sA, sB, sC]
   refine tk (i := 7) (oi := ⟨some 19, .move (.tmp 0), 22, "law.go:29", #[], none⟩) (v := ?_) (Or.inl ⟨by rfl, ?_⟩) ?_
   rotate_left 1
   ·(intro u hSw; go_simp; try with_reducible rfl)
   try simp only [Act.put, sA, sB, sC]
   refine tk (i := 8) (oi := ⟨some 20, .move (.tmp 4), 3, "law.go:29", #[], none⟩) (v := ?_) (Or.inl ⟨by rfl, ?_⟩) ?_
   rotate_left 1
   ·(intro u hSw; go_simp; try with_reducible rfl)
   try simp only [Act.put, sA, sB, sC]
   refine tk (i := 9) (oi := ⟨some 21, .indexAddr 22 (.tmp 19) (.tmp 20), 0, "law.go:29", #[⟨7, .data⟩, ⟨8, .data⟩], none⟩) (v := ?_) (Or.inl ⟨by rfl, ?_⟩) ?_
   rotate_left 1
   ·(intro u hSw; go_simp; try with_reducible rfl)
   try simp only [Act.put, sA, sB, sC]
   refine tk (i := 10) (oi := ⟨some 22, .fieldAddr 45 (.tmp 21) 1, 0, "law.go:29", #[⟨9, .data⟩], none⟩) (v := ?_) (Or.inl ⟨by rfl, ?_⟩) ?_
   rotate_left 1
   ·(intro u hSw; go_simp; try with_reducible rfl)
   try simp only [Act.put, sA, sB, sC]
   refine tk (i := 11) (oi := ⟨some 23, .load 2 (.tmp 22), 2, "law.go:29", #[⟨10, .data⟩], none⟩) (v := ?_) (Or.inl ⟨by rfl, ?_⟩) ?_
   rotate_left 1
   ·(intro u hSw; have y0 := (HC.out _ hSw).1; have y1 := (HC.out _ hSw).2; go_simp; try with_reducible rfl)
   try simp only [Act.put, sA, sB, sC]
   refine wpAnyH_ready (rs := [6]) (by kernel_rfl) (by simp) ?_
   refine (AllReadyH.cons (o := ⟨some 18, .convert 9 31 (.tmp 17), 31, "law.go:29", #[⟨5, .data⟩], none⟩) rfl (fun K hK => ?_) AllReadyH.nil)
   try (generalize World.drew wr = ud at *)
   obtain ⟨W1, a18, c18, q18, b18, k18⟩ := conv_kis ud x.1 HX.out.2.2.2.1
   refine step_of_runP (by rfl) (exec_convP 9 31 (Operand.tmp 17) (by rfl) _ (by rfl) _ q18) ?_
   obtain ⟨K2, hro, hk, hKb⟩ := HXD.out.1.key b18 k18 hb.size HXD.out.2
   have hb := hb.trans (b18.mono hb.size)
   clear b18 k18 q18
   refine hK.out _ _ hb (fun hHeld => ?_)
   clear hK K
   try simp only [Act.put, sA, sB, sC]
   refine tk (i := 12) (oi := ⟨some 24, .build 33 #[(0, .tmp 18), (1, .tmp 23)], 33, "law.go:29", #[⟨6, .data⟩, ⟨11, .data⟩], none⟩) (v := ?_) (Or.inl ⟨by rfl, ?_⟩) ?_
   rotate_left 1
   ·(intro u hSw; go_simp; try with_reducible rfl)
   try simp only [Act.put, sA, sB, sC]
   refine wpAnyH_ready (rs := [13]) (by kernel_rfl) (by simp) ?_
   refine (AllReadyH.cons (o := ⟨some 25, .buildSlice 26 1 #[(0, .tmp 24)], 26, "law.go:29", #[⟨12, .data⟩], none⟩) rfl (fun K hK => ?_) AllReadyH.nil)
   go_simp
   refine al_step2 hb (fun nu hbn q1 hcn => ?_)
   have hro := hro.keep hcn
   have hk := hk.below hcn
   have hKb := fun q h => (show w.heap.size ≤ q ∧ q < nu.heap.size from ⟨(hKb q h).1, Nat.lt_of_lt_of_le (hKb q h).2 hcn.size⟩)
   have hb := hbn
   clear hcn hbn
   refine hK.out _ _ hb (fun hHeld => ?_)
   clear hK K
   try simp only [Act.put, sA, sB, sC]
   refine wpAnyH_ready (rs := [14]) (by kernel_rfl) (by simp) ?_
   refine (AllReadyH.cons (o := ⟨some 26, .call ⟨.builtin .append, #[.tmp 12, .tmp 25], #[26, 26]⟩, 26, "law.go:29", #[⟨0, .data⟩, ⟨13, .data⟩], none⟩) rfl (fun K hK => ?_) AllReadyH.nil)
   obtain ⟨v8, w8, hr8, ho8, hc8, -⟩ := hro.app hb.size _ _ x.1 x.2 q1 hk (by rw [HX.out.2.2.1]; exact HX.out.2.2.2.2) 26 (by rfl) (fun q h _ => h) (fun g hg => (hro.lt g hg).2.2) (fun h => Nat.lt_irrefl _ (hKb _ h).2)
   have hlt8 := hro.lt
   refine step_append_me (by rfl) (Operand.tmp 12) (Operand.tmp 25) (by rfl) _ _ (by rfl) (by rfl) hr8 ?_
   have hKb := fun q h => (show w.heap.size ≤ q ∧ q < w8.heap.size from ⟨(hKb q h).1, Nat.lt_of_lt_of_le (hKb q h).2 hc8.size⟩)
   have hb := hb.trans (hc8.below (B := w.heap.size) (fun q e => (hlt8 q e).1) hb.size)
   obtain ⟨a8, c8, rfl⟩ := ho8.slc
   have hl8 : (es.take j ++ [(x.1, x.2)]).length = j + 1 := by rw [List.length_append, HX.out.2.2.1]; rfl
   rw [hl8] at ho8 ⊢
   clear hc8 hr8 hro hlt8 hk hl8
   refine hK.out _ _ hb (fun hHeld => ?_)
   clear hK K
   try simp only [Act.put, sA, sB, sC]
   refine tk (i := 15) (oi := ⟨some 3, .assign (.tmp 26), 26, "law.go:29", #[⟨14, .data⟩, ⟨14, .chain⟩, ⟨0, .phase⟩, ⟨1, .phase⟩, ⟨2, .phase⟩, ⟨3, .phase⟩, ⟨4, .phase⟩, ⟨5, .phase⟩, ⟨6, .phase⟩, ⟨7, .phase⟩, ⟨8, .phase⟩, ⟨9, .phase⟩, ⟨10, .phase⟩, ⟨11, .phase⟩, ⟨12, .phase⟩, ⟨13, .phase⟩, ⟨14, .phase⟩], none⟩) (v := ?_) (Or.inl ⟨by rfl, ?_⟩) ?_
   rotate_left 1
   ·(intro u hSw; go_simp; try with_reducible rfl)
   try simp only [Act.put, sA, sB, sC]
   refine wpAnyH_done (by kernel_rfl) ?_ _
   have H8 := hid (And.intro ho8 (And.intro hKb hb))
   clear ho8 hb hHeld q1 hKb
   go_wp2_with fail
   go_roundw
   case rel => exact ⟨j + 1, K2, HX.out.1, by go_num, by rw [HX.out.2.1]; exact H8.out.1, H8.out.2.1, H8.out.2.2⟩
   case measure => have := HX.out.1; simp [intOf]; omega
  ·have hj2 : j = es.length := by omega
   subst hj2
   have HX := hid (And.intro hro (And.intro hKb hbw))
   rw [htl, List.take_length] at HX
   clear hro hbw htl hKb
   rw [List.take_length]
   go_wp2_with fail
   go_ret
   exact ⟨_, rfl, ⟨K, HX.out.1, fun q h => (HX.out.2.1 q h).1⟩, HX.out.2.2⟩
end Go.Proofs.YtbmlkocpjboodaaDoor
/- stage 7: the tree made anew is the tree that was set; Set beside any other memory -/
namespace Go.Proofs.YtbmlkocpjboodaaDoor
open Go.RowKit
open Go.Lib (hid)
theorem rkE_rkOf (l : List (List Int × Nat)) : (l.map rkOf).map rkE = l := by
 rw [List.map_map]
 conv => rhs; rw [← List.map_id l]
 exact List.map_congr_left (fun x _ => rfl)
theorem of_one (t : MT) (g : t.Good) (f : t.Full) (q : t.Rkd) (h : t.Heap) (a : Asc t.ino) (hg : (MT.of (t.ino.map rkOf)).Good) : MT.of (t.ino.map rkOf) = t := by
 have ho := of_ok (t.ino.map rkOf) (fun x hx => by obtain ⟨y, _, rfl⟩ := List.mem_map.1 hx; rfl) (by rw [rkE_rkOf]; exact a)
 have hi := of_ino (t.ino.map rkOf)
 rw [rkE_rkOf] at hi
 exact tree_one _ _ hg g ho.1 f ho.2.1 q ho.2.2 h (by rw [hi]; exact a) hi
structure Wh3 (t : MT) (n : Nat) : Prop extends Wh2 t n where
 h : t.Heap
theorem wh3_nil : Wh3 .nil 0 := ⟨wh2_nil, trivial⟩
theorem putE_wh3 {t : MT} {n : Nat} (h : Wh3 t n) {x : List Int × Int} (hx : EOk x) : Wh3 (putE t x) (n + 1) ∧ (putE t x).ino = setE t.ino x := by
 obtain ⟨h1, h2⟩ := putE_wh2 h.toWh2 hx
 refine ⟨⟨h1, ?_⟩, h2⟩
 unfold putE
 split
 ·exact put_heap _ _ t h.g h.f h.k h.a h.h
 ·exact h.h
/-- the entries of a tree are in range -/
theorem ino_ok : ∀ (t : MT), t.Good → t.Pos → ∀ x ∈ t.ino, x.1.length ≤ 65535 ∧ Rng x.1 ∧ 1 ≤ x.2 ∧ x.2 < 9223372036854775808
 | .nil, _, _, x, h => by cases h
 | .cut _, _, _, x, h => by cases h
 | .nd k n rk d l r, g, p, x, h => by
  obtain ⟨-, gl, gr, hkl, hk, hn, -⟩ := id g
  obtain ⟨p1, p2, p3⟩ := id p
  unfold MT.ino at h
  rcases List.mem_append.1 h with h | h
  ·exact ino_ok l gl p2 x h
  ·rcases List.mem_cons.1 h with rfl | h
   ·exact ⟨hkl, hk, p1, hn⟩
   ·exact ino_ok r gr p3 x h
theorem treeSet_two {S : Nat → Prop} (X : Nat) (t : MT) (x : List Int × Int) (kv : Value) (w : World) (p : Value) (hS : ∀ b, w.heap.size ≤ b → S b) (ht : TIs w X p) (hp : MIs w S p t) (hg : t.Good) (hf : t.Full) (hK : KC w) (hk : Bs w kv x.1) (hx : EOk x) (hX0 : 1 < X) (hX : ¬ S X) :
  Calls Tryd.prog 20 #[.pointer (some ⟨X, 0, none⟩), kv, .int .i64 x.2] w fun e w' => e = .returned (.bool (decide (x.1.length ≤ 65535 ∧ 0 ≤ x.2))) ∧ ∃ p', TIs w' X p' ∧ MIs w' S p' (putE t x) ∧ Chg (fun q => q = X) w w' := by
 by_cases hc : x.1.length ≤ 65535 ∧ 0 ≤ x.2
 ·obtain ⟨n, hn⟩ : ∃ n : Nat, x.2 = (n : Int) := ⟨x.2.toNat, by omega⟩
  have hnn : n < 9223372036854775808 := by have := hx.2.2.2; omega
  have h := treeSet_any (S := S) x.1 n hc.1 hx.1 hnn X kv t w p hS hX ht hp hf hg hK hk hX0
  rw [← hn] at h
  refine h.mono ?_
  rintro e w' ⟨rfl, p', h1, h2, h3⟩
  refine ⟨by rw [decide_eq_true hc], p', h1, ?_, h3⟩
  unfold putE
  rw [if_pos hc, hn, Int.toNat_natCast]
  exact h2
 ·refine (treeSet_no w X kv x.1 x.2 hk (by omega)).mono ?_
  rintro e w' ⟨rfl, rfl⟩
  refine ⟨by rw [decide_eq_false hc], p, ht, ?_, Chg.refl _ _⟩
  unfold putE
  rw [if_neg hc]
  exact hp
end Go.Proofs.YtbmlkocpjboodaaDoor
/- stage 7: Misses of the reference -/
namespace Go.Proofs.YtbmlkocpjboodaaDoor
open Go.RowKit
open Go.Lib (hid)
end Go.Proofs.YtbmlkocpjboodaaDoor
/- stage 7: May of the reference -/
namespace Go.Proofs.YtbmlkocpjboodaaDoor
open Go.RowKit
open Go.Lib (hid)
end Go.Proofs.YtbmlkocpjboodaaDoor
/- stage 7: MerkleSound -/
namespace Go.Proofs.YtbmlkocpjboodaaDoor
open Go.RowKit
open Go.Lib (hid)
end Go.Proofs.YtbmlkocpjboodaaDoor
/- stage 7: an own row of the reference's entries may be cut; a key's bytes are spoilt -/
namespace Go.Proofs.YtbmlkocpjboodaaDoor
open Go.RowKit
open Go.Lib (hid)
theorem RfO.rfc {w : World} {B : Nat} {v : Value} {l : List (List Int × Nat)} (h : RfO w B v l) : RfC w v l := by
  obtain ⟨hl, ⟨rfl, hn⟩ | ⟨g, cap, cur, rfl, q1, q2, q3, q4, q5, q6⟩⟩ := h
  · refine ⟨none, 0, by rw [hn], by omega, fun i x hx => ?_⟩
    have := (List.getElem?_eq_some_iff.1 hx).1
    omega
  · refine ⟨some ⟨g, 0, none⟩, cap, rfl, by omega, fun i y hy => ?_⟩
    have hi := (List.getElem?_eq_some_iff.1 hy).1
    have hc : ∀ j, j < 2 → w.cell? ⟨g, 0 + (i * 2 + j), none⟩ = ([Value.string (str y.1), Value.int .i64 (y.2 : Int)] : List Value)[j]? := fun j hj => by
      rw [cell_of_row _ _ _ _ _ _ q2, Nat.zero_add, ← Array.getElem?_toList, ← rfL_get l i y j hy hj, ← q6, List.getElem?_take, if_pos (by omega)]
    exact ⟨g, 0, rfl, blk_lt q2, hc 0 (by omega), hc 1 (by omega)⟩
set_option maxRecDepth 100000 in
/-- a string's bytes: the block that holds them -/
theorem conv_blk (w : World) (s : List Int) (hr : Rng s) : ∃ W1 c C m, (convert 9 31 (.string (str s))).run Tryd.prog w = .ok (.slice (some ⟨w.heap.size, 0, none⟩) s.length c) W1 ∧ Below w.heap.size w W1 ∧ W1.heap.size = w.heap.size + 1 ∧ KIs W1 (fun b => b = w.heap.size) (.slice (some ⟨w.heap.size, 0, none⟩) s.length c) s ∧ s.length ≤ c ∧ W1.heap[w.heap.size]? = some (.cells C 5 (m, m + 1)) ∧ s.length ≤ m ∧ ∀ i, i < s.length → C[i]? = some (.int .u8 (s[i]?.getD 0)) := by
 have h := Lib.run_convert_string_bytes (P := Tryd.prog) w 9 31 5 (str s) (u := .string) Tryd.underlying9 Tryd.underlying31 Tryd.underlying5
 rw [str_len] at h
 have hcell : ∀ i, i < s.length → (Lib.bytesWorld w 5 (str s)).cell? ⟨w.heap.size, i, none⟩ = some (.int .u8 (s[i]?.getD 0)) := fun i hi => by
  rw [Lib.bytesWorld_cell _ _ _ _ (by rw [str_len]; exact hi), str_get s i hr hi]
 refine ⟨_, _, _, _, h, ⟨rfl, rfl, rfl, by rw [Lib.bytesWorld_size]; omega, fun k hk => Lib.bytesWorld_at_old _ _ _ _ hk⟩, Lib.bytesWorld_size _ _ _, ⟨⟨_, _, rfl, ⟨grownCap_ge _ _ _ _, fun e => by cases e⟩, fun _ => ⟨w.heap.size, 0, rfl, by rw [Lib.bytesWorld_size]; omega, fun i hi => ?_⟩⟩, fun b o n c e h0 => ?_⟩, grownCap_ge _ _ _ _, Lib.bytesWorld_at_new _ _ _, ?_, fun i hi => ?_⟩
 ·rw [Nat.zero_add]; exact hcell i hi
 ·injection e with e1 e2 e3
  injection e1 with e1
  injection e1 with e1
  exact e1.symm
 ·have hsz : (str s).size = s.length := str_len s
  simp only [Lib.bytesCells]
  simp
  omega
 ·have h1 := cell_of_row _ w.heap.size i _ _ _ (Lib.bytesWorld_at_new w 5 (str s))
  exact h1.symm.trans (hcell i hi)
theorem frozen_low {w : World} {g n m : Nat} {C : Array Value} {T : TypeId} (h : w.heap[g]? = some (.cells C T (m, m + 1))) (hn : n < m) : w.frozen? ⟨g, n, none⟩ = false := by
 unfold World.frozen?
 simp [h]
 omega
end Go.Proofs.YtbmlkocpjboodaaDoor
