/- stage 7: Same of the reference; the law's verify -/
import Derived.Test.YtbmlkocpjboodaaDoorMv19
import Derived.Laws.StructEq
namespace Go.Proofs.YtbmlkocpjboodaaDoor
open Go.RowKit
open Go.Lib (hid)
set_option maxRecDepth 100000 in
theorem run_equalInE (w : World) (x y : List Int × Int) (hx : Rng x.1) (hy : Rng y.1) : (Op.equalIn 10000 45 (.agg #[.string (str x.1), .int .i64 x.2]) (.agg #[.string (str y.1), .int .i64 y.2])).run Tryd.prog w = .ok (decide (x = y)) w := by
 have u2 := Tryd.underlying2
 have u3 := Tryd.underlying9
 have a2 := Tryd.isAgg2
 have a3 := Tryd.isAgg9
 have hS : Tryd.prog.underlying 45 = some (.struct (Tryd.prog.fieldsOf 45)) := by kernel_rfl
 have hp : Tryd.prog.stoodInHeld 45 = false := by kernel_rfl
 have hb := str_beq hx hy
 rw [show (10000 : Nat) = 9999 + 1 from rfl, run_equalIn_agg w 9999 45 _ _ hS hp]
 simp only [Program.fieldsOf, Tryd.underlying45]
 go_simp
 obtain ⟨xs, xn⟩ := x
 obtain ⟨ys, yn⟩ := y
 by_cases h2 : xn = yn <;> by_cases h3 : xs = ys <;> simp [h2, h3]
set_option maxRecDepth 100000 in
theorem exec_neqE {ρ : Operand → Value} {o : Oper} {w : World} (x y : Operand) (U : TypeId) (ho : o.op = .binOp .neq 45 x y U) (a b : List Int × Int) (hx : ρ x = .agg #[.string (str a.1), .int .i64 a.2]) (hy : ρ y = .agg #[.string (str b.1), .int .i64 b.2]) (ga : Rng a.1) (gb : Rng b.1) :
  (execOp ρ o).run Tryd.prog w = .ok (.value (.bool (!decide (a = b)))) w := by
 have h := run_equalInE w a b ga gb
 have hg : Tryd.prog.eqGuardType Tryd.prog.depth 45 = false := by kernel_rfl
 have hgd : ∀ p q : Array Value, (eqGuard .neq 45 x y (.agg p) (.agg q)).run Tryd.prog w = .ok () w := fun p q => by
  unfold eqGuard
  simp [hg]
 unfold execOp
 rw [ho]
 simp only [hx, hy, Sem.run_bind, hgd, Result.andThen_ok, run_neq_struct, h, Sem.run_pure]
set_option maxRecDepth 100000 in
set_option maxHeartbeats 8000000 in
theorem refSame_any (w : World) (va vb : Value) (la lb : List (List Int × Int)) (ha : RfS w va la) (hb : RfS w vb lb) (ga : ∀ x ∈ la, Rng x.1) (gb : ∀ x ∈ lb, Rng x.1) (hla : la.length ≤ 1073741824) :
  Calls Tryd.prog 17 #[va, vb] w fun d w' => d = .returned (.bool (decide (la = lb))) ∧ Below w.heap.size w w' := by
 have HA := hid ha
 have HB := hid hb
 have GA := hid ga
 have GB := hid gb
 obtain ⟨aa, ca, rfl, -⟩ := ha
 obtain ⟨ab, cb, rfl, -⟩ := hb
 by_cases hl : la.length = lb.length
 ·have HL := hid hl
  have hl1 : (la.length : Int) = (lb.length : Int) := by omega
  clear ga gb hl
  generalize hN : la.length = N at *
  have hl2 : lb.length = N := HL.out.symm
  rw [hl2]
  clear hl1
  generalize hQ : decide (la = lb) = Q
  have HQ := hid hQ
  have HN := hid (And.intro hN hl2)
  clear hQ hN hl2 HL
  rw [HN.out.2] at HB
  go_enter Tryd.func17, Tryd.ntmps17
  go_wp2_with fail
  go_loopw [5] (fun iv wr => ∃ (j : Nat), j ≤ N ∧ iv = .int .i64 (j : Int) ∧ (∀ i, i < j → la[i]? = lb[i]?) ∧ Below w.heap.size w wr) (fun iv _ => N - (intOf iv).toNat)
  case atStart => exact ⟨0, Nat.zero_le _, rfl, fun i hi => absurd hi (Nat.not_lt_zero _), Below.refl _ _⟩
  case round =>
   obtain ⟨j, hj, rfl, hso, hbw⟩ := hrel
   by_cases hjl : j < N
   ·have hx : la[j]? = some (la[j]'(by rw [HN.out.1]; exact hjl)) := List.getElem?_eq_getElem _
    have hy : lb[j]? = some (lb[j]'(by rw [HN.out.2]; exact hjl)) := List.getElem?_eq_getElem _
    generalize la[j]'(by rw [HN.out.1]; exact hjl) = x at hx
    generalize lb[j]'(by rw [HN.out.2]; exact hjl) = y at hy
    obtain ⟨a', c', he, hall⟩ := HA.out
    injection he with e1 e0 e2
    clear e0
    subst e1 e2
    obtain ⟨g, o, hag, hgl, hc0, hc1⟩ := hall j x hx
    subst hag
    obtain ⟨a'', c'', he2, hall2⟩ := HB.out
    injection he2 with e1 e0 e2
    clear e0
    subst e1 e2
    obtain ⟨g2, o2, hag2, hgl2, hd0, hd1⟩ := hall2 j y hy
    subst hag2
    have hj0 : (0 : Int) ≤ (j : Int) := by omega
    have hj1 : (j : Int) < (N : Int) := by omega
    have HC := hid (fun u (hu : Below w.heap.size w u) => (show (u.cell? ⟨g, o + j * 2, none⟩ = some (.string (str x.1)) ∧ u.cell? ⟨g, o + j * 2 + 1, none⟩ = some (.int .i64 x.2)) ∧ u.cell? ⟨g2, o2 + j * 2, none⟩ = some (.string (str y.1)) ∧ u.cell? ⟨g2, o2 + j * 2 + 1, none⟩ = some (.int .i64 y.2) from ⟨⟨(World.cell?_of_block (a := ⟨g, o + j * 2, none⟩) (hu.block g hgl)).trans hc0, (World.cell?_of_block (a := ⟨g, o + j * 2 + 1, none⟩) (hu.block g hgl)).trans hc1⟩, (World.cell?_of_block (a := ⟨g2, o2 + j * 2, none⟩) (hu.block g2 hgl2)).trans hd0, (World.cell?_of_block (a := ⟨g2, o2 + j * 2 + 1, none⟩) (hu.block g2 hgl2)).trans hd1⟩))
    have HX := hid (And.intro hjl (And.intro hso (And.intro hx hy)))
    have gx := GA.out x (List.mem_of_getElem? hx)
    have gy := GB.out y (List.mem_of_getElem? hy)
    have HG := hid (And.intro gx gy)
    have hb := hbw.drew
    clear gx gy hso hx hy hjl hj hall hall2 hc0 hc1 hd0 hd1 hgl hgl2 hbw
    go_wp2_with fail
    refine wp_region_held_drew (S := fun u => Below w.heap.size w u) (by kernel_rfl) (hb) (fun hHeld => ?_)
    refine tk (i := 0) (oi := ⟨some 17, .move (.tmp 0), 22, "ref.go:251", #[], none⟩) (v := ?_) (Or.inl ⟨by rfl, ?_⟩) ?_
    rotate_left 1
    ·(intro u hSw; go_simp; try with_reducible rfl)
    try simp only [Act.put, sA, sB, sC]
    refine tk (i := 1) (oi := ⟨some 18, .move (.tmp 5), 3, "ref.go:251", #[], none⟩) (v := ?_) (Or.inl ⟨by rfl, ?_⟩) ?_
    rotate_left 1
    ·(intro u hSw; go_simp; try with_reducible rfl)
    try simp only [Act.put, sA, sB, sC]
    refine tk (i := 2) (oi := ⟨some 19, .indexAddr 22 (.tmp 17) (.tmp 18), 0, "ref.go:251", #[⟨0, .data⟩, ⟨1, .data⟩], none⟩) (v := ?_) (Or.inl ⟨by rfl, ?_⟩) ?_
    rotate_left 1
    ·(intro u hSw; go_simp; try with_reducible rfl)
    try simp only [Act.put, sA, sB, sC]
    refine tk (i := 3) (oi := ⟨some 20, .load 45 (.tmp 19), 45, "ref.go:251", #[⟨2, .data⟩], none⟩) (v := ?_) (Or.inl ⟨by rfl, ?_⟩) ?_
    rotate_left 1
    ·(intro u hSw; have y0 := (HC.out _ hSw).1.1; have y1 := (HC.out _ hSw).1.2; have y2 := (HC.out _ hSw).2.1; have y3 := (HC.out _ hSw).2.2; go_simp; try with_reducible rfl)
    try simp only [Act.put, sA, sB, sC]
    refine tk (i := 4) (oi := ⟨some 21, .move (.tmp 1), 22, "ref.go:251", #[], none⟩) (v := ?_) (Or.inl ⟨by rfl, ?_⟩) ?_
    rotate_left 1
    ·(intro u hSw; go_simp; try with_reducible rfl)
    try simp only [Act.put, sA, sB, sC]
    refine tk (i := 5) (oi := ⟨some 22, .move (.tmp 5), 3, "ref.go:251", #[], none⟩) (v := ?_) (Or.inl ⟨by rfl, ?_⟩) ?_
    rotate_left 1
    ·(intro u hSw; go_simp; try with_reducible rfl)
    try simp only [Act.put, sA, sB, sC]
    refine tk (i := 6) (oi := ⟨some 23, .indexAddr 22 (.tmp 21) (.tmp 22), 0, "ref.go:251", #[⟨4, .data⟩, ⟨5, .data⟩], none⟩) (v := ?_) (Or.inl ⟨by rfl, ?_⟩) ?_
    rotate_left 1
    ·(intro u hSw; go_simp; try with_reducible rfl)
    try simp only [Act.put, sA, sB, sC]
    refine tk (i := 7) (oi := ⟨some 24, .load 45 (.tmp 23), 45, "ref.go:251", #[⟨6, .data⟩], none⟩) (v := ?_) (Or.inl ⟨by rfl, ?_⟩) ?_
    rotate_left 1
    ·(intro u hSw; have y0 := (HC.out _ hSw).1.1; have y1 := (HC.out _ hSw).1.2; have y2 := (HC.out _ hSw).2.1; have y3 := (HC.out _ hSw).2.2; go_simp; try with_reducible rfl)
    try simp only [Act.put, sA, sB, sC]
    refine tk (i := 8) (oi := ⟨some 25, .binOp BinOp.neq 45 (.tmp 20) (.tmp 24) 45, 4, "ref.go:251", #[⟨3, .data⟩, ⟨7, .data⟩], none⟩) (v := .bool (!decide (x = y))) (Or.inl ⟨by rfl, ?_⟩) ?_
    ·intro u hSw
     exact exec_neqE (Operand.tmp 20) (Operand.tmp 24) _ rfl x y rfl rfl HG.out.1 HG.out.2
    try simp only [Act.put, sA, sB, sC]
    refine wpAnyH_done (by kernel_rfl) ?_ _
    clear HC hHeld
    have HBB := hid hb
    clear hb
    by_cases hxy : x = y
    ·have HXY := hid hxy
     have hd : (!decide (x = y)) = false := by rw [decide_eq_true hxy]; rfl
     rw [hd]
     clear hd hxy
     go_wp2_with fail
     go_roundw
     case rel =>
      refine ⟨j + 1, HX.out.1, by go_num, fun i hi => ?_, HBB.out⟩
      by_cases hij : i < j
      ·exact HX.out.2.1 i hij
      ·have : i = j := by omega
       rw [this, HX.out.2.2.1, HX.out.2.2.2, HXY.out]
     case measure => have := HX.out.1; simp [intOf]; omega
    ·have hd : (!decide (x = y)) = true := by rw [decide_eq_false hxy]; rfl
     rw [hd]
     have HF := hid (show Q = false by
      rw [← HQ.out]
      exact decide_eq_false (fun e => hxy (by
       have h1 := HX.out.2.2.1
       rw [e, HX.out.2.2.2] at h1
       injection h1 with h1
       exact h1.symm)))
     clear hd hxy
     go_wp2_with fail
     go_ret
     rw [HF.out]
     exact ⟨rfl, HBB.out⟩
   ·have hj2 : j = N := by omega
    subst hj2
    have HF := hid (show Q = true by
     rw [← HQ.out]
     refine decide_eq_true (List.ext_getElem? (fun i => ?_))
     by_cases hi : i < j
     ·exact hso i hi
     ·rw [List.getElem?_eq_none (by rw [HN.out.1]; omega), List.getElem?_eq_none (by rw [HN.out.2]; omega)])
    have HBB := hid hbw
    clear hso hbw
    go_wp2_with fail
    go_ret
    rw [HF.out]
    exact ⟨rfl, HBB.out⟩
 ·have HF := hid (decide_eq_false (fun e : la = lb => hl (by rw [e])))
  have hl1 : ¬ (la.length : Int) = (lb.length : Int) := by omega
  have hl2 : ¬ la.length = lb.length := hl
  clear hl ga gb
  go_enter Tryd.func17, Tryd.ntmps17
  go_wp2_with fail
  go_ret
  rw [HF.out]
  exact ⟨rfl, Below.refl _ _⟩
end Go.Proofs.YtbmlkocpjboodaaDoor
/- stage 7: the law's verify -/
namespace Go.Proofs.YtbmlkocpjboodaaDoor
open Go.RowKit
open Go.Lib (hid)
end Go.Proofs.YtbmlkocpjboodaaDoor
/- stage 7: MerkleComplete -/
namespace Go.Proofs.YtbmlkocpjboodaaDoor
open Go.RowKit
open Go.Lib (hid)
theorem ino_len : ∀ t : MT, t.ino.length ≤ t.size
 | .nil => Nat.le_refl _
 | .cut _ => Nat.le_refl _
 | .nd k n rk d l r => by
  have h1 := ino_len l
  have h2 := ino_len r
  simp only [MT.ino, MT.size, List.length_append, List.length_cons]
  omega
theorem ino_rng : ∀ t : MT, t.Good → ∀ x ∈ t.ino, Rng x.1
 | .nil, _, x, h => by cases h
 | .cut _, _, x, h => by cases h
 | .nd k n rk d l r, g, x, h => by
  obtain ⟨-, gl, gr, -, hk, -⟩ := g
  unfold MT.ino at h
  rcases List.mem_append.1 h with h | h
  ·exact ino_rng l gl x h
  ·rcases List.mem_cons.1 h with rfl | h
   ·exact hk
   ·exact ino_rng r gr x h
theorem RfO.cgX {w w' : World} {B X : Nat} {v : Value} {l : List (List Int × Nat)} (h : RfO w B v l) (hc : Chg (fun q => q = X) w w') (hX : X < B) : RfO w' B v l := by
 have hlt := h.lt
 refine ⟨h.1, h.2.imp id ?_⟩
 rintro ⟨g, cap, cur, rfl, q1, q2, q3⟩
 exact ⟨g, cap, cur, rfl, q1, (hc.block g (hlt g rfl).2 (by omega)).trans q2, q3⟩
theorem toI_rng {l : List (List Int × Nat)} (h : ∀ x ∈ l, Rng x.1) : ∀ x ∈ l.map toI, Rng x.1 := fun x hx => by
 obtain ⟨y, hy, rfl⟩ := List.mem_map.1 hx
 exact h y hy
end Go.Proofs.YtbmlkocpjboodaaDoor
/- stage 7, plain: how much a proof's bytes can tell -/
namespace Go.Proofs.YtbmlkocpjboodaaDoor
open Go.RowKit
open Go.Lib (hid)
theorem rdEnt_len {l : List Int} {k : List Int} {n : Nat} {r : List Int} (h : rdEnt l = .inr ((k, n), r)) : r.length + 1 ≤ l.length := by
 unfold rdEnt at h
 split at h
 ·cases h
 ·rename_i h1
  split at h
  ·cases h
  ·rename_i h2
   split at h
   ·cases h
   ·rename_i h3
    split at h
    ·cases h
    ·simp only [Sum.inr.injEq, Prod.mk.injEq] at h
     obtain ⟨-, rfl⟩ := h
     simp only [List.length_drop] at *
     omega
theorem rdT_len : ∀ (D : Nat) (l : List Int) (t : MT) (r : List Int), rdT D l = .inr (t, r) → t.size + r.length ≤ l.length
 | 0, _, _, _, h => by cases h
 | _ + 1, [], _, _, h => by cases h
 | D + 1, x :: l, t, r, h => by
  unfold rdT at h
  split at h
  ·simp only [Sum.inr.injEq, Prod.mk.injEq] at h
   obtain ⟨rfl, rfl⟩ := h
   simp only [MT.size, List.length_cons]; omega
  ·split at h
   ·unfold rdP at h
    split at h
    ·cases h
    ·simp only [Sum.inr.injEq, Prod.mk.injEq] at h
     obtain ⟨rfl, rfl⟩ := h
     simp only [MT.size, List.length_cons, List.length_drop]; omega
   ·split at h
    ·unfold rdNd at h
     cases h1 : rdT D l with
     | inl c => rw [h1] at h; cases h
     | inr p =>
      obtain ⟨tl, r1⟩ := p
      have i1 := rdT_len D l tl r1 h1
      rw [h1] at h
      simp only at h
      cases h2 : rdEnt r1 with
      | inl c => rw [h2] at h; cases h
      | inr p2 =>
       obtain ⟨⟨k, n⟩, r2⟩ := p2
       have i2 := rdEnt_len h2
       rw [h2] at h
       simp only at h
       cases h3 : rdT D r2 with
       | inl c => rw [h3] at h; cases h
       | inr p3 =>
        obtain ⟨tr, r3⟩ := p3
        have i3 := rdT_len D r2 tr r3 h3
        rw [h3] at h
        simp only [Sum.inr.injEq, Prod.mk.injEq] at h
        obtain ⟨rfl, rfl⟩ := h
        simp only [mkN, MT.size, List.length_cons]; omega
    ·cases h
theorem rdAll_len {l : List Int} {t : MT} (h : rdAll l = .inr t) : t.size ≤ l.length := by
  unfold rdAll at h
  cases h1 : rdT 4097 l with
  | inl c => rw [h1] at h; cases h
  | inr p =>
    obtain ⟨y, r⟩ := p
    have := rdT_len 4097 l y r h1
    rw [h1] at h
    simp only at h
    split at h
    · injection h with h
      subst h
      omega
    · cases h
theorem verO_inr {root fr to : List Int} {e : Bool} {pf : List Int} {es : List (List Int × Nat)} (h : verO root fr to e pf = .inr es) : ∃ y, rdAll pf = .inr y ∧ es = y.ents fr to e := by
 unfold verO at h
 cases hr : rdAll pf with
 | inl c => rw [hr] at h; cases h
 | inr y =>
  rw [hr] at h
  have h' : (if y.ascends = false then (.inl 9 : Int ⊕ List (List Int × Nat)) else if y.tells fr to e = false then .inl 50 else if y.dg = root then .inr (y.ents fr to e) else .inl 51) = .inr es := h
  split at h'
  ·cases h'
  ·split at h'
   ·cases h'
   ·split at h'
    ·injection h' with h'
     exact ⟨y, rfl, h'.symm⟩
    ·cases h'
end Go.Proofs.YtbmlkocpjboodaaDoor
/- stage 7: Empty and number of the reference -/
namespace Go.Proofs.YtbmlkocpjboodaaDoor
open Go.RowKit
open Go.Lib (hid)
set_option maxRecDepth 100000 in
set_option maxHeartbeats 4000000 in
theorem refEmpty_any (w : World) :
  Calls Tryd.prog 35 #[] w fun e w' => ∃ v', e = .returned v' ∧ Bs w' v' txt0 ∧ Below w.heap.size w w' := by
 have kc := fun (w : World) (C : Array Value) (n c : Nat) => Lib.run_convert_bytes_const (P := Tryd.prog) w 31 5 C n c Tryd.underlying31 Tryd.underlying5
 go_enter Tryd.func35, Tryd.ntmps35
 go_wp2_with fail
 have hb0 : Bs (w.alloc (.cells #[.int .u8 101, .int .u8 109, .int .u8 112, .int .u8 116, .int .u8 121] 5 (5, 6))) (.slice (some ⟨w.heap.size, 0, none⟩) 5 5) [101, 109, 112, 116, 121] := lit_bs w 5 [101, 109, 112, 116, 121] (5, 6) 5 5 rfl (Nat.le_refl _)
 have hs1 : (w.alloc (.cells #[.int .u8 101, .int .u8 109, .int .u8 112, .int .u8 116, .int .u8 121] 5 (5, 6))).heap.size = w.heap.size + 1 := by simp
 have hb1 : Below w.heap.size w (w.alloc (.cells #[.int .u8 101, .int .u8 109, .int .u8 112, .int .u8 116, .int .u8 121] 5 (5, 6))) := (Below.refl _ _).alloc (Nat.le_refl _) _
 generalize w.alloc (.cells #[.int .u8 101, .int .u8 109, .int .u8 112, .int .u8 116, .int .u8 121] 5 (5, 6)) = w1 at *
 have hps := pss_lit w1 31 (0, 0) [.slice (some ⟨w.heap.size, 0, none⟩) 5 5] [[101, 109, 112, 116, 121]] 1 (w.heap.size + 1) rfl hs1 rfl rfl (fun i x hi => by
  cases i with
  | zero => injection hi with hi; subst hi; exact hb0
  | succ i => cases hi)
 refine (refJoin_any _ _ _ hps (by decide)).mono ?_
 rintro e w2 ⟨v2, rfl, hk, hb2⟩
 have hbs := Bs_of_own hk
 obtain ⟨a2, c2, rfl⟩ := ownsRow_slc hk
 have hlen : jlen [[101, 109, 112, 116, 121]] = 13 := by decide
 have hb4 : Below w1.heap.size w1 (w1.alloc (.cells #[.slice (some ⟨w.heap.size, 0, none⟩) 5 5] 31)) := (Below.refl _ _).alloc (Nat.le_refl _) _
 have hb3 := hb1.trans ((hb4.trans (hb2.mono hb4.size)).mono (by omega))
 have HK := hid (show Bs w2 _ txt0 from hbs)
 have HB := hid hb3
 clear hk hb0 hb1 hb2 hb3 hb4 hps hs1 hbs hlen
 go_wp2_with fail
 go_ret
 exact ⟨_, rfl, HK.out, HB.out⟩
set_option maxRecDepth 100000 in
set_option maxHeartbeats 4000000 in
theorem refNum7_any (k : Nat) (w : World) (hk : k < 18446744073709551616) :
  Calls Tryd.prog 39 #[.int .u64 k] w fun e w' => ∃ v', e = .returned v' ∧ w'.ownsRow w.heap.size 5 1 v' 8 ((be8 k).map (Value.int .u8)) ∧ Below w.heap.size w w' := by
 obtain ⟨i0, hi, hz0, hz1, hz2⟩ := info_parts info5
 have HK := hid hk
 clear hk
 go_enter Tryd.func39, Tryd.ntmps39
 go_wp2_with fail
 go_loopw [3, 4] (fun v0 s wr => ∃ j : Nat, j ≤ 8 ∧ s = .int .i64 (j : Int) ∧ wr.ownsRow w.heap.size 5 1 v0 j (((be8 k).take j).map (Value.int .u8)) ∧ Below w.heap.size w wr)
  (fun _ s _ => (8 - intOf s).toNat)
 case atStart => exact ⟨0, by omega, by simp, by simpa using World.ownsRow_lit (base := w.heap.size) (size := 1) (e := 5) w #[] 0 (Nat.le_refl _) (Nat.zero_le _) rfl, (Below.refl _ _).alloc (Nat.le_refl _) _⟩
 case round =>
  obtain ⟨j, hj, rfl, hown, hbw⟩ := hrel
  have hsz := hbw.size
  by_cases hlt : j < 8
  ·have hb := be8_take_succ k j hlt
   have HB := hid hb
   have HBW := hid hbw
   have HOW := hid hown
   clear hb hbw hown
   have e0 : IntKind.i64.wrap (8 * (j : Int)) = 8 * (j : Int) := IntWalk.i64_in _ (by omega)
   have e1 : IntKind.i64.wrap (56 - 8 * (j : Int)) = 56 - 8 * (j : Int) := IntWalk.i64_in _ (by omega)
   have e2 : 0 ≤ 56 - 8 * (j : Int) := by omega
   have e3 : (56 - 8 * (j : Int)).toNat = 56 - 8 * j := by omega
   go_wp2_with (at_builtin; refine wpList_append_own _ rfl (Operand.tmp 10) (Operand.tmp 17) 31 rfl w.heap.size 5 i0 (.int .u8 0) 1 1 Tryd.underlying31 hi hz0 hz1 hz2 rfl (by decide) _ _ _ rfl (HOW.out.alloc _) ⟨wr.heap.size, 0, none⟩ 1 1 [.int .u8 (beAt k j)] rfl rfl (cell_one_new _ _ _) (by intro u hu; simp at hu; subst hu; rfl) (by unfold maxLen; omega) (by omega) (by simp; omega) ?_; intro v' w1 hown' hgrow _; have HO1 := hid hown'; have HG1 := hid hgrow; clear hown' hgrow)
   go_roundw
   case rel => exact ⟨j + 1, by omega, by go_num, by rw [HB.out]; simpa [Nat.add_assoc] using HO1.out, (HBW.out.alloc (by omega) _).grown HG1.out (by simp; omega) (fun g hg => (HOW.out.lt g hg).1)⟩
   case measure => simp [intOf]; omega
  ·have hj8 : j = 8 := by omega
   subst hj8
   have e8 : (be8 k).take 8 = be8 k := List.take_of_length_le (by rw [be8_len]; omega)
   rw [e8] at hown
   have HBW := hid hbw
   have HOW := hid hown
   clear hbw hown e8 hlt
   go_wp2_with fail
   go_ret
   exact ⟨_, rfl, HOW.out, HBW.out⟩
end Go.Proofs.YtbmlkocpjboodaaDoor
/- stage 7: top of the reference -/
namespace Go.Proofs.YtbmlkocpjboodaaDoor
open Go.RowKit
open Go.Lib (hid)
theorem und32 : Tryd.prog.underlying 35 = some (.array (Tryd.prog.arrayLen 35) (Tryd.prog.elem 35)) := by kernel_rfl
theorem len32 : Tryd.prog.arrayLen 35 = 32 := by kernel_rfl
theorem size32 (u : World) : (sizeOf (Tryd.prog.elem 35)).run Tryd.prog u = .ok 1 u := by kernel_rfl
theorem slice32_re (u : World) (X : Nat) : (Instr.sliceAt 35 (.pointer (some ⟨X, 0, none⟩)) none none none).run Tryd.prog u = .ok (.slice (some ⟨X, 0, none⟩) 32 32) u := by
 rw [run_sliceAt_array_all u 35 ⟨X, 0, none⟩ und32, size32]
 simp [Result.andThen, slicedAt, len32, Addr.add_mid]
theorem info_re32 (l : List Int) (h : l.length = 32) : (Tryd.prog.info? 35).map (·.size) = some (ArrU8 l).size := by rw [sz32 l h]; kernel_rfl
end Go.Proofs.YtbmlkocpjboodaaDoor
