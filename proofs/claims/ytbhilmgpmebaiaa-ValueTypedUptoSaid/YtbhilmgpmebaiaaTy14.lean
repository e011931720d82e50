/-
  ValueTyped: of any operation and any two values (of bulk at most 1048576 together) what is well typed never errs by its kind: the law says true and leaves its arguments as they were. Condition: the second form's bound.
-/
import Derived.Test.YtbhilmgpmebaiaaTy00
import Derived.Test.YtbhilmgpmebaiaaTy01
import Derived.Test.YtbhilmgpmebaiaaTy02
import Derived.Test.YtbhilmgpmebaiaaTy03
import Derived.Test.YtbhilmgpmebaiaaTy07
import Derived.Test.YtbhilmgpmebaiaaTy10
import Derived.Test.YtbhilmgpmebaiaaTy11
import Derived.Test.YtbhilmgpmebaiaaTy13
import Derived.WalkKit
import Derived.ProofKit
import Derived.OpenShut
namespace Go.Proofs.Ytbhilmgpmebaiaa
open Go.RowKit
end Go.Proofs.Ytbhilmgpmebaiaa
namespace Go.Proofs.Ytbhilmgpmebaiaa
open Go.RowKit
end Go.Proofs.Ytbhilmgpmebaiaa
namespace Go.Proofs.Ytbhilmgpmebaiaa
open Go.RowKit
attribute [local go_sem ↓] eql32_eq neq32_eq
end Go.Proofs.Ytbhilmgpmebaiaa
namespace Go.Proofs.Ytbhilmgpmebaiaa
open Go.RowKit
theorem calK_err (op x y : Int) : (calK op x y).2 = 0 ∨ (calK op x y).2 = 30 ∨ (calK op x y).2 = 31 := by
  simp only [calK, fit, dvd, rmd]
  repeat' split
  all_goals (first | (left; rfl) | (right; left; rfl) | (right; right; rfl) | skip)
/-- what the law asks of a result, in plain words -/
def TyP (op : Int) (r : Int × Int) (d : Val × Int) : Prop :=
  (21 ≤ op ∧ op ≤ 25 → d.2 = 1) ∧ (¬ (21 ≤ op ∧ op ≤ 25) → (r.2 ≠ 0 → d.2 = r.2) ∧ (r.2 = 0 → d.2 ≠ 0 → (d.2 = 31 ∨ d.2 = 30) ∧ d.1 = nulV) ∧ (r.2 = 0 → d.2 = 0 → (d.1.k = r.1 ∨ d.1.k = 0) ∧ mayV d.1 = true ∧ d.1.s = []))
theorem isK_nrm {A : Val} (h : Nrm A) : isK A.k = true := decide_eq_true (by rcases h.2 with h | h | h | h <;> omega)
theorem may_nul : mayV nulV = true := by decide
theorem may_num (n : Int) : mayV (numV n) = true := by
  have : normV (numV n) = numV n := rfl
  show (decide (normV (numV n) = numV n) && decide ((numV n).s.length ≤ 64)) = true
  rw [decide_eq_true this]; rfl
theorem may_tru (b : Bool) : mayV (truV b) = true := by cases b <;> decide
theorem typed_plain (op : Int) (A B : Val) (hA : Nrm A) (hB : Nrm B) : TyP op (resR op A.k (if oneOf op = true then A.k else B.k)) (doR op A (if oneOf op = true then A else B)) := by
  by_cases h21 : 21 ≤ op ∧ op ≤ 25
  · refine ⟨fun _ => ?_, fun h => absurd h21 h⟩
    rw [doR_other _ _ (by omega)]
  refine ⟨fun h => absurd h h21, fun _ => ?_⟩
  obtain ⟨B', hB', hBn, hBk⟩ : ∃ B', (if oneOf op = true then A else B) = B' ∧ Nrm B' ∧ (if oneOf op = true then A.k else B.k) = B'.k := by
    cases oneOf op
    · exact ⟨B, rfl, hB, rfl⟩
    · exact ⟨A, rfl, hA, rfl⟩
  rw [hB', hBk]
  have ka := isK_nrm hA
  have kb := isK_nrm hBn
  by_cases h4 : 4 ≤ op ∧ op ≤ 9
  · have e1 : resR op A.k B'.k = if ok2 1 A.k B'.k = true then (1, 0) else (0, 22) := by
      rw [resR, if_neg (by omega), ka, kb, if_neg (by decide), if_pos (.inl h4)]
    have e2 : doR op A B' = ofR A B' (calK op A.n B'.n) := by rw [doR, if_pos h4]
    rw [e1, e2, ofR]
    cases hk : ok2 1 A.k B'.k with
    | false =>
      rw [if_pos (show (okK 1 A.k && okK 1 B'.k) = false from hk)]
      exact ⟨fun _ => rfl, fun h => absurd h (by decide), fun h => absurd h (by decide)⟩
    | true =>
      rw [if_neg (show ¬ (okK 1 A.k && okK 1 B'.k) = false from by rw [show (okK 1 A.k && okK 1 B'.k) = true from hk]; decide)]
      refine ⟨fun h => absurd rfl h, fun _ => ?_, fun _ => ?_⟩
      · by_cases hn : A = nulV ∨ B' = nulV
        · rw [if_pos hn]; exact fun h => absurd rfl h
        · rw [if_neg hn]
          by_cases hq : (calK op A.n B'.n).2 ≠ 0
          · rw [if_pos hq]
            exact fun _ => ⟨by have := calK_err op A.n B'.n; simp only; omega, rfl⟩
          · rw [if_neg hq]; exact fun h => absurd rfl h
      · by_cases hn : A = nulV ∨ B' = nulV
        · rw [if_pos hn]; exact fun _ => ⟨.inr rfl, may_nul, rfl⟩
        · rw [if_neg hn]
          by_cases hq : (calK op A.n B'.n).2 ≠ 0
          · rw [if_pos hq]; exact fun h => absurd h hq
          · rw [if_neg hq]; exact fun _ => ⟨.inl rfl, may_num _, rfl⟩
  by_cases h10 : 10 ≤ op ∧ op ≤ 15
  · have e1 : resR op A.k B'.k = if smK A.k B'.k = true then (3, 0) else (0, 22) := by
      rw [resR, if_neg (by omega), ka, kb, if_neg (by decide), if_neg (by omega), if_pos h10]
    have e2 : doR op A B' = ofK A B' (holdK op (ordV A B')) := by rw [doR, if_neg h4, if_pos h10]
    rw [e1, e2, ofK]
    cases hk : smK A.k B'.k with
    | false => exact ⟨fun _ => rfl, fun h => absurd h (by decide), fun h => absurd h (by decide)⟩
    | true =>
      rw [if_pos rfl, if_neg (by decide)]
      by_cases hn : A = nulV ∨ B' = nulV
      · rw [if_pos hn]; exact ⟨fun h => absurd rfl h, fun _ h => absurd rfl h, fun _ _ => ⟨.inr rfl, may_nul, rfl⟩⟩
      · rw [if_neg hn]; exact ⟨fun h => absurd rfl h, fun _ h => absurd rfl h, fun _ _ => ⟨.inl rfl, may_tru _, rfl⟩⟩
  by_cases h16 : op = 16 ∨ op = 17 ∨ op = 18
  · have e1 : resR op A.k B'.k = if ok2 3 A.k B'.k = true then (3, 0) else (0, 22) := by
      rw [resR, if_neg (by omega), ka, kb, if_neg (by decide), if_neg (by omega), if_neg h10, if_pos h16]
    rw [e1]
    by_cases h3 : op = 16
    · subst h3
      have hBA : B' = A := by rw [← hB']; rfl
      subst hBA
      have e2 : doR 16 B' B' = notV B' := rfl
      rw [e2, notV, ok2, Bool.and_self]
      cases hk : okK 3 B'.k with
      | false => exact ⟨fun _ => rfl, fun h => absurd h (by decide), fun h => absurd h (by decide)⟩
      | true =>
        rw [if_pos rfl, if_neg (by decide)]
        by_cases hn : B' = nulV
        · rw [if_pos hn]; exact ⟨fun h => absurd rfl h, fun _ h => absurd rfl h, fun _ _ => ⟨.inr rfl, may_nul, rfl⟩⟩
        · rw [if_neg hn]; exact ⟨fun h => absurd rfl h, fun _ h => absurd rfl h, fun _ _ => ⟨.inl rfl, may_tru _, rfl⟩⟩
    · obtain ⟨b, e2⟩ : ∃ b, doR op A B' = decV b A B' := by
        rcases h16 with h | h | h
        · exact absurd h h3
        · subst h; exact ⟨false, rfl⟩
        · subst h; exact ⟨true, rfl⟩
      rw [e2, decV, ok2]
      cases hk : (okK 3 A.k && okK 3 B'.k) with
      | false => exact ⟨fun _ => rfl, fun h => absurd h (by decide), fun h => absurd h (by decide)⟩
      | true =>
        rw [if_pos rfl, if_neg (by decide)]
        by_cases hd : A = truV b ∨ B' = truV b
        · rw [if_pos hd]; exact ⟨fun h => absurd rfl h, fun _ h => absurd rfl h, fun _ _ => ⟨.inl rfl, may_tru _, rfl⟩⟩
        rw [if_neg hd]
        by_cases hn : A = nulV ∨ B' = nulV
        · rw [if_pos hn]; exact ⟨fun h => absurd rfl h, fun _ h => absurd rfl h, fun _ _ => ⟨.inr rfl, may_nul, rfl⟩⟩
        · rw [if_neg hn]; exact ⟨fun h => absurd rfl h, fun _ h => absurd rfl h, fun _ _ => ⟨.inl rfl, may_tru _, rfl⟩⟩
  by_cases h19 : op = 19 ∨ op = 20
  · have e1 : resR op A.k B'.k = (3, 0) := by
      rw [resR, if_neg (by omega), ka, kb, if_neg (by decide), if_neg (by omega), if_neg h10, if_neg h16, if_pos h19]
    obtain ⟨b, e2⟩ : ∃ b, doR op A B' = testV A b := by
      rcases h19 with h | h
      · subst h; exact ⟨true, rfl⟩
      · subst h; exact ⟨false, rfl⟩
    rw [e1, e2]
    exact ⟨fun h => absurd rfl h, fun _ h => absurd rfl h, fun _ _ => ⟨.inl rfl, may_tru _, rfl⟩⟩
  · have e1 : (resR op A.k B'.k).2 = 1 := by
      rw [resR, if_neg (by omega), ka, kb, if_neg (by decide), if_neg (by omega), if_neg h10, if_neg h16, if_neg h19, if_neg (by omega), if_neg (by omega)]
    rw [doR_other _ _ (by omega), e1]
    exact ⟨fun _ => rfl, fun h => absurd h (by decide), fun h => absurd h (by decide)⟩
end Go.Proofs.Ytbhilmgpmebaiaa
namespace Go.Proofs.Ytbhilmgpmebaiaa
open Go.RowKit
attribute [local go_sem ↓] eql32_eq neq32_eq
set_option maxRecDepth 100000 in
set_option maxHeartbeats 3200000 in
theorem typed_reg (op : Int) (a b : Val) (w u0 : World) (hT : Two w u0 a b) {Q : Exit → Act → World → Prop}
    (h : ∀ u, Two w u (normV a) (normV b) → Q .normal ⟨#[.int .i64 op, .agg #[.int .i64 a.k, .int .i64 a.n, .string (str a.s)], .agg #[.int .i64 b.k, .int .i64 b.n, .string (str b.s)], undef, .pointer (some ⟨w.heap.size, 0, none⟩), .pointer (some ⟨w.heap.size + 1, 0, none⟩), .bool false, undef, undef, undef, undef, .bool true, .bool false, .agg #[.int .i64 a.k, .int .i64 a.n, .string (str a.s)], .agg #[.int .i64 (normV a).k, .int .i64 (normV a).n, .string (str (normV a).s)], .agg #[.int .i64 b.k, .int .i64 b.n, .string (str b.s)], .agg #[.int .i64 (normV b).k, .int .i64 (normV b).n, .string (str (normV b).s)], undef, undef, undef, undef, undef, undef, undef, undef, undef, undef, undef, undef, undef, undef, undef, undef, undef, undef, undef, undef, undef, undef, undef, undef, undef, undef, undef, undef, undef, undef, undef, undef, undef, undef, undef, undef, undef, undef, undef, undef, undef, undef, undef, undef, undef, undef, undef, undef, undef, undef, undef, undef, undef, undef, undef, undef, undef, undef, undef, undef, undef, undef, undef, undef], []⟩ u) :
    Code.wp Try.prog (.region 3 #[({ dst := some 13, op := Op.load 23 (Operand.tmp 4), type := 23, pos := "law.go:75", after := #[], guard := none } : Oper), ({ dst := some 14, op := Op.call { callee := Callee.value (Operand.func 26), args := #[Operand.tmp 13], argTypes := #[23] }, type := 23, pos := "law.go:75", after := #[{ on := 0, ground := Ground.data }], guard := none } : Oper), ({ dst := some 15, op := Op.load 23 (Operand.tmp 5), type := 23, pos := "law.go:75", after := #[], guard := none } : Oper), ({ dst := some 16, op := Op.call { callee := Callee.value (Operand.func 26), args := #[Operand.tmp 15], argTypes := #[23] }, type := 23, pos := "law.go:75", after := #[{ on := 2, ground := Ground.data }, { on := 1, ground := Ground.chain }], guard := none } : Oper), ({ dst := none, op := Op.store 23 (Operand.tmp 4) (Operand.tmp 14), type := 0, pos := "law.go:75", after := #[{ on := 1, ground := Ground.data }, { on := 3, ground := Ground.chain }, { on := 0, ground := Ground.phase }, { on := 1, ground := Ground.phase }, { on := 2, ground := Ground.textOnly Departure.lateStores }, { on := 3, ground := Ground.textOnly Departure.lateStoresUnsure }], guard := none } : Oper), ({ dst := none, op := Op.store 23 (Operand.tmp 5) (Operand.tmp 16), type := 0, pos := "law.go:75", after := #[{ on := 3, ground := Ground.data }, { on := 4, ground := Ground.chain }, { on := 0, ground := Ground.phase }, { on := 1, ground := Ground.phase }, { on := 2, ground := Ground.phase }, { on := 3, ground := Ground.phase }, { on := 4, ground := Ground.phase }], guard := none } : Oper)] true) Q ⟨#[.int .i64 op, .agg #[.int .i64 a.k, .int .i64 a.n, .string (str a.s)], .agg #[.int .i64 b.k, .int .i64 b.n, .string (str b.s)], undef, .pointer (some ⟨w.heap.size, 0, none⟩), .pointer (some ⟨w.heap.size + 1, 0, none⟩), .bool false, undef, undef, undef, undef, .bool true, .bool false, undef, undef, undef, undef, undef, undef, undef, undef, undef, undef, undef, undef, undef, undef, undef, undef, undef, undef, undef, undef, undef, undef, undef, undef, undef, undef, undef, undef, undef, undef, undef, undef, undef, undef, undef, undef, undef, undef, undef, undef, undef, undef, undef, undef, undef, undef, undef, undef, undef, undef, undef, undef, undef, undef, undef, undef, undef, undef, undef, undef, undef, undef, undef, undef, undef, undef, undef, undef], []⟩ u0 := by
  dsimp only at h ⊢
  have HN := Lib.hid h
  clear h
  obtain ⟨r0, r1, r2⟩ := bx_cells hT.1
  obtain ⟨s0, s1, s2⟩ := bx_cells hT.2.1
  replace hT := hT.drew
  refine wp_region_held_drew (S := fun u => Two w u a b ∨ Two w u (normV a) b ∨ Two w u (normV a) (normV b)) (by kernel_rfl) ((Or.inl hT)) (fun hHeld => ?_)
  refine wpAnyH_ready (rs := [0, 2]) (by kernel_rfl) (by simp) ?_
  refine (AllReadyH.cons (o := ({ dst := some 13, op := Op.load 23 (Operand.tmp 4), type := 23, pos := "law.go:75", after := #[], guard := none } : Oper)) rfl (fun K hK => ?_) (AllReadyH.cons (o := ({ dst := some 15, op := Op.load 23 (Operand.tmp 5), type := 23, pos := "law.go:75", after := #[], guard := none } : Oper)) rfl (fun K hK => ?_) AllReadyH.nil))
  · obtain ⟨p0, p1, p2⟩ := bx_cells hT.1
    go_simp
    refine hK.out _ _ (Or.inl hT) (fun hHeld => ?_)
    clear hK K
    try simp only [Act.put, List.setIfInBounds_toArray, List.set_cons_zero, List.set_cons_succ]
    refine wpAnyH_ready (rs := [1, 2]) (by kernel_rfl) (by simp) ?_
    refine (AllReadyH.cons (o := ({ dst := some 14, op := Op.call { callee := Callee.value (Operand.func 26), args := #[Operand.tmp 13], argTypes := #[23] }, type := 23, pos := "law.go:75", after := #[{ on := 0, ground := Ground.data }], guard := none } : Oper)) rfl (fun K hK => ?_) (AllReadyH.cons (o := ({ dst := some 15, op := Op.load 23 (Operand.tmp 5), type := 23, pos := "law.go:75", after := #[], guard := none } : Oper)) rfl (fun K hK => ?_) AllReadyH.nil))
    · go_simp
      go_at_call 26
      refine (rnorm_any a _).mono ?_
      rintro e w' ⟨rfl, hb⟩
      replace hT := hT.below hb
      go_wp2_with fail
      refine hK.out _ _ (Or.inl hT) (fun hHeld => ?_)
      clear hK K
      try simp only [Act.put, List.setIfInBounds_toArray, List.set_cons_zero, List.set_cons_succ]
      refine wpAnyH_ready (rs := [2]) (by kernel_rfl) (by simp) ?_
      refine (AllReadyH.cons (o := ({ dst := some 15, op := Op.load 23 (Operand.tmp 5), type := 23, pos := "law.go:75", after := #[], guard := none } : Oper)) rfl (fun K hK => ?_) AllReadyH.nil)
      obtain ⟨q0, q1, q2⟩ := bx_cells hT.2.1
      go_simp
      refine hK.out _ _ (Or.inl hT) (fun hHeld => ?_)
      clear hK K
      try simp only [Act.put, List.setIfInBounds_toArray, List.set_cons_zero, List.set_cons_succ]
      refine wpAnyH_ready (rs := [3]) (by kernel_rfl) (by simp) ?_
      refine (AllReadyH.cons (o := ({ dst := some 16, op := Op.call { callee := Callee.value (Operand.func 26), args := #[Operand.tmp 15], argTypes := #[23] }, type := 23, pos := "law.go:75", after := #[{ on := 2, ground := Ground.data }, { on := 1, ground := Ground.chain }], guard := none } : Oper)) rfl (fun K hK => ?_) AllReadyH.nil)
      go_simp
      go_at_call 26
      refine (rnorm_any b _).mono ?_
      rintro e w' ⟨rfl, hb⟩
      replace hT := hT.below hb
      go_wp2_with fail
      refine hK.out _ _ (Or.inl hT) (fun hHeld => ?_)
      clear hK K
      try simp only [Act.put, List.setIfInBounds_toArray, List.set_cons_zero, List.set_cons_succ]
      refine wpAnyH_ready (rs := [4]) (by kernel_rfl) (by simp) ?_
      refine (AllReadyH.cons (o := ({ dst := none, op := Op.store 23 (Operand.tmp 4) (Operand.tmp 14), type := 0, pos := "law.go:75", after := #[{ on := 1, ground := Ground.data }, { on := 3, ground := Ground.chain }, { on := 0, ground := Ground.phase }, { on := 1, ground := Ground.phase }, { on := 2, ground := Ground.textOnly Departure.lateStores }, { on := 3, ground := Ground.textOnly Departure.lateStoresUnsure }], guard := none } : Oper)) rfl (fun K hK => ?_) AllReadyH.nil)
      obtain ⟨p0, p1, p2⟩ := bx_cells hT.1
      obtain ⟨f0, f1, f2⟩ := bx_free hT.1
      replace hT := hT.set1 (normV a)
      go_simp
      refine hK.out _ _ (Or.inr (Or.inl hT)) (fun hHeld => ?_)
      clear hK K
      try simp only [Act.put]
      refine wpAnyH_ready (rs := [5]) (by kernel_rfl) (by simp) ?_
      refine (AllReadyH.cons (o := ({ dst := none, op := Op.store 23 (Operand.tmp 5) (Operand.tmp 16), type := 0, pos := "law.go:75", after := #[{ on := 3, ground := Ground.data }, { on := 4, ground := Ground.chain }, { on := 0, ground := Ground.phase }, { on := 1, ground := Ground.phase }, { on := 2, ground := Ground.phase }, { on := 3, ground := Ground.phase }, { on := 4, ground := Ground.phase }], guard := none } : Oper)) rfl (fun K hK => ?_) AllReadyH.nil)
      obtain ⟨q0, q1, q2⟩ := bx_cells hT.2.1
      obtain ⟨f0, f1, f2⟩ := bx_free hT.2.1
      replace hT := hT.set2 (normV b)
      go_simp
      refine hK.out _ _ (Or.inr (Or.inr hT)) (fun hHeld => ?_)
      clear hK K
      try simp only [Act.put]
      refine wpAnyH_done (by kernel_rfl) ?_ _
      exact HN.out _ hT
    · obtain ⟨q0, q1, q2⟩ := bx_cells hT.2.1
      go_simp
      refine hK.out _ _ (Or.inl hT) (fun hHeld => ?_)
      clear hK K
      try simp only [Act.put, List.setIfInBounds_toArray, List.set_cons_zero, List.set_cons_succ]
      refine wpAnyH_ready (rs := [1]) (by kernel_rfl) (by simp) ?_
      refine (AllReadyH.cons (o := ({ dst := some 14, op := Op.call { callee := Callee.value (Operand.func 26), args := #[Operand.tmp 13], argTypes := #[23] }, type := 23, pos := "law.go:75", after := #[{ on := 0, ground := Ground.data }], guard := none } : Oper)) rfl (fun K hK => ?_) AllReadyH.nil)
      go_simp
      go_at_call 26
      refine (rnorm_any a _).mono ?_
      rintro e w' ⟨rfl, hb⟩
      replace hT := hT.below hb
      go_wp2_with fail
      refine hK.out _ _ (Or.inl hT) (fun hHeld => ?_)
      clear hK K
      try simp only [Act.put, List.setIfInBounds_toArray, List.set_cons_zero, List.set_cons_succ]
      refine wpAnyH_ready (rs := [3]) (by kernel_rfl) (by simp) ?_
      refine (AllReadyH.cons (o := ({ dst := some 16, op := Op.call { callee := Callee.value (Operand.func 26), args := #[Operand.tmp 15], argTypes := #[23] }, type := 23, pos := "law.go:75", after := #[{ on := 2, ground := Ground.data }, { on := 1, ground := Ground.chain }], guard := none } : Oper)) rfl (fun K hK => ?_) AllReadyH.nil)
      go_simp
      go_at_call 26
      refine (rnorm_any b _).mono ?_
      rintro e w' ⟨rfl, hb⟩
      replace hT := hT.below hb
      go_wp2_with fail
      refine hK.out _ _ (Or.inl hT) (fun hHeld => ?_)
      clear hK K
      try simp only [Act.put, List.setIfInBounds_toArray, List.set_cons_zero, List.set_cons_succ]
      refine wpAnyH_ready (rs := [4]) (by kernel_rfl) (by simp) ?_
      refine (AllReadyH.cons (o := ({ dst := none, op := Op.store 23 (Operand.tmp 4) (Operand.tmp 14), type := 0, pos := "law.go:75", after := #[{ on := 1, ground := Ground.data }, { on := 3, ground := Ground.chain }, { on := 0, ground := Ground.phase }, { on := 1, ground := Ground.phase }, { on := 2, ground := Ground.textOnly Departure.lateStores }, { on := 3, ground := Ground.textOnly Departure.lateStoresUnsure }], guard := none } : Oper)) rfl (fun K hK => ?_) AllReadyH.nil)
      obtain ⟨p0, p1, p2⟩ := bx_cells hT.1
      obtain ⟨f0, f1, f2⟩ := bx_free hT.1
      replace hT := hT.set1 (normV a)
      go_simp
      refine hK.out _ _ (Or.inr (Or.inl hT)) (fun hHeld => ?_)
      clear hK K
      try simp only [Act.put]
      refine wpAnyH_ready (rs := [5]) (by kernel_rfl) (by simp) ?_
      refine (AllReadyH.cons (o := ({ dst := none, op := Op.store 23 (Operand.tmp 5) (Operand.tmp 16), type := 0, pos := "law.go:75", after := #[{ on := 3, ground := Ground.data }, { on := 4, ground := Ground.chain }, { on := 0, ground := Ground.phase }, { on := 1, ground := Ground.phase }, { on := 2, ground := Ground.phase }, { on := 3, ground := Ground.phase }, { on := 4, ground := Ground.phase }], guard := none } : Oper)) rfl (fun K hK => ?_) AllReadyH.nil)
      obtain ⟨q0, q1, q2⟩ := bx_cells hT.2.1
      obtain ⟨f0, f1, f2⟩ := bx_free hT.2.1
      replace hT := hT.set2 (normV b)
      go_simp
      refine hK.out _ _ (Or.inr (Or.inr hT)) (fun hHeld => ?_)
      clear hK K
      try simp only [Act.put]
      refine wpAnyH_done (by kernel_rfl) ?_ _
      exact HN.out _ hT
  · obtain ⟨q0, q1, q2⟩ := bx_cells hT.2.1
    go_simp
    refine hK.out _ _ (Or.inl hT) (fun hHeld => ?_)
    clear hK K
    try simp only [Act.put, List.setIfInBounds_toArray, List.set_cons_zero, List.set_cons_succ]
    refine wpAnyH_ready (rs := [0]) (by kernel_rfl) (by simp) ?_
    refine (AllReadyH.cons (o := ({ dst := some 13, op := Op.load 23 (Operand.tmp 4), type := 23, pos := "law.go:75", after := #[], guard := none } : Oper)) rfl (fun K hK => ?_) AllReadyH.nil)
    obtain ⟨p0, p1, p2⟩ := bx_cells hT.1
    go_simp
    refine hK.out _ _ (Or.inl hT) (fun hHeld => ?_)
    clear hK K
    try simp only [Act.put, List.setIfInBounds_toArray, List.set_cons_zero, List.set_cons_succ]
    refine wpAnyH_ready (rs := [1]) (by kernel_rfl) (by simp) ?_
    refine (AllReadyH.cons (o := ({ dst := some 14, op := Op.call { callee := Callee.value (Operand.func 26), args := #[Operand.tmp 13], argTypes := #[23] }, type := 23, pos := "law.go:75", after := #[{ on := 0, ground := Ground.data }], guard := none } : Oper)) rfl (fun K hK => ?_) AllReadyH.nil)
    go_simp
    go_at_call 26
    refine (rnorm_any a _).mono ?_
    rintro e w' ⟨rfl, hb⟩
    replace hT := hT.below hb
    go_wp2_with fail
    refine hK.out _ _ (Or.inl hT) (fun hHeld => ?_)
    clear hK K
    try simp only [Act.put, List.setIfInBounds_toArray, List.set_cons_zero, List.set_cons_succ]
    refine wpAnyH_ready (rs := [3]) (by kernel_rfl) (by simp) ?_
    refine (AllReadyH.cons (o := ({ dst := some 16, op := Op.call { callee := Callee.value (Operand.func 26), args := #[Operand.tmp 15], argTypes := #[23] }, type := 23, pos := "law.go:75", after := #[{ on := 2, ground := Ground.data }, { on := 1, ground := Ground.chain }], guard := none } : Oper)) rfl (fun K hK => ?_) AllReadyH.nil)
    go_simp
    go_at_call 26
    refine (rnorm_any b _).mono ?_
    rintro e w' ⟨rfl, hb⟩
    replace hT := hT.below hb
    go_wp2_with fail
    refine hK.out _ _ (Or.inl hT) (fun hHeld => ?_)
    clear hK K
    try simp only [Act.put, List.setIfInBounds_toArray, List.set_cons_zero, List.set_cons_succ]
    refine wpAnyH_ready (rs := [4]) (by kernel_rfl) (by simp) ?_
    refine (AllReadyH.cons (o := ({ dst := none, op := Op.store 23 (Operand.tmp 4) (Operand.tmp 14), type := 0, pos := "law.go:75", after := #[{ on := 1, ground := Ground.data }, { on := 3, ground := Ground.chain }, { on := 0, ground := Ground.phase }, { on := 1, ground := Ground.phase }, { on := 2, ground := Ground.textOnly Departure.lateStores }, { on := 3, ground := Ground.textOnly Departure.lateStoresUnsure }], guard := none } : Oper)) rfl (fun K hK => ?_) AllReadyH.nil)
    obtain ⟨p0, p1, p2⟩ := bx_cells hT.1
    obtain ⟨f0, f1, f2⟩ := bx_free hT.1
    replace hT := hT.set1 (normV a)
    go_simp
    refine hK.out _ _ (Or.inr (Or.inl hT)) (fun hHeld => ?_)
    clear hK K
    try simp only [Act.put]
    refine wpAnyH_ready (rs := [5]) (by kernel_rfl) (by simp) ?_
    refine (AllReadyH.cons (o := ({ dst := none, op := Op.store 23 (Operand.tmp 5) (Operand.tmp 16), type := 0, pos := "law.go:75", after := #[{ on := 3, ground := Ground.data }, { on := 4, ground := Ground.chain }, { on := 0, ground := Ground.phase }, { on := 1, ground := Ground.phase }, { on := 2, ground := Ground.phase }, { on := 3, ground := Ground.phase }, { on := 4, ground := Ground.phase }], guard := none } : Oper)) rfl (fun K hK => ?_) AllReadyH.nil)
    obtain ⟨q0, q1, q2⟩ := bx_cells hT.2.1
    obtain ⟨f0, f1, f2⟩ := bx_free hT.2.1
    replace hT := hT.set2 (normV b)
    go_simp
    refine hK.out _ _ (Or.inr (Or.inr hT)) (fun hHeld => ?_)
    clear hK K
    try simp only [Act.put]
    refine wpAnyH_done (by kernel_rfl) ?_ _
    exact HN.out _ hT
set_option maxRecDepth 100000 in
set_option maxHeartbeats 6400000 in
theorem typed_walk (op : Int) (a b : Val) (w : World) (ha : a.OK) (hb : b.OK) : Calls Try.prog 8 #[.int .i64 op, .agg #[.int .i64 a.k, .int .i64 a.n, .string (str a.s)], .agg #[.int .i64 b.k, .int .i64 b.n, .string (str b.s)]] w fun e w' => e = .returned (.bool true) ∧ Below w.heap.size w w' := by
  have HT := Lib.hid (two_new w a b)
  go_enter Try.func8, Try.ntmps8
  go_wp2_with (first
    | (go_at_call 12; refine (awake_any _).mono ?_; rintro e w2 ⟨rfl, hb2⟩; have HT2 := Lib.hid (HT.out.below hb2); clear hb2))
  refine typed_reg op a b w w2 HT2.out ?_
  clear HT HT2 w2
  have hA := nrm_norm ha
  have hB := nrm_norm hb
  intro u hT
  obtain ⟨p0, p1, p2⟩ := bx_cells hT.1
  obtain ⟨q0, q1, q2⟩ := bx_cells hT.2.1
  have HT3 := Lib.hid hT
  clear hT ha hb
  have hr := fun u => result_any op (normV a).k (normV b).k u
  have hd : ∀ u, Calls Try.prog 13 #[.int .i64 op, .agg #[.int .i64 (normV a).k, .int .i64 (normV a).n, .string (str (normV a).s)], .agg #[.int .i64 (normV b).k, .int .i64 (normV b).n, .string (str (normV b).s)]] u fun e w' => e = .returned (.tuple #[.agg #[.int .i64 ((doR op (normV a) (if oneOf op = true then normV a else normV b)).1).k, .int .i64 ((doR op (normV a) (if oneOf op = true then normV a else normV b)).1).n, .string (str ((doR op (normV a) (if oneOf op = true then normV a else normV b)).1).s)], .int .i64 (doR op (normV a) (if oneOf op = true then normV a else normV b)).2]) ∧ Below u.heap.size u w' := fun u => by
    have h := do_any op (normV a) (normV b) u hA.1 hB.1
    rw [norm_nrm hA, norm_nrm hB] at h
    exact h
  have hP := typed_plain op (normV a) (normV b) hA hB
  clear hA hB
  generalize resR op (normV a).k (if oneOf op = true then (normV a).k else (normV b).k) = r at *
  generalize doR op (normV a) (if oneOf op = true then normV a else normV b) = d at *
  obtain ⟨k, e⟩ := r
  obtain ⟨⟨vk, vn, vs⟩, f⟩ := d
  obtain ⟨P1, P2⟩ := hP
  dsimp only at P1 P2 hd hr
  have HR := Lib.hid hr
  clear hr
  by_cases h21 : 21 ≤ op ∧ op ≤ 25
  · have P3 := P1 h21
    subst P3
    obtain ⟨g1, g2⟩ := h21
    have HD := Lib.hid hd
    clear P1 P2 hd
    go_wp2_with (first
      | (go_at_call 24; (with_reducible refine (HR.out _).mono ?_); rintro e w3 ⟨rfl, hb3⟩; have hT4 : Two w w3 (normV a) (normV b) := HT3.out.below hb3; have HT4 := Lib.hid hT4; obtain ⟨a0, a1, a2⟩ := bx_cells hT4.1; obtain ⟨b0, b1, b2⟩ := bx_cells hT4.2.1; clear hb3 hT4 HR)
      | (go_at_call 13; (with_reducible refine (HD.out _).mono ?_); rintro e w4 ⟨rfl, hb4⟩; have HT5 := Lib.hid (HT4.out.below hb4); clear hb4 HD))
    go_ret
    exact ⟨rfl, (HT5.out.al _).2.2⟩
  obtain ⟨P3, P4, P5⟩ := P2 h21
  clear P1 P2
  by_cases he : e = 0
  · subst he
    by_cases hf : f = 0
    · subst hf
      obtain ⟨P6, P7, P8⟩ := P5 rfl rfl
      subst P8
      have hm := fun u => may_any ⟨vk, vn, []⟩ u (fun x hx => by simp at hx)
      simp only [P7, show str [] = ⟨#[]⟩ from rfl] at hm hd
      have HM := Lib.hid hm
      have HD := Lib.hid hd
      clear P3 P4 P5 P7 hm hd
      by_cases g1 : 21 ≤ op
      · have g2 : decide (op ≤ 25) = false := decide_eq_false (by omega)
        have g3 : (op == 23) = false := beq_false_of_ne (by omega)
        by_cases g4 : vk = k
        · subst g4
          clear P6 h21
          go_wp2_with (first
            | (go_at_call 24; (with_reducible refine (HR.out _).mono ?_); rintro e w3 ⟨rfl, hb3⟩; have hT4 : Two w w3 (normV a) (normV b) := HT3.out.below hb3; have HT4 := Lib.hid hT4; obtain ⟨a0, a1, a2⟩ := bx_cells hT4.1; obtain ⟨b0, b1, b2⟩ := bx_cells hT4.2.1; clear hb3 hT4 HR)
            | (go_at_call 13; (with_reducible refine (HD.out _).mono ?_); rintro e w4 ⟨rfl, hb4⟩; have HT5 := Lib.hid (HT4.out.below hb4); clear hb4 HD)
            | (go_at_call 20; (with_reducible refine (HM.out _).mono ?_); rintro e w5 ⟨rfl, hb5⟩; have HB5 := Lib.hid (bl_tr (HT5.out.al (BX vk vn ⟨#[]⟩)).2.2 hb5); clear hb5 HM))
          go_ret
          exact ⟨rfl, HB5.out⟩
        · have g5 : (vk == k) = false := beq_false_of_ne g4
          have g6 : vk = 0 := by omega
          subst g6
          clear P6 g4 h21
          go_wp2_with (first
            | (go_at_call 24; (with_reducible refine (HR.out _).mono ?_); rintro e w3 ⟨rfl, hb3⟩; have hT4 : Two w w3 (normV a) (normV b) := HT3.out.below hb3; have HT4 := Lib.hid hT4; obtain ⟨a0, a1, a2⟩ := bx_cells hT4.1; obtain ⟨b0, b1, b2⟩ := bx_cells hT4.2.1; clear hb3 hT4 HR)
            | (go_at_call 13; (with_reducible refine (HD.out _).mono ?_); rintro e w4 ⟨rfl, hb4⟩; have HT5 := Lib.hid (HT4.out.below hb4); clear hb4 HD)
            | (go_at_call 20; (with_reducible refine (HM.out _).mono ?_); rintro e w5 ⟨rfl, hb5⟩; have HB5 := Lib.hid (bl_tr (HT5.out.al (BX 0 vn ⟨#[]⟩)).2.2 hb5); clear hb5 HM))
          go_ret
          exact ⟨rfl, HB5.out⟩
      · have g2 : decide (21 ≤ op) = false := decide_eq_false (by omega)
        have g3 : (op == 23) = false := beq_false_of_ne (by omega)
        by_cases g4 : vk = k
        · subst g4
          clear P6 g1 h21
          go_wp2_with (first
            | (go_at_call 24; (with_reducible refine (HR.out _).mono ?_); rintro e w3 ⟨rfl, hb3⟩; have hT4 : Two w w3 (normV a) (normV b) := HT3.out.below hb3; have HT4 := Lib.hid hT4; obtain ⟨a0, a1, a2⟩ := bx_cells hT4.1; obtain ⟨b0, b1, b2⟩ := bx_cells hT4.2.1; clear hb3 hT4 HR)
            | (go_at_call 13; (with_reducible refine (HD.out _).mono ?_); rintro e w4 ⟨rfl, hb4⟩; have HT5 := Lib.hid (HT4.out.below hb4); clear hb4 HD)
            | (go_at_call 20; (with_reducible refine (HM.out _).mono ?_); rintro e w5 ⟨rfl, hb5⟩; have HB5 := Lib.hid (bl_tr (HT5.out.al (BX vk vn ⟨#[]⟩)).2.2 hb5); clear hb5 HM))
          go_ret
          exact ⟨rfl, HB5.out⟩
        · have g5 : (vk == k) = false := beq_false_of_ne g4
          have g6 : vk = 0 := by omega
          subst g6
          clear P6 g4 g1 h21
          go_wp2_with (first
            | (go_at_call 24; (with_reducible refine (HR.out _).mono ?_); rintro e w3 ⟨rfl, hb3⟩; have hT4 : Two w w3 (normV a) (normV b) := HT3.out.below hb3; have HT4 := Lib.hid hT4; obtain ⟨a0, a1, a2⟩ := bx_cells hT4.1; obtain ⟨b0, b1, b2⟩ := bx_cells hT4.2.1; clear hb3 hT4 HR)
            | (go_at_call 13; (with_reducible refine (HD.out _).mono ?_); rintro e w4 ⟨rfl, hb4⟩; have HT5 := Lib.hid (HT4.out.below hb4); clear hb4 HD)
            | (go_at_call 20; (with_reducible refine (HM.out _).mono ?_); rintro e w5 ⟨rfl, hb5⟩; have HB5 := Lib.hid (bl_tr (HT5.out.al (BX 0 vn ⟨#[]⟩)).2.2 hb5); clear hb5 HM))
          go_ret
          exact ⟨rfl, HB5.out⟩
    · obtain ⟨P6, P7⟩ := P4 rfl hf
      rw [nulV, Val.mk.injEq] at P7
      obtain ⟨rfl, rfl, rfl⟩ := P7
      have gf : (f != 0) = true := bne_iff_ne.2 hf
      have he0 := fun (u : World) => run_eql32 u ⟨0, 0, []⟩ ⟨0, 0, []⟩ (fun x hx => by simp at hx) (fun x hx => by simp at hx)
      simp only [show str [] = ⟨#[]⟩ from rfl, decide_true] at he0 hd
      have HD := Lib.hid hd
      clear P3 P4 P5 hd
      by_cases g1 : 21 ≤ op
      · have g2 : decide (op ≤ 25) = false := decide_eq_false (by omega)
        have g3 : (op == 23) = false := beq_false_of_ne (by omega)
        clear h21 hf
        rcases P6 with rfl | rfl
        · skip
          go_wp2_with (first
            | (go_at_call 24; (with_reducible refine (HR.out _).mono ?_); rintro e w3 ⟨rfl, hb3⟩; have hT4 : Two w w3 (normV a) (normV b) := HT3.out.below hb3; have HT4 := Lib.hid hT4; obtain ⟨a0, a1, a2⟩ := bx_cells hT4.1; obtain ⟨b0, b1, b2⟩ := bx_cells hT4.2.1; clear hb3 hT4 HR)
            | (go_at_call 13; (with_reducible refine (HD.out _).mono ?_); rintro e w4 ⟨rfl, hb4⟩; have HT5 := Lib.hid (HT4.out.below hb4); clear hb4 HD))
          go_ret
          exact ⟨rfl, (HT5.out.al _).2.2⟩
        · skip
          go_wp2_with (first
            | (go_at_call 24; (with_reducible refine (HR.out _).mono ?_); rintro e w3 ⟨rfl, hb3⟩; have hT4 : Two w w3 (normV a) (normV b) := HT3.out.below hb3; have HT4 := Lib.hid hT4; obtain ⟨a0, a1, a2⟩ := bx_cells hT4.1; obtain ⟨b0, b1, b2⟩ := bx_cells hT4.2.1; clear hb3 hT4 HR)
            | (go_at_call 13; (with_reducible refine (HD.out _).mono ?_); rintro e w4 ⟨rfl, hb4⟩; have HT5 := Lib.hid (HT4.out.below hb4); clear hb4 HD))
          go_ret
          exact ⟨rfl, (HT5.out.al _).2.2⟩
      · have g2 : decide (21 ≤ op) = false := decide_eq_false (by omega)
        have g3 : (op == 23) = false := beq_false_of_ne (by omega)
        clear h21 g1 hf
        rcases P6 with rfl | rfl
        · skip
          go_wp2_with (first
            | (go_at_call 24; (with_reducible refine (HR.out _).mono ?_); rintro e w3 ⟨rfl, hb3⟩; have hT4 : Two w w3 (normV a) (normV b) := HT3.out.below hb3; have HT4 := Lib.hid hT4; obtain ⟨a0, a1, a2⟩ := bx_cells hT4.1; obtain ⟨b0, b1, b2⟩ := bx_cells hT4.2.1; clear hb3 hT4 HR)
            | (go_at_call 13; (with_reducible refine (HD.out _).mono ?_); rintro e w4 ⟨rfl, hb4⟩; have HT5 := Lib.hid (HT4.out.below hb4); clear hb4 HD))
          go_ret
          exact ⟨rfl, (HT5.out.al _).2.2⟩
        · skip
          go_wp2_with (first
            | (go_at_call 24; (with_reducible refine (HR.out _).mono ?_); rintro e w3 ⟨rfl, hb3⟩; have hT4 : Two w w3 (normV a) (normV b) := HT3.out.below hb3; have HT4 := Lib.hid hT4; obtain ⟨a0, a1, a2⟩ := bx_cells hT4.1; obtain ⟨b0, b1, b2⟩ := bx_cells hT4.2.1; clear hb3 hT4 HR)
            | (go_at_call 13; (with_reducible refine (HD.out _).mono ?_); rintro e w4 ⟨rfl, hb4⟩; have HT5 := Lib.hid (HT4.out.below hb4); clear hb4 HD))
          go_ret
          exact ⟨rfl, (HT5.out.al _).2.2⟩
  · obtain rfl := P3 he
    have ge : (f != 0) = true := bne_iff_ne.2 he
    have HD := Lib.hid hd
    clear P3 P4 P5 hd he
    by_cases g1 : 21 ≤ op
    · have g2 : decide (op ≤ 25) = false := decide_eq_false (by omega)
      have g3 : (op == 23) = false := beq_false_of_ne (by omega)
      clear h21
      go_wp2_with (first
        | (go_at_call 24; (with_reducible refine (HR.out _).mono ?_); rintro e w3 ⟨rfl, hb3⟩; have hT4 : Two w w3 (normV a) (normV b) := HT3.out.below hb3; have HT4 := Lib.hid hT4; obtain ⟨a0, a1, a2⟩ := bx_cells hT4.1; obtain ⟨b0, b1, b2⟩ := bx_cells hT4.2.1; clear hb3 hT4 HR)
        | (go_at_call 13; (with_reducible refine (HD.out _).mono ?_); rintro e w4 ⟨rfl, hb4⟩; have HT5 := Lib.hid (HT4.out.below hb4); clear hb4 HD))
      go_ret
      exact ⟨rfl, (HT5.out.al _).2.2⟩
    · have g2 : decide (21 ≤ op) = false := decide_eq_false (by omega)
      have g3 : (op == 23) = false := beq_false_of_ne (by omega)
      clear h21 g1
      go_wp2_with (first
        | (go_at_call 24; (with_reducible refine (HR.out _).mono ?_); rintro e w3 ⟨rfl, hb3⟩; have hT4 : Two w w3 (normV a) (normV b) := HT3.out.below hb3; have HT4 := Lib.hid hT4; obtain ⟨a0, a1, a2⟩ := bx_cells hT4.1; obtain ⟨b0, b1, b2⟩ := bx_cells hT4.2.1; clear hb3 hT4 HR)
        | (go_at_call 13; (with_reducible refine (HD.out _).mono ?_); rintro e w4 ⟨rfl, hb4⟩; have HT5 := Lib.hid (HT4.out.below hb4); clear hb4 HD))
      go_ret
      exact ⟨rfl, (HT5.out.al _).2.2⟩
end Go.Proofs.Ytbhilmgpmebaiaa
namespace Go.Proofs.Ytbhilmgpmebaiaa
open Go.ChangeShapes Go.WideShapes Go.ChangeAt Go.RowKit Go.Deep
namespace plainValueTyped
set_option maxRecDepth 100000 in
theorem contract (H : Type) (enc : TypeId × Value → H) (W : World) (base : Nat) (args : Array Value) (ds gs : List (DataW H)) (before : List MemPlace)
    (hval : ∀ (j : Nat) t v, Try.f8.params[j]? = some t → args[j]? = some v → Value.okWide Try.prog W .any base t v)
    (hW : DataW.Whole enc Try.prog Try.f8.params.toList Rows.valueTypedSpec.vars false W args.toList ds gs before) (hk : Rows.uptoSmall H (ds ++ gs) = true) :
    Calls Try.prog 8 args W fun e W' => ∃ v, e = .returned v ∧ Rows.valueTypedSpec.post enc Try.prog Try.f8 false true false false W args v W' := by
  have hW' := hW
  obtain ⟨p, q, hA0, hV, rfl, hfz, hnd⟩ := hW
  have hA : DataW.TrodAll enc Try.prog W 0 (fun _ => true) true Try.f8.params.toList args.toList ds p := hA0
  rw [Try.params8] at hA hval
  obtain ⟨v0, vs0, d0, ds0, p0, q0, hargs, rfl, rfl, h0, r0⟩ := trodAll_cons hA
  obtain ⟨v1, vs1, d1, ds1, p1, q1, rfl, rfl, rfl, h1, r1⟩ := trodAll_cons r0
  obtain ⟨v2, vs2, d2, ds2, p2, q2, rfl, rfl, rfl, h2, r2⟩ := trodAll_cons r1
  obtain ⟨rfl, rfl, rfl⟩ := trodAll_nil r2
  obtain rfl : args = #[v0, v1, v2] := by cases args; simp_all
  obtain ⟨rfl, rfl⟩ := trodVars_none hV
  have hbulk : Rows.uptoBulkAll ([d0, d1, d2] ++ []) ≤ 1048576 := of_decide_eq_true hk
  simp only [List.append_nil, Rows.uptoBulkAll] at hbulk
  obtain ⟨a0, rfl, rfl, rfl, g0⟩ := open_int Try.underlying3 (hval 0 3 v0 rfl rfl) h0
  replace g0 := i64_of_wf g0
  obtain ⟨a1, rfl, b1, g1⟩ := val_of_trod (hval 1 23 v1 rfl rfl) h1
  obtain ⟨a2, rfl, b2, g2⟩ := val_of_trod (hval 2 23 v2 rfl rfl) h2
  refine (typed_walk a0 a1 a2 W b1 b2).mono fun e W' ⟨he, hb⟩ => ⟨_, he, ?_⟩
  exact law_post (T := 4) laidOut (by rw [Try.params8]; decide +kernel) rfl rfl Try.underlying4 (fun gs h => by subst h; rfl) hW' hb
set_option maxRecDepth 100000 in
theorem lifted (os : Os) (started : os.Started) (H : Type) (enc : TypeId × Value → H) (F : Stop.Interp) :
    ReturnsInHanded {} Try.checked os 8 .any ((Rows.OpenSpec.upto Rows.valueTypedSpec).pre6 enc Try.prog Try.f8 Rows.valueTypedUptoRow.domain false) (((Rows.OpenSpec.upto Rows.valueTypedSpec).at F).post enc Try.prog Try.f8 false true false false) := by
  refine returnsInHanded_of_cond (C := Try.checked) (s := Rows.OpenSpec.upto Rows.valueTypedSpec) (k := Rows.uptoSmall) rfl own started (by kernel_rfl) Try.func8
    (OpenSpec.witness (enc := enc) (C := Try.checked) (s := Rows.OpenSpec.upto Rows.valueTypedSpec) (k := Rows.uptoSmall) rfl false ⟨#[], #[.int .i64 0, .agg #[.int .i64 0, .int .i64 0, .string ⟨#[]⟩], .agg #[.int .i64 0, .int .i64 0, .string ⟨#[]⟩]], []⟩ 8 (by kernel_rfl) (by kernel_rfl) (by kernel_rfl)
      (x := ([.lit (.int .i64 0), .agg [.lit (.int .i64 0), .lit (.int .i64 0), .lit (.string [])], .agg [.lit (.int .i64 0), .lit (.int .i64 0), .lit (.string [])]], [], [])) (by kernel_rfl) rfl (by kernel_rfl)) ?_
  intro W base args ds gs before hval hW _ hk _
  exact contract H enc W base args ds gs before hval hW hk
theorem over : Rows.valueTypedUptoRow.holds Try.pinned (Rows.OpenSpec.upto Rows.valueTypedSpec) :=
  OpenClaim.holds_of_cond 8 Try.f8 rfl rfl rfl rfl rfl rfl rfl ⟨rfl, rfl, rfl, rfl, rfl⟩ rfl rfl rfl rfl rfl (by kernel_rfl) Try.func8 (by kernel_rfl)
    (of_decide_eq_true (by kernel_rfl)) (by unfold Func.isWrapper; first | (rw [if_pos (by decide +kernel)]; kernel_rfl) | (rw [if_neg (by decide +kernel)]; exact ⟨rfl, rfl⟩))
    (fun os started H enc _ F => lifted os started H enc F)
/-- the statement, its second form -/
theorem proved : Rows.ValueTypedUptoSaid := over
end plainValueTyped
theorem valueTypedUpto : Rows.ValueTypedUptoSaid := plainValueTyped.proved
end Go.Proofs.Ytbhilmgpmebaiaa
