/-
  ValueShuffled: of any operation and any list of values (of bulk at most 1048576) a sum over the group cares neither for the order of the values nor for NULLs among them; the values stay. Condition: the second form's bound.
-/
import Derived.Test.YtbhilmgpmebaiaaSh00
import Derived.Test.YtbhilmgpmebaiaaSh01
import Derived.Test.YtbhilmgpmebaiaaSh04
import Derived.Test.YtbhilmgpmebaiaaSh05
import Derived.Test.YtbhilmgpmebaiaaSh06
import Derived.WalkKit
import Derived.ProofKit
import Derived.OpenShut
namespace Go.Proofs.Ytbhilmgpmebaiaa
open Go.RowKit
attribute [local go_sem ↓] eql32_eq neq32_eq
end Go.Proofs.Ytbhilmgpmebaiaa
namespace Go.Proofs.Ytbhilmgpmebaiaa
open Go.RowKit
end Go.Proofs.Ytbhilmgpmebaiaa
namespace Go.Proofs.Ytbhilmgpmebaiaa
open Go.RowKit
def lexI (a b : Int) : Int := if a ≠ 0 then a else b
theorem orI_lex (a b c : Int) : orI a b c = lexI a (lexI b c) := by simp [orI, lexI]
/-- three comparisons of three things, as an order has them -/
def Tr3 (ab bc ac : Int) : Prop := (-1 ≤ ab ∧ ab ≤ 1) ∧ (-1 ≤ bc ∧ bc ≤ 1) ∧ (-1 ≤ ac ∧ ac ≤ 1) ∧ (0 < ab ∨ 0 < bc ∨ (ac < 0 ∧ (ab < 0 ∨ bc < 0)) ∨ (ac = 0 ∧ ab = 0 ∧ bc = 0)) ∧ (ab < 0 ∨ bc < 0 ∨ (0 < ac ∧ (0 < ab ∨ 0 < bc)) ∨ (ac = 0 ∧ ab = 0 ∧ bc = 0)) ∧ (ab ≠ 0 ∨ ac = bc) ∧ (bc ≠ 0 ∨ ac = ab)
theorem lex_two (a b : Int) : (a ≠ 0 ∧ lexI a b = a) ∨ (a = 0 ∧ lexI a b = b) := by
  by_cases h : a = 0
  · exact .inr ⟨h, by simp [lexI, h]⟩
  · exact .inl ⟨h, by simp [lexI, h]⟩
theorem tr_lex {a1 a2 a3 b1 b2 b3 : Int} (ha : Tr3 a1 a2 a3) (hb : Tr3 b1 b2 b3) : Tr3 (lexI a1 b1) (lexI a2 b2) (lexI a3 b3) := by
  have k1 := lex_two a1 b1
  have k2 := lex_two a2 b2
  have k3 := lex_two a3 b3
  generalize lexI a1 b1 = p1 at *
  generalize lexI a2 b2 = p2 at *
  generalize lexI a3 b3 = p3 at *
  unfold Tr3 at *
  rcases k1 with ⟨u1, rfl⟩ | ⟨u1, rfl⟩ <;> rcases k2 with ⟨u2, rfl⟩ | ⟨u2, rfl⟩ <;> rcases k3 with ⟨u3, rfl⟩ | ⟨u3, rfl⟩ <;> (refine ⟨⟨?_, ?_⟩, ⟨?_, ?_⟩, ⟨?_, ?_⟩, ?_, ?_, ?_, ?_⟩ <;> omega)
theorem tr_sg (x y z : Int) : Tr3 (sgI x y) (sgI y z) (sgI x z) := by
  unfold Tr3 sgI
  split <;> split <;> split <;> (try split) <;> (try split) <;> (try split) <;> (refine ⟨⟨?_, ?_⟩, ⟨?_, ?_⟩, ⟨?_, ?_⟩, ?_, ?_, ?_, ?_⟩ <;> omega)
theorem cmpI_rng : ∀ l m : List Int, -1 ≤ cmpI l m ∧ cmpI l m ≤ 1
  | [], [] => by simp [cmpI]
  | [], _ :: _ => by simp [cmpI]
  | _ :: _, [] => by simp [cmpI]
  | x :: l, y :: m => by
    have := cmpI_rng l m
    simp only [cmpI]; split; omega; split <;> omega
theorem tr_cmp : ∀ l m n : List Int, Tr3 (cmpI l m) (cmpI m n) (cmpI l n)
  | [], [], n => by have := cmpI_rng [] n; unfold Tr3; simp only [cmpI]; cases n <;> simp [cmpI]
  | [], y :: m, [] => by unfold Tr3; simp [cmpI]
  | [], y :: m, z :: n => by have := cmpI_rng (y :: m) (z :: n); unfold Tr3; rw [show cmpI [] (y :: m) = -1 from rfl, show cmpI [] (z :: n) = -1 from rfl]; refine ⟨⟨?_, ?_⟩, ⟨?_, ?_⟩, ⟨?_, ?_⟩, ?_, ?_, ?_, ?_⟩ <;> omega
  | x :: l, [], [] => by unfold Tr3; simp [cmpI]
  | x :: l, [], z :: n => by have := cmpI_rng (x :: l) (z :: n); unfold Tr3; rw [show cmpI (x :: l) [] = 1 from rfl, show cmpI [] (z :: n) = -1 from rfl]; refine ⟨⟨?_, ?_⟩, ⟨?_, ?_⟩, ⟨?_, ?_⟩, ?_, ?_, ?_, ?_⟩ <;> omega
  | x :: l, y :: m, [] => by have := cmpI_rng (x :: l) (y :: m); unfold Tr3; rw [show cmpI (x :: l) [] = 1 from rfl, show cmpI (y :: m) [] = 1 from rfl]; refine ⟨⟨?_, ?_⟩, ⟨?_, ?_⟩, ⟨?_, ?_⟩, ?_, ?_, ?_, ?_⟩ <;> omega
  | x :: l, y :: m, z :: n => by
    have h := tr_lex (tr_sg x y z) (tr_cmp l m n)
    have e : ∀ (a b : Int) (p q : List Int), lexI (sgI a b) (cmpI p q) = cmpI (a :: p) (b :: q) := by
      intro a b p q
      simp only [lexI, sgI, cmpI]
      by_cases h1 : a < b
      · simp [h1]
      · by_cases h2 : b < a <;> simp [h1, h2]
    rw [e, e, e] at h
    exact h
theorem tr_cmpV (a b c : Val) : Tr3 (cmpV a b) (cmpV b c) (cmpV a c) := by
  simp only [cmpV, ordV, orI_lex]
  exact tr_lex (tr_sg _ _ _) (tr_lex (tr_sg _ _ _) (tr_cmp _ _ _))
theorem sgI_neg (x y : Int) : sgI y x = - sgI x y := by unfold sgI; split <;> split <;> omega
theorem cmpI_neg : ∀ l m : List Int, cmpI m l = - cmpI l m
  | [], [] => rfl
  | [], _ :: _ => rfl
  | _ :: _, [] => rfl
  | x :: l, y :: m => by
    have ih := cmpI_neg l m
    simp only [cmpI]
    by_cases h1 : x < y
    · rw [if_pos h1, if_neg (by omega), if_pos h1]; rfl
    · by_cases h2 : y < x
      · rw [if_pos h2, if_neg h1, if_pos h2]
      · rw [if_neg h2, if_neg h1, if_neg h1, if_neg h2, ih]
theorem lexI_neg (a b : Int) : lexI (-a) (-b) = - lexI a b := by unfold lexI; split <;> split <;> omega
theorem cmpV_neg (a b : Val) : cmpV b a = - cmpV a b := by
  simp only [cmpV, ordV, orI_lex]
  rw [sgI_neg, sgI_neg (normV a).n, cmpI_neg (normV a).s, lexI_neg, lexI_neg]
end Go.Proofs.Ytbhilmgpmebaiaa
namespace Go.Proofs.Ytbhilmgpmebaiaa
open Go.RowKit
end Go.Proofs.Ytbhilmgpmebaiaa
namespace Go.Proofs.Ytbhilmgpmebaiaa
open Go.RowKit
theorem cmpV_nrm {A B : Val} (ha : Nrm A) (hb : Nrm B) : cmpV A B = ordV A B := by rw [cmpV, norm_nrm ha, norm_nrm hb]
end Go.Proofs.Ytbhilmgpmebaiaa
namespace Go.Proofs.Ytbhilmgpmebaiaa
open Go.RowKit
end Go.Proofs.Ytbhilmgpmebaiaa
namespace Go.Proofs.Ytbhilmgpmebaiaa
open Go.RowKit
end Go.Proofs.Ytbhilmgpmebaiaa
namespace Go.Proofs.Ytbhilmgpmebaiaa
open Go.RowKit
attribute [local go_sem ↓] eql32_eq neq32_eq
end Go.Proofs.Ytbhilmgpmebaiaa
namespace Go.Proofs.Ytbhilmgpmebaiaa
open Go.RowKit
attribute [local go_sem ↓] eql32_eq neq32_eq
theorem extL_rng (c : Int) : ∀ (r : List Val) (b : Val), Rng b.s → (∀ x ∈ r, Rng x.s) → Rng (extL c b r).1.s
  | [], b, hb, _ => hb
  | v :: r, b, hb, h => by
    rw [extL]
    split
    · exact fun x hx => by simp [nulV] at hx
    · refine extL_rng c r _ ?_ (fun x hx => h x (List.mem_cons_of_mem _ hx))
      split
      · exact h v List.mem_cons_self
      · exact hb
theorem extR_rng (c : Int) (s : List Val) (h : ∀ x ∈ s, Rng x.s) : Rng (extR c s).1.s := by
  cases s with
  | nil => exact fun x hx => by simp [extR, nulV] at hx
  | cons a r => exact extL_rng c _ a (h a List.mem_cons_self) h
theorem rng_nil {v : Val} (h : v.s = []) : Rng v.s := by rw [h]; exact fun x hx => by simp at hx
theorem foldR_rng (op : Int) (l : List Val) (h : ∀ x ∈ l, x.OK) : Rng (foldR op l).1.s := by
  have hs := fun x hx => (someV_ok h x hx).1.1
  unfold foldR sumR cnS
  repeat' split
  all_goals first | exact rng_nil rfl | exact extR_rng _ _ hs
end Go.Proofs.Ytbhilmgpmebaiaa
namespace Go.Proofs.Ytbhilmgpmebaiaa
open Go.RowKit
theorem ord_facts {a b d : Val} (ha : Nrm a) (hb : Nrm b) (hd : Nrm d) : Tr3 (ordV a b) (ordV b d) (ordV a d) := by
  have h := tr_cmpV a b d
  rw [cmpV_nrm ha hb, cmpV_nrm hb hd, cmpV_nrm ha hd] at h
  exact h
theorem ord_anti {a b : Val} (ha : Nrm a) (hb : Nrm b) : ordV b a = - ordV a b := by
  have h := cmpV_neg a b
  rw [cmpV_nrm ha hb, cmpV_nrm hb ha] at h
  exact h
theorem ord_eq {a b : Val} (h : ordV a b = 0) : a = b := by
  obtain ⟨k1, n1, s1⟩ := a
  obtain ⟨k2, n2, s2⟩ := b
  simp only [ordV, orI, sgI] at h
  have hk : k1 = k2 := by
    by_cases h1 : k1 < k2
    · simp [h1] at h
    · by_cases h2 : k2 < k1
      · simp [h1, h2] at h
      · omega
  subst hk
  simp only [Int.lt_irrefl, if_false, ne_eq, not_true_eq_false] at h
  have hn : n1 = n2 := by
    by_cases h1 : n1 < n2
    · simp [h1] at h
    · by_cases h2 : n2 < n1
      · simp [h1, h2] at h
      · omega
  subst hn
  simp only [Int.lt_irrefl, if_false, not_true_eq_false] at h
  by_cases hs : s1 = s2
  · rw [hs]
  · rcases cmpI_cases s1 s2 hs with e | e <;> (rw [e] at h; exact absurd h (by decide))
theorem ord_tr {c : Int} (hc : c = -1 ∨ c = 1) {a b d : Val} (ha : Nrm a) (hb : Nrm b) (hd : Nrm d) (h1 : ordV a b = c) (h2 : ordV b d = c) : ordV a d = c := by
  have t1 := ord_facts ha hb hd
  have t2 := ord_facts hd hb ha
  have e1 := ord_anti ha hb
  have e2 := ord_anti hb hd
  have e3 := ord_anti ha hd
  unfold Tr3 at t1 t2
  omega
theorem extL_all {c : Int} (hc : c = -1 ∨ c = 1) : ∀ (r : List Val) (b : Val), Nrm b → (∀ x ∈ r, Nrm x) → (∀ x ∈ r, x.k = b.k) →
    ∃ m, extL c b r = (m, 0) ∧ (m = b ∨ m ∈ r) ∧ ordV b m ≠ c ∧ ∀ y ∈ r, ordV y m ≠ c
  | [], b, hb, _, _ => by
    refine ⟨b, rfl, .inl rfl, ?_, fun y hy => by simp at hy⟩
    have := ord_anti hb hb
    omega
  | v :: r, b, hb, hr, hk => by
    have hv := hr v List.mem_cons_self
    have hvk := hk v List.mem_cons_self
    have hr' := fun x hx => hr x (List.mem_cons_of_mem v hx)
    have hk' := fun x hx => hk x (List.mem_cons_of_mem v hx)
    rw [extL, if_neg (by simp [hvk])]
    by_cases ho : ordV v b = c
    · rw [if_pos ho]
      obtain ⟨m, h1, h2, h3, h4⟩ := extL_all hc r v hv hr' (fun x hx => (hk' x hx).trans hvk.symm)
      have hm : Nrm m := by
        rcases h2 with rfl | h2
        · exact hv
        · exact hr' m h2
      refine ⟨m, h1, ?_, ?_, ?_⟩
      · rcases h2 with rfl | h2
        · exact .inr List.mem_cons_self
        · exact .inr (List.mem_cons_of_mem _ h2)
      · intro e; exact h3 (ord_tr hc hv hb hm ho e)
      · intro y hy
        rcases List.mem_cons.1 hy with rfl | hy
        · exact h3
        · exact h4 y hy
    · rw [if_neg ho]
      obtain ⟨m, h1, h2, h3, h4⟩ := extL_all hc r b hb hr' hk'
      have hm : Nrm m := by
        rcases h2 with rfl | h2
        · exact hb
        · exact hr' m h2
      refine ⟨m, h1, ?_, h3, ?_⟩
      · rcases h2 with rfl | h2
        · exact .inl rfl
        · exact .inr (List.mem_cons_of_mem _ h2)
      · intro y hy
        rcases List.mem_cons.1 hy with rfl | hy
        · intro e
          have a1 := ord_anti hb hm
          have a2 := (ord_facts hb hm hb)
          unfold Tr3 at a2
          by_cases hz : ordV m b = 0
          · rw [ord_eq hz] at e; exact ho e
          · exact ho (ord_tr hc hv hm hb e (by omega))
        · exact h4 y hy
theorem extL_bad {c : Int} : ∀ (r : List Val) (b : Val) (x : Val), x ∈ r → x.k ≠ b.k → extL c b r = (nulV, 22)
  | [], b, x, hx, _ => by simp at hx
  | v :: r, b, x, hx, hk => by
    rw [extL]
    by_cases hv : v.k = b.k
    · rw [if_neg (by simp [hv])]
      have hxr : x ∈ r := by
        rcases List.mem_cons.1 hx with rfl | hx
        · exact absurd hv hk
        · exact hx
      refine extL_bad r _ x hxr ?_
      split
      · rw [hv]; exact hk
      · exact hk
    · rw [if_pos hv]
theorem extR_perm {c : Int} (hc : c = -1 ∨ c = 1) {s t : List Val} (h : s.Perm t) (hs : ∀ x ∈ s, Nrm x) : extR c s = extR c t := by
  have ht : ∀ x ∈ t, Nrm x := fun x hx => hs x (h.mem_iff.2 hx)
  match s, t, h, hs, ht with
  | [], [], _, _, _ => rfl
  | [], y :: q, h, _, _ => exact absurd (h.length_eq) (by simp)
  | x :: r, [], h, _, _ => exact absurd (h.length_eq) (by simp)
  | x :: r, y :: q, h, hs, ht =>
    show extL c x (x :: r) = extL c y (y :: q)
    by_cases hall : ∀ z ∈ x :: r, z.k = x.k
    · have hyx : y.k = x.k := hall y (h.mem_iff.2 List.mem_cons_self)
      have hall2 : ∀ z ∈ y :: q, z.k = y.k := fun z hz => (hall z (h.mem_iff.2 hz)).trans hyx.symm
      obtain ⟨m, e1, e2, _, e4⟩ := extL_all hc (x :: r) x (hs x List.mem_cons_self) hs hall
      obtain ⟨n, f1, f2, _, f4⟩ := extL_all hc (y :: q) y (ht y List.mem_cons_self) ht hall2
      have hm : m ∈ x :: r := by
        rcases e2 with rfl | e2
        · exact List.mem_cons_self
        · exact e2
      have hn : n ∈ y :: q := by
        rcases f2 with rfl | f2
        · exact List.mem_cons_self
        · exact f2
      rw [e1, f1]
      have g1 := f4 m (h.mem_iff.1 hm)
      have g2 := e4 n (h.mem_iff.2 hn)
      have a1 := ord_anti (hs m hm) (ht n hn)
      have a2 := ord_facts (hs m hm) (ht n hn) (hs m hm)
      unfold Tr3 at a2
      rw [ord_eq (show ordV m n = 0 by omega)]
    · obtain ⟨z, hz⟩ : ∃ z, ¬ (z ∈ x :: r → z.k = x.k) := Classical.byContradiction fun hne => hall fun z => Classical.byContradiction fun hz => hne ⟨z, hz⟩
      have hz1 : z ∈ x :: r := Classical.byContradiction fun hne => hz fun h => absurd h hne
      have hz2 : z.k ≠ x.k := fun e => hz fun _ => e
      rw [extL_bad (x :: r) x z hz1 hz2]
      by_cases hzy : z.k = y.k
      · rw [extL_bad (y :: q) y x (h.mem_iff.1 List.mem_cons_self) (by rw [← hzy]; exact Ne.symm hz2)]
      · rw [extL_bad (y :: q) y z (h.mem_iff.1 hz1) hzy]
theorem sumN_perm {s t : List Val} (h : s.Perm t) : sumN s = sumN t := by
  unfold sumN
  induction h with
  | nil => rfl
  | cons x _ ih => simp only [List.map_cons, List.sum_cons, ih]
  | swap x y l => simp only [List.map_cons, List.sum_cons]; omega
  | trans _ _ ih1 ih2 => exact ih1.trans ih2
theorem all_perm {s t : List Val} (h : s.Perm t) (p : Val → Bool) : s.all p = t.all p := by
  induction h with
  | nil => rfl
  | cons x _ ih => simp only [List.all_cons, ih]
  | swap x y l => simp only [List.all_cons]; rw [← Bool.and_assoc, ← Bool.and_assoc, Bool.and_comm (p y)]
  | trans _ _ ih1 ih2 => exact ih1.trans ih2
theorem sumR_perm {s t : List Val} (h : s.Perm t) : sumR s = sumR t := by
  unfold sumR
  rw [all_perm h, sumN_perm h]
  by_cases hs : s = []
  · subst hs
    rw [List.nil_perm.1 h]
  · have ht : t ≠ [] := fun e => hs (List.perm_nil.1 (e ▸ h))
    rw [if_neg hs, if_neg ht]
theorem someV_perm {l t : List Val} (h : l.Perm t) : (someV l).Perm (someV t) := (h.map normV).filter _
theorem someV_nuls (j : Nat) (l : List Val) : someV (List.replicate j nulV ++ l) = someV l := by
  induction j with
  | zero => rfl
  | succ j ih =>
    rw [List.replicate_succ, List.cons_append]
    show ((normV nulV :: (List.replicate j nulV ++ l).map normV).filter fun v => decide (v ≠ nulV)) = _
    rw [List.filter_cons_of_neg (by decide)]
    exact ih
theorem foldR_shuf {op : Int} (ho : 22 ≤ op ∧ op ≤ 25) {l t : List Val} (h : l.Perm t) (hok : ∀ x ∈ l, x.OK) (j : Nat) : foldR op (List.replicate j nulV ++ t) = foldR op l := by
  have hp := someV_perm h
  have h21 : ¬ op = 21 := by omega
  simp only [foldR, if_neg h21, someV_nuls, sumR_perm hp, extR_perm (.inl rfl) hp (someV_ok hok), extR_perm (.inr rfl) hp (someV_ok hok), hp.length_eq]
def rot (l : List Val) (k : Nat) : List Val := l.drop k ++ l.take k
theorem rot_perm (l : List Val) (k : Nat) : l.Perm (rot l k) := by
  have h : (l.take k ++ l.drop k).Perm (l.drop k ++ l.take k) := List.perm_append_comm
  rw [List.take_append_drop] at h
  exact h
theorem rot_len (l : List Val) (k : Nat) : (rot l k).length = l.length := by simp [rot]; omega
theorem rot_get {l : List Val} {k i : Nat} (hk : k < l.length) (hi : i < l.length) : (rot l k)[i]? = l[(i + k) % l.length]? := by
  unfold rot
  rw [List.getElem?_append, List.length_drop]
  by_cases h : i < l.length - k
  · rw [if_pos h, List.getElem?_drop, Nat.mod_eq_of_lt (by omega), Nat.add_comm]
  · rw [if_neg h, List.getElem?_take, if_pos (by omega), Nat.mod_eq_sub_mod (by omega), Nat.mod_eq_of_lt (by omega)]
    congr 1
    omega
theorem rot_step {l : List Val} {k i : Nat} {x : Val} (hi : i < (rot l k).length) (hx : (rot l k)[i]? = some x) : ((rot l k).drop i).reverse = ((rot l k).drop (i + 1)).reverse ++ [x] := by
  rw [List.drop_eq_getElem_cons hi, List.reverse_cons, (List.getElem?_eq_some_iff.1 hx).2]
end Go.Proofs.Ytbhilmgpmebaiaa
namespace Go.Proofs.Ytbhilmgpmebaiaa
open Go.RowKit
attribute [local go_sem ↓] eql32_eq neq32_eq
theorem u64_small (n : Nat) (h : n ≤ 1099511627776) : IntKind.u64.wrap (n : Int) = (n : Int) := by rw [IntKind.wrap_u64]; omega
theorem i64_small (n : Int) (h : -1 ≤ n ∧ n ≤ 4398046511104) : IntKind.i64.wrap n = n := IntWalk.i64_in _ ⟨by omega, by omega⟩
theorem mod_nat (x : Int) (n : Nat) (hn : 0 < n) : ∃ k : Nat, k < n ∧ (IntKind.u64.wrap x).tmod (n : Int) = (k : Int) := by
  have h : 0 ≤ IntKind.u64.wrap x := by rw [IntKind.wrap_u64]; omega
  have h1 := Int.tmod_nonneg (n : Int) h
  have h2 := Int.tmod_lt_of_pos (IntKind.u64.wrap x) (show (0 : Int) < (n : Int) by omega)
  exact ⟨((IntKind.u64.wrap x).tmod (n : Int)).toNat, by omega, by omega⟩
set_option maxRecDepth 100000 in
set_option maxHeartbeats 12800000 in
theorem shuffled_walk (op at' nulls : Int) (v : Value) (l : List Val) (w : World) (hv : Rw w v l) (ho : ∀ x ∈ l, x.OK) (hl : l.length ≤ 1048576) (hsl : ∀ x ∈ l, x.s.length ≤ 1099511627776) :
    Calls Try.prog 10 #[.int .i64 op, v, .int .i64 at', .int .i64 nulls] w fun e w' => e = .returned (.bool true) ∧ Below w.heap.size w w' := by
  obtain ⟨i0, hi, hz0, hz1, hz2⟩ := info_parts info32
  have HV := Lib.hid (fun u (hu : Below w.heap.size w u) => hv.below hu)
  obtain ⟨o4, ho4, eo4⟩ := mod_nat op 4 (by decide)
  obtain ⟨nn, hnn, enn⟩ := mod_nat nulls 4 (by decide)
  simp only [show ((4 : Nat) : Int) = 4 from rfl] at eo4 enn
  have e1 := i64_small (o4 : Int) (by omega)
  have e2 := i64_small (22 + (o4 : Int)) (by omega)
  have hok2 : ∀ x ∈ List.replicate nn nulV ++ l, x.OK := fun x hx => by
    rcases List.mem_append.1 hx with hx | hx
    · rw [(List.mem_replicate.1 hx).2]; exact ⟨fun x hx => by simp [nulV] at hx, by decide, by decide, by decide, by decide⟩
    · exact ho x hx
  have HOK := Lib.hid ho
  have HSL := Lib.hid hsl
  have HLN := Lib.hid (show l.length ≤ 1073741824 by omega)
  obtain ⟨a0, cap0, rfl, hcap0, hce0⟩ := hv
  have HCE := Lib.hid hce0
  clear ho hsl hce0
  go_enter Try.func10, Try.ntmps10
  go_wp2_with (first
    | (go_at_call 12; refine (awake_any _).mono ?_; rintro e w2 ⟨rfl, hb2⟩; have hs2 := hb2.size; have HB2 := Lib.hid hb2; clear hb2)
    | (refine wpList_build_empty (o := ⟨some 25, _, _, _, _, _⟩) rfl 29 23 3 rfl buildV ?_; intro v25 w3 ho3 hb3 hob3 hs3; have O3 := Lib.hid (show OwnR w3 w2.heap.size v25 [] from ho3); have hb3s := hb3.size; have B3 := Lib.hid (bl_tr HB2.out hb3); clear ho3 hb3 hob3 hs3))
  go_loopw [9, 29] (fun v9 i wr => ∃ j : Nat, j ≤ nn ∧ i = .int .u64 (j : Int) ∧ OwnR wr w2.heap.size v9 (List.replicate j nulV) ∧ Below w.heap.size w wr ∧ w2.heap.size ≤ wr.heap.size) (fun _ i _ => nn - (intOf i).toNat)
  case atStart => exact ⟨0, Nat.zero_le _, rfl, O3.out, B3.out, hb3s⟩
  case round =>
    obtain ⟨j, hj, rfl, hown, hbw, hsr⟩ := hrel
    have HOW := Lib.hid hown
    have HBW := Lib.hid hbw
    clear hown hbw
    by_cases hlt : j < nn
    · have e3 := u64_small (j + 1) (by omega)
      rw [Int.natCast_add] at e3
      have hlen : (List.replicate j nulV).length = j := by simp
      go_wp2_with (at_builtin; refine wpList_append_own _ rfl (Operand.tmp 31) (Operand.tmp 33) 29 rfl w2.heap.size 23 i0 _ 3 32 Try.underlying29 hi hz0 hz1 hz2 rfl (by decide) _ _ _ rfl (HOW.out.alloc _) ⟨wr.heap.size, 0, none⟩ 1 1 (vcells nulV) rfl rfl (cells_three_new _ _ _ _ _ (by simp)) (by intro u hu; simp [vcells, nulV] at hu; rcases hu with rfl | rfl | rfl <;> rfl) (by unfold maxLen; omega) (by omega) (by simp; omega) ?_; intro v4 w4 hown4 hg4 _; have HO4 := Lib.hid hown4; have HG4 := Lib.hid hg4; clear hown4 hg4)
      go_roundw
      case rel =>
        refine ⟨j + 1, by omega, by go_num, ?_, ?_, ?_⟩
        · have := HO4.out
          unfold OwnR
          rw [List.replicate_succ', List.length_append, List.flatMap_append]
          exact this
        · exact (HBW.out.alloc (by have := HBW.out.size; omega) _).grown HG4.out (by have := HBW.out.size; simp; omega) (fun g hg => by have := (HOW.out.lt g hg).1; omega)
        · have := HG4.out.size; simp at this; omega
      case measure => simp [intOf]; omega
    · obtain rfl : nn = j := by omega
      have hcj : decide ((nn : Int) < (nn : Int)) = false := decide_eq_false (by omega)
      by_cases hl0 : l.length = 0
      · have hnil : l = [] := List.eq_nil_of_length_eq_zero hl0
        have HNI := Lib.hid hnil
        have hcl : decide ((0 : Int) < (l.length : Int)) = false := decide_eq_false (by omega)
        have hcl2 : decide (0 < l.length) = false := decide_eq_false (by omega)
        have hcl3 : ¬ (0 < l.length) := by omega
        clear hnil hl0
        have hru := HOW.out.rw
        rw [show List.replicate nn nulV = List.replicate nn nulV ++ [] from (List.append_nil _).symm] at hru
        obtain ⟨a9, c9, rfl, h9, h9'⟩ := id hru
        have HRU := Lib.hid hru
        have HBU := HBW
        have HOK2 := Lib.hid (show ∀ x ∈ List.replicate nn nulV ++ ([] : List Val), x.OK from fun x hx => hok2 x (List.mem_append_left _ (by rw [List.append_nil] at hx; exact hx)))
        have HSL2 := Lib.hid (show ∀ x ∈ List.replicate nn nulV ++ ([] : List Val), x.s.length ≤ 1099511627776 from fun x hx => by rw [List.append_nil] at hx; rw [(List.mem_replicate.1 hx).2]; decide)
        have HLN2 := Lib.hid (show (List.replicate nn nulV ++ ([] : List Val)).length ≤ 1073741824 by simp; omega)
        clear h9 h9' hru hok2 hlt
        have hfo := fun u (h : Rw u (.slice a0 l.length cap0) l) => fold_any (22 + (o4 : Int)) (.slice a0 l.length cap0) l u h HOK.out HLN.out HSL.out
        have hgo := fun u (h : Rw u (.slice a9 (List.replicate nn nulV ++ ([] : List Val)).length c9) (List.replicate nn nulV ++ [])) => fold_any (22 + (o4 : Int)) (.slice a9 (List.replicate nn nulV ++ ([] : List Val)).length c9) (List.replicate nn nulV ++ []) u h HOK2.out HLN2.out HSL2.out
        have hco := fun u (h : Rw u (.slice a9 (List.replicate nn nulV ++ ([] : List Val)).length c9) (List.replicate nn nulV ++ [])) => fold_any 21 (.slice a9 (List.replicate nn nulV ++ ([] : List Val)).length c9) (List.replicate nn nulV ++ []) u h HOK2.out HLN2.out HSL2.out
        rw [foldR_shuf (by omega) (HNI.out ▸ List.Perm.refl _) HOK.out nn] at hgo
        rw [show foldR 21 (List.replicate nn nulV ++ []) = cntL (List.replicate nn nulV ++ []).length from rfl] at hco
        simp only [cntL, numV, show str [] = ⟨#[]⟩ from rfl] at hco
        have hrg := foldR_rng (22 + (o4 : Int)) l HOK.out
        generalize foldR (22 + (o4 : Int)) l = R at *
        obtain ⟨d, er⟩ := R
        dsimp only at hfo hgo hrg
        have he := fun (u : World) => run_eql32 u d d hrg hrg
        simp only [decide_true] at he
        generalize List.replicate nn nulV ++ [] = own at *
        have HF := Lib.hid hfo
        have HG := Lib.hid hgo
        have HC := Lib.hid hco
        clear hfo hgo hco hrg
        go_wp2_with (first
          | (go_at_call 15; (with_reducible refine (HF.out _ (HV.out _ HBU.out)).mono ?_); rintro e w5 ⟨rfl, hb5⟩; have HR5 := Lib.hid (HRU.out.below hb5); have HB5 := Lib.hid (HBU.out.trans (hb5.mono HBU.out.size)); clear hb5 HF)
          | (go_at_call 15; (with_reducible refine (HG.out _ (HR5.out.below ((Below.refl _ _).alloc (Nat.le_refl _) _))).mono ?_); rintro e w6 ⟨rfl, hb6⟩; have hx := kp (heap_alloc_new w5 (BX d.k d.n (str d.s))) hb6; have HX6 := Lib.hid hx; have HR6 := Lib.hid ((HR5.out.below ((Below.refl _ _).alloc (Nat.le_refl _) (BX d.k d.n (str d.s)))).below hb6); have HB6 := Lib.hid (bl_tr (bl_al HB5.out (BX d.k d.n (str d.s))) hb6); clear hb6 hx HG)
          | (go_at_call 15; (with_reducible refine (HC.out _ (HR6.out.below ((Below.refl _ _).alloc (Nat.le_refl _) _))).mono ?_); rintro e w7 ⟨rfl, hb7⟩; have hx := kp (hp_al HX6.out (BX d.k d.n (str d.s))) hb7; have hy := kp (heap_alloc_new w6 (BX d.k d.n (str d.s))) hb7; obtain ⟨x0, x1, x2⟩ := bx_cells (hp_al hx (BX 1 (own.length : Int) ⟨#[]⟩)); obtain ⟨y0, y1, y2⟩ := bx_cells (hp_al hy (BX 1 (own.length : Int) ⟨#[]⟩)); have HB7 := Lib.hid (bl_tr (bl_al HB6.out (BX d.k d.n (str d.s))) hb7); clear hb7 hx hy HC))
        go_ret
        exact ⟨rfl, bl_al HB7.out _⟩
      · have hn0 : 0 < l.length := Nat.pos_of_ne_zero hl0
        have hn1 : (0 : Int) < (l.length : Int) := by omega
        obtain ⟨k, hk, ek⟩ := mod_nat at' l.length hn0
        have e4 := u64_small l.length (by omega)
        have e5 := i64_small (k : Int) (by omega)
        have e6 := i64_small ((l.length : Int) - 1) (by omega)
        have g1 : ((l.length : Int) == 0) = false := beq_false_of_ne (by omega)
        have g3 : ¬ ((l.length : Int) = 0) := by omega
        obtain ⟨b, off, rfl, hb, hce⟩ := HCE.out hn0
        have HC2 := Lib.hid hce
        clear hce hlt hl0
        go_wp2_with fail
        go_loopw [9, 11] (fun v9 i wi => ∃ m : Nat, m ≤ l.length ∧ i = .int .i64 ((m : Int) - 1) ∧ OwnR wi w2.heap.size v9 (List.replicate nn nulV ++ ((rot l k).drop m).reverse) ∧ Below w.heap.size w wi ∧ w2.heap.size ≤ wi.heap.size) (fun _ i _ => (intOf i + 1).toNat)
        case atStart =>
          refine ⟨l.length, Nat.le_refl _, rfl, ?_, HBW.out, hsr⟩
          rw [← rot_len l k, List.drop_length, List.reverse_nil, List.append_nil]
          exact HOW.out
        case round =>
          obtain ⟨m, hm, rfl, hown2, hbi, hsi⟩ := hrel
          have HOI := Lib.hid hown2
          have HBI := Lib.hid hbi
          have hbsz := hbi.size
          clear hown2 hbi
          by_cases hm0 : m = 0
          · subst hm0
            have hru : Rw wr _ (List.replicate nn nulV ++ (rot l k).reverse) := HOI.out.rw
            obtain ⟨a9, c9, rfl, h9, h9'⟩ := id hru
            have HRU := Lib.hid hru
            have HBU := HBI
            have hmem : ∀ x ∈ List.replicate nn nulV ++ (rot l k).reverse, x ∈ List.replicate nn nulV ++ l := fun x hx => by
              rcases List.mem_append.1 hx with hx | hx
              · exact List.mem_append_left _ hx
              · exact List.mem_append_right _ ((rot_perm l k).mem_iff.2 (List.mem_reverse.1 hx))
            have HOK2 := Lib.hid (show ∀ x ∈ List.replicate nn nulV ++ (rot l k).reverse, x.OK from fun x hx => hok2 x (hmem x hx))
            have HSL2 := Lib.hid (show ∀ x ∈ List.replicate nn nulV ++ (rot l k).reverse, x.s.length ≤ 1099511627776 from fun x hx => by
              rcases List.mem_append.1 (hmem x hx) with hx | hx
              · rw [(List.mem_replicate.1 hx).2]; decide
              · exact HSL.out x hx)
            have HLN2 := Lib.hid (show (List.replicate nn nulV ++ (rot l k).reverse).length ≤ 1073741824 by rw [List.length_append, List.length_replicate, List.length_reverse, rot_len]; omega)
            clear h9 h9' hru hok2 hmem
            have hfo := fun u (h : Rw u (.slice (some ⟨b, off, none⟩) l.length cap0) l) => fold_any (22 + (o4 : Int)) (.slice (some ⟨b, off, none⟩) l.length cap0) l u h HOK.out HLN.out HSL.out
            have hgo := fun u (h : Rw u (.slice a9 (List.replicate nn nulV ++ (rot l k).reverse).length c9) (List.replicate nn nulV ++ (rot l k).reverse)) => fold_any (22 + (o4 : Int)) (.slice a9 (List.replicate nn nulV ++ (rot l k).reverse).length c9) (List.replicate nn nulV ++ (rot l k).reverse) u h HOK2.out HLN2.out HSL2.out
            have hco := fun u (h : Rw u (.slice a9 (List.replicate nn nulV ++ (rot l k).reverse).length c9) (List.replicate nn nulV ++ (rot l k).reverse)) => fold_any 21 (.slice a9 (List.replicate nn nulV ++ (rot l k).reverse).length c9) (List.replicate nn nulV ++ (rot l k).reverse) u h HOK2.out HLN2.out HSL2.out
            rw [foldR_shuf (by omega) ((rot_perm l k).trans (List.reverse_perm _).symm) HOK.out nn] at hgo
            rw [show foldR 21 (List.replicate nn nulV ++ (rot l k).reverse) = cntL (List.replicate nn nulV ++ (rot l k).reverse).length from rfl] at hco
            simp only [cntL, numV, show str [] = ⟨#[]⟩ from rfl] at hco
            have hrg := foldR_rng (22 + (o4 : Int)) l HOK.out
            generalize foldR (22 + (o4 : Int)) l = R at *
            obtain ⟨d, er⟩ := R
            dsimp only at hfo hgo hrg
            have he := fun (u : World) => run_eql32 u d d hrg hrg
            simp only [decide_true] at he
            generalize List.replicate nn nulV ++ (rot l k).reverse = own at *
            have HF := Lib.hid hfo
            have HG := Lib.hid hgo
            have HC := Lib.hid hco
            clear hfo hgo hco hrg
            go_wp2_with (first
              | (go_at_call 15; (with_reducible refine (HF.out _ (HV.out _ HBU.out)).mono ?_); rintro e w5 ⟨rfl, hb5⟩; have HR5 := Lib.hid (HRU.out.below hb5); have HB5 := Lib.hid (HBU.out.trans (hb5.mono HBU.out.size)); clear hb5 HF)
              | (go_at_call 15; (with_reducible refine (HG.out _ (HR5.out.below ((Below.refl _ _).alloc (Nat.le_refl _) _))).mono ?_); rintro e w6 ⟨rfl, hb6⟩; have hx := kp (heap_alloc_new w5 (BX d.k d.n (str d.s))) hb6; have HX6 := Lib.hid hx; have HR6 := Lib.hid ((HR5.out.below ((Below.refl _ _).alloc (Nat.le_refl _) (BX d.k d.n (str d.s)))).below hb6); have HB6 := Lib.hid (bl_tr (bl_al HB5.out (BX d.k d.n (str d.s))) hb6); clear hb6 hx HG)
              | (go_at_call 15; (with_reducible refine (HC.out _ (HR6.out.below ((Below.refl _ _).alloc (Nat.le_refl _) _))).mono ?_); rintro e w7 ⟨rfl, hb7⟩; have hx := kp (hp_al HX6.out (BX d.k d.n (str d.s))) hb7; have hy := kp (heap_alloc_new w6 (BX d.k d.n (str d.s))) hb7; obtain ⟨x0, x1, x2⟩ := bx_cells (hp_al hx (BX 1 (own.length : Int) ⟨#[]⟩)); obtain ⟨y0, y1, y2⟩ := bx_cells (hp_al hy (BX 1 (own.length : Int) ⟨#[]⟩)); have HB7 := Lib.hid (bl_tr (bl_al HB6.out (BX d.k d.n (str d.s))) hb7); clear hb7 hx hy HC))
            go_ret
            exact ⟨rfl, bl_al HB7.out _⟩
          · have hmi : (0 : Int) ≤ (m : Int) - 1 := by omega
            have e7 := i64_small ((m : Int) - 1 + (k : Int)) (by omega)
            have e8 := i64_small ((m : Int) - 1 - 1) (by omega)
            obtain ⟨q, hq, eq1, hgq⟩ : ∃ q : Nat, q < l.length ∧ ((m : Int) - 1 + (k : Int)).tmod (l.length : Int) = (q : Int) ∧ (rot l k)[m - 1]? = l[q]? := ⟨(m - 1 + k) % l.length, Nat.mod_lt _ hn0, by
              rw [show (m : Int) - 1 + (k : Int) = ((m - 1 + k : Nat) : Int) by omega]; exact (Int.ofNat_tmod _ _).symm, rot_get hk (by omega)⟩
            obtain ⟨x, hx⟩ : ∃ x, l[q]? = some x := ⟨_, List.getElem?_eq_getElem hq⟩
            obtain ⟨p0, p1, p2⟩ := HC2.out q x hx
            replace p0 := (HBI.out.cell (p := ⟨b, off + q * 3, none⟩) hb).trans p0
            replace p1 := (HBI.out.cell (p := ⟨b, off + q * 3 + 1, none⟩) hb).trans p1
            replace p2 := (HBI.out.cell (p := ⟨b, off + q * 3 + 2, none⟩) hb).trans p2
            have HST := Lib.hid (rot_step (l := l) (k := k) (i := m - 1) (by rw [rot_len]; omega) (hgq.trans hx))
            have hbr : b < wr.heap.size := by omega
            have hqn : (q : Int) < (l.length : Int) := by omega
            have hcn : (l.length : Int) ≤ (cap0 : Int) := by omega
            have hlen : (List.replicate nn nulV ++ ((rot l k).drop m).reverse).length ≤ 1048580 := by
              rw [List.length_append, List.length_replicate, List.length_reverse, List.length_drop, rot_len]; omega
            clear hx hgq
            go_wp2_with (at_builtin; refine wpList_append_own _ rfl (Operand.tmp 53) (Operand.tmp 63) 29 rfl w2.heap.size 23 i0 _ 3 32 Try.underlying29 hi hz0 hz1 hz2 rfl (by decide) _ _ _ rfl (HOI.out.alloc _) ⟨wr.heap.size, 0, none⟩ 1 1 (vcells x) rfl rfl (cells_three_new _ _ _ _ _ (by simp)) (by intro u hu; simp [vcells] at hu; rcases hu with rfl | rfl | rfl <;> rfl) (by unfold maxLen; omega) (by omega) (by simp; omega) ?_; intro v4 w4 hown4 hg4 _; have HO4 := Lib.hid hown4; have HG4 := Lib.hid hg4; clear hown4 hg4)
            go_roundw
            case rel =>
              refine ⟨m - 1, by omega, by go_num, ?_, ?_, ?_⟩
              · have := HO4.out
                rw [HST.out, show m - 1 + 1 = m by omega, ← List.append_assoc]
                unfold OwnR
                rw [List.length_append, List.flatMap_append, List.flatMap_singleton]
                exact this
              · exact (HBI.out.alloc (by omega) _).grown HG4.out (by simp; omega) (fun g hg => by have := (HOI.out.lt g hg).1; omega)
              · have := HG4.out.size; simp at this; omega
            case measure => simp [intOf]; omega
end Go.Proofs.Ytbhilmgpmebaiaa
namespace Go.Proofs.Ytbhilmgpmebaiaa
open Go.ChangeShapes Go.WideShapes Go.ChangeAt Go.RowKit Go.Deep
namespace plainValueShuffled
set_option maxRecDepth 100000 in
theorem contract (H : Type) (enc : TypeId × Value → H) (W : World) (base : Nat) (args : Array Value) (ds gs : List (DataW H)) (before : List MemPlace)
    (hval : ∀ (j : Nat) t v, Try.f10.params[j]? = some t → args[j]? = some v → Value.okWide Try.prog W .any base t v)
    (hW : DataW.Whole enc Try.prog Try.f10.params.toList Rows.valueShuffledSpec.vars false W args.toList ds gs before) (hk : Rows.uptoSmall H (ds ++ gs) = true) :
    Calls Try.prog 10 args W fun e W' => ∃ v, e = .returned v ∧ Rows.valueShuffledSpec.post enc Try.prog Try.f10 false true false false W args v W' := by
  have hW' := hW
  obtain ⟨p, q, hA0, hV, rfl, hfz, hnd⟩ := hW
  have hA : DataW.TrodAll enc Try.prog W 0 (fun _ => true) true Try.f10.params.toList args.toList ds p := hA0
  rw [Try.params10] at hA hval
  obtain ⟨v0, vs0, d0, ds0, p0, q0, hargs, rfl, rfl, h0, r0⟩ := trodAll_cons hA
  obtain ⟨v1, vs1, d1, ds1, p1, q1, rfl, rfl, rfl, h1, r1⟩ := trodAll_cons r0
  obtain ⟨v2, vs2, d2, ds2, p2, q2, rfl, rfl, rfl, h2, r2⟩ := trodAll_cons r1
  obtain ⟨v3, vs3, d3, ds3, p3, q3, rfl, rfl, rfl, h3, r3⟩ := trodAll_cons r2
  obtain ⟨rfl, rfl, rfl⟩ := trodAll_nil r3
  obtain rfl : args = #[v0, v1, v2, v3] := by cases args; simp_all
  obtain ⟨rfl, rfl⟩ := trodVars_none hV
  have hbulk : Rows.uptoBulkAll ([d0, d1, d2, d3] ++ []) ≤ 1048576 := of_decide_eq_true hk
  simp only [List.append_nil, Rows.uptoBulkAll] at hbulk
  obtain ⟨a0, rfl, rfl, rfl, g0⟩ := open_int Try.underlying3 (hval 0 3 v0 rfl rfl) h0
  replace g0 := i64_of_wf g0
  obtain ⟨a1, b1, g1, c1⟩ := rwv_of_trod (hval 1 29 v1 rfl rfl) h1
  obtain ⟨a2, rfl, rfl, rfl, g2⟩ := open_int Try.underlying3 (hval 2 3 v2 rfl rfl) h2
  replace g2 := i64_of_wf g2
  obtain ⟨a3, rfl, rfl, rfl, g3⟩ := open_int Try.underlying3 (hval 3 3 v3 rfl rfl) h3
  replace g3 := i64_of_wf g3
  refine (shuffled_walk a0 a2 a3 v1 a1 W b1 (fun x hx => (g1 x hx).1) (by omega) (fun x hx => by have := (g1 x hx).2; omega)).mono fun e W' ⟨he, hb⟩ => ⟨_, he, ?_⟩
  exact law_post (T := 4) laidOut (by rw [Try.params10]; decide +kernel) rfl rfl Try.underlying4 (fun gs h => by subst h; rfl) hW' hb
set_option maxRecDepth 100000 in
theorem lifted (os : Os) (started : os.Started) (H : Type) (enc : TypeId × Value → H) (F : Stop.Interp) :
    ReturnsInHanded {} Try.checked os 10 .any ((Rows.OpenSpec.upto Rows.valueShuffledSpec).pre6 enc Try.prog Try.f10 Rows.valueShuffledUptoRow.domain false) (((Rows.OpenSpec.upto Rows.valueShuffledSpec).at F).post enc Try.prog Try.f10 false true false false) := by
  refine returnsInHanded_of_cond (C := Try.checked) (s := Rows.OpenSpec.upto Rows.valueShuffledSpec) (k := Rows.uptoSmall) rfl own started (by kernel_rfl) Try.func10
    (OpenSpec.witness (enc := enc) (C := Try.checked) (s := Rows.OpenSpec.upto Rows.valueShuffledSpec) (k := Rows.uptoSmall) rfl false ⟨#[], #[.int .i64 0, .slice none 0 0, .int .i64 0, .int .i64 0], []⟩ 8 (by kernel_rfl) (by kernel_rfl) (by kernel_rfl)
      (x := ([.lit (.int .i64 0), .nil, .lit (.int .i64 0), .lit (.int .i64 0)], [], [])) (by kernel_rfl) rfl (by kernel_rfl)) ?_
  intro W base args ds gs before hval hW _ hk _
  exact contract H enc W base args ds gs before hval hW hk
theorem over : Rows.valueShuffledUptoRow.holds Try.pinned (Rows.OpenSpec.upto Rows.valueShuffledSpec) :=
  OpenClaim.holds_of_cond 10 Try.f10 rfl rfl rfl rfl rfl rfl rfl ⟨rfl, rfl, rfl, rfl, rfl⟩ rfl rfl rfl rfl rfl (by kernel_rfl) Try.func10 (by kernel_rfl)
    (of_decide_eq_true (by kernel_rfl)) (by unfold Func.isWrapper; first | (rw [if_pos (by decide +kernel)]; kernel_rfl) | (rw [if_neg (by decide +kernel)]; exact ⟨rfl, rfl⟩))
    (fun os started H enc _ F => lifted os started H enc F)
/-- the statement, its second form -/
theorem proved : Rows.ValueShuffledUptoSaid := over
end plainValueShuffled
theorem valueShuffledUpto : Rows.ValueShuffledUptoSaid := plainValueShuffled.proved
end Go.Proofs.Ytbhilmgpmebaiaa
