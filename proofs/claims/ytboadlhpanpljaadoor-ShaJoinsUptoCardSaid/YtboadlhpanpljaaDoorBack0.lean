import Derived.Test.YtboadlhpanpljaaDoorFixed0
import Derived.Test.YtboadlhpanpljaaDoorHash0
import Derived.WalkKit
import Derived.ProofKit
import Derived.BigQuiet
import Derived.Deep.QuietTactic
import Derived.WalkSpells
import Derived.WalkLawsBesides
import Derived.Lib.Hide
import Derived.Deep.MidRow
import Derived.Deep.RegionLaw
import Derived.BigRegion
import Derived.Lib.SlBytesConst
import Derived.Laws.AppendOwnNone
import Derived.Deep.DeepMust
import Derived.Deep.AppendLies
import Derived.RegionTactic
import Derived.Deep.WholeRow
import Derived.BigFrame
import Derived.Deep.RegionWith
import Derived.Deep.RegionHeld3
import Derived.Maps.RangeWalk
import Derived.Laws.CopyOwn
import Derived.StillTailTactics
namespace Go.Proofs.YtboadlhpanpljaaDoor
open Go.RowKit
theorem beAt_nat (n j : Nat) : beAt n j = ((n / 2 ^ (56 - 8 * j) % 256 : Nat) : Int) := by
  simp [beAt]
theorem be8_nat (n : Nat) : be8 n = ([n / 256 / 256 / 256 / 256 / 256 / 256 / 256 % 256, n / 256 / 256 / 256 / 256 / 256 / 256 % 256, n / 256 / 256 / 256 / 256 / 256 % 256, n / 256 / 256 / 256 / 256 % 256, n / 256 / 256 / 256 % 256, n / 256 / 256 % 256, n / 256 % 256, n % 256].map fun x : Nat => (x : Int)) := by
  have e : be8 n = [beAt n 0, beAt n 1, beAt n 2, beAt n 3, beAt n 4, beAt n 5, beAt n 6, beAt n 7] := rfl
  rw [e]
  simp only [beAt_nat, List.map_cons, List.map_nil, Nat.div_div_eq_div_mul, Nat.reducePow, Nat.reduceMul, Nat.reduceSub, Nat.div_one]
theorem beI_nat (l : List Nat) : beI (l.map fun x : Nat => (x : Int)) = l.foldl (fun n x => n * 256 + x) 0 := by
  simp [beI, List.foldl_map]
theorem hstep (m q : Nat) (h : m / 256 = q) : q * 256 + m % 256 = m := by subst h; omega
set_option maxRecDepth 10000 in
theorem beI_be8 (n : Nat) (h : n < 18446744073709551616) : beI (be8 n) = n := by
  rw [be8_nat, beI_nat]
  simp only [List.foldl_cons, List.foldl_nil]
  have h7 : n / 256 / 256 / 256 / 256 / 256 / 256 / 256 < 256 := by omega
  clear h
  generalize h1 : n / 256 = m1 at *
  generalize h2 : m1 / 256 = m2 at *
  generalize h3 : m2 / 256 = m3 at *
  generalize h4 : m3 / 256 = m4 at *
  generalize h5 : m4 / 256 = m5 at *
  generalize h6 : m5 / 256 = m6 at *
  generalize h8 : m6 / 256 = m7 at *
  have e7 : (0 * 256 + m7 % 256) = m7 := by rw [Nat.zero_mul, Nat.zero_add, Nat.mod_eq_of_lt h7]
  have e6 : m7 * 256 + m6 % 256 = m6 := hstep _ _ h8
  have e5 : m6 * 256 + m5 % 256 = m5 := hstep _ _ h6
  have e4 : m5 * 256 + m4 % 256 = m4 := hstep _ _ h5
  have e3 : m4 * 256 + m3 % 256 = m3 := hstep _ _ h4
  have e2 : m3 * 256 + m2 % 256 = m2 := hstep _ _ h3
  have e1 : m2 * 256 + m1 % 256 = m1 := hstep _ _ h2
  have e0 : m1 * 256 + n % 256 = n := hstep _ _ h1
  rw [e7, e6, e5, e4, e3, e2, e1, e0]
set_option maxRecDepth 10000 in
theorem be8_fold (a b c d e f g i : Nat) (ha : a < 256) (hb : b < 256) (hc : c < 256) (hd : d < 256) (he : e < 256) (hf : f < 256) (hg : g < 256) (hi : i < 256) :
    be8 (beI ([a, b, c, d, e, f, g, i].map fun x : Nat => (x : Int))) = [a, b, c, d, e, f, g, i].map fun x : Nat => (x : Int) := by
  rw [beI_nat, be8_nat]
  simp only [List.foldl_cons, List.foldl_nil, Nat.zero_mul, Nat.zero_add]
  generalize h1 : a * 256 + b = m1
  generalize h2 : m1 * 256 + c = m2
  generalize h3 : m2 * 256 + d = m3
  generalize h4 : m3 * 256 + e = m4
  generalize h5 : m4 * 256 + f = m5
  generalize h6 : m5 * 256 + g = m6
  generalize h7 : m6 * 256 + i = m7
  have q6 : m7 / 256 = m6 := by omega
  have q5 : m6 / 256 = m5 := by omega
  have q4 : m5 / 256 = m4 := by omega
  have q3 : m4 / 256 = m3 := by omega
  have q2 : m3 / 256 = m2 := by omega
  have q1 : m2 / 256 = m1 := by omega
  have q0 : m1 / 256 = a := by omega
  rw [q6, q5, q4, q3, q2, q1, q0]
  have r7 : m7 % 256 = i := by omega
  have r6 : m6 % 256 = g := by omega
  have r5 : m5 % 256 = f := by omega
  have r4 : m4 % 256 = e := by omega
  have r3 : m3 % 256 = d := by omega
  have r2 : m2 % 256 = c := by omega
  have r1 : m1 % 256 = b := by omega
  have r0 : a % 256 = a := by omega
  rw [r7, r6, r5, r4, r3, r2, r1, r0]
theorem be8_rng (n : Nat) : Rng (be8 n) := by
  intro x hx
  simp only [be8, List.mem_map] at hx
  obtain ⟨j, _, rfl⟩ := hx
  rw [beAt_nat]
  omega
theorem rng_append {a b : List Int} (ha : Rng a) (hb : Rng b) : Rng (a ++ b) := fun x hx => (List.mem_append.1 hx).elim (ha x) (hb x)
theorem joinB_rng {ps : List (List Int)} (h : ∀ p ∈ ps, Rng p) : Rng (joinB ps) := by
  intro x hx
  simp only [joinB, List.mem_flatMap] at hx
  obtain ⟨p, hp, hx⟩ := hx
  exact rng_append (be8_rng _) (h p hp) x hx
theorem joined_rng {ps : List (List Int)} (h : ∀ p ∈ ps, Rng p) : Rng (joined ps) := rng_append (be8_rng _) (joinB_rng h)
theorem splitN_joinB (ps : List (List Int)) (h : jlen ps < 18446744073709551616) : splitN ps.length (joinB ps) = some (ps, []) := by
  induction ps with
  | nil => rfl
  | cons p ps ih =>
    have ih2 := ih (by simp only [jlen] at h; omega)
    have h8 := be8_len p.length
    have ht : (joinB (p :: ps)).take 8 = be8 p.length := by
      simp only [joinB, List.flatMap_cons, List.append_assoc]
      rw [List.take_append_of_le_length (by omega), List.take_of_length_le (by omega)]
    have hd : (joinB (p :: ps)).drop 8 = p ++ joinB ps := by
      simp only [joinB, List.flatMap_cons, List.append_assoc]
      rw [List.drop_append_of_le_length (by omega), List.drop_of_length_le (by omega), List.nil_append]
    have hb : beI (be8 p.length) = p.length := beI_be8 _ (by simp only [jlen] at h; omega)
    have hlen := joinB_len (p :: ps)
    simp only [List.length_cons, splitN]
    rw [ht, hb, if_neg (by rw [hlen]; simp only [jlen]; omega), if_neg (by rw [hlen]; simp only [jlen]; omega)]
    rw [← List.drop_drop, hd, List.drop_left, List.take_left, ih2]
    rfl
theorem splitL_joined (ps : List (List Int)) (h : jlen ps < 18446744073709551616) : splitL (joined ps) = some ps := by
  have h8 := be8_len ps.length
  have hl := jlen_ge ps
  have ht : (joined ps).take 8 = be8 ps.length := by
    rw [joined, List.take_append_of_le_length (by omega), List.take_of_length_le (by omega)]
  have hd : (joined ps).drop 8 = joinB ps := by
    rw [joined, List.drop_append_of_le_length (by omega), List.drop_of_length_le (by omega), List.nil_append]
  rw [splitL, if_neg (by rw [joined_len]; omega), ht, hd, beI_be8 _ (by omega), splitN_joinB ps h]
theorem joined_inj {ps qs : List (List Int)} (h1 : jlen ps < 18446744073709551616) (h2 : jlen qs < 18446744073709551616) (h : joined ps = joined qs) : ps = qs := by
  have a := splitL_joined ps h1
  have b := splitL_joined qs h2
  rw [h, b] at a
  exact (Option.some.inj a).symm
theorem be8_beI {l : List Int} (hl : l.length = 8) (h : Rng l) : be8 (beI l) = l := by
  match l, hl with
  | [a, b, c, d, e, f, g, i], _ =>
    have ha := h a (by simp)
    have hb := h b (by simp)
    have hc := h c (by simp)
    have hd := h d (by simp)
    have he := h e (by simp)
    have hf := h f (by simp)
    have hg := h g (by simp)
    have hi := h i (by simp)
    have key := be8_fold a.toNat b.toNat c.toNat d.toNat e.toNat f.toNat g.toNat i.toNat (by omega) (by omega) (by omega) (by omega) (by omega) (by omega) (by omega) (by omega)
    have e2 : ([a.toNat, b.toNat, c.toNat, d.toNat, e.toNat, f.toNat, g.toNat, i.toNat].map fun x : Nat => (x : Int)) = [a, b, c, d, e, f, g, i] := by
      simp only [List.map_cons, List.map_nil]
      rw [Int.toNat_of_nonneg ha.1, Int.toNat_of_nonneg hb.1, Int.toNat_of_nonneg hc.1, Int.toNat_of_nonneg hd.1, Int.toNat_of_nonneg he.1, Int.toNat_of_nonneg hf.1, Int.toNat_of_nonneg hg.1, Int.toNat_of_nonneg hi.1]
    rw [e2] at key
    exact key
theorem splitN_back : ∀ (n : Nat) (l : List Int) (ps : List (List Int)) (r : List Int), Rng l → splitN n l = some (ps, r) → ps.length = n ∧ joinB ps ++ r = l
  | 0, l, ps, r, _, h => by
    simp only [splitN, Option.some.injEq, Prod.mk.injEq] at h
    obtain ⟨rfl, rfl⟩ := h
    exact ⟨rfl, rfl⟩
  | n + 1, l, ps, r, hr, h => by
    rw [splitN] at h
    by_cases h8 : l.length < 8
    · rw [if_pos h8] at h; cases h
    rw [if_neg h8] at h
    by_cases hb : l.length - 8 < beI (l.take 8)
    · rw [if_pos hb] at h; cases h
    rw [if_neg hb] at h
    rw [Option.map_eq_some_iff] at h
    obtain ⟨⟨qs, r'⟩, hq, he⟩ := h
    simp only [Prod.mk.injEq] at he
    obtain ⟨rfl, rfl⟩ := he
    obtain ⟨h1, h2⟩ := splitN_back n _ qs r' (hr.drop _) hq
    refine ⟨by rw [List.length_cons, h1], ?_⟩
    have hlen : ((l.drop 8).take (beI (l.take 8))).length = beI (l.take 8) := by rw [List.length_take, List.length_drop]; omega
    have h3 : joinB ((l.drop 8).take (beI (l.take 8)) :: qs) = be8 (beI (l.take 8)) ++ ((l.drop 8).take (beI (l.take 8)) ++ joinB qs) := by
      simp only [joinB, List.flatMap_cons, List.append_assoc, hlen]
    rw [h3, be8_beI (by rw [List.length_take]; omega) (hr.take 8), List.append_assoc, List.append_assoc, h2, ← List.drop_drop, List.take_append_drop, List.take_append_drop]
theorem splitL_back {l : List Int} {ps : List (List Int)} (hr : Rng l) (h : splitL l = some ps) : joined ps = l := by
  rw [splitL] at h
  by_cases h8 : l.length < 8
  · rw [if_pos h8] at h; cases h
  rw [if_neg h8] at h
  split at h
  · rename_i qs heq
    injection h with h
    subst h
    obtain ⟨h1, h2⟩ := splitN_back _ _ _ _ (hr.drop 8) heq
    rw [List.append_nil] at h2
    rw [joined, h1, h2, be8_beI (by rw [List.length_take]; omega) (hr.take 8), List.take_append_drop]
  · cases h
end Go.Proofs.YtboadlhpanpljaaDoor
