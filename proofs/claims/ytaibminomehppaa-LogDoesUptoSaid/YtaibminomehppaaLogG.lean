import Derived.Test.YtaibminomehppaaLogF
import Derived.WalkKit
import Derived.ProofKit
import Derived.BigQuiet
import Derived.Deep.QuietTactic
import Derived.WalkSpells
import Derived.WalkLawsBesides
import Derived.Lib.Hide
import Derived.Deep.MidRow
import Derived.Deep.RegionLaw
import Derived.BigRegion
import Derived.Laws.AppendOwnNone
import Derived.Deep.DeepMust
import Derived.Deep.AppendLies
import Derived.RegionTactic
import Derived.Deep.WholeRow
import Derived.BigFrame
import Derived.Deep.RegionWith
import Derived.Deep.RegionHeld3
import Derived.Maps.RangeWalk
import Derived.Laws.CopyOwn
import Derived.StillTailTactics

namespace Go.Proofs.Ytaibminomehppaa
open Go.RowKit
theorem flat8_drop (ns : List Nat) (r : List Int) : ∀ j, j ≤ ns.length → (ns.flatMap be8 ++ r).drop (8 * j) = (ns.drop j).flatMap be8 ++ r := by
  intro j
  induction j with
  | zero => intro _; simp
  | succ j ih =>
    intro h
    have hlt : j < ns.length := by omega
    rw [show 8 * (j + 1) = 8 * j + 8 by omega, ← List.drop_drop, ih (by omega), List.drop_eq_getElem_cons hlt, List.flatMap_cons, List.append_assoc, List.drop_left' (be8_len _)]
theorem nAt_mb (a b c j x : Nat) (h : (mnums a b c)[j]? = some x) (hx : x < 18446744073709551616) : nAt (mb a b c) j = x := by
  have hlt : j < (mnums a b c).length := (List.getElem?_eq_some_iff.1 h).1
  have he : (mnums a b c)[j] = x := (List.getElem?_eq_some_iff.1 h).2
  unfold nAt mb
  rw [flat8_drop _ _ j (by omega), List.drop_eq_getElem_cons hlt, he, List.flatMap_cons, List.append_assoc, List.take_left' (be8_len _), beI_be8 _ hx]
theorem okB_mb (a b c : Nat) (ha : a < 18446744073709551616) (hb : b < 18446744073709551616) (hc : c < 18446744073709551616) : okB (mb a b c) = true := by
  unfold okB
  rw [nAt_mb a b c 0 a rfl ha, nAt_mb a b c 5 a rfl ha, nAt_mb a b c 1 b rfl hb, nAt_mb a b c 4 b rfl hb, nAt_mb a b c 2 c rfl hc, nAt_mb a b c 3 c rfl hc]
  simp
/-- the newest mark is (a, b, c): it lies whole in its block, and the other block has no later one -/
def Mk (f : Int → List Int) (fi : Int) (a b c : Nat) : Prop :=
  (okB (f (fi + (a % 2 : Nat))) = true ∧ nAt (f (fi + (a % 2 : Nat))) 0 = a ∧ nAt (f (fi + (a % 2 : Nat))) 1 = b ∧ nAt (f (fi + (a % 2 : Nat))) 2 = c) ∧ a ≠ 0 ∧
  ¬ (okB (f (fi + ((a + 1) % 2 : Nat))) = true ∧ nAt (f (fi + ((a + 1) % 2 : Nat))) 0 % 2 = (a + 1) % 2 ∧ a < nAt (f (fi + ((a + 1) % 2 : Nat))) 0)
theorem nst_mk {f : Int → List Int} {fi : Int} {a b c : Nat} (h : Mk f fi a b c) : nst f fi 2 = (a, b, c) := by
  obtain ⟨⟨h1, h2, h3, h4⟩, h0, h5⟩ := h
  have e0 : fi + ((0 : Nat) : Int) = fi := by omega
  show pk 1 (f (fi + (1 : Nat))) (pk 0 (f (fi + (0 : Nat))) (0, 0, 0)) = _
  rcases Nat.mod_two_eq_zero_or_one a with hp | hp
  · have hp1 : (a + 1) % 2 = 1 := by omega
    rw [hp] at h1 h2 h3 h4
    rw [hp1] at h5
    have e1 : pk 0 (f (fi + (0 : Nat))) (0, 0, 0) = (a, b, c) := by
      rw [pk, if_pos ⟨h1, by rw [h2, hp], by rw [h2]; show 0 < a; omega⟩, h2, h3, h4]
    rw [e1, pk, if_neg (fun h => h5 ⟨h.1, h.2.1, h.2.2⟩)]
  · have hp1 : (a + 1) % 2 = 0 := by omega
    rw [hp] at h1 h2 h3 h4
    rw [hp1] at h5
    have e1 : (pk 0 (f (fi + (0 : Nat))) (0, 0, 0)).1 < a := by
      unfold pk
      split
      · rename_i h
        show nAt (f (fi + (0 : Nat))) 0 < a
        have h6 : ¬ a < nAt (f (fi + (0 : Nat))) 0 := fun e => h5 ⟨h.1, h.2.1, e⟩
        have h7 : nAt (f (fi + (0 : Nat))) 0 % 2 = 0 := h.2.1
        omega
      · show 0 < a; omega
    rw [pk, if_pos ⟨h1, by rw [h2, hp], by rw [h2]; exact e1⟩, h2, h3, h4]
theorem fput_at (f : Int → List Int) (n : Int) (b : List Int) : fput f n b n = b := by rw [fput, if_pos rfl]
theorem fput_ne (f : Int → List Int) (n m : Int) (b : List Int) (h : m ≠ n) : fput f n b m = f m := by rw [fput, if_neg h]
/-- a mark behind the newest one -/
theorem Mk.next {f : Int → List Int} {fi : Int} {a b c : Nat} (h : Mk f fi a b c) (b' c' : Nat) (ha : a + 1 < 18446744073709551616) (hb : b' < 18446744073709551616) (hc : c' < 18446744073709551616) : Mk (fput f (fi + ((a + 1) % 2 : Nat)) (mb (a + 1) b' c')) fi (a + 1) b' c' := by
  have e1 : (a + 1 + 1) % 2 = a % 2 := by omega
  have hne : fi + ((a % 2 : Nat) : Int) ≠ fi + (((a + 1) % 2 : Nat) : Int) := by omega
  refine ⟨?_, by omega, ?_⟩
  · rw [fput_at]
    exact ⟨okB_mb _ _ _ ha hb hc, nAt_mb _ _ _ 0 _ rfl ha, nAt_mb _ _ _ 1 _ rfl hb, nAt_mb _ _ _ 2 _ rfl hc⟩
  · rw [e1, fput_ne _ _ _ _ hne, h.1.2.1]
    omega
theorem Mk.away {f g : Int → List Int} {fi : Int} {a b c : Nat} (h : Mk f fi a b c) (h0 : g fi = f fi) (h1 : g (fi + 1) = f (fi + 1)) : Mk g fi a b c := by
  have key : ∀ n, n < 2 → g (fi + (n : Nat)) = f (fi + (n : Nat)) := by
    intro n hn
    rcases n with _ | _ | n
    · simpa using h0
    · simpa using h1
    · omega
  unfold Mk
  rw [key _ (Nat.mod_lt _ (by decide)), key _ (Nat.mod_lt _ (by decide))]
  exact h
theorem mk_format (f : Int → List Int) (fi : Int) : Mk (fput (fput f (fi + 1) (mb 1 1 0)) fi (zeros 256)) fi 1 1 0 := by
  have e1 : (1 : Nat) % 2 = 1 := rfl
  have e2 : (1 + 1 : Nat) % 2 = 0 := rfl
  have hne : fi + ((1 : Nat) : Int) ≠ fi := by omega
  have e3 : fi + ((1 : Nat) : Int) = fi + 1 := by omega
  have e4 : fi + ((0 : Nat) : Int) = fi := by omega
  refine ⟨?_, by decide, ?_⟩
  · rw [e1, fput_ne _ _ _ _ hne, e3, fput_at]
    exact ⟨okB_mb _ _ _ (by decide) (by decide) (by decide), nAt_mb _ _ _ 0 _ rfl (by decide), nAt_mb _ _ _ 1 _ rfl (by decide), nAt_mb _ _ _ 2 _ rfl (by decide)⟩
  · rw [e2, e4, fput_at]
    have hz : nAt (zeros 256) 0 = 0 := by decide
    rw [hz]
    omega
/-- what writes make of blocks -/
def fputs (f : Int → List Int) : List (Int × List Int) → Int → List Int
  | [] => f
  | x :: r => fputs (fput f x.1 x.2) r
/-- a disk that does not fail -/
def Calm (s : DS) : Prop := s.fz = -1 ∧ s.dn = false
theorem wr_calm {nb rm : Int} {s : DS} (h : Calm s) (n : Int) (b : List Int) (h0 : 0 ≤ n) (h1 : n < nb) (h2 : n < rm) : s.we nb rm n = 0 ∧ Calm (s.wr nb rm n b) ∧ (s.wr nb rm n b).f = fput s.f n b := by
  obtain ⟨fz, dn, f, L⟩ := s
  obtain ⟨e1, e2⟩ := h
  dsimp only at e1 e2
  subst e1 e2
  have he : DS.we nb rm ⟨-1, false, f, L⟩ n = 0 := by
    simp [DS.we, wErr, opOk, hasB]
    omega
  refine ⟨he, ⟨rfl, rfl⟩, ?_⟩
  show (if _ = 0 then _ else _) = _
  rw [if_pos he]
theorem ws_calm {nb rm : Int} : ∀ (l : List (Int × List Int)) {s : DS}, Calm s → (∀ x ∈ l, 0 ≤ x.1 ∧ x.1 < nb ∧ x.1 < rm) → (s.ws nb rm l).2 = 0 ∧ Calm (s.ws nb rm l).1 ∧ (s.ws nb rm l).1.f = fputs s.f l
  | [], s, h, _ => ⟨rfl, h, rfl⟩
  | x :: r, s, h, hx => by
    obtain ⟨h0, h1, h2⟩ := hx x (List.mem_cons_self ..)
    obtain ⟨e1, e2, e3⟩ := wr_calm (nb := nb) (rm := rm) h x.1 x.2 h0 h1 h2
    unfold DS.ws
    rw [if_pos e1]
    have := ws_calm r e2 (fun y hy => hx y (List.mem_cons_of_mem _ hy))
    rw [e3] at this
    exact this
theorem wsy_calm {nb rm : Int} (l : List (Int × List Int)) {s : DS} (h : Calm s) (hx : ∀ x ∈ l, 0 ≤ x.1 ∧ x.1 < nb ∧ x.1 < rm) : (s.wsy nb rm l).2 = 0 ∧ (s.wsy nb rm l).1 = ⟨-1, false, fputs s.f l, []⟩ := by
  obtain ⟨e1, e2, e3⟩ := ws_calm l h hx
  unfold DS.wsy
  rw [if_pos e1]
  obtain ⟨e4, e5⟩ := e2
  generalize (s.ws nb rm l).1 = t at *
  obtain ⟨fz, dn, f, L⟩ := t
  dsimp only at e3 e4 e5
  subst e3 e4 e5
  exact ⟨rfl, rfl⟩
/-- the last block first: a full disk takes none -/
theorem wsy_full {nb rm : Int} (x : Int × List Int) (l : List (Int × List Int)) {s : DS} (h : Calm s) (h0 : 0 ≤ x.1) (h1 : x.1 < nb) (h2 : rm ≤ x.1) : (s.wsy nb rm (x :: l)).2 = 42 ∧ (s.wsy nb rm (x :: l)).1 = s := by
  obtain ⟨fz, dn, f, L⟩ := s
  obtain ⟨e1, e2⟩ := h
  dsimp only at e1 e2
  subst e1 e2
  have he : DS.we nb rm ⟨-1, false, f, L⟩ x.1 = 42 := by
    simp [DS.we, wErr, opOk, hasB]
    omega
  rw [wsy_cons, he, if_neg (by decide)]
  refine ⟨rfl, ?_⟩
  unfold DS.wr
  rw [he]
  rfl
theorem fputs_far (l : List (Int × List Int)) : ∀ (f : Int → List Int) (m : Int), (∀ x ∈ l, x.1 ≠ m) → fputs f l m = f m := by
  induction l with
  | nil => intro f m _; rfl
  | cons x r ih =>
    intro f m h
    show fputs (fput f x.1 x.2) r m = _
    rw [ih _ m (fun y hy => h y (List.mem_cons_of_mem _ hy)), fput_ne _ _ _ _ (fun e => h x (List.mem_cons_self ..) e.symm)]
theorem wl_mem {n : Int} {all : List Int} : ∀ {k : Nat} {x : Int × List Int}, x ∈ wl n all k → n ≤ x.1 ∧ x.1 < n + k
  | 0, x, h => by cases h
  | k + 1, x, h => by
    rcases List.mem_cons.1 h with h | h
    · subst h; show n ≤ n + (k : Int) ∧ n + (k : Int) < n + ((k + 1 : Nat) : Int); omega
    · have := wl_mem h; omega
theorem fputs_wl (n : Int) (all : List Int) : ∀ (k : Nat) (f : Int → List Int) (i : Nat), i < k → fputs f (wl n all k) (n + i) = padB (all.drop (256 * i))
  | 0, f, i, h => by omega
  | k + 1, f, i, h => by
    show fputs (fput f (n + k) (padB (all.drop (256 * k)))) (wl n all k) (n + i) = _
    by_cases hi : i < k
    · exact fputs_wl n all k _ i hi
    · obtain rfl : i = k := by omega
      rw [fputs_far _ _ _ (fun x hx => by have := wl_mem hx; omega), fput_at]
/-- the blocks that bytes are laid in -/
def catB (all : List Int) : Nat → List Int
  | 0 => []
  | k + 1 => catB all k ++ padB (all.drop (256 * k))
theorem catB_take (all : List Int) : ∀ k, 256 * k ≤ all.length + 255 → (catB all k).take all.length = all.take (256 * k) ∧ (catB all k).length = 256 * k
  | 0, _ => by simp [catB]
  | k + 1, h => by
    obtain ⟨ih, il⟩ := catB_take all k (by omega)
    refine ⟨?_, by rw [catB, List.length_append, il, padB_len]; omega⟩
    have hk : 256 * k ≤ all.length := by omega
    rw [List.take_of_length_le (by omega)] at ih
    rw [catB, List.take_append, il, List.take_of_length_le (by omega), ih, padB, List.take_append, List.length_take, List.length_drop]
    rw [show all.take (256 * (k + 1)) = all.take (256 * k) ++ (all.drop (256 * k)).take 256 by rw [show 256 * (k + 1) = 256 * k + 256 by omega, List.take_add]]
    congr 1
    rw [show all.length - 256 * k - min 256 (all.length - 256 * k) = (all.length - 256 * k) - min 256 (all.length - 256 * k) from rfl]
    rcases Nat.le_total 256 (all.length - 256 * k) with h1 | h1
    · rw [show (256 - (all.length - 256 * k)) = 0 by omega]
      rw [List.take_of_length_le (by rw [List.length_take, List.length_drop]; omega)]
      simp [zeros]
    · rw [show all.length - 256 * k - min 256 (all.length - 256 * k) = 0 by omega, List.take_zero, List.append_nil, List.take_of_length_le (by rw [List.length_take, List.length_drop]; omega)]
theorem arB_add (f : Int → List Int) (b : Int) (q : Nat) : ∀ k, arB f b (q + k) = arB f b q ++ arB f (b + q) k
  | 0 => by simp [arB]
  | k + 1 => by
    rw [← Nat.add_assoc, arB, arB_add f b q k, arB, List.append_assoc]
    congr 3
    omega
theorem arB_same (f g : Int → List Int) (b : Int) : ∀ k, (∀ i : Nat, i < k → f (b + i) = g (b + i)) → arB f b k = arB g b k
  | 0, _ => rfl
  | k + 1, h => by rw [arB, arB, arB_same f g b k (fun i hi => h i (by omega)), h k (by omega)]
theorem arB_cat (f : Int → List Int) (b : Int) (all : List Int) : ∀ k, (∀ i : Nat, i < k → f (b + i) = padB (all.drop (256 * i))) → arB f b k = catB all k
  | 0, _ => rfl
  | k + 1, h => by rw [arB, catB, arB_cat f b all k (fun i hi => h i (by omega)), h k (by omega)]
/-- the area behind a Sync's writes -/
theorem area_sync (f : Int → List Int) (b : Int) (c : Nat) (al : List Int) (hf : ∀ n, (f n).length = 256) (h0 : 0 < al.length) (g : Int → List Int)
    (hg : g = fputs f (wl (b + (c / 256 : Nat)) ((f (b + (c / 256 : Nat))).take (c % 256) ++ al) ((c % 256 + al.length - 1) / 256 + 1))) (hgl : ∀ n, (g n).length = 256) : areaB g b (c + al.length) = areaB f b c ++ al := by
  have hcd : c = 256 * (c / 256) + c % 256 := (Nat.div_add_mod _ _).symm
  have hlt : c % 256 < 256 := Nat.mod_lt _ (by decide)
  generalize c / 256 = q at *
  generalize c % 256 = ins at *
  obtain ⟨all, hall⟩ : ∃ all, (f (b + (q : Int))).take ins ++ al = all := ⟨_, rfl⟩
  rw [hall] at hg
  have hlen : all.length = ins + al.length := by rw [← hall, List.length_append, List.length_take, hf]; omega
  have hk1 : 256 * ((ins + al.length - 1) / 256) ≤ ins + al.length - 1 := Nat.mul_div_le _ _
  have hk2 : ins + al.length - 1 < 256 * ((ins + al.length - 1) / 256 + 1) := by omega
  generalize (ins + al.length - 1) / 256 = cnt at *
  have hA := arB_same g f b q (fun i hi => by rw [hg]; exact fputs_far _ _ _ (fun x hx => by have := wl_mem hx; omega))
  have hB := arB_cat g (b + q) all (cnt + 1) (fun i hi => by rw [hg]; exact fputs_wl _ _ _ _ _ hi)
  have hC := (catB_take all (cnt + 1) (by omega)).1
  rw [← areaB_eq g b hgl (q + (cnt + 1)) (c + al.length) (by omega), arB_add, hA, hB, List.take_append, arB_len f b hf, List.take_of_length_le (by rw [arB_len f b hf]; omega), show c + al.length - 256 * q = all.length by omega, hC, List.take_of_length_le (by omega), ← hall, ← List.append_assoc]
  congr 1
  rw [← areaB_eq f b hf (q + 1) c (by omega), arB, List.take_append, arB_len f b hf, show (arB f b q).take c = arB f b q from List.take_of_length_le (by rw [arB_len f b hf]; omega), show c - 256 * q = ins by omega]
end Go.Proofs.Ytaibminomehppaa
