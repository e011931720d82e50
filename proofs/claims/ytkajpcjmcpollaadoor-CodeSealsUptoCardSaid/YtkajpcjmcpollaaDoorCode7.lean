import Derived.Test.YtkajpcjmcpollaaDoorCode6
import Derived.WalkKit
import Derived.ProofKit
import Derived.BigQuiet
import Derived.Deep.QuietTactic
import Derived.WalkSpells
import Derived.WalkLawsBesides
import Derived.Lib.Hide
import Derived.Deep.MidRow
import Derived.Deep.RegionLaw
import Derived.BigRegion
import Derived.Lib.SlBytesConst
import Derived.Laws.AppendOwnNone
import Derived.Deep.DeepMust
import Derived.Deep.AppendLies
import Derived.RegionTactic
import Derived.Deep.WholeRow
import Derived.BigFrame
import Derived.Deep.RegionWith
import Derived.Deep.RegionHeld3
import Derived.Maps.RangeWalk
import Derived.Laws.CopyOwn
import Derived.StillTailTactics
namespace Go.Proofs.YtkajpcjmcpollaaDoor
open Go.RowKit
def vcells (x : Val) : List Value := [.int .i64 x.k, .int .i64 x.n, .string (str x.s)]
def OwnR (w : World) (B : Nat) (v : Value) (r : List Val) : Prop := w.ownsRow B 32 3 v r.length (r.flatMap vcells)
theorem info32 : (Tryd.prog.info? 32).map (fun i => (i.zero, i.size, i.bytes)) = some (some (.agg #[.int .i64 0, .int .i64 0, .string ⟨#[]⟩]), 3, 32) := by kernel_rfl
theorem OwnR.nil (w : World) (B : Nat) : OwnR w B (.slice none 0 0) [] := World.ownsRow_nil _ _ _ _
theorem flatMap_get : ∀ (r : List Val) (i : Nat) (x : Val) (j : Nat), r[i]? = some x → j < 3 → (r.flatMap vcells)[i * 3 + j]? = (vcells x)[j]?
  | [], i, x, j, h, _ => by simp at h
  | y :: r, 0, x, j, h, hj => by
    simp only [List.getElem?_cons_zero, Option.some.injEq] at h
    subst h
    rw [List.flatMap_cons, List.getElem?_append_left (by simp [vcells]; omega), Nat.zero_mul, Nat.zero_add]
  | y :: r, i + 1, x, j, h, hj => by
    rw [List.getElem?_cons_succ] at h
    have ih := flatMap_get r i x j h hj
    have h3 : (vcells y).length = 3 := rfl
    rw [List.flatMap_cons, List.getElem?_append_right (by omega), h3, show (i + 1) * 3 + j - 3 = i * 3 + j by omega, ih]
theorem OwnR.rw {w : World} {B : Nat} {v : Value} {r : List Val} (h : OwnR w B v r) : Rw w v r := by
  unfold OwnR at h
  rcases h.2 with ⟨rfl, h0⟩ | ⟨g, cap, cur, rfl, hg, hh, hle, _, _, _⟩
  · have : r = [] := List.eq_nil_of_length_eq_zero h0
    subst this
    exact ⟨none, 0, rfl, ⟨Nat.le_refl _, fun _ => rfl⟩, fun h => by simp at h⟩
  · refine ⟨some ⟨g, 0, none⟩, cap, rfl, ⟨hle, fun e => by cases e⟩, fun _ => ⟨g, 0, rfl, (h.lt g rfl).2, fun i x hx => ?_⟩⟩
    have hc : ∀ j, j < 3 → ∀ u, (vcells x)[j]? = some u → w.cell? ⟨g, 0 + (i * 3 + j), none⟩ = some u := fun j hj u hu => by
      have := h.cells (g := g) rfl (i * 3 + j) u ((flatMap_get r i x j hx hj).trans hu)
      rw [Addr.add_mid] at this
      exact this
    exact ⟨hc 0 (by omega) _ rfl, hc 1 (by omega) _ rfl, hc 2 (by omega) _ rfl⟩
theorem own_below {w w' : World} {B B' e size n : Nat} {v : Value} {xs : List Value} (h : w.ownsRow B e size v n xs) (hb : Below B' w w') (hB : w.heap.size ≤ B') : w'.ownsRow B e size v n xs := by
  have hg : w.grownBy w' none := ⟨hb.os, hb.tape, hb.output, hb.size, fun k hk _ => hb.block k (by omega)⟩
  refine World.ownsRow.kept h hg ?_
  cases hv : v.ownBlock with
  | none => exact .inl rfl
  | some g => exact .inr (by simp)
theorem cells_three_new (w : World) (a b c : Value) (T : TypeId) {H : Nat} (hH : w.heap.size = H) : ∀ j u, ([a, b, c] : List Value)[j]? = some u → (w.alloc (.cells #[a, b, c] T)).cell? ((⟨H, 0, none⟩ : Addr).add j) = some u := by
  subst hH
  intro j u hu
  rw [Addr.add_mid, Nat.zero_add, cell_of_row _ _ j _ _ _ (heap_alloc_new w (.cells #[a, b, c] T))]
  simpa using hu
def RowPost (l : List Int) (w : World) (e : Ending) (w' : World) : Prop :=
  Below w.heap.size w w' ∧ match rows l with
    | .ok r => ∃ v', e = .returned (.tuple #[v', .int .i64 0, .int .i64 0]) ∧ OwnR w' w.heap.size v' r
    | .err x p => e = .returned (.tuple #[.slice none 0 0, .int .i64 x, .int .i64 p])
theorem one_err {l : List Int} {e : Int} (h : one l = .err e) : e = 5 ∨ e = 6 := by
  unfold one at h
  split at h
  · cases h
  split at h
  · split at h
    · cases h; exact .inr rfl
    · cases h
  split at h
  · cases ht : txt 0 (l.drop 1) with
    | ok s u => rw [ht] at h; cases h
    | err e2 => rw [ht] at h; cases h; exact txt_err ht
  split at h
  · split at h
    · cases h; exact .inr rfl
    split at h
    · cases h; exact .inl rfl
    · cases h
  · cases h; exact .inl rfl
set_option maxHeartbeats 1600000 in
theorem row_any (v : Value) (l : List Int) (w : World) (hv : Bs w v l) (hr : Rng l) (hl : l.length ≤ 1073741824) :
    Calls Tryd.prog 15 #[v] w fun e w' => RowPost l w e w' := by
  obtain ⟨i0, hi, hz0, hz1, hz2⟩ := info_parts info32
  have hz := zero32
  have HV := Lib.hid hv
  obtain ⟨a, cap, rfl, hcap, hcells⟩ := hv
  have HC := Lib.hid hcells
  clear hcells
  generalize hn : l.length = n at *
  have HN := Lib.hid hn
  clear hn
  go_enter Tryd.func15, Tryd.ntmps15
  go_wp2_with fail
  go_loopw [5, 6] (fun v5 i wr => ∃ (k : Nat) (vs : List Val), k ≤ n ∧ i = .int .i64 k ∧ OwnR wr w.heap.size v5 vs ∧ Below w.heap.size w wr ∧ Hid (rows l = RR.app vs (rowsF (l.length - k) k (l.drop k))) ∧ vs.length ≤ k) (fun _ i _ => n - (intOf i).toNat)
  case atStart => exact ⟨0, [], Nat.zero_le _, rfl, OwnR.nil _ _, Below.refl _ _, Lib.hid (by rw [RR.app_nil]; rfl), by simp⟩
  case round =>
    obtain ⟨k, vs, hk, rfl, hown, hbw, hti, hvk⟩ := hrel
    have hsz := hbw.size
    have HOW := Lib.hid hown
    have HBW := Lib.hid hbw
    clear hbw hown
    by_cases hlt : k < n
    · obtain ⟨b, off, rfl, hb, hce⟩ := HC.out (by omega)
      have hBs : Bs wr (.slice (some ⟨b, off + k, none⟩) (n - k) (cap - k)) (l.drop k) := by
        refine ⟨some ⟨b, off + k, none⟩, cap - k, by rw [List.length_drop, HN.out], ⟨by rw [List.length_drop, HN.out]; omega, fun e => by cases e⟩, fun h0 => ?_⟩
        rw [List.length_drop, HN.out] at h0
        refine ⟨b, off + k, rfl, by omega, fun i hi => ?_⟩
        rw [List.length_drop, HN.out] at hi
        rw [List.getElem?_drop, Nat.add_assoc]
        exact (HBW.out.cell (p := ⟨b, off + (k + i), none⟩) hb).trans (hce (k + i) (by omega))
      have hres := firstValue_any _ (l.drop k) wr hBs (hr.drop k) (by rw [List.length_drop, HN.out]; omega) (by rw [List.length_drop, HN.out]; omega)
      have hcn : (n : Int) ≤ (cap : Int) := by omega
      clear hce hBs
      cases ho : one (l.drop k) with
      | err e2 =>
        rw [ho] at hres
        simp only [oneRes] at hres
        have HR := Lib.hid hres
        have he0 : (e2 != 0) = true := by rcases one_err ho with h | h <;> rw [h] <;> decide
        have HF := Lib.hid (rows_err l vs k e2 (by rw [HN.out]; exact hlt) hti.out ho)
        clear hres ho
        go_wp2_with (go_at_call 27; (with_reducible refine HR.out.mono ?_); rintro e w1 ⟨rfl, hb1⟩; have HB1 := Lib.hid (HBW.out.trans (hb1.mono hsz)); clear hb1)
        go_ret3
        refine ⟨(HB1.out.alloc (by have := HB1.out.size; omega) _), ?_⟩
        rw [HF.out]
        rfl
      | ok x u =>
        rw [ho] at hres
        simp only [oneRes, vagg] at hres
        have HR := Lib.hid hres
        obtain ⟨hst, hu1, hu2⟩ := rows_step l vs k x u (by rw [HN.out]; exact hlt) hti.out ho
        have HST := Lib.hid hst
        rw [HN.out] at hu2
        clear hres ho hst hti
        go_wp2_with (first
          | (go_at_call 27; (with_reducible refine HR.out.mono ?_); rintro e w1 ⟨rfl, hb1⟩; have HB1 := Lib.hid (HBW.out.trans (hb1.mono hsz)); have hs1 := HB1.out.size; have HO1 := Lib.hid (World.ownsRow.alloc (own_below HOW.out hb1 (Nat.le_refl _)) (.cells #[.int .i64 x.k, .int .i64 x.n, .string (str x.s)] 32)); clear hb1)
          | (at_builtin; refine wpList_append_own _ rfl (Operand.tmp 26) (Operand.tmp 28) 23 rfl w.heap.size 32 i0 _ 3 32 Tryd.underlying23 hi hz0 hz1 hz2 rfl (by decide) _ _ _ rfl (HO1.out.alloc _) ⟨w1.heap.size + 1, 0, none⟩ 1 1 (vcells x) rfl rfl (cells_three_new _ _ _ _ _ (by simp)) (by intro u hu; simp [vcells] at hu; rcases hu with rfl | rfl | rfl <;> rfl) (by unfold maxLen; omega) (by omega) (by simp; omega) ?_; intro v2 w2 hown2 hg2 _; have HO2 := Lib.hid hown2; have HG2 := Lib.hid hg2; clear hown2 hg2))
        go_roundw
        case rel =>
          refine ⟨k + u, vs ++ [x], by omega, by go_num, ?_, ?_, HST, by simp; omega⟩
          · have := HO2.out
            unfold OwnR
            rw [List.length_append, List.flatMap_append, List.flatMap_singleton]
            exact this
          · exact ((HB1.out.alloc (by omega) _).alloc (by simp; omega) _).grown HG2.out (by simp; omega) (fun g hg => (HO1.out.lt g hg).1)
        case measure => simp [intOf]; omega
    · have hkn : n ≤ k := by omega
      have HF := Lib.hid (rows_end l vs k (by rw [HN.out]; exact hkn) hti.out)
      clear hti hlt
      go_wp2_with fail
      go_ret3
      refine ⟨HBW.out, ?_⟩
      rw [HF.out]
      exact ⟨_, rfl, HOW.out⟩
end Go.Proofs.YtkajpcjmcpollaaDoor
