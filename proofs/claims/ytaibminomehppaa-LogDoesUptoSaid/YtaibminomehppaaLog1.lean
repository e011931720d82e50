import Derived.Test.YtaibminomehppaaByt0
import Derived.WalkKit
import Derived.ProofKit
import Derived.BigQuiet
import Derived.Deep.QuietTactic
import Derived.WalkSpells
import Derived.WalkLawsBesides
import Derived.Lib.Hide
import Derived.Deep.MidRow
import Derived.Deep.RegionLaw
import Derived.BigRegion
import Derived.Laws.AppendOwnNone
import Derived.Deep.DeepMust
import Derived.Deep.AppendLies
import Derived.RegionTactic
import Derived.Deep.WholeRow
import Derived.BigFrame
import Derived.Deep.RegionWith
import Derived.Deep.RegionHeld3
import Derived.Maps.RangeWalk
import Derived.Laws.CopyOwn
import Derived.StillTailTactics

namespace Go.Proofs.Ytaibminomehppaa
open Go.RowKit
set_option maxHeartbeats 400000 in
theorem number_any (v : Value) (l : List Int) (w : World) (hv : Bs w v l) (hr : Rng l) (h8 : 8 ≤ l.length) (hl : l.length ≤ 1099511627776) :
    Calls Try.prog 113 #[v] w fun e w' => w = w' ∧ e = .returned (.int .u64 (beI (l.take 8))) := by
  obtain ⟨a, cap, rfl, hcap, hcells⟩ := hv
  obtain ⟨b, off, rfl, hbw, hc⟩ := hcells (by omega)
  have HC := Lib.hid hc
  have HR := Lib.hid hr
  have hcap8 : 8 ≤ cap := by omega
  clear hc hr hcells
  generalize hn : l.length = n at *
  have HN := Lib.hid hn
  clear hn
  go_enter Try.func113, Try.ntmps113
  go_wp2_with fail
  go_loop [3, 9] (fun t i => ∃ k : Nat, k ≤ 8 ∧ i = .int .i64 k ∧ t = .int .u64 (beI (l.take k))) (fun _ i => 8 - (intOf i).toNat)
  case atStart => exact ⟨0, Nat.zero_le _, rfl, rfl⟩
  case round =>
    obtain ⟨k, hk, rfl, rfl⟩ := hrel
    by_cases hlt : k < 8
    · have hce := HC.out k (by omega)
      have HST := Lib.hid (be_step l HR.out k hlt (by rw [HN.out]; omega))
      go_wp2
      go_round
      case rel => exact ⟨k + 1, by omega, by go_num, by rw [HST.out]⟩
      case measure => simp [intOf]; omega
    · have hk8 : 8 ≤ k := by omega
      have hk8' : k = 8 := by omega
      have HK := Lib.hid hk8'
      clear hlt hk8'
      go_wp2
      go_ret
      rw [HK.out]
      exact ⟨rfl, rfl⟩
/-- a row's block stays, or is new -/
def OwnTo (w : World) (v v' : Value) : Prop := ∀ g, v'.ownBlock = some g → v.ownBlock = some g ∨ w.heap.size ≤ g
theorem OwnTo.refl (w : World) (v : Value) : OwnTo w v v := fun _ h => .inl h
theorem OwnTo.trans {w w1 : World} {v v1 v2 : Value} (h : OwnTo w v v1) (k : OwnTo w1 v1 v2) (hs : w.heap.size ≤ w1.heap.size) : OwnTo w v v2 := fun g hg => by
  rcases k g hg with h1 | h1
  · exact h g h1
  · exact .inr (by omega)
theorem Chg.own {w w1 w2 : World} {v v1 : Value} (h : Chg (fun g => v.ownBlock = some g) w w1) (ho : OwnTo w v v1) (k : Chg (fun g => v1.ownBlock = some g) w1 w2) : Chg (fun g => v.ownBlock = some g) w w2 :=
  h.trans k (fun g hg => ho g hg)
set_option maxRecDepth 100000 in
theorem run_append_OwnT {w : World} {B : Nat} {v : Value} {l : List Int} (hown : Own w B v l) {v2 : Value} {m : List Int} (hbs : Bs w v2 m) (h63 : l.length + m.length ≤ 1099511627776) (hbase : B ≤ w.heap.size) (ty : TypeId) :
    ∃ v' w', (Builtin.append_ #[39, 39] ty #[v, v2]).run Try.prog w = .ok v' w' ∧ Own w' B v' (l ++ m) ∧ Chg (fun g => v.ownBlock = some g) w w' ∧ OwnTo w v v' := by
  obtain ⟨i0, hi, hz0, hz1, hz2⟩ := info_parts info5
  obtain ⟨ad, cap, rfl, hcap, hc⟩ := hbs
  cases ad with
  | none =>
    have h0 : cap = 0 := hcap.2 rfl
    have h1 : m = [] := List.eq_nil_of_length_eq_zero (by omega)
    subst h0 h1
    refine ⟨v, w, run_append_owned_none (P := Try.prog) (w := w) B 39 ty 5 i0 1 Try.underlying39 hi v _ _ hown, by simpa using hown, Chg.refl _ _, OwnTo.refl _ _⟩
  | some ad =>
    obtain ⟨v', w', h1, h2, h3, _, h5⟩ := run_append_own_at (P := Try.prog) w B 39 ty 5 i0 (.int .u8 0) 1 1 Try.underlying39 hi hz0 hz1 hz2 rfl (by decide) v l.length (l.map (Value.int .u8)) hown ad m.length cap (m.map (Value.int .u8)) (by simp) (by
      intro q u hu
      rw [List.getElem?_map, Option.map_eq_some_iff] at hu
      obtain ⟨y, hy, rfl⟩ := hu
      have hq : q < m.length := (List.getElem?_eq_some_iff.1 hy).1
      obtain ⟨pb, po, e1, e2, e3⟩ := hc (by omega)
      injection e1 with e1
      have e4 := e3 q hq
      rw [hy] at e4
      rw [e1, Addr.add_mid]
      exact e4) (by intro v hv; obtain ⟨x, _, rfl⟩ := List.mem_map.1 hv; rfl) (by unfold maxLen; omega) (by omega) hbase
    refine ⟨v', w', h1, by unfold Own; rw [List.length_append, List.map_append]; exact h2, Chg.grown h3 (fun k hk => hk), fun g hg => ?_⟩
    rcases h5 with h5 | h5
    · exact .inl (by rw [← h5]; exact hg)
    · rw [h5] at hg; injection hg with hg; exact .inr (by omega)
theorem wpList_append_OwnT {ops : Array Oper} {rest : List Oper} {o : Oper} {a : Act} {w : World} {Q : Exit → Act → World → Prop} (hgd : o.guard = none) (s x : Operand)
    (ho : o.op = .call { callee := .builtin .append, args := #[s, x], argTypes := #[39, 39] }) (B : Nat)
    (v : Value) (l : List Int) (hs : a.eval s = v) (hown : Own w B v l) (v2 : Value) (m : List Int) (hx : a.eval x = v2) (hbs : Bs w v2 m) (h63 : l.length + m.length ≤ 1099511627776) (hbase : B ≤ w.heap.size)
    (h : ∀ v' w', Own w' B v' (l ++ m) → Chg (fun g => v.ownBlock = some g) w w' → OwnTo w v v' → wpList Try.prog ops Q rest (a.put o.dst v') w') : wpList Try.prog ops Q (o :: rest) a w := by
  obtain ⟨v', w', h1, h2, h3, h4⟩ := run_append_OwnT hown hbs h63 hbase o.type
  refine wpList_plain hgd fun K hK => ?_
  unfold Oper.wp
  simp [execOp, ho, resolve, invoke, builtin, hs, hx, h1, Result.andThen]
  exact hK _ _ (h v' w' h2 h3 h4)
theorem be8_succ (k j : Nat) (h : j < 8) : (be8 k).take (j + 1) = (be8 k).take j ++ [(k : Int) / 2 ^ (56 - 8 * j) % 256] := be8_take_succ k j h
set_option maxHeartbeats 400000 in
theorem appendNumber_any (v : Value) (l : List Int) (B k : Nat) (w : World) (hown : Own w B v l) (hB : B ≤ w.heap.size) (hn : l.length ≤ 1099511627768) (hk : k < 18446744073709551616) :
    Calls Try.prog 86 #[v, .int .u64 k] w fun e w' => ∃ v', e = .returned v' ∧ Own w' B v' (l ++ be8 k) ∧ Chg (fun g => v.ownBlock = some g) w w' ∧ OwnTo w v v' := by
  have HO := Lib.hid hown
  have HK := Lib.hid hk
  have h8 := be8_len k
  clear hown hk
  go_enter Try.func86, Try.ntmps86
  go_wp2_with fail
  go_loopw [0, 5] (fun v0 s wr => ∃ j : Nat, j ≤ 8 ∧ s = .int .i64 (56 - 8 * (j : Int)) ∧ Own wr B v0 (l ++ (be8 k).take j) ∧ Chg (fun g => v.ownBlock = some g) w wr ∧ OwnTo w v v0)
    (fun _ s _ => (intOf s + 8).toNat)
  case atStart => exact ⟨0, by omega, by simp, by simpa using HO.out, Chg.refl _ _, OwnTo.refl _ _⟩
  case round =>
    obtain ⟨j, hj, rfl, hown, hbw, hot⟩ := hrel
    have hsz := hbw.size
    by_cases hlt : j < 8
    · have HB := Lib.hid (be8_succ k j hlt)
      have HBW := Lib.hid hbw
      have HOW := Lib.hid hown
      have HOT := Lib.hid hot
      have H8 := Lib.hid h8
      clear hbw hown h8 hot
      go_wp2_with (at_builtin; refine wpList_append_OwnT rfl (Operand.tmp 10) (Operand.tmp 15) rfl B _ (l ++ (be8 k).take j) rfl (HOW.out.alloc _) _ [(k : Int) / 2 ^ (56 - 8 * j) % 256] rfl (lit_bs wr _ [_] _ 1 1 rfl (Nat.le_refl 1)) (by simp [H8.out]; omega) (by simp; omega) ?_; intro v' w1 hown' hgrow hto; have HO1 := Lib.hid hown'; have HG1 := Lib.hid hgrow; have HT1 := Lib.hid hto; clear hown' hgrow hto)
      go_roundw
      case rel =>
        refine ⟨j + 1, by omega, by congr 1; omega, ?_, ?_, ?_⟩
        · rw [HB.out, ← List.append_assoc]; exact HO1.out
        · exact (HBW.out.alloc _).trans HG1.out (fun g hg => HOT.out g hg)
        · exact HOT.out.trans HT1.out (by simp; omega)
      case measure => simp [intOf]; omega
    · have hj8 : j = 8 := by omega
      rw [hj8] at hown
      rw [List.take_of_length_le (by omega)] at hown
      have hj9 : 8 ≤ j := by omega
      have HBW := Lib.hid hbw
      have HOW := Lib.hid hown
      have HOT := Lib.hid hot
      clear hbw hown hj8 hlt h8 hot
      go_wp2_with fail
      go_ret
      exact ⟨_, rfl, HOW.out, HBW.out, HOT.out⟩
theorem Bs.chg {w w' : World} {v : Value} {l : List Int} {F : Nat → Prop} (h : Bs w v l) (hc : Chg F w w') (hF : ∀ ad n c, v = .slice (some ad) n c → 0 < l.length → ¬ F ad.block) : Bs w' v l := by
  obtain ⟨a, cap, hv, hcap, h⟩ := h
  refine ⟨a, cap, hv, hcap, fun hl => ?_⟩
  obtain ⟨b, off, ha, hbs, hcell⟩ := h hl
  subst ha
  exact ⟨b, off, rfl, Nat.lt_of_lt_of_le hbs hc.size, fun i hi => (World.cell?_of_block (a := ⟨b, off + i, none⟩) (hc.block b hbs (hF _ _ _ hv hl))).trans (hcell i hi)⟩
set_option maxHeartbeats 400000 in
theorem appendRecord_any (v v2 : Value) (l m : List Int) (B : Nat) (w : World) (hown : Own w B v l) (hbs : Bs w v2 m) (hne : ∀ ad n c, v2 = .slice (some ad) n c → 0 < m.length → v.ownBlock ≠ some ad.block) (hB : B ≤ w.heap.size) (hn : l.length + m.length ≤ 1099511627000) :
    Calls Try.prog 81 #[v, v2] w fun e w' => ∃ v', e = .returned v' ∧ Own w' B v' (l ++ be8 m.length ++ m) ∧ Chg (fun g => v.ownBlock = some g) w w' ∧ OwnTo w v v' := by
  have HO := Lib.hid hown
  have HB := Lib.hid hbs
  have HNE := Lib.hid hne
  have hml : m.length < 1099511627776 := by omega
  obtain ⟨a2, cap2, hv2, _, _⟩ := hbs
  subst hv2
  clear hown hne
  go_enter Try.func81, Try.ntmps81
  go_wp2_with fail
  refine (appendNumber_any v l B m.length w HO.out hB (by omega) (by omega)).mono ?_
  rintro e w1 ⟨v1, rfl, ho1, hc1, ht1⟩
  have HO1 := Lib.hid ho1
  have HC1 := Lib.hid hc1
  have HT1 := Lib.hid ht1
  have HB1 := Lib.hid (HB.out.chg hc1 (fun ad n c e h0 he => HNE.out ad n c e h0 he))
  have hs1 := hc1.size
  have h8 := be8_len m.length
  clear ho1 hc1 ht1
  go_wp2_with (at_builtin; refine wpList_append_OwnT rfl (Operand.tmp 9) (Operand.tmp 10) rfl B _ (l ++ be8 m.length) rfl HO1.out _ m rfl HB1.out (by simp [h8]; omega) (by omega) ?_; intro v' w2 hown' hgrow hto; have HO2 := Lib.hid hown'; have HC2 := Lib.hid hgrow; have HT2 := Lib.hid hto; clear hown' hgrow hto)
  go_ret
  exact ⟨_, rfl, HO2.out, HC1.out.own HT1.out HC2.out, HT1.out.trans HT2.out hs1⟩
theorem place_any (a b c : Nat) (w : World) (ha : a < 18446744073709551616) :
    Calls Try.prog 112 #[.agg #[.int .u64 a, .int .u64 b, .int .u64 c]] w fun e w' => e = .returned (.int .i64 ((a % 2 : Nat) : Int)) ∧ Below w.heap.size w w' := by
  have hc0 := cell_of_row (w.alloc (.cells #[.int .u64 a, .int .u64 b, .int .u64 c] 83)) w.heap.size 0 _ _ _ (heap_alloc_new _ _)
  have hc0 : (w.alloc (.cells #[.int .u64 a, .int .u64 b, .int .u64 c] 83)).cell? ⟨w.heap.size, 0, none⟩ = some (.int .u64 a) := hc0
  have hm : ((a : Int)).tmod 2 = ((a % 2 : Nat) : Int) := by rw [Int.tmod_eq_emod_of_nonneg (by omega)]; omega
  have hr : ((a % 2 : Nat) : Int) < 2 := by omega
  go_enter Try.func112, Try.ntmps112
  go_wp2_with fail
  go_ret
  exact ⟨rfl, (Below.refl _ _).alloc (Nat.le_refl _) _⟩
theorem lroom_any (D : Nat) (fi sz : Int) (w : World) (h1 : 0 ≤ sz) (h2 : sz ≤ 4096) :
    Calls Try.prog 77 #[.agg #[.pointer (some ⟨D, 0, none⟩), .int .i64 fi, .int .i64 sz]] w fun e w' => e = .returned (.int .i64 ((sz - 2) * 256)) ∧ Below w.heap.size w w' := by
  have hc2 : (w.alloc (.cells #[.pointer (some ⟨D, 0, none⟩), .int .i64 fi, .int .i64 sz] 79)).cell? ⟨w.heap.size, 2, none⟩ = some (.int .i64 sz) := cell_of_row (w.alloc (.cells #[.pointer (some ⟨D, 0, none⟩), .int .i64 fi, .int .i64 sz] 79)) w.heap.size 2 _ _ _ (heap_alloc_new _ _)
  go_enter Try.func77, Try.ntmps77
  go_wp2_with fail
  go_ret
  exact ⟨rfl, (Below.refl _ _).alloc (Nat.le_refl _) _⟩
end Go.Proofs.Ytaibminomehppaa
