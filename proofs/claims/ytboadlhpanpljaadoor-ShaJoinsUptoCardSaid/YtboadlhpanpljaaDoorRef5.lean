import Derived.Test.YtboadlhpanpljaaDoorRef4
import Derived.Test.YtboadlhpanpljaaDoorLaw1
import Derived.Test.YtboadlhpanpljaaDoorFixed0
import Derived.WalkKit
import Derived.ProofKit
import Derived.BigQuiet
import Derived.Deep.QuietTactic
import Derived.WalkSpells
import Derived.WalkLawsBesides
import Derived.Lib.Hide
import Derived.Deep.MidRow
import Derived.Deep.RegionLaw
import Derived.BigRegion
import Derived.Laws.AppendOwnNone
import Derived.Deep.DeepMust
import Derived.Deep.AppendLies
import Derived.RegionTactic
import Derived.Deep.WholeRow
import Derived.BigFrame
import Derived.Deep.RegionWith
import Derived.Deep.RegionHeld3
import Derived.Maps.RangeWalk
import Derived.Laws.CopyOwn
import Derived.StillTailTactics
namespace Go.Proofs.YtboadlhpanpljaaDoor
open Go.RowKit
/-- append of a slice that reads as bytes to one's own row -/
theorem wpList_append_bs {P : Program} {ops : Array Oper} {rest : List Oper} {o : Oper} {a : Act} {w : World} {Q : Exit → Act → World → Prop} (hgd : o.guard = none) (s x : Operand) (t : TypeId)
    (ho : o.op = .call { callee := .builtin .append, args := #[s, x], argTypes := #[t, t] })
    (base : Nat) (e : TypeId) (i : TypeInfo) (ht : P.underlying t = some (.slice e)) (hi : P.info? e = some i) (hz : i.zero = some (.int .u8 0))
    (hsize : i.size = 1) (hby : i.bytes = 1)
    (v : Value) (n : Nat) (xs : List Value) (hs : a.eval s = v) (hown : w.ownsRow base e 1 v n xs)
    (v2 : Value) (l : List Int) (hx : a.eval x = v2) (hbs : Bs w v2 l) (h63 : n + l.length ≤ 1099511627776) (hbase : base ≤ w.heap.size)
    (h : ∀ v' w', w'.ownsRow base e 1 v' (n + l.length) (xs ++ l.map (Value.int .u8)) → w.grownBy w' v.ownBlock → wpList P ops Q rest (a.put o.dst v') w') : wpList P ops Q (o :: rest) a w := by
  obtain ⟨ad, cap, rfl, hcap, hc⟩ := hbs
  cases ad with
  | none =>
    have h0 : cap = 0 := hcap.2 rfl
    have h1 : l = [] := List.eq_nil_of_length_eq_zero (by omega)
    subst h0 h1
    refine wpList_append_own_none hgd s x t ho base e i 1 ht hi v n xs hs hown hx ?_
    exact h v w (by simpa using hown) (World.grownBy.refl _ _)
  | some ad =>
    refine wpList_append_own w hgd s x t ho base e i (.int .u8 0) 1 1 ht hi hz hsize hby rfl (by decide) v n xs hs hown ad l.length cap (l.map (Value.int .u8)) hx (by simp) ?_ (by intro v hv; obtain ⟨x, _, rfl⟩ := List.mem_map.1 hv; rfl) (by unfold maxLen; omega) (by omega) hbase (fun v' w' h1 h2 _ => h v' w' h1 h2)
    intro q u hu
    rw [List.getElem?_map, Option.map_eq_some_iff] at hu
    obtain ⟨y, hy, rfl⟩ := hu
    have hq : q < l.length := (List.getElem?_eq_some_iff.1 hy).1
    obtain ⟨pb, po, e1, e2, e3⟩ := hc (by omega)
    injection e1 with e1
    have e4 := e3 q hq
    rw [hy] at e4
    rw [e1, Addr.add_mid]
    exact e4
theorem run_append_bs {P : Program} {w : World} (t ty e : TypeId) (base : Nat) (i : TypeInfo) (ht : P.underlying t = some (.slice e)) (hi : P.info? e = some i) (hz : i.zero = some (.int .u8 0))
    (hsize : i.size = 1) (hby : i.bytes = 1) (v : Value) (n : Nat) (xs : List Value) (hown : w.ownsRow base e 1 v n xs)
    (v2 : Value) (l : List Int) (hbs : Bs w v2 l) (h63 : n + l.length ≤ 1099511627776) (hbase : base ≤ w.heap.size) :
    ∃ v' w', (Builtin.append_ #[t, t] ty #[v, v2]).run P w = .ok v' w' ∧ w'.ownsRow base e 1 v' (n + l.length) (xs ++ l.map (Value.int .u8)) ∧ w.grownBy w' v.ownBlock := by
  obtain ⟨ad, cap, rfl, hcap, hc⟩ := hbs
  cases ad with
  | none =>
    have h0 : cap = 0 := hcap.2 rfl
    have h1 : l = [] := List.eq_nil_of_length_eq_zero (by omega)
    subst h0 h1
    exact ⟨v, w, run_append_owned_none (P := P) (w := w) base t ty e i 1 ht hi v n xs hown, by simpa using hown, World.grownBy.refl _ _⟩
  | some ad =>
    obtain ⟨v', w', h1, h2, h3, _⟩ := run_append_own (P := P) w base t ty e i (.int .u8 0) 1 1 ht hi hz hsize hby rfl (by decide) v n xs hown ad l.length cap (l.map (Value.int .u8)) (by simp) (by
      intro q u hu
      rw [List.getElem?_map, Option.map_eq_some_iff] at hu
      obtain ⟨y, hy, rfl⟩ := hu
      have hq : q < l.length := (List.getElem?_eq_some_iff.1 hy).1
      obtain ⟨pb, po, e1, e2, e3⟩ := hc (by omega)
      injection e1 with e1
      have e4 := e3 q hq
      rw [hy] at e4
      rw [e1, Addr.add_mid]
      exact e4) (by intro v hv; obtain ⟨x, _, rfl⟩ := List.mem_map.1 hv; rfl) (by unfold maxLen; omega) (by omega) hbase
    exact ⟨v', w', h1, h2, h3⟩
/-- a literal of no elements: a new block of one's own, the value kept unwritten -/
theorem wpList_build_empty {P : Program} {w : World} {ops : Array Oper} {rest : List Oper} {o : Oper} {a : Act} {Q : Exit → Act → World → Prop} (hgd : o.guard = none) (t e : TypeId) (size : Nat)
    (ho : o.op = .buildSlice t 0 #[]) (hrun : ∀ w : World, (Instr.buildSlice t 0 #[]).run P w = .ok (.slice (some ⟨w.heap.size, 0, none⟩) 0 0) (w.alloc (.cells #[] e)))
    (h : ∀ v w', w'.ownsRow w.heap.size e size v 0 [] → Below w.heap.size w w' → v.ownBlock = some w.heap.size → w'.heap.size = w.heap.size + 1 → wpList P ops Q rest (a.put o.dst v) w') : wpList P ops Q (o :: rest) a w := by
  refine wpList_plain hgd fun K hK => ?_
  unfold Oper.wp
  simp [execOp, ho, hrun, Result.andThen, Oper.upon]
  refine hK _ _ (h _ _ (World.ownsRow_lit w #[] 0 (Nat.le_refl _) (Nat.zero_le _) (by simp)) ((Below.refl _ _).alloc (Nat.le_refl _) _) rfl (by simp))
theorem build22 (w : World) : (Instr.buildSlice 22 0 #[]).run Tryd.prog w = .ok (.slice (some ⟨w.heap.size, 0, none⟩) 0 0) (w.alloc (.cells #[] 5)) := by kernel_rfl
theorem build44 (w : World) : (Instr.buildSlice 44 0 #[]).run Tryd.prog w = .ok (.slice (some ⟨w.heap.size, 0, none⟩) 0 0) (w.alloc (.cells #[] 49)) := by kernel_rfl
set_option maxHeartbeats 400000 in
theorem number_any (k : Nat) (w : World) (hk : k < 18446744073709551616) :
    Calls Tryd.prog 21 #[.int .u64 k, .int .i64 8] w fun e w' => ∃ v', e = .returned v' ∧ w'.ownsRow w.heap.size 5 1 v' 8 ((be8 k).map (Value.int .u8)) ∧ Below w.heap.size w w' := by
  obtain ⟨i0, hi, hz0, hz1, hz2⟩ := info_parts info5
  have HK := Lib.hid hk
  clear hk
  go_enter Tryd.func21, Tryd.ntmps21
  go_wp2_with fail
  go_loopw [5, 6] (fun v0 s wr => ∃ j : Nat, j ≤ 8 ∧ s = .int .i64 (7 - (j : Int)) ∧ wr.ownsRow w.heap.size 5 1 v0 j (((be8 k).take j).map (Value.int .u8)) ∧ Below w.heap.size w wr)
    (fun _ s _ => (intOf s + 1).toNat)
  case atStart => exact ⟨0, by omega, by simp, by simpa using World.ownsRow_lit (base := w.heap.size) (size := 1) (e := 5) w #[] 0 (Nat.le_refl _) (Nat.zero_le _) rfl, (Below.refl _ _).alloc (Nat.le_refl _) _⟩
  case round =>
    obtain ⟨j, hj, rfl, hown, hbw⟩ := hrel
    have hsz := hbw.size
    by_cases hlt : j < 8
    · have hb := be8_take_succ k j hlt
      have HB := Lib.hid hb
      have HBW := Lib.hid hbw
      have HOW := Lib.hid hown
      clear hb hbw hown
      have e1 : IntKind.i64.wrap (8 * (7 - (j : Int))) = 56 - 8 * (j : Int) := by rw [IntWalk.i64_in _ (by omega)]; omega
      have e2 : 0 ≤ 56 - 8 * (j : Int) := by omega
      have e3 : (56 - 8 * (j : Int)).toNat = 56 - 8 * j := by omega
      go_wp2_with (at_builtin; refine wpList_append_own _ rfl (Operand.tmp 14) (Operand.tmp 20) 22 rfl w.heap.size 5 i0 (.int .u8 0) 1 1 Tryd.underlying22 hi hz0 hz1 hz2 rfl (by decide) _ _ _ rfl (HOW.out.alloc _) ⟨wr.heap.size, 0, none⟩ 1 1 [.int .u8 (beAt k j)] rfl rfl (cell_one_new _ _ _) (by intro u hu; simp at hu; subst hu; rfl) (by unfold maxLen; omega) (by omega) (by simp; omega) ?_; intro v' w1 hown' hgrow _; have HO1 := Lib.hid hown'; have HG1 := Lib.hid hgrow; clear hown' hgrow)
      refine ⟨⟨j + 1, by omega, by congr 1; omega, ?_, ?_⟩, by simp [intOf]; omega⟩
      · rw [HB.out]; simpa [Nat.add_assoc] using HO1.out
      · exact (HBW.out.alloc (by omega) _).grown HG1.out (by simp; omega) (fun g hg => (HOW.out.lt g hg).1)
    · have hj8 : j = 8 := by omega
      subst hj8
      have e8 : (be8 k).take 8 = be8 k := List.take_of_length_le (by rw [be8_len]; omega)
      rw [e8] at hown
      have HBW := Lib.hid hbw
      have HOW := Lib.hid hown
      clear hbw hown e8 hlt
      go_wp2_with fail
      go_ret
      exact ⟨_, rfl, HOW.out, HBW.out⟩
end Go.Proofs.YtboadlhpanpljaaDoor
