import Derived.Test.YtboadlhpanpljaaDoorHash3
import Derived.Test.YtboadlhpanpljaaDoorHash0
import Derived.WalkKit
import Derived.ProofKit
import Derived.BigQuiet
import Derived.Deep.QuietTactic
import Derived.WalkSpells
import Derived.WalkLawsBesides
import Derived.Lib.Hide
import Derived.Deep.MidRow
import Derived.Deep.RegionLaw
import Derived.RegionTactic
import Derived.Deep.WholeRow
import Derived.BigFrame
import Derived.Deep.RegionWith
import Derived.Deep.RegionHeld3
import Derived.Maps.RangeWalk
import Derived.Laws.CopyOwn
import Derived.StillTailTactics
namespace Go.Proofs.YtboadlhpanpljaaDoor
open Go.RowKit
def Rng (l : List Int) : Prop := ∀ x ∈ l, 0 ≤ x ∧ x < 256
theorem Rng.get {l : List Int} (h : Rng l) (i : Nat) : 0 ≤ l[i]?.getD 0 ∧ l[i]?.getD 0 < 256 := by
  by_cases hi : i < l.length
  · rw [List.getElem?_eq_getElem hi]; exact h _ (List.getElem_mem hi)
  · rw [List.getElem?_eq_none (by omega)]; exact ⟨by decide, by decide⟩
theorem Rng.drop {l : List Int} (h : Rng l) (k : Nat) : Rng (l.drop k) := fun x hx => h x (List.mem_of_mem_drop hx)
theorem Rng.take {l : List Int} (h : Rng l) (k : Nat) : Rng (l.take k) := fun x hx => h x (List.mem_of_mem_take hx)
def beI (l : List Int) : Nat := l.foldl (fun n x => n * 256 + x.toNat) 0
theorem beI_snoc (l : List Int) (x : Int) : beI (l ++ [x]) = beI l * 256 + x.toNat := by simp [beI]
theorem beI_lt' (l : List Int) (h : Rng l) : ∀ n : Nat, l.foldl (fun n x => n * 256 + x.toNat) n < (n + 1) * 256 ^ l.length := by
  induction l with
  | nil => intro n; simp
  | cons x l ih =>
    intro n
    have h1 := ih (fun y hy => h y (by simp [hy])) (n * 256 + x.toNat)
    have h2 := h x (by simp)
    rw [List.foldl_cons, List.length_cons, Nat.pow_succ]
    refine Nat.lt_of_lt_of_le h1 ?_
    have h3 : n * 256 + x.toNat + 1 ≤ (n + 1) * 256 := by omega
    calc (n * 256 + x.toNat + 1) * 256 ^ l.length ≤ ((n + 1) * 256) * 256 ^ l.length := Nat.mul_le_mul_right _ h3
      _ = (n + 1) * (256 ^ l.length * 256) := by rw [Nat.mul_assoc, Nat.mul_comm 256]
theorem beI_lt (l : List Int) (h : Rng l) : beI l < 256 ^ l.length := by
  have := beI_lt' l h 0
  simpa [beI] using this
theorem be_step (l : List Int) (h : Rng l) (k : Nat) (hk : k < 8) (hl : k < l.length) :
    bits BinOp.or IntKind.u64 (IntKind.u64.wrap ((beI (l.take k) : Int) * 256)) (IntKind.u64.wrap (l[k]?.getD 0)) = (beI (l.take (k + 1)) : Int) := by
  have h1 := beI_lt (l.take k) (h.take k)
  have h2 := h.get k
  have h3 : (l.take k).length = k := by simp; omega
  rw [h3] at h1
  have h4 : 256 ^ k ≤ 256 ^ 7 := Nat.pow_le_pow_right (by decide) (by omega)
  have h5 : (256 : Nat) ^ 7 = 72057594037927936 := by decide
  have e1 : IntKind.u64.wrap ((beI (l.take k) : Int) * 256) = (beI (l.take k) : Int) * 256 := by rw [IntKind.wrap_u64]; omega
  have e2 : IntKind.u64.wrap (l[k]?.getD 0) = l[k]?.getD 0 := by rw [IntKind.wrap_u64]; omega
  rw [e1, e2, bits_join .u64 64 (by decide) (fun n h0 h1 => by rw [IntKind.wrap_u64]; omega) 8 _ _ (by omega) (by omega) (by omega) h2.1 (by omega) (by omega)]
  rw [List.take_succ_eq_append_getElem hl, beI_snoc]
  have : (l[k]?.getD 0) = l[k] := by rw [List.getElem?_eq_getElem hl]; rfl
  rw [this] at h2 ⊢
  omega
theorem step_append_own {P : Program} {ops : Array Oper} {o : Oper} {a : Act} {w : World} {K : Act → World → Prop} {Q : Exit → Act → World → Prop} {E : Prop}
    (hg : o.guard = none) (s x : Operand) (t : TypeId) (hop : o.op = Op.call { callee := Callee.builtin Builtin.append, args := #[s, x], argTypes := #[t, t] })
    (base : Nat) (e : TypeId) (i : TypeInfo) (z : Value) (size bytes : Nat) (h1 : P.underlying t = some (.slice e)) (h2 : P.info? e = some i) (h3 : i.zero = some z) (h4 : i.size = size) (h5 : i.bytes = bytes) (h6 : z.cells.size = size) (h7 : 0 < size)
    (v : Value) (n : Nat) (xs : List Value) (hs : a.eval s = v) (hown : w.ownsRow base e size v n xs)
    (ad : Addr) (m c : Nat) (news : List Value) (hx : a.eval x = .slice (some ad) m c) (hn : news.length = m * size) (hc : ∀ j u, news[j]? = some u → w.cell? (ad.add j) = some u) (h1c : ∀ u ∈ news, u.oneCell' = true)
    (b1 : n + m ≤ maxLen) (b2 : (n + m) * bytes ≤ 140737488355328) (hbase : base ≤ w.heap.size)
    (hK : ∀ v' w', w'.ownsRow base e size v' (n + m) (xs ++ news) → w.grownBy w' v.ownBlock → (v' = .slice none 0 0 ↔ v = .slice none 0 0 ∧ m = 0) → K (a.put o.dst v') w') :
    if Region.wanted o (yielded ops a.tmps) = true then Oper.wp P o a w K Q else E := by
  have hw : Region.wanted o (yielded ops a.tmps) = true := by simp [Region.wanted, hg]
  rw [if_pos hw]
  obtain ⟨v', w', hrun, r1, r2, r3⟩ := run_append_own (P := P) w base t o.type e i z size bytes h1 h2 h3 h4 h5 h6 h7 v n xs hown ad m c news hn hc h1c b1 b2 hbase
  unfold Oper.wp
  simp [execOp, hop, resolve, invoke, builtin, hs, hx, hrun, Result.andThen]
  exact hK v' w' r1 r2 r3
set_option maxHeartbeats 400000 in
theorem takeNumber_short (a : Option Addr) (len cap : Nat) (w : World) (h : len < 8) :
    Calls Tryd.prog 24 #[.slice a len cap] w fun e w' => w = w' ∧ e = .returned (.tuple #[.int .u64 0, .slice none 0 0, .bool false]) := by
  go_enter Tryd.func24, Tryd.ntmps24
  go_wp2
  go_ret3
  exact ⟨rfl, rfl⟩
set_option maxHeartbeats 400000 in
theorem takeNumber_any (b off len cap : Nat) (l : List Int) (w : World) (hll : l.length = len) (h : 8 ≤ len) (hlc : len ≤ cap) (hr : Rng l)
    (hc : ∀ i, i < len → w.cell? ⟨b, off + i, none⟩ = some (.int .u8 (l[i]?.getD 0))) :
    Calls Tryd.prog 24 #[.slice (some ⟨b, off, none⟩) len cap] w fun e w' => Below w.heap.size w w' ∧ ∃ A, e = .returned (.tuple #[.int .u64 (beI (l.take 8)), .slice (some A) (len - 8) (cap - 8), .bool true]) ∧ (8 < len → A = ⟨b, off + 8, none⟩) := by
  have HL := Lib.hid hll
  have HC := Lib.hid hc
  have HR := Lib.hid hr
  obtain ⟨A, hA, hA2⟩ : ∃ A : Addr, (if cap = 8 then some (⟨b, off, none⟩ : Addr) else some ⟨b, off + 8, none⟩) = some A ∧ Hid (8 < len → A = ⟨b, off + 8, none⟩) := by
    by_cases h8 : cap = 8
    · exact ⟨⟨b, off, none⟩, by simp [h8], fun h' => by omega⟩
    · exact ⟨⟨b, off + 8, none⟩, by simp [h8], fun _ => rfl⟩
  clear hll hc hr
  go_enter Tryd.func24, Tryd.ntmps24
  go_wp2
  go_loop [2, 6, 13] (fun n _ i => ∃ k : Nat, k ≤ 8 ∧ i = .int .i64 k ∧ n = .int .u64 (beI (l.take k))) (fun _ _ i => 8 - (intOf i).toNat)
  case atStart => exact ⟨0, Nat.zero_le _, rfl, rfl⟩
  case round =>
    obtain ⟨k, hk, rfl, rfl⟩ := hrel
    by_cases hlt : k < 8
    · have hce := HC.out k (by omega)
      have hst := be_step l HR.out k hlt (by rw [HL.out]; omega)
      have HST := Lib.hid hst
      clear hst
      go_wp2
      go_round
      case rel => exact ⟨k + 1, by omega, by go_num, by rw [HST.out]⟩
      case measure => simp [intOf]; omega
    · have hk8 : 8 ≤ k := by omega
      have hk8' : k = 8 := by omega
      have HK := Lib.hid hk8'
      have hcap8 : 8 ≤ cap := by omega
      clear hlt hk8'
      go_wp2
      go_quiet (fail)
      go_wp2
      go_ret3
      rw [HK.out]
      exact ⟨below_drewN (Below.refl _ _) _, A, rfl, hA2.out⟩
theorem below_drew_grown {w w1 w2 : World} (h : w1.drew.grownBy w2 (Value.slice none 0 0).ownBlock) (hs : w.heap.size ≤ w1.heap.size) : Below w.heap.size w1 w2 :=
  ⟨h.os, h.tape, h.output, h.size, fun k hk => h.block k (Nat.lt_of_lt_of_le hk hs) (by simp [Value.ownBlock])⟩
theorem takePart_short (a : Option Addr) (len cap : Nat) (w : World) (h : len < 8) :
    Calls Tryd.prog 25 #[.slice a len cap] w fun e w' => w = w' ∧ e = .returned (.tuple #[.slice none 0 0, .slice none 0 0, .bool false]) := by
  go_enter Tryd.func25, Tryd.ntmps25
  go_wp2_with (go_at_call 24; refine (takeNumber_short _ _ _ _ h).mono ?_; rintro e w' ⟨rfl, rfl⟩)
  go_ret3
  exact ⟨rfl, rfl⟩
set_option maxHeartbeats 400000 in
theorem takePart_long (b off len cap : Nat) (l : List Int) (w : World) (hll : l.length = len) (h : 8 ≤ len) (hlc : len ≤ cap) (hr : Rng l) (hcap : len ≤ 1099511627776)
    (hc : ∀ i, i < len → w.cell? ⟨b, off + i, none⟩ = some (.int .u8 (l[i]?.getD 0))) (hn : len - 8 < beI (l.take 8)) :
    Calls Tryd.prog 25 #[.slice (some ⟨b, off, none⟩) len cap] w fun e w' => Below w.heap.size w w' ∧ e = .returned (.tuple #[.slice none 0 0, .slice none 0 0, .bool false]) := by
  have HC := Lib.hid hc
  generalize hN : beI (l.take 8) = N at *
  have HN := Lib.hid hN
  have hcond : ((len - 8 : Nat) : Int) < (N : Int) := by omega
  clear hc hN
  go_enter Tryd.func25, Tryd.ntmps25
  go_wp2_with fail
  refine (takeNumber_any b off len cap l w hll h hlc hr HC.out).mono ?_
  rintro e w1 ⟨hb1, A, rfl, _⟩
  rw [HN.out]
  have HB := Lib.hid hb1
  clear hb1
  go_wp2
  go_ret3
  exact ⟨HB.out, rfl⟩
set_option maxHeartbeats 400000 in
theorem takePart_any (b off len cap : Nat) (l : List Int) (w : World) (hll : l.length = len) (h : 8 ≤ len) (hlc : len ≤ cap) (hr : Rng l) (hcap : len ≤ 1099511627776) (hbw : b < w.heap.size)
    (hc : ∀ i, i < len → w.cell? ⟨b, off + i, none⟩ = some (.int .u8 (l[i]?.getD 0))) (hn : beI (l.take 8) ≤ len - 8) :
    Calls Tryd.prog 25 #[.slice (some ⟨b, off, none⟩) len cap] w fun e w' => Below w.heap.size w w' ∧ ∃ v1 A, e = .returned (.tuple #[v1, .slice (some A) (len - 8 - beI (l.take 8)) (cap - 8 - beI (l.take 8)), .bool true]) ∧
      w'.ownsRow w.heap.size 5 1 v1 (beI (l.take 8)) ((((l.drop 8).take (beI (l.take 8))).map (Value.int .u8))) ∧ (8 + beI (l.take 8) < len → A = ⟨b, off + (8 + beI (l.take 8)), none⟩) := by
  obtain ⟨i0, hi, hz0, hz1, hz2⟩ := info_parts info5
  have HC := Lib.hid hc
  have HL := Lib.hid hll
  generalize hN : beI (l.take 8) = N at *
  have HN := Lib.hid hN
  have hcond : ¬ ((len - 8 : Nat) : Int) < (N : Int) := by omega
  have hcond2 : (N : Int) ≤ ((len - 8 : Nat) : Int) := by omega
  have hN64 : (N : Int) ≤ ((cap - 8 : Nat) : Int) := by omega
  have hN65 : N ≤ cap - 8 := by omega
  clear hc hN hll
  go_enter Tryd.func25, Tryd.ntmps25
  go_wp2_with fail
  refine (takeNumber_any b off len cap l w HL.out h hlc hr HC.out).mono ?_
  rintro e w1 ⟨hb1, A, rfl, hA⟩
  rw [HN.out]
  obtain ⟨A2, hA2, hA3⟩ : ∃ A2 : Addr, (if cap - 8 = N then some A else some (A.add N)) = some A2 ∧ Hid (8 + N < len → A2 = ⟨b, off + (8 + N), none⟩) := by
    by_cases h8 : cap - 8 = N
    · exact ⟨A, by simp [h8], fun h' => by omega⟩
    · refine ⟨A.add N, by simp [h8], fun h' => ?_⟩
      rw [hA (by omega), Addr.add_mid, Nat.add_assoc]
  have hX : ∀ j u, (((l.drop 8).take N).map (Value.int .u8))[j]? = some u → w1.cell? (A.add j) = some u := by
    intro j u hu
    rw [List.getElem?_map, Option.map_eq_some_iff] at hu
    obtain ⟨x, hx, rfl⟩ := hu
    have hj : j < N := by have := (List.getElem?_eq_some_iff.1 hx).1; rw [List.length_take] at this; omega
    rw [List.getElem?_take, if_pos hj, List.getElem?_drop] at hx
    have e1 := HC.out (8 + j) (by omega)
    rw [hx] at e1
    rw [hA (by omega), Addr.add_mid, Nat.add_assoc]
    exact (hb1.cell (p := ⟨b, off + (8 + j), none⟩) hbw).trans e1
  have hXl : (((l.drop 8).take N).map (Value.int .u8)).length = N * 1 := by rw [List.length_map, List.length_take, List.length_drop, HL.out]; omega
  have hX1 : ∀ u ∈ (((l.drop 8).take N).map (Value.int .u8)), u.oneCell' = true := by intro v hv; obtain ⟨x, _, rfl⟩ := List.mem_map.1 hv; rfl
  have HX := Lib.hid hX
  have HXl := Lib.hid hXl
  have HX1 := Lib.hid hX1
  have HB := Lib.hid hb1
  have hs1 := hb1.size
  clear hX hXl hX1 hb1 hA
  go_wp2
  go_region_law (refine step_append_own rfl (Operand.const (Value.slice none 0 0)) (Operand.tmp 23) 22 rfl w.heap.size 5 i0 (.int .u8 0) 1 1 Tryd.underlying22 hi hz0 hz1 hz2 rfl (by decide) (.slice none 0 0) 0 [] rfl (World.ownsRow_nil _ _ _ _) A N (cap - 8) (((l.drop 8).take N).map (Value.int .u8)) (by simp [Act.eval, Act.put]) HXl.out HX.out HX1.out (by unfold maxLen; omega) (by omega) hs1 ?_; intro v' w2 hown hg _; have HO := Lib.hid hown; have HG := Lib.hid hg; clear hown hg)
  go_wp2
  go_ret3
  refine ⟨HB.out.trans (below_drew_grown HG.out hs1), v', A2, rfl, by simpa using HO.out, hA3.out⟩
end Go.Proofs.YtboadlhpanpljaaDoor
