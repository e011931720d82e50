/- the keys of a map, sorted; a map copied -/
import Derived.Test.YtdkjkibdncbibaaGreatCm16
namespace Go.Proofs.YtdkjkibdncbibaaGreat
open Go.RowKit Go.Maps Go.Shelf Go.WideElems
open Go.Lib (hid)
def srt (l : List Int) : List Int := l.mergeSort (fun x y => decide (x ≤ y))
def nilR (_ : Value) : Option (DataW Unit × List MemPlace) := some (.nil, [])
theorem wf_i64 {n : Int} (h : -9223372036854775808 ≤ n ∧ n ≤ 9223372036854775807) : (Lit.int .i64 n).wf = true := by
 have h1 : IntKind.i64.min = -9223372036854775808 := by decide
 have h2 : IntKind.i64.max = 9223372036854775807 := by decide
 simp only [Lit.wf, h1, h2, Bool.and_eq_true, decide_eq_true_eq]
 exact h
theorem own_of {α : Type} {enc : α → Value} {w : World} {M : Nat} {kvs : List (Int × α)} (h : MapG enc w M kvs) (hk : ∀ n ∈ gk kvs, -9223372036854775808 ≤ n ∧ n ≤ 9223372036854775807) (hl : kvs.length ≤ 1048576) :
    ∃ D0 : DataW Unit, w.ownsMap Tryz.prog 3 nilR M kvs.length D0 ∧ (intKeys D0).Perm (gk kvs) ∧ Maps.size D0 = kvs.length := by
  obtain ⟨es, c, h1, hkv, hst⟩ := h
  have hlen : es.size = kvs.length := by simpa using congrArg List.length hkv
  have hkey : es.toList.map (·.key) = (gk kvs).map (Value.int .i64) := by
    have := congrArg (List.map Prod.fst) hkv
    simpa [gk, List.map_map, Function.comp_def] using this
  have hko : ∀ n : Int, -9223372036854775808 ≤ n ∧ n ≤ 9223372036854775807 → keyOf Tryz.prog 3 (.int .i64 n) = some (.int .i64 n) := by
    intro n hn
    have hu := Tryz.underlying3
    unfold keyOf
    rw [hu]
    simp only [mapKey, hu, wf_i64 hn]
    simp
  have hrd : ∀ x ∈ es.toList, ∃ n, x.key = .int .i64 n ∧ rg Tryz.prog 3 nilR x = (.int .i64 n, .nil) ∧ rd Tryz.prog 3 nilR x = some (.int .i64 n, .nil) := by
    intro x hx
    have hx2 : x.key ∈ es.toList.map (·.key) := List.mem_map_of_mem hx
    rw [hkey] at hx2
    obtain ⟨n, hn, he⟩ := List.mem_map.1 hx2
    have hr : rd Tryz.prog 3 nilR x = some (.int .i64 n, .nil) := by
      unfold rd
      rw [← he, hko n (hk n hn)]
      rfl
    exact ⟨n, he.symm, by unfold rg; rw [hr]; rfl, hr⟩
  have hperm := WideShapes.sorted_perm (es.toList.map (rg Tryz.prog 3 nilR))
  refine ⟨.map ((es.toList.map (rg Tryz.prog 3 nilR)).foldr DataW.insert []), ⟨es, c, h1, ⟨by rw [hlen]; simp only [maxLen]; omega, hst, fun x hx => ?_⟩, by omega, rfl⟩, ?_, ?_⟩
  · obtain ⟨n, _, _, h3⟩ := hrd x hx
    exact ⟨_, h3⟩
  · show (((es.toList.map (rg Tryz.prog 3 nilR)).foldr DataW.insert []).map fun p => Go.intOf p.1).Perm (gk kvs)
    refine (hperm.map _).trans ?_
    rw [List.map_map]
    have h4 : es.toList.map ((fun p : Lit × DataW Unit => Go.intOf p.1) ∘ rg Tryz.prog 3 nilR) = gk kvs := by
      have h5 : (es.toList.map fun x => Value.int .i64 (((fun p : Lit × DataW Unit => Go.intOf p.1) ∘ rg Tryz.prog 3 nilR) x)) = es.toList.map (·.key) := by
        apply List.map_congr_left
        intro x hx
        obtain ⟨n, h6, h7, _⟩ := hrd x hx
        simp only [Function.comp_def, h7, h6, Go.intOf]
      rw [hkey] at h5
      have h8 : ∀ a b : List Int, a.map (Value.int .i64) = b.map (Value.int .i64) → a = b := by
        intro a b hab
        exact (List.map_inj_right (fun x y e => by injection e)).1 hab
      apply h8
      rw [← h5, List.map_map]
      rfl
    rw [h4]
  · show ((es.toList.map (rg Tryz.prog 3 nilR)).foldr DataW.insert []).length = _
    rw [hperm.length_eq, List.length_map, Array.length_toList, hlen]
theorem srt_perm {a b : List Int} (h : a.Perm b) : srt a = srt b := mergeSort_of_perm_i h
theorem sorts_in (m : Nat) : Go.Proofs.AnyZI.SortsIn Tryz.prog Go.Proofs.Tryz.sortedI_ren Fence.wide m :=
 ⟨fun blk off cap ss W hH hblk hsz => callsIn_wide.2 (Go.Proofs.AnyM.slices_Sort_int Go.Proofs.Tryz.sortI blk off cap ss W hH hblk hsz),
  fun p cap W => callsIn_wide.2 (Go.Proofs.AnyM.slices_Sort_int_none Go.Proofs.Tryz.sortI p cap W)⟩
/-- a row of sorted keys -/
def KeyRow (w : World) (B : Nat) (v : Value) (l : List Int) : Prop := w.ownsRow B 3 1 v l.length (l.map (Value.int .i64))
set_option maxHeartbeats 1000000 in
theorem keysL_any (mb : Option Nat) (w : World) : Calls Tryz.prog 79 #[.map mb] w fun e w' => e = .returned (.func (.func 96) #[] #[.pointer (some ⟨w.heap.size, 0, none⟩)]) ∧ w' = w.alloc (.cells #[.map mb] 75) :=
 (callsIn_wide (n := 5)).1 (Go.Proofs.AnyZI.keys_in Go.Proofs.Tryz.keysL Fence.wide 5 trivial rfl mb w)
set_option maxHeartbeats 1000000 in
theorem keysB_any (mb : Option Nat) (w : World) : Calls Tryz.prog 83 #[.map mb] w fun e w' => e = .returned (.func (.func 99) #[] #[.pointer (some ⟨w.heap.size, 0, none⟩)]) ∧ w' = w.alloc (.cells #[.map mb] 76) :=
 (callsIn_wide (n := 5)).1 (Go.Proofs.AnyZI.keys_in Go.Proofs.Tryz.keysB Fence.wide 5 trivial rfl mb w)
def SoEnds (B : Nat) (l : List Int) (w : World) (e : Ending) (w' : World) : Prop := ∃ v, e = .returned v ∧ KeyRow w' B v (srt l) ∧ Below w.heap.size w w'
set_option maxHeartbeats 2000000 in
theorem sortedL_any {w : World} {M : Nat} {kvs : List (Int × Int)} (h : MapG (Value.int .i64) w M kvs) (hk : ∀ n ∈ gk kvs, -9223372036854775808 ≤ n ∧ n ≤ 9223372036854775807) (hl : kvs.length ≤ 1048576) :
  Calls Tryz.prog 78 #[.func (.func 96) #[] #[.pointer (some ⟨w.heap.size, 0, none⟩)]] (w.alloc (.cells #[.map (some M)] 75)) (SoEnds (w.heap.size + 1) (gk kvs) (w.alloc (.cells #[.map (some M)] 75))) := by
 obtain ⟨D0, hown, hp, hs⟩ := own_of h hk hl
 have hbl := hown.lt
 have hseq : SeqGives Fence.wide 2 Tryz.prog 96 #[.pointer (some ⟨w.heap.size, 0, none⟩)] encZ (fun ss => ss.Perm (intKeys D0)) (Maps.size D0) (w.alloc (.cells #[.map (some M)] 75)) :=
  Go.Proofs.AnyZI.keys_gives (ρ := Go.Proofs.Tryz.keysL_ren) { Go.Proofs.Tryz.keysL with } Fence.wide _ trivial rfl (by omega) w.heap.size M kvs.length D0 _ (by simp) (by simp) (by
   obtain ⟨es, clock, hb, Ft, hs, hD⟩ := hown
   exact ⟨es, clock, (Below.heap_alloc _ _ M hbl).trans hb, Ft, hs, hD⟩)
 have cS := Go.Proofs.AnyZI.sorted_in Go.Proofs.Tryz.sortedI Fence.wide 5 trivial trivial trivial trivial rfl (by omega) (sorts_in _) (enters_of Tryz.func95 (by kernel_rfl) rfl) 96 #[.pointer (some ⟨w.heap.size, 0, none⟩)] trivial (enters_of Tryz.func96 (by kernel_rfl) rfl) _ _ (by rw [hs]; simp only [maxLen]; omega) (by rw [hs]; omega) _ hseq
 refine ((callsIn_wide (n := 5)).1 cS).mono ?_
 rintro e w' ⟨v, ss, rfl, hS, hrow, _, hb⟩
 refine ⟨v, rfl, ?_, hb⟩
 have hp2 := hS.trans hp
 have e2 : srt (gk kvs) = ss.mergeSort (fun x y => decide (x ≤ y)) := (srt_perm hp2).symm
 unfold KeyRow
 rw [e2, List.length_mergeSort]
 rw [World.size_alloc] at hrow
 exact hrow
set_option maxHeartbeats 2000000 in
theorem sortedB_any {w : World} {M : Nat} {kvs : List (Int × List Int)} (h : MapG blkV w M kvs) (hk : ∀ n ∈ gk kvs, -9223372036854775808 ≤ n ∧ n ≤ 9223372036854775807) (hl : kvs.length ≤ 1048576) :
  Calls Tryz.prog 78 #[.func (.func 99) #[] #[.pointer (some ⟨w.heap.size, 0, none⟩)]] (w.alloc (.cells #[.map (some M)] 76)) (SoEnds (w.heap.size + 1) (gk kvs) (w.alloc (.cells #[.map (some M)] 76))) := by
 obtain ⟨D0, hown, hp, hs⟩ := own_of h hk hl
 have hbl := hown.lt
 have hseq : SeqGives Fence.wide 2 Tryz.prog 99 #[.pointer (some ⟨w.heap.size, 0, none⟩)] encZ (fun ss => ss.Perm (intKeys D0)) (Maps.size D0) (w.alloc (.cells #[.map (some M)] 76)) :=
  Go.Proofs.AnyZI.keys_gives (ρ := Go.Proofs.Tryz.keysB_ren) { Go.Proofs.Tryz.keysB with } Fence.wide _ trivial rfl (by omega) w.heap.size M kvs.length D0 _ (by simp) (by simp) (by
   obtain ⟨es, clock, hb, Ft, hs, hD⟩ := hown
   exact ⟨es, clock, (Below.heap_alloc _ _ M hbl).trans hb, Ft, hs, hD⟩)
 have cS := Go.Proofs.AnyZI.sorted_in Go.Proofs.Tryz.sortedI Fence.wide 5 trivial trivial trivial trivial rfl (by omega) (sorts_in _) (enters_of Tryz.func95 (by kernel_rfl) rfl) 99 #[.pointer (some ⟨w.heap.size, 0, none⟩)] trivial (enters_of Tryz.func99 (by kernel_rfl) rfl) _ _ (by rw [hs]; simp only [maxLen]; omega) (by rw [hs]; omega) _ hseq
 refine ((callsIn_wide (n := 5)).1 cS).mono ?_
 rintro e w' ⟨v, ss, rfl, hS, hrow, _, hb⟩
 refine ⟨v, rfl, ?_, hb⟩
 have hp2 := hS.trans hp
 have e2 : srt (gk kvs) = ss.mergeSort (fun x y => decide (x ≤ y)) := (srt_perm hp2).symm
 unfold KeyRow
 rw [e2, List.length_mergeSort]
 rw [World.size_alloc] at hrow
 exact hrow
theorem clone_any {w : World} {M : Nat} {kvs : List (Int × List Int)} (h : MapG blkV w M kvs) :
  Calls Tryz.prog 98 #[.map (some M)] w fun e w' => e = .returned (.map (some w.heap.size)) ∧ MapG blkV w' w.heap.size kvs ∧ Below w.heap.size w w' := by
 obtain ⟨es, c, h1, h2, h3⟩ := h
 refine (Go.Proofs.AnyW.maps_Clone Go.Proofs.Tryz.cloneB M es c w h1).mono ?_
 rintro e w' ⟨he, rfl⟩
 exact ⟨he, ⟨es, c, heap_alloc_new _ _, h2, h3⟩, (Below.refl _ _).alloc (Nat.le_refl _) _⟩
end Go.Proofs.YtdkjkibdncbibaaGreat
/- the log's and the disk's part put back; where pages lie in the log -/
namespace Go.Proofs.YtdkjkibdncbibaaGreat
open Go.RowKit
open Go.Lib (hid)
section
variable {k : PK} {v : PV} {w w' : World}
theorem PgS.relog (h : PgS k v w) {s' : DS} {lv' av' : Value} {a' b' c' : Nat} {pe' : List (List Int)} (hl : LS w' k.B k.D k.M k.nb k.rm s' lv' k.Pl 0 k.sz a' b' c' av' pe') (hc : Chg (LFoot k.D k.M v.lv k.Pl v.av) w w') (hf : ∀ g, LFoot k.D k.M lv' k.Pl av' g → LFoot k.D k.M v.lv k.Pl v.av g ∨ w.heap.size ≤ g) :
  PE k v w { v with s := s', lv := lv', a := a', b := b', c := c', av := av', pe := pe' } w' := by
 obtain ⟨u, hu⟩ := h.ap
 have hn : ∀ g, u g ≠ 0 → ¬ LFoot k.D k.M v.lv k.Pl v.av g := fun g h0 e => h0 (hu.l g e)
 refine ⟨{ h with ls := hl, box := (hc.block k.P h.ltP (hn _ (by rw [hu.p]; decide))).trans h.box, lg := h.lg.of (hc.block _ h.lg.lt (hn _ (by rw [hu.m]; decide))), ca := h.ca.of (hc.block _ h.ca.lt (hn _ (by rw [hu.c]; decide))), ch := h.ch.of (hc.block _ h.ch.lt (hn _ (by rw [hu.h]; decide))), ord := h.ord.chg hc (fun g hg => hn g (by rw [hu.o g hg]; decide)), ap := ⟨fun g => if g < w.heap.size then u g else 0, ?_, ?_, ?_, ?_, ?_, ?_⟩ }, hc.mono (fun g hg => .inl hg), ?_⟩
 ·intro g hg
  rcases hf g hg with h1 | h1
  ·rw [if_pos (h.ls.lt g h1).2]; exact hu.l g h1
  ·rw [if_neg (by omega)]
 ·rw [if_pos h.ltP]; exact hu.p
 ·show (if v.Lm < _ then _ else _) = 2
  rw [if_pos h.lg.lt]; exact hu.m
 ·show (if v.C < _ then _ else _) = 3
  rw [if_pos h.ca.lt]; exact hu.c
 ·show (if v.Hm < _ then _ else _) = 4
  rw [if_pos h.ch.lt]; exact hu.h
 ·intro g hg
  rw [if_pos (h.ord.lt g hg).2]; exact hu.o g hg
 ·rintro g (h1 | h1)
  ·exact (hf g h1).imp .inl id
  ·exact .inl (.inr h1)
theorem PgS.redisk (h : PgS k v w) {s' : DS} {lv' : Value} (hd : DkS w' k.B k.D k.M k.nb k.rm s' lv') (hc : Chg (Foot k.D k.M v.lv) w w') (hf : ∀ g, Foot k.D k.M lv' g → Foot k.D k.M v.lv g ∨ w.heap.size ≤ g) :
  PE k v w { v with s := s', lv := lv' } w' := by
 refine h.relog (s' := s') (lv' := lv') (a' := v.a) (b' := v.b) (c' := v.c) (av' := v.av) (pe' := v.pe) ?_ (hc.mono (fun g hg => .inl hg)) ?_
 ·exact { h.ls with dk := hd, box := h.ls.box.chg hc h.ls.nf, own := h.ls.own.chg hc (fun g hg => h.ls.af g hg), nf := fun e => (hf _ e).elim h.ls.nf (fun h' => by have := h.ls.box.lt; omega), af := fun g hg e => (hf g e).elim (h.ls.af g hg) (fun h' => by have := (h.ls.own.lt g hg).2; omega) }
 ·rintro g (h1 | h1)
  ·exact (hf g h1).imp .inl id
  ·exact .inl (.inr h1)
theorem PgS.relg (h : PgS k v w) {lg' : List (Int × Int)} (hm : MapG (Value.int .i64) w' v.Lm lg') (hc : Chg (fun g => g = v.Lm) w w') : PE k v w { v with lg := lg' } w' := by
  obtain ⟨u, hu⟩ := h.ap
  have hn : ∀ g, u g ≠ 2 → ¬ (g = v.Lm) := fun g h4 e => h4 (by rw [e]; exact hu.m)
  exact ⟨{ h with
      ls := h.ls.chg hc (fun g hg => hn g (by rw [hu.l g hg]; decide))
      box := (hc.block k.P h.ltP (hn _ (by rw [hu.p]; decide))).trans h.box
      lg := hm
      ca := h.ca.of (hc.block _ h.ca.lt (hn _ (by rw [hu.c]; decide)))
      ch := h.ch.of (hc.block _ h.ch.lt (hn _ (by rw [hu.h]; decide)))
      ord := h.ord.chg hc (fun g hg => hn g (by rw [hu.o g hg]; decide))
      ap := ⟨u, { hu with }⟩ }, hc.mono (fun g e => .inr (.inr (.inl e))), fun g hg => .inl hg⟩
end
/-- a row of numbers that is only read -/
def NumsIs (w : World) (v : Value) (l : List Int) : Prop := ∃ a c, v = .slice a l.length c ∧ (l = [] ∨ ∃ g, a = some ⟨g, 0, none⟩ ∧ g < w.heap.size ∧ ∀ i x, l[i]? = some x → w.cell? ⟨g, i, none⟩ = some (.int .i64 x))
theorem NumsIs.of {w w' : World} {v : Value} {l : List Int} (h : NumsIs w v l) (hb : ∀ g, v.ownBlock = some g → g < w.heap.size → w'.heap[g]? = w.heap[g]?) (hs : w.heap.size ≤ w'.heap.size) : NumsIs w' v l := by
 obtain ⟨a, c, rfl, h | ⟨g, rfl, hg, hc⟩⟩ := h
 ·exact ⟨a, c, rfl, .inl h⟩
 ·refine ⟨_, c, rfl, .inr ⟨g, rfl, by omega, fun i x hi => ?_⟩⟩
  have e := hb g rfl hg
  have h2 := hc i x hi
  unfold World.cell? at h2 ⊢
  simp only at h2 ⊢
  rw [e]
  exact h2
theorem KeyRow.nums {w : World} {B : Nat} {v : Value} {l : List Int} (h : KeyRow w B v l) : NumsIs w v l := by
 obtain ⟨hlen, ⟨rfl, h0⟩ | ⟨g, cap, cur, rfl, hg, hgr, hn, _, hcs, htk⟩⟩ := h
 ·have := List.eq_nil_of_length_eq_zero h0
  subst this
  exact ⟨none, 0, rfl, .inl rfl⟩
 ·refine ⟨_, cap, rfl, .inr ⟨g, rfl, (Array.getElem?_eq_some_iff.1 hgr).1, fun i x hi => ?_⟩⟩
  rw [cell_of_row _ _ _ _ _ _ hgr]
  have hil := (List.getElem?_eq_some_iff.1 hi).1
  have h2 : (cur.toList.take (l.length * 1))[i]? = (l.map (Value.int .i64))[i]? := by rw [htk]
  rw [List.getElem?_take, if_pos (by omega), List.getElem?_map, hi] at h2
  simpa using h2
theorem KeyRow.lt {w : World} {B : Nat} {v : Value} {l : List Int} (h : KeyRow w B v l) : ∀ g, v.ownBlock = some g → B ≤ g ∧ g < w.heap.size := by
 intro k hk
 obtain ⟨hlen, ⟨rfl, h0⟩ | ⟨g, cap, cur, rfl, hg, hgr, _⟩⟩ := h
 ·cases hk
 ·simp only [Value.ownBlock, Option.some.injEq] at hk
  subst hk
  exact ⟨hg, (Array.getElem?_eq_some_iff.1 hgr).1⟩
theorem exec_updateL {ρ : Operand → Value} {o : Oper} {w w' : World} (x y z : Operand) (ho : o.op = .mapUpdate 75 x y z) (m k v : Value) (hx : ρ x = m) (hy : ρ y = k) (hz : ρ z = v) (h : (Instr.mapUpdate 75 m k v).run Tryz.prog w = .ok () w') :
  (execOp ρ o).run Tryz.prog w = .ok .skip w' := by
 unfold execOp
 simp only [ho, hx, hy, hz, Sem.run_bind, h, Result.andThen_ok]
 rfl
/-- where the pages of a record lie -/
def rcL : List (Int × Int) → Int → List Int → List (Int × Int)
 | lg, _, [] => lg
 | lg, p, n :: r => rcL (gp lg n (p + 8)) (p + 264) r
theorem rcL_snoc : ∀ (l : List Int) (lg : List (Int × Int)) (p n : Int), rcL lg p (l ++ [n]) = gp (rcL lg p l) n (p + 264 * l.length + 8)
 | [], lg, p, n => by simp [rcL]
 | m :: r, lg, p, n => by
  simp only [List.cons_append, rcL, rcL_snoc r, List.length_cons]
  congr 1
  omega
def RcEnds (k : PK) (v : PV) (l : List Int) (w : World) (e : Ending) (w' : World) : Prop :=
 e = .returned (.tuple #[]) ∧ PE k v w { v with lg := rcL v.lg (v.en + 8) l, en := v.en + 8 + 264 * l.length } w'
set_option maxRecDepth 100000 in
set_option maxHeartbeats 2000000 in
theorem recorded_any (k : PK) (v : PV) (nv : Value) (l : List Int) (w : World) (h : PgS k v w) (hnv : NumsIs w nv l) (hap : ∀ g, nv.ownBlock = some g → ¬ PF k v g) (he : 0 ≤ v.en ∧ v.en ≤ 1099511627776) (hl : l.length ≤ 1048576) :
  Calls Tryz.prog 38 #[.pointer (some ⟨k.P, 0, none⟩), nv] w (RcEnds k v l w) := by
 obtain ⟨na, nc, rfl, hcells⟩ := hnv
 have HC := hid hcells
 have H := hid h
 have HAP := hid hap
 have p4 := (cell_of_row w k.P 4 _ _ _ h.box).trans (PC_lo 4 (by decide))
 have HNP := hid (show k.P ≠ v.Lm by obtain ⟨u, hu⟩ := h.ap; intro e; have h1 := hu.p; have h2 := hu.m; rw [e] at h1; omega)
 have hll : (l.length : Int) ≤ 1048576 := by omega
 clear h hcells hap hl
 generalize hle : l.length = len at *
 have HLE := hid hle
 clear hle
 go_enter Tryz.func38, Tryz.ntmps38
 go_wp2_with fail
 go_loopw [4, 14] (fun av iv wr => ∃ i : Nat, i ≤ len ∧ av = .int .i64 (v.en + 8 + 264 * (i : Int)) ∧ iv = .int .i64 (i : Int) ∧ MapG (Value.int .i64) wr v.Lm (rcL v.lg (v.en + 8) (l.take i)) ∧ Chg (fun g => g = v.Lm) w wr) (fun _ iv _ => len - (intOf iv).toNat)
 case atStart => exact ⟨0, by omega, by simp, rfl, H.out.lg, Chg.refl _ _⟩
 case round =>
  obtain ⟨i, hi, rfl, rfl, hm, hc⟩ := hrel
  have HM := hid hm
  have HCH := hid hc
  by_cases hlt : i < len
  ·have hne : l ≠ [] := by intro e; have := HLE.out; rw [e] at this; simp at this; omega
   obtain ⟨g, hga, hgl, hgc⟩ := (HC.out).resolve_left hne
   subst hga
   have hgm : g ≠ v.Lm := fun e => HAP.out g rfl (by rw [e]; exact .inr (.inr (.inl rfl)))
   have hx := hgc i _ (List.getElem?_eq_getElem (by rw [HLE.out]; exact hlt))
   have cx : wr.cell? ⟨g, i, none⟩ = some (.int .i64 (l[i]'(by rw [HLE.out]; exact hlt))) := by
    unfold World.cell? at hx ⊢
    simp only at hx ⊢
    rw [hc.block g hgl hgm]
    exact hx
   have hbx := (hc.block k.P H.out.ltP HNP.out).trans H.out.box
   have p3 := (cell_of_row wr k.P 3 _ _ _ hbx).trans (PC_lo 3 (by decide))
   obtain ⟨w9, hup, hm9, hg9, hs9⟩ := run_update_g (P := Tryz.prog) (mT := 75) (kT := 3) (eT := 3) (enc := Value.int .i64) Tryz.underlying75 Tryz.underlying3 (l[i]'(by rw [HLE.out]; exact hlt)) (v.en + 8 + 264 * (i : Int) + 8) hm
   have hsn : rcL v.lg (v.en + 8) (l.take (i + 1)) = gp (rcL v.lg (v.en + 8) (l.take i)) (l[i]'(by rw [HLE.out]; exact hlt)) (v.en + 8 + 264 * (i : Int) + 8) := by
    rw [← List.take_append_getElem (show i < l.length by rw [HLE.out]; exact hlt), rcL_snoc, List.length_take, show min i l.length = i by rw [HLE.out]; omega]
   generalize (l[i]'(by rw [HLE.out]; exact hlt)) = x at *
   have HUP := hid hup
   have HM9 := hid (show MapG (Value.int .i64) w9 v.Lm (rcL v.lg (v.en + 8) (l.take (i + 1))) by rw [hsn]; exact hm9)
   have HC9 := hid (hc.trans (Chg.grown (F := fun g => g = v.Lm) hg9 (fun g hg => (Option.some.inj hg).symm)) (fun g hg => .inl hg))
   clear hm hc hne hgl hgc hgm hx hbx hup hm9 hg9 hs9 hsn
   go_wp2_with (first | (at_mapUpdate; refine wpList_of_skip rfl (exec_updateL (Operand.tmp 21) (Operand.tmp 22) (Operand.tmp 24) rfl _ _ _ rfl rfl rfl HUP.out) ?_) | fail)
   exact ⟨⟨i + 1, by omega, by congr 1; omega, by congr 1, HM9.out, HC9.out⟩, by simp [intOf]; omega⟩
  ·obtain rfl : i = len := by omega
   have htk : l.take i = l := List.take_of_length_le (by rw [HLE.out]; exact Nat.le_refl _)
   rw [htk] at hm
   have hp1 := H.out.relg hm hc
   have hbx := hp1.1.box
   have p4' : wr.cell? ⟨k.P, 4, none⟩ = some (.int .i64 v.en) := (cell_of_row wr k.P 4 _ _ _ hbx).trans (PC_lo 4 (by decide))
   have f4 := frozen_of_row wr k.P 4 _ _ hbx
   have hbs := heap_setCell_same wr k.P 4 _ 82 (.int .i64 (v.en + 8 + 264 * (i : Int))) hbx
   rw [PC_set4] at hbs
   have hp2 := hp1.1.rebox (h0' := v.h0) (h1' := v.h1) (en' := v.en + 8 + 264 * (i : Int)) (Lm' := v.Lm) (lg' := rcL v.lg (v.en + 8) l) (Hm' := v.Hm) (ch' := v.ch) ((Chg.refl _ wr).setCell ⟨k.P, 4, none⟩ _ (.inl rfl)) hbs H.out.l0 H.out.l1 (.inl ⟨rfl, rfl⟩) (.inl ⟨rfl, rfl⟩) H.out.mh
   have HP2 := hid (hp1.trans hp2)
   clear hm hc htk hp1 hbx hbs hp2
   go_wp2_with fail
   go_end0
   refine ⟨rfl, ?_⟩
   rw [HLE.out]
   exact HP2.out
end Go.Proofs.YtdkjkibdncbibaaGreat
/- the changed pages, the header among them -/
namespace Go.Proofs.YtdkjkibdncbibaaGreat
open Go.RowKit
open Go.Lib (hid)
theorem PE.ownG {k : PK} {v v1 : PV} {w0 w w1 w2 : World} (hb : Below w0.heap.size w0 w) (hp : PgS k v w0) (h : PE k v w v1 w1) (X : Nat) (h1 : w0.heap.size ≤ X) (h2 : X < w.heap.size) (hc : Chg (fun g => g = X) w1 w2) : PE k v w0 v1 w2 := by
 have hpre := PE.pre hb h
 refine ⟨h.1.chg hc (fun g hg e => ?_), hpre.2.1.trans hc (fun g hg => .inr (by omega)), hpre.2.2⟩
 rcases h.2.2 g hg with h3 | h3
 ·have := (hp.lt g h3).2; omega
 ·omega
def chgP (k : PK) (v : PV) : List (Int × List Int) := if v.h1 = v.h0 then v.ch else gp v.ch 0 (ovB v.h1 (cmR k v 0).1)
def chU (k : PK) (v : PV) : PV := if v.h1 = v.h0 then v else cmU k v 0
def chE (k : PK) (v : PV) : Int := if v.h1 = v.h0 then 0 else (cmR k v 0).2
def ChEnds (k : PK) (v : PV) (w : World) (e : Ending) (w' : World) : Prop :=
 (chE k v = 0 ∧ ∃ M ov', e = .returned (.tuple #[.map (some M), .int .i64 0]) ∧ PE k v w { chU k v with ov := ov' } w' ∧ MapG blkV w' M (chgP k v) ∧ ¬ PF k { chU k v with ov := ov' } M ∧ w.heap.size ≤ M) ∨
 (chE k v ≠ 0 ∧ ∃ ov', e = .returned (.tuple #[.map none, .int .i64 (chE k v)]) ∧ PE k v w { chU k v with ov := ov' } w')
set_option maxRecDepth 100000 in
set_option maxHeartbeats 4000000 in
theorem changes_any (k : PK) (v : PV) (w : World) (h : PgS k v w) (hj : PJ k v) :
  Calls Tryz.prog 82 #[.pointer (some ⟨k.P, 0, none⟩)] w (ChEnds k v w) := by
 have hz := zero35
 have HI35 := hid (show (Tryz.prog.info? 50).map (·.size) = some 256 by kernel_rfl)
 have SZ := hid (show (ArrU8 (zeros 256)).size = 256 by rw [ArrU8_size, zeros_len])
 have HIH := hid (show (Tryz.prog.info? 68).map (·.size) = some (HV v.h0).length by rw [HV_len, h.l0]; kernel_rfl)
 have HIH1 := hid (show (Tryz.prog.info? 68).map (·.size) = some (HV v.h1).length by rw [HV_len, h.l1]; kernel_rfl)
 have p44 := (cell_of_row w k.P 44 _ _ _ h.box).trans (PC_44 h.l0 h.l1)
 have H := hid h
 have HJ := hid hj
 have HCL := hid (clone_any h.ch)
 obtain ⟨b, hbb⟩ : ∃ b : Bool, b = !decide (v.h1 = v.h0) := ⟨_, rfl⟩
 have HBB := hid hbb
 clear h hj hbb
 go_enter Tryz.func82, Tryz.ntmps82
 go_wp2_with fail
 refine HCL.out.mono ?_
 rintro e wa ⟨rfl, hma, hba⟩
 have HA := hid (H.out.fresh hba)
 have HMA := hid hma
 have HBA := hid hba
 have HML := hid hma.lt
 have HB0 := hid (show wa.drew.heap[k.P]? = some (.cells (PC k v) 82 (0, 0)) from (H.out.fresh hba).box)
 clear hma hba p44
 go_wp2_with fail
 refine wp_region_held_drew (S := fun u => u.heap[k.P]? = some (.cells (PC k v) 82 (0, 0))) (by kernel_rfl) (HB0.out) (fun hHeld => ?_)
 refine tk (i := 0) (oi := ⟨some 12, .move (.tmp 0), 30, "commit.go:73", #[], none⟩) (v := ?_) (Or.inl ⟨by rfl, ?_⟩) ?_
 rotate_left 1
 ·(intro u hSw; go_simp; try with_reducible rfl)
 try simp only [Act.put, sA, sB, sC]
 refine tk (i := 1) (oi := ⟨some 13, .nilCheck (.tmp 12), 0, "commit.go:73", #[⟨0, .data⟩], none⟩) (v := ?_) (Or.inl ⟨by rfl, ?_⟩) ?_
 rotate_left 1
 ·(intro u hSw; go_simp; try with_reducible rfl)
 try simp only [Act.put, sA, sB, sC]
 refine tk (i := 2) (oi := ⟨some 14, .fieldAddr 82 (.tmp 13) 6, 0, "commit.go:73", #[⟨1, .data⟩], none⟩) (v := ?_) (Or.inl ⟨by rfl, ?_⟩) ?_
 rotate_left 1
 ·(intro u hSw; go_simp; try with_reducible rfl)
 try simp only [Act.put, sA, sB, sC]
 refine tk (i := 3) (oi := ⟨some 15, .load 68 (.tmp 14), 68, "commit.go:73", #[⟨2, .data⟩], none⟩) (v := ?_) (Or.inl ⟨by rfl, ?_⟩) ?_
 rotate_left 1
 ·intro u hSw
  refine exec_load_mid 68 (Operand.tmp 14) ?_ k.P 26 ?_ (HV v.h1) _ (box_rg H.out.l0 H.out.l1 hSw).2 Tryz.underlying68 rfl HIH1.out <;> rfl
 try simp only [Act.put, sA, sB, sC]
 refine tk (i := 4) (oi := ⟨some 16, .move (.tmp 0), 30, "commit.go:73", #[], none⟩) (v := ?_) (Or.inl ⟨by rfl, ?_⟩) ?_
 rotate_left 1
 ·(intro u hSw; go_simp; try with_reducible rfl)
 try simp only [Act.put, sA, sB, sC]
 refine tk (i := 5) (oi := ⟨some 17, .nilCheck (.tmp 16), 0, "commit.go:73", #[⟨4, .data⟩], none⟩) (v := ?_) (Or.inl ⟨by rfl, ?_⟩) ?_
 rotate_left 1
 ·(intro u hSw; go_simp; try with_reducible rfl)
 try simp only [Act.put, sA, sB, sC]
 refine tk (i := 6) (oi := ⟨some 18, .fieldAddr 82 (.tmp 17) 5, 0, "commit.go:73", #[⟨5, .data⟩], none⟩) (v := ?_) (Or.inl ⟨by rfl, ?_⟩) ?_
 rotate_left 1
 ·(intro u hSw; go_simp; try with_reducible rfl)
 try simp only [Act.put, sA, sB, sC]
 refine tk (i := 7) (oi := ⟨some 19, .load 68 (.tmp 18), 68, "commit.go:73", #[⟨6, .data⟩], none⟩) (v := ?_) (Or.inl ⟨by rfl, ?_⟩) ?_
 rotate_left 1
 ·intro u hSw
  refine exec_load_mid 68 (Operand.tmp 18) ?_ k.P 8 ?_ (HV v.h0) _ (box_rg H.out.l0 H.out.l1 hSw).1 Tryz.underlying68 rfl HIH.out <;> rfl
 try simp only [Act.put, sA, sB, sC]
 refine tk (i := 8) (oi := ⟨some 20, .binOp BinOp.neq 68 (.tmp 15) (.tmp 19) 68, 4, "commit.go:73", #[⟨3, .data⟩, ⟨7, .data⟩], none⟩) (v := .bool b) (Or.inl ⟨by rfl, ?_⟩) ?_
 ·intro u hSw
  exact exec_neq_hdr (Operand.tmp 15) (Operand.tmp 19) 68 rfl v.h1 v.h0 rfl rfl H.out.l1 H.out.l0 HJ.out.b1 HJ.out.b0 b HBB.out.symm
 try simp only [Act.put, sA, sB, sC]
 refine wpAnyH_done (by kernel_rfl) ?_ _
 cases b with
 | false =>
  have HE := hid (show v.h1 = v.h0 by have := HBB.out; simpa using this)
  go_wp2_with fail
  go_ret2
  refine .inl ⟨by unfold chE; rw [if_pos HE.out], w.heap.size, v.ov, rfl, ?_, ?_, ?_, Nat.le_refl _⟩
  ·unfold chU; rw [if_pos HE.out]; exact PE.same H.out HBA.out.drew
  ·unfold chgP; rw [if_pos HE.out]; exact HMA.out
  ·unfold chU; rw [if_pos HE.out]; exact fun hp => by have := (H.out.lt _ hp).2; omega
 | true =>
  have HE := hid (show ¬ v.h1 = v.h0 by have := HBB.out; simpa using this)
  have hd := HA.out.fresh ((Below.refl _ wa).drew)
  have HCM := hid (committed_any k v 0 wa.drew hd HJ.out.pin (by have := HJ.out.z2; omega))
  have HRL := hid (HJ.out.cmR 0)
  have HER := hid (show chE k v = (cmR k v 0).2 ∧ chgP k v = gp v.ch 0 (ovB v.h1 (cmR k v 0).1) ∧ chU k v = cmU k v 0 by unfold chE chgP chU; rw [if_neg HE.out, if_neg HE.out, if_neg HE.out]; exact ⟨rfl, rfl, rfl⟩)
  have HD := hid hd
  clear hd
  go_wp2_with fail
  refine HCM.out.mono ?_
  rintro e wc ⟨rfl, ov', hpe⟩
  have hpe1 : PE k v wa.drew { cmU k v 0 with ov := ov' } wc := hpe
  have hnp : ¬ PF k v w.heap.size := fun hp => by have := (H.out.lt _ hp).2; omega
  have HNP := hid (show ¬ PF k { cmU k v 0 with ov := ov' } w.heap.size from fun hp => (hpe1.2.2 _ hp).elim hnp (fun e => by have e2 : wa.heap.size ≤ w.heap.size := e; have := HML.out; omega))
  have HMC := hid (HMA.out.of (w' := wc) (hpe1.2.1.block w.heap.size HML.out hnp))
  have HPE := hid hpe1
  have hxn := heap_alloc_new wc (.cells (ArrU8 (zeros 256)) 50)
  have HXN := hid hxn
  clear hpe hpe1 hxn hnp HCM
  generalize cmR k v 0 = R at *
  obtain ⟨R, E⟩ := R
  simp only [] at HRL HER
  simp only []
  have SR := hid (show (ArrU8 R).size = 256 by rw [ArrU8_size]; exact HRL.out.1)
  by_cases hE : E = 0
  ·subst hE
   have hp2 := PE.post HPE.out (new_below (Below.refl _ wc) (.cells (ArrU8 (zeros 256)) 50) (ArrU8 R))
   have hxb := new_at wc (ArrU8 (zeros 256)) (ArrU8 R) 50
   have hmb := HMC.out.of (new_old (w := wc) (.cells (ArrU8 (zeros 256)) 50) (ArrU8 R) _ HMC.out.lt)
   have HXL := hid (show w.heap.size < wc.heap.size from HMC.out.lt)
   go_wp2_with (first | (refine wpList_store_row rfl 50 (Operand.tmp 5) (Operand.tmp 24) rfl wc.heap.size (ArrU8 R) rfl rfl 50 (ArrU8 (zeros 256)) HXN.out (by rw [HI35.out, SR.out]) (by rw [SR.out, SZ.out]) (ArrU8_one _) ?_) | fail)
   generalize (wc.alloc (.cells (ArrU8 (zeros 256)) 50)).setRow wc.heap.size (ArrU8 R) = wd at *
   generalize wc.heap.size = X at *
   have HP2 := hid hp2
   have HXB := hid hxb
   have HMB := hid hmb
   have HS0 := hid (show wd.drew.heap[k.P]? = some (.cells (PC k { cmU k v 0 with ov := ov' }) 82 (0, 0)) ∧ wd.drew.heap[X]? = some (.cells (ArrU8 R) 50 (0, 0)) from ⟨hp2.1.box, hxb⟩)
   clear hp2 hxb hmb
   refine wp_region_held_drew (S := fun u => u.heap[k.P]? = some (.cells (PC k { cmU k v 0 with ov := ov' }) 82 (0, 0)) ∧ u.heap[X]? = some (.cells (ArrU8 R) 50 (0, 0))) (by kernel_rfl) (HS0.out) (fun hHeld => ?_)
   refine tk (i := 0) (oi := ⟨some 29, .move (.tmp 4), 76, "commit.go:79", #[], none⟩) (v := ?_) (Or.inl ⟨by rfl, ?_⟩) ?_
   rotate_left 1
   ·(intro u hSw; go_simp; try with_reducible rfl)
   try simp only [Act.put, sA, sB, sC]
   refine tk (i := 1) (oi := ⟨some 30, .move (.tmp 0), 30, "commit.go:79", #[], none⟩) (v := ?_) (Or.inl ⟨by rfl, ?_⟩) ?_
   rotate_left 1
   ·(intro u hSw; go_simp; try with_reducible rfl)
   try simp only [Act.put, sA, sB, sC]
   refine tk (i := 2) (oi := ⟨some 31, .nilCheck (.tmp 30), 0, "commit.go:79", #[⟨1, .data⟩], none⟩) (v := ?_) (Or.inl ⟨by rfl, ?_⟩) ?_
   rotate_left 1
   ·(intro u hSw; go_simp; try with_reducible rfl)
   try simp only [Act.put, sA, sB, sC]
   refine tk (i := 3) (oi := ⟨some 32, .fieldAddr 82 (.tmp 31) 6, 0, "commit.go:79", #[⟨2, .data⟩], none⟩) (v := ?_) (Or.inl ⟨by rfl, ?_⟩) ?_
   rotate_left 1
   ·(intro u hSw; go_simp; try with_reducible rfl)
   try simp only [Act.put, sA, sB, sC]
   refine tk (i := 4) (oi := ⟨some 33, .load 68 (.tmp 32), 68, "commit.go:79", #[⟨3, .data⟩], none⟩) (v := ?_) (Or.inl ⟨by rfl, ?_⟩) ?_
   rotate_left 1
   ·intro u hSw
    refine exec_load_mid 68 (Operand.tmp 32) ?_ k.P 26 ?_ (HV v.h1) _ (box_rg (k := k) (v := { cmU k v 0 with ov := ov' }) H.out.l0 H.out.l1 hSw.1).2 Tryz.underlying68 rfl HIH1.out <;> rfl
   try simp only [Act.put, sA, sB, sC]
   refine tk (i := 5) (oi := ⟨some 34, .load 50 (.tmp 5), 50, "commit.go:79", #[], none⟩) (v := ?_) (Or.inl ⟨by rfl, ?_⟩) ?_
   rotate_left 1
   ·intro u hSw
    refine exec_load_row 50 (Operand.tmp 5) ?_ u X ?_ (ArrU8 R) 50 (0, 0) _ hSw.2 Tryz.underlying50 rfl (by rw [HI35.out, SR.out]) <;> rfl
   try simp only [Act.put, sA, sB, sC]
   refine wpAnyH_ready (rs := [6]) (by kernel_rfl) (by simp) ?_
   refine (AllReadyH.cons (o := ⟨some 35, .call ⟨.value (.func 32), #[.tmp 33, .tmp 34], #[68, 50]⟩, 50, "commit.go:79", #[⟨4, .data⟩, ⟨5, .data⟩], none⟩) rfl (fun K hK => ?_) AllReadyH.nil)
   go_simp
   go_at_call 32
   refine (over_any v.h1 R _ H.out.l1 HJ.out.b1 HRL.out.1).mono ?_
   rintro e we ⟨rfl, hbe⟩
   have HB3 := hid hbe
   have HS1 := hid (show we.heap[k.P]? = some (.cells (PC k { cmU k v 0 with ov := ov' }) 82 (0, 0)) ∧ we.heap[X]? = some (.cells (ArrU8 R) 50 (0, 0)) from ⟨(hbe.block _ (Array.getElem?_eq_some_iff.1 HS0.out.1).1).trans HS0.out.1, (hbe.block _ (Array.getElem?_eq_some_iff.1 HS0.out.2).1).trans HS0.out.2⟩)
   have HME := hid (HMB.out.of (w' := we) (hbe.block w.heap.size HMB.out.lt))
   have HPW := hid (PE.post HP2.out (show Below wd.heap.size wd we from (Below.refl _ wd).drew.trans hbe))
   obtain ⟨w9, hup, hm9, hg9, hs9⟩ := run_update_g (P := Tryz.prog) (mT := 76) (kT := 3) (eT := 50) (enc := blkV) Tryz.underlying76 Tryz.underlying3 0 (ovB v.h1 R) HME.out
   have HUP := hid hup
   have HM9 := hid hm9
   have HG9 := hid hg9
   clear hbe hup hm9 hg9 hs9
   go_wp2_with fail
   refine hK.out _ _ HS1.out (fun hHeld => ?_)
   clear hK K
   try simp only [Act.put, sA, sB, sC]
   refine wpAnyH_ready (rs := [7]) (by kernel_rfl) (by simp) ?_
   refine (AllReadyH.cons (o := ⟨none, .mapUpdate 76 (.tmp 29) (.const (Value.int IntKind.i64 0)) (.tmp 35), 0, "commit.go:79", #[⟨0, .data⟩, ⟨6, .data⟩, ⟨6, .chain⟩, ⟨0, .phase⟩, ⟨1, .phase⟩, ⟨2, .phase⟩, ⟨3, .phase⟩, ⟨4, .phase⟩, ⟨5, .phase⟩, ⟨6, .phase⟩], none⟩) rfl (fun K hK => ?_) AllReadyH.nil)
   refine step_of_skip ?_ (exec_update (Operand.tmp 29) (Operand.const (.int .i64 0)) (Operand.tmp 35) ?_ _ _ _ ?_ ?_ ?_ HUP.out) ?_
   rfl
   rfl
   rfl
   rfl
   rfl
   refine hK.out _ _ ⟨(HG9.out.block _ (Array.getElem?_eq_some_iff.1 HS1.out.1).1 (fun e => by have e2 := Option.some.inj e; have := H.out.ltP; omega)).trans HS1.out.1, (HG9.out.block _ (Array.getElem?_eq_some_iff.1 HS1.out.2).1 (fun e => by have e2 := Option.some.inj e; have := HXL.out; omega)).trans HS1.out.2⟩ (fun hHeld => ?_)
   clear hK K
   try simp only [Act.put]
   refine wpAnyH_done (by kernel_rfl) ?_ _
   go_wp2_with fail
   go_ret2
   refine .inl ⟨HER.out.1, w.heap.size, ov', rfl, ?_, ?_, ?_, Nat.le_refl _⟩
   ·rw [HER.out.2.2]
    exact PE.ownG (HBA.out.drew) H.out HPW.out w.heap.size (Nat.le_refl _) HML.out (Chg.grown HG9.out (fun g hg => (Option.some.inj hg).symm))
   ·rw [HER.out.2.1]; exact HM9.out
   ·rw [HER.out.2.2]; exact HNP.out
  ·have hp2 := PE.post HPE.out (new_below (Below.refl _ wc) (.cells (ArrU8 (zeros 256)) 50) (ArrU8 R))
   have HP2 := hid hp2
   clear hp2
   go_wp2_with (first | (refine wpList_store_row rfl 50 (Operand.tmp 5) (Operand.tmp 24) rfl wc.heap.size (ArrU8 R) rfl rfl 50 (ArrU8 (zeros 256)) HXN.out (by rw [HI35.out, SR.out]) (by rw [SR.out, SZ.out]) (ArrU8_one _) ?_) | fail)
   go_ret2
   refine .inr ⟨by rw [HER.out.1]; exact hE, ov', by rw [HER.out.1]; rfl, ?_⟩
   rw [HER.out.2.2]
   exact PE.pre (HBA.out.drew) HP2.out
end Go.Proofs.YtdkjkibdncbibaaGreat
/- a record's bytes -/
namespace Go.Proofs.YtdkjkibdncbibaaGreat
open Go.RowKit
open Go.Lib (hid)
theorem madeU8 (n : Nat) : madeCells #[Value.int .u8 0] n = ArrU8 (zeros n) := by
 unfold madeCells ArrU8 zeros
 rw [List.map_replicate]
 apply Array.ext'
 simp only [Array.toList_map, Array.toList_range]
 refine List.eq_replicate_iff.2 ⟨by simp, fun b hb => ?_⟩
 obtain ⟨x, _, rfl⟩ := List.mem_map.1 hb
 simp [Nat.mod_one]
theorem run_mkbytes (u : World) (n : Int) (m : Nat) (hm : n = (m : Int)) (hn : m ≤ 1099511627776) : (Instr.makeSlice 83 (.int .i64 n) (.int .i64 n)).run Tryz.prog u = .ok (.slice (some ⟨u.heap.size, 0, none⟩) m m) (u.alloc (.cells (ArrU8 (zeros m)) 5)) := by
 subst hm
 obtain ⟨i, hi, hz, hs, hby⟩ := info_parts info5
 have h := run_make (P := Tryz.prog) u 83 5 i _ Tryz.underlying83 hi hz .i64 .i64 m m (by omega) (by omega) (by rw [hby]; omega) (by omega)
 rw [Int.toNat_natCast, hs, Nat.mul_one] at h
 rw [h, show (Value.int IntKind.u8 0).cells = #[.int .u8 0] from rfl, madeU8]
def recL (pg : Int → List Int) (l : List Int) : List Int := l.flatMap fun n => be8 n.toNat ++ pg n
theorem recL_len (pg : Int → List Int) : ∀ (l : List Int), (∀ n ∈ l, (pg n).length = 256) → (recL pg l).length = 264 * l.length
 | [], _ => rfl
 | n :: r, h => by
  have ih := recL_len pg r (fun m hm => h m (by simp [hm]))
  unfold recL at ih ⊢
  rw [List.flatMap_cons, List.length_append, List.length_append, be8_len, h n (by simp), ih, List.length_cons]
  omega
theorem recL_app (pg : Int → List Int) (a : List Int) (n : Int) : recL pg (a ++ [n]) = recL pg a ++ be8 n.toNat ++ pg n := by
 unfold recL
 rw [List.flatMap_append, List.flatMap_cons, List.flatMap_nil, List.append_nil, List.append_assoc]
theorem recL_rng (pg : Int → List Int) (l : List Int) (h : ∀ n ∈ l, Rng (pg n)) : Rng (recL pg l) := by
 intro x hx
 obtain ⟨n, hn, hx⟩ := List.mem_flatMap.1 hx
 rcases List.mem_append.1 hx with h1 | h1
 ·exact be8_rng _ x h1
 ·exact h n hn x h1
def rbuf (pg : Int → List Int) (l : List Int) (i : Nat) : List Int := recL pg (l.take i) ++ zeros (264 * (l.length - i))
section
variable (pg : Int → List Int) (l : List Int) (hp : ∀ n ∈ l, (pg n).length = 256)
include hp
theorem rbuf_len (i : Nat) (hi : i ≤ l.length) : (rbuf pg l i).length = 264 * l.length := by
 rw [rbuf, List.length_append, recL_len pg _ (fun n hn => hp n (List.mem_of_mem_take hn)), zeros_len, List.length_take]
 omega
theorem rbuf_num (i : Nat) (hi : i < l.length) (x : List Int) (hx : x.length = 8) : putL (rbuf pg l i) (264 * i) x = recL pg (l.take i) ++ x ++ zeros (264 * (l.length - i) - 8) := by
 have h1 : (recL pg (l.take i)).length = 264 * i := by rw [recL_len pg _ (fun n hn => hp n (List.mem_of_mem_take hn)), List.length_take]; omega
 unfold putL rbuf
 rw [List.take_append_of_le_length (by omega), List.take_of_length_le (by omega), List.drop_append, h1, List.drop_eq_nil_of_le (by omega), List.nil_append]
 congr 1
 simp only [zeros, List.drop_replicate]
 congr 1
 omega
theorem rbuf_step (i : Nat) (x : Int) (hx : l[i]? = some x) : ((putL (rbuf pg l i) (264 * i) (be8 x.toNat)).take (264 * i + 8) ++ pg x ++ (putL (rbuf pg l i) (264 * i) (be8 x.toNat)).drop (264 * i + 8 + 256)) = rbuf pg l (i + 1) := by
 obtain ⟨hi, rfl⟩ := List.getElem?_eq_some_iff.1 hx
 have h1 : (recL pg (l.take i)).length = 264 * i := by rw [recL_len pg _ (fun n hn => hp n (List.mem_of_mem_take hn)), List.length_take]; omega
 have h2 : (recL pg (l.take i) ++ be8 (l[i]'hi).toNat).length = 264 * i + 8 := by rw [List.length_append, h1, be8_len]
 rw [rbuf_num pg l hp i hi _ (be8_len _), List.take_append_of_le_length (by omega), List.take_of_length_le (by omega), List.drop_append, h2, List.drop_eq_nil_of_le (by omega), List.nil_append]
 unfold rbuf
 rw [← List.take_append_getElem hi]
 have h3 := recL_app pg (l.take i) (l[i]'hi)
 rw [h3]
 congr 1
 simp only [zeros, List.drop_replicate]
 congr 1
 omega
end
theorem sliceB (X o n c : Nat) (j : Int) (m : Nat) (hj : j = (m : Int)) (hm : m < n) (hc : n ≤ c) (u : World) : (Instr.slice 83 (.slice (some ⟨X, o, none⟩) n c) (some (.int .i64 j)) none none).run Tryz.prog u = .ok (.slice (some ⟨X, o + m, none⟩) (n - m) (c - m)) u := by
 subst hj
 have hsz : ∀ u, (sizeOf (Tryz.prog.elem 83)).run Tryz.prog u = .ok 1 u := fun u => by kernel_rfl
 rw [run_slice_l u 83 _ _ _ (by kernel_rfl) .i64 _ (by omega) (by omega), hsz]
 have h1 : ¬ (c = m) := by omega
 simp [Result.andThen, sliced, h1, Addr.add_mid]
set_option maxRecDepth 100000 in
set_option maxHeartbeats 4000000 in
theorem record_any (M : Nat) (kvs : List (Int × List Int)) (nv : Value) (l : List Int) (w : World) (hm : MapG blkV w M kvs) (hnv : NumsIs w nv l) (hl0 : 0 < l.length) (hl : l.length ≤ 4096) (hr : ∀ n ∈ l, 0 ≤ n ∧ n < 4096) (hkl : ∀ n b, gl kvs n = some b → b.length = 256) :
  Calls Tryz.prog 85 #[nv, .map (some M)] w fun e w' => (∃ v, e = .returned v ∧ Bs w' v (recL (fun n => (gl kvs n).getD (zeros 256)) l) ∧ ∀ g, v.ownBlock = some g → w.heap.size ≤ g) ∧ Below w.heap.size w w' := by
 have hp : ∀ n ∈ l, ((gl kvs n).getD (zeros 256)).length = 256 := fun n _ => by
  cases hg : gl kvs n with
  | none => exact zeros_len 256
  | some b => exact hkl n b hg
 obtain ⟨na, nc, rfl, hcells⟩ := hnv
 have hne : l ≠ [] := by intro e; rw [e] at hl0; simp at hl0
 obtain ⟨g, rfl, hgl, hgc⟩ := hcells.resolve_left hne
 have HI35 := hid (show (Tryz.prog.info? 50).map (·.size) = some 256 by kernel_rfl)
 have SZ := hid (show (ArrU8 (zeros 256)).size = 256 by rw [ArrU8_size, zeros_len])
 have hz := zero35
 have HUU := hid (show (Tryz.prog.info? 5).map (·.size) = some 1 by kernel_rfl)
 have HM := hid hm
 have HP := hid hp
 have HRN := hid hr
 have HGC := hid hgc
 have HGL := hid hgl
 have hll : (l.length : Int) ≤ 4096 := by omega
 have hmk := fun u => run_mkbytes u ((l.length : Int) * 264) (264 * l.length) (by omega) (by omega)
 have hb0 : rbuf (fun n => (gl kvs n).getD (zeros 256)) l 0 = zeros (264 * l.length) := by simp [rbuf, recL]
 have HB0 := hid hb0
 have HEN := hid (show rbuf (fun n => (gl kvs n).getD (zeros 256)) l l.length = recL (fun n => (gl kvs n).getD (zeros 256)) l by simp [rbuf, zeros])
 generalize hpg : (fun n => (gl kvs n).getD (zeros 256)) = pg at *
 have HPG := hid (fun n => congrFun hpg n)
 have hpp : ∀ n ∈ l, (pg n).length = 256 := fun n hn => by rw [← hpg]; exact hp n hn
 have HRL := hid (rbuf_len pg l hpp)
 have HRS := hid (rbuf_step pg l hpp)
 generalize hlen : l.length = len at *
 have HLE := hid hlen
 clear hm hcells hne hgl hgc hp hpp hr hkl hpg hb0 hlen
 go_enter Tryz.func85, Tryz.ntmps85
 go_wp2_with fail
 have hb1 : Below w.heap.size w (w.alloc (.cells (ArrU8 (zeros (264 * len))) 5)) := (Below.refl _ _).alloc (Nat.le_refl _) _
 have hx0 : (w.alloc (.cells (ArrU8 (zeros (264 * len))) 5)).heap[w.heap.size]? = some (.cells ((rbuf pg l 0).map (Value.int .u8)).toArray 5 (0, 0)) := by rw [HB0.out]; exact heap_alloc_new _ _
 generalize w.alloc (.cells (ArrU8 (zeros (264 * len))) 5) = w1 at *
 have HB1 := hid hb1
 have HX0 := hid hx0
 have HXL := hid (Array.getElem?_eq_some_iff.1 hx0).1
 clear hb1 hx0 hmk
 go_loopw [16] (fun iv wr => ∃ i : Nat, i ≤ len ∧ iv = .int .i64 (i : Int) ∧ wr.heap[w.heap.size]? = some (.cells ((rbuf pg l i).map (Value.int .u8)).toArray 5 (0, 0)) ∧ Chg (fun g => g = w.heap.size) w1 wr) (fun iv _ => len - (intOf iv).toNat)
 case atStart => exact ⟨0, by omega, rfl, HX0.out, Chg.refl _ _⟩
 case round =>
  obtain ⟨i, hi, rfl, hx, hc⟩ := hrel
  have HX := hid hx
  have HC := hid hc
  by_cases hlt : i < len
  ·have hbr : Below w.heap.size w wr := HB1.out.trans (hc.below (fun k hk => by omega) HB1.out.size)
   obtain ⟨x, hxi⟩ : ∃ x, l[i]? = some x := ⟨_, List.getElem?_eq_getElem (by rw [HLE.out]; exact hlt)⟩
   have cx : wr.cell? ⟨g, i, none⟩ = some (.int .i64 x) := by
    have h2 := HGC.out i x hxi
    unfold World.cell? at h2 ⊢
    simp only at h2 ⊢
    rw [hbr.block g HGL.out]
    exact h2
   have hrx := HRN.out x (List.mem_of_getElem? hxi)
   obtain ⟨y, rfl⟩ : ∃ y : Nat, x = (y : Int) := ⟨x.toNat, by omega⟩
   have hcv : IntKind.u64.wrap (y : Int) = (y : Int) := by rw [IntKind.wrap_u64]; omega
   have hmr := HM.out.of (hbr.block M HM.out.lt)
   have hlk := fun (u : World) (hu : u.heap[M]? = wr.heap[M]?) => run_look1_g (P := Tryz.prog) (mT := 76) (kT := 3) (eT := 50) (enc := blkV) Tryz.underlying76 Tryz.underlying3 (zeros 256) (fun u => zero35 u) (y : Int) (hmr.of hu)
   rw [HPG.out (y : Int)] at hlk
   have HLK := hid hlk
   have HST := hid (HRS.out i (y : Int) hxi)
   have HPL := hid (HP.out (y : Int) (List.mem_of_getElem? hxi))
   rw [HPG.out (y : Int)] at HPL
   have HLN := hid (HRL.out i (by omega))
   have hsA := fun u => sliceB w.heap.size 0 (264 * len) (264 * len) ((i : Int) * 264) (264 * i) (by omega) (by omega) (Nat.le_refl _) u
   rw [Nat.zero_add] at hsA
   have hsB := fun u => sliceB w.heap.size (264 * i) (264 * len - 264 * i) (264 * len - 264 * i) 8 8 rfl (by omega) (Nat.le_refl _) u
   have HBR := hid hbr
   have HML := hid (show M < wr.heap.size by have := hmr.lt; exact this)
   have HPN := hid (putNumber_any w.heap.size (264 * i) (264 * len - 264 * i) (264 * len - 264 * i) y (rbuf pg l i) 5 wr hx (by rw [HLN.out]; omega) (by omega) (by omega))
   clear hx hc hbr hxi hmr hlk
   generalize pg (y : Int) = bb at *
   have SB := hid (show (ArrU8 bb).size = 256 by rw [ArrU8_size, HPL.out])
   go_wp2_with fail
   refine HPN.out.mono ?_
   rintro e wa ⟨rfl, hxa, hca⟩
   have HXA := hid hxa
   have HCA := hid (HC.out.trans hca (fun _ h => .inl h))
   have hlk2 := HLK.out wa (hca.block M HML.out (by have := HM.out.lt; omega))
   have HXAL := hid (Array.getElem?_eq_some_iff.1 hxa).1
   have hxn := heap_alloc_new wa (.cells (ArrU8 (zeros 256)) 50)
   have HXN := hid hxn
   clear hxa hca hxn
   go_wp2_with (first | (refine wpList_store_row rfl 50 (Operand.tmp 9) (Operand.tmp 31) rfl wa.heap.size (ArrU8 bb) rfl rfl 50 (ArrU8 (zeros 256)) HXN.out (by rw [HI35.out, SB.out]) (by rw [SB.out, SZ.out]) (ArrU8_one _) ?_) | fail)
   have hxb := (new_old (w := wa) (.cells (ArrU8 (zeros 256)) 50) (ArrU8 bb) _ HXAL.out).trans HXA.out
   have hx9 := new_at wa (ArrU8 (zeros 256)) (ArrU8 bb) 50
   have hcb : Chg (fun g => g = w.heap.size) w1 ((wa.alloc (.cells (ArrU8 (zeros 256)) 50)).setRow wa.heap.size (ArrU8 bb)) := HCA.out.trans (Chg.fresh (F := fun _ => False) (new_below (Below.refl _ _) _ _)) (fun _ h => h.elim)
   have hsC := fun u => slice35_all u wa.heap.size
   generalize (wa.alloc (.cells (ArrU8 (zeros 256)) 50)).setRow wa.heap.size (ArrU8 bb) = wb at *
   generalize wa.heap.size = XA at *
   have HXB := hid hxb
   have HX9 := hid hx9
   have HCB := hid hcb
   have HLQ := hid (show (putL (rbuf pg l i) (264 * i) (be8 y)).length = 264 * len by rw [putL_len _ _ _ (by rw [be8_len, HLN.out]; omega), HLN.out])
   have HMN := hid (show (bb.map (Value.int .u8)).length = Nat.min 256 (264 * len - 264 * i - 8) by rw [List.length_map, HPL.out]; exact (Nat.min_eq_left (by omega)).symm)
   have HSS := hid (show ((putL (rbuf pg l i) (264 * i) (be8 y)).map (Value.int .u8)).take (264 * i + 8) ++ bb.map (Value.int .u8) ++ ((putL (rbuf pg l i) (264 * i) (be8 y)).map (Value.int .u8)).drop (264 * i + 8 + (bb.map (Value.int .u8)).length) = (rbuf pg l (i + 1)).map (Value.int .u8) by
    have h3 := HST.out
    rw [Int.toNat_natCast] at h3
    rw [List.length_map, HPL.out, ← h3]
    simp [List.map_take, List.map_drop])
   clear hxb hx9 hcb hlk2
   refine wp_region_held_drew (S := fun _ => True) (by kernel_rfl) (trivial) (fun hHeld => ?_)
   refine tk (i := 0) (oi := ⟨some 32, .move (.tmp 8), 83, "record.go:20", #[], none⟩) (v := ?_) (Or.inl ⟨by rfl, ?_⟩) ?_
   rotate_left 1
   ·(intro u hSw; go_simp; try with_reducible rfl)
   try simp only [Act.put, sA, sB, sC]
   refine tk (i := 1) (oi := ⟨some 33, .slice 83 (.tmp 32) (some (.const (Value.int IntKind.i64 8))) none none, 83, "record.go:20", #[⟨0, .data⟩], none⟩) (v := ?_) (Or.inl ⟨by rfl, ?_⟩) ?_
   rotate_left 1
   ·(intro u hSw; go_simp; try with_reducible rfl)
   try simp only [Act.put, sA, sB, sC]
   refine tk (i := 2) (oi := ⟨some 34, .slice 50 (.tmp 9) none none none, 83, "record.go:20", #[], none⟩) (v := ?_) (Or.inl ⟨by rfl, ?_⟩) ?_
   rotate_left 1
   ·(intro u hSw; go_simp; try with_reducible rfl)
   try simp only [Act.put, sA, sB, sC]
   refine wpAnyH_ready (rs := [3]) (by kernel_rfl) (by simp) ?_
   refine (AllReadyH.cons (o := ⟨some 35, .call ⟨.builtin .copy, #[.tmp 33, .tmp 34], #[83, 83]⟩, 3, "record.go:20", #[⟨1, .data⟩, ⟨2, .data⟩], none⟩) rfl (fun K hK => ?_) AllReadyH.nil)
   refine step_copy_row (by rfl) (Operand.tmp 33) (Operand.tmp 34) 83 83 (by rfl) 5 Tryz.underlying83 HUU.out w.heap.size (264 * i + 8) (264 * len - 264 * i - 8) (264 * len - 264 * i - 8) 256 256 ⟨XA, 0, none⟩ (by rfl) (by rfl) ((putL (rbuf pg l i) (264 * i) (be8 y)).map (Value.int .u8)) ((rbuf pg l (i + 1)).map (Value.int .u8)) 5 HXB.out (bb.map (Value.int .u8)) HMN.out ?_ ?_ (by intro v hv; obtain ⟨x, _, rfl⟩ := List.mem_map.1 hv; rfl) HSS.out ?_
   ·intro j v hj
    rw [Addr.add_mid, cell_of_row wb.drew _ _ _ _ _ HX9.out]
    simpa [ArrU8] using hj
   ·rw [List.length_map, List.length_map, HPL.out, HLQ.out]
    omega
   intro w9 h9 hg9
   have HX9' := hid h9
   have HC9 := hid (HCB.out.drew.trans (Chg.grown (F := fun k => k = w.heap.size) hg9 (fun k hk => (Option.some.inj hk).symm)) (fun k hk => .inl hk))
   clear h9 hg9
   refine hK.out _ _ trivial (fun hHeld => ?_)
   clear hK K
   try simp only [Act.put, sA, sB, sC]
   refine wpAnyH_done (by kernel_rfl) ?_ _
   go_wp2_with fail
   go_roundw
   case rel => exact ⟨i + 1, by omega, by go_num, HX9'.out, HC9.out⟩
   case measure => simp [intOf]; omega
  ·obtain rfl : i = len := by omega
   have hxe : wr.heap[w.heap.size]? = some (.cells ((recL pg l).map (Value.int .u8)).toArray 5 (0, 0)) := by rw [← HEN.out]; exact hx
   have HXE := hid hxe
   have HLN := hid (show (recL pg l).length = 264 * i by rw [← HEN.out]; exact HRL.out i (Nat.le_refl _))
   have HBR := hid (show Below w.heap.size w wr from HB1.out.trans (hc.below (fun k hk => by omega) HB1.out.size))
   clear hx hc hxe
   go_wp2_with fail
   go_ret
   refine ⟨⟨.slice (some ⟨w.heap.size, 0, none⟩) (264 * i) (264 * i), rfl, ?_, ?_⟩, HBR.out⟩
   ·have hb := bs_mid HXE.out 0 (264 * i) (by omega) (by rw [HLN.out]; omega)
    rwa [List.drop_zero] at hb
   ·intro g hg
    simp only [Value.ownBlock, Option.some.injEq] at hg
    omega
end Go.Proofs.YtdkjkibdncbibaaGreat
