/- pages given, given back, counted: plain -/
import Derived.Test.YtdkjkibdncbibaaGreatCm02
import Derived.Test.YtdkjkibdncbibaaGreatCm23
import Derived.Laws.MakeOwn
namespace Go.Proofs.YtdkjkibdncbibaaGreat
open Go.RowKit
open Go.Lib (hid)
section
variable {k : PK} {v : PV} {rs : List (List Int)} {W : Int → List Int}
theorem al_head (hl : PL k v rs W) (hj : PJ k v) (hm : PM v W) (h : 0 < hN v.h1 1 ∧ hN v.h1 1 < hN v.h1 0) :
  (alU k v).2 = (((hN v.h1 1 : Nat) : Int), 0) ∧ PM (alU k v).1 W ∧ ∀ m, NL (alU k v).1 W m = if m = (hN v.h1 1 : Nat) then zeros 256 else if m = 0 then putL (NL v W 0) 8 (be8 (beI ((NL v W (hN v.h1 1 : Nat)).take 8))) else NL v W m := by
 have hu := hj.u1
 obtain ⟨n, hn⟩ : ∃ n : Int, n = (hN v.h1 1 : Nat) := ⟨_, rfl⟩
 have hn1 : 1 ≤ n := by omega
 have hn2 : n < k.nb - k.sz := by omega
 have hc := hl.cu hm n hn1 hn2
 have he : alU k v = (stU k { cuU k v n with h1 := v.h1.set 1 (beI ((NL v W n).take 8)) } n (zeros 256), n, 0) := by
  unfold alU
  rw [if_pos h, ← hn]
  unfold ahU
  rw [hc, if_pos rfl]
 rw [← hn, he]
 have hj2 : PJ k { cuU k v n with h1 := v.h1.set 1 (beI ((NL v W n).take 8)) } := by
  have h1 := (hj.cu n ⟨by omega, hn2⟩).head (beI ((NL v W n).take 8)) (by
   have h2 := take8_rng (hj.cuR n).2
   rw [hc] at h2
   exact h2)
  exact h1
 have hl2 : PL k { cuU k v n with h1 := v.h1.set 1 (beI ((NL v W n).take 8)) } rs W := hl.as rfl rfl rfl rfl rfl rfl rfl
 have hm2 : PM { cuU k v n with h1 := v.h1.set 1 (beI ((NL v W n).take 8)) } W := ⟨PM.cuV hl hj hm n (by omega) hn2, hm.ch, hm.h0⟩
 obtain ⟨s1, s2⟩ := PM.st hl2 hj2 hm2 n (zeros 256) hn1 hn2
 refine ⟨rfl, s1, fun m => ?_⟩
 rw [s2]
 by_cases hmn : m = n
 ·rw [if_pos hmn, if_pos hmn]
 ·rw [if_neg hmn, if_neg hmn]
  exact NL_num (v := v) hj 1 _ (by decide) m
theorem al_next (hl : PL k v rs W) (hj : PJ k v) (hm : PM v W) (h : ¬ (0 < hN v.h1 1 ∧ hN v.h1 1 < hN v.h1 0)) (h2 : (hN v.h1 0 : Int) < k.nb - k.sz) :
  (alU k v).2 = (((hN v.h1 0 : Nat) : Int), 0) ∧ PM (alU k v).1 W ∧ ∀ m, NL (alU k v).1 W m = if m = (hN v.h1 0 : Nat) then zeros 256 else if m = 0 then putL (NL v W 0) 0 (be8 (hN v.h1 0 + 1)) else NL v W m := by
 have hu := hj.u1
 have he : alU k v = (stU k { v with h1 := v.h1.set 0 (hN v.h1 0 + 1) } (hN v.h1 0 : Nat) (zeros 256), ((hN v.h1 0 : Nat) : Int), 0) := by
  unfold alU
  rw [if_neg h, if_neg (by omega)]
 rw [he]
 have hm2 : PM { v with h1 := v.h1.set 0 (hN v.h1 0 + 1) } W := hm.as rfl rfl rfl
 have hl2 : PL k { v with h1 := v.h1.set 0 (hN v.h1 0 + 1) } rs W := hl.as rfl rfl rfl rfl rfl rfl rfl
 obtain ⟨s1, s2⟩ := PM.st hl2 (hj.used h2) hm2 (hN v.h1 0 : Nat) (zeros 256) (by omega) h2
 refine ⟨rfl, s1, fun m => ?_⟩
 rw [s2]
 by_cases hmn : m = (hN v.h1 0 : Nat)
 ·rw [if_pos hmn, if_pos hmn]
 ·rw [if_neg hmn, if_neg hmn]
  exact NL_num (v := v) hj 0 _ (by decide) m
theorem al_full (h : ¬ (0 < hN v.h1 1 ∧ hN v.h1 1 < hN v.h1 0)) (h2 : ¬ (hN v.h1 0 : Int) < k.nb - k.sz) : alU k v = (v, 0, 42) := by
 unfold alU
 rw [if_neg h, if_pos (by omega)]
theorem fr_yes (hl : PL k v rs W) (hj : PJ k v) (hm : PM v W) {n : Int} (h : inU v n = true) :
  PM (frU k v n) W ∧ ∀ m, NL (frU k v n) W m = if m = n then putL (zeros 256) 0 (be8 (hN v.h1 1)) else if m = 0 then putL (NL v W 0) 8 (be8 n.toNat) else NL v W m := by
 have hr := inU_rng h (usedN_le hj)
 have h1 : 1 ≤ n := by
  unfold inU at h
  simp at h
  omega
 obtain ⟨s1, s2⟩ := PM.st hl hj hm n (frB v) h1 hr.2
 have hj2 := hj.st n (frB v) hr (frB_len v) (frB_rng v)
 have he : frU k v n = { stU k v n (frB v) with h1 := (stU k v n (frB v)).h1.set 1 n.toNat } := by
  unfold frU
  rw [if_pos h]
  rfl
 rw [he]
 refine ⟨s1.as rfl rfl rfl, fun m => ?_⟩
 rw [NL_num hj2 1 _ (by decide) m, s2, s2, if_neg (show (0 : Int) ≠ n by omega)]
 by_cases hmn : m = n
 ·rw [if_pos hmn, if_neg (by omega), if_pos hmn]
  rfl
 ·rw [if_neg hmn, if_neg hmn]
theorem fr_no {n : Int} (h : ¬ inU v n = true) : frU k v n = v := by
 unfold frU
 rw [if_neg h]
/-- how many pages differ -/
def dif (N : Nat) (F G : Nat → List Int) : Nat := ((List.range N).filter fun i => decide (F i ≠ G i)).length
theorem chN_dif (hl : PL k v rs W) (hj : PJ k v) (hm : PM v W) (h0 : (W 0).length = 256 ∧ Rng (W 0)) : chN v = dif (k.nb - k.sz).toNat (fun i => NL v W (i : Nat)) (fun i => W (i : Nat)) := by
 have hz := hj.z2
 have h0c : 0 ∉ gk v.ch := fun h0 => by
  cases hg : gl v.ch 0 with
  | some x => exact (hm.ch 0 x hg).2 rfl
  | none => exact gl_none.1 hg h0
 have hne : ∀ n : Int, NL v W n ≠ W n ↔ (n = 0 ∧ v.h1 ≠ v.h0) ∨ n ∈ gk v.ch := by
  intro n
  unfold NL
  by_cases hn : n = 0
  ·subst hn
   rw [if_pos rfl]
   constructor
   ·intro h
    refine .inl ⟨rfl, fun e => h ?_⟩
    rw [e, hm.h0, ovB_hdr h0.1 h0.2]
   ·rintro (⟨_, h⟩ | h)
    ·intro e
     have h1 := congrArg hdr e
     rw [hdr_ovB _ _ hj.l1 hj.b1, ← hm.h0] at h1
     exact h h1
    ·exact absurd h h0c
  ·rw [if_neg hn]
   cases hg : gl v.ch n with
   | some x =>
    constructor
    ·intro _; exact .inr (gl_mem hg)
    ·intro _; exact (hm.ch n x hg).1
   | none =>
    constructor
    ·intro h; exact absurd rfl h
    ·rintro (⟨h, _⟩ | h)
     ·exact absurd h hn
     ·exact absurd h (gl_none.1 hg)
 have hp : (((List.range (k.nb - k.sz).toNat).filter fun i => decide (NL v W (i : Nat) ≠ W (i : Nat))).map fun i : Nat => (i : Int)).Perm ((if v.h1 = v.h0 then [] else [0]) ++ gk v.ch) := by
  refine (List.perm_ext_iff_of_nodup ?_ ?_).2 (fun n => ?_)
  ·exact List.Pairwise.map _ (fun a b h e => h (Int.ofNat.inj e)) (List.Pairwise.filter _ List.nodup_range)
  ·split
   ·exact hj.chn
   ·exact List.nodup_cons.2 ⟨h0c, hj.chn⟩
  ·simp only [List.mem_map, List.mem_filter, List.mem_range, decide_eq_true_eq]
   constructor
   ·rintro ⟨i, ⟨hi, hh⟩, rfl⟩
    rcases (hne _).1 hh with ⟨e, h⟩ | h
    ·rw [if_neg h]; simp [e]
    ·simp [h]
   ·intro h
    have hr : (n = 0 ∧ v.h1 ≠ v.h0) ∨ n ∈ gk v.ch := by
     rcases List.mem_append.1 h with h | h
     ·split at h
      ·cases h
      ·rename_i hh
       exact .inl ⟨by simpa using h, hh⟩
     ·exact .inr h
    have hb : 0 ≤ n ∧ n < k.nb - k.sz := by
     rcases hr with ⟨e, _⟩ | h
     ·omega
     ·exact hj.chr n h
    refine ⟨n.toNat, ⟨by omega, ?_⟩, by omega⟩
    rw [show ((n.toNat : Nat) : Int) = n by omega]
    exact (hne n).2 hr
 have hlen := hp.length_eq
 unfold dif chN
 rw [List.length_map, List.length_append] at hlen
 rw [hlen]
 have h2 : (gk v.ch).length = v.ch.length := by simp [gk]
 rw [h2]
 split <;> simp <;> omega
end
end Go.Proofs.YtdkjkibdncbibaaGreat
/- SetRoot: the program's -/
namespace Go.Proofs.YtdkjkibdncbibaaGreat
open Go.RowKit
open Go.Lib (hid)
def psrU (v : PV) (n : Int) (x : Nat) : PV := if 0 ≤ n ∧ n < 16 then { v with h1 := v.h1.set (2 + n.toNat) x } else v
def psrE (n : Int) : Int := if 0 ≤ n ∧ n < 16 then 0 else 2
set_option maxRecDepth 100000 in
set_option maxHeartbeats 1000000 in
theorem psetroot_any (k : PK) (v : PV) (n : Int) (x : Nat) (w : World) (h : PgS k v w) :
  Calls Tryz.prog 46 #[.pointer (some ⟨k.P, 0, none⟩), .int .i64 n, .int .u64 (x : Int)] w fun e w' => e = .returned (.int .i64 (psrE n)) ∧ PE k v w (psrU v n x) w' := by
 by_cases h0 : n < 0
 ·have HR := hid (show psrE n = 2 ∧ psrU v n x = v by unfold psrE psrU; rw [if_neg (by omega), if_neg (by omega)]; exact ⟨rfl, rfl⟩)
  have HP := hid (PE.same h (Below.refl _ _))
  clear h
  go_enter Tryz.func46, Tryz.ntmps46
  go_wp2_with fail
  go_ret
  exact ⟨by rw [HR.out.1]; rfl, by rw [HR.out.2]; exact HP.out⟩
 ·by_cases h1 : n ≥ 16
  ·have HR := hid (show psrE n = 2 ∧ psrU v n x = v by unfold psrE psrU; rw [if_neg (by omega), if_neg (by omega)]; exact ⟨rfl, rfl⟩)
   have HP := hid (PE.same h (Below.refl _ _))
   clear h
   go_enter Tryz.func46, Tryz.ntmps46
   go_wp2_with fail
   go_ret
   exact ⟨by rw [HR.out.1]; rfl, by rw [HR.out.2]; exact HP.out⟩
  ·obtain ⟨m, rfl⟩ : ∃ m : Nat, n = (m : Int) := ⟨n.toNat, by omega⟩
   have hm : m < 16 := by omega
   have HR := hid (show psrE (m : Int) = 0 ∧ psrU v (m : Int) x = { v with h1 := v.h1.set (2 + m) x } by
    unfold psrE psrU
    rw [if_pos ⟨by omega, by omega⟩, if_pos ⟨by omega, by omega⟩]
    exact ⟨rfl, rfl⟩)
   have hp := h.num (2 + m) x (by omega)
   rw [show 26 + (2 + m) = 28 + m by omega] at hp
   have HP := hid hp
   have c := (cell_of_row _ k.P (28 + m) _ _ _ h.box).trans (PC_root h.l0 h.l1 m hm)
   have f := frozen_of_row w k.P (28 + m) _ _ h.box
   clear h h0 h1 hp
   go_enter Tryz.func46, Tryz.ntmps46
   go_wp2_with fail
   go_ret
   exact ⟨by rw [HR.out.1]; rfl, by rw [HR.out.2]; exact HP.out⟩
section
variable {k : PK} {v : PV} {rs : List (List Int)} {W : Int → List Int}
theorem PJ.root (h : PJ k v) (i x : Nat) (hi : 1 ≤ i) (hx : x < 18446744073709551616) : PJ k { v with h1 := v.h1.set i x } := by
 have e0 : hN (v.h1.set i x) 0 = hN v.h1 0 := by
  unfold hN
  rw [List.getElem?_set, if_neg (by omega)]
 exact { h with b1 := fun n hn => (by rcases List.mem_or_eq_of_mem_set hn with h1 | h1; exact h.b1 n h1; omega), u1 := by show 1 ≤ hN (v.h1.set i x) 0 ∧ (hN (v.h1.set i x) 0 : Int) ≤ _; rw [e0]; exact h.u1, l1 := by show (v.h1.set i x).length = 18; rw [List.length_set]; exact h.l1 }
/-- what SetRoot leaves -/
theorem psr_all (hl : PL k v rs W) (hj : PJ k v) (hm : PM v W) (n : Int) (x : Nat) (hx : x < 18446744073709551616) :
  PL k (psrU v n x) rs W ∧ PJ k (psrU v n x) ∧ PM (psrU v n x) W ∧ ∀ m, NL (psrU v n x) W m = if 0 ≤ n ∧ n < 16 ∧ m = 0 then putL (NL v W 0) (8 * (2 + n.toNat)) (be8 x) else NL v W m := by
 unfold psrU
 by_cases h : 0 ≤ n ∧ n < 16
 ·rw [if_pos h]
  refine ⟨hl.as rfl rfl rfl rfl rfl rfl rfl, hj.root _ _ (by omega) hx, hm.as rfl rfl rfl, fun m => ?_⟩
  rw [NL_num hj _ _ (by omega)]
  by_cases hm0 : m = 0
  ·rw [if_pos hm0, if_pos ⟨h.1, h.2, hm0⟩]
  ·rw [if_neg hm0, if_neg (fun e => hm0 e.2.2)]
 ·rw [if_neg h]
  exact ⟨hl, hj, hm, fun m => by rw [if_neg (fun e => h ⟨e.1, e.2.1⟩)]⟩
end
end Go.Proofs.YtdkjkibdncbibaaGreat
namespace Go.Proofs.YtdkjkibdncbibaaGreat
open Go.RowKit
open Go.Lib (hid)
/-- a slice of blocks -/
def BkC (w : World) (B : Nat) (g : Nat) (v : Value) (bs : List (List Int)) : Prop := (∃ cap, v = .slice (some ⟨g, 0, none⟩) bs.length cap) ∧ B ≤ g ∧ g < w.heap.size ∧ (∀ (i : Nat) (l : List Int), bs[i]? = some l → l.length = 256 ∧ w.rangeAt g (i * 256) (l.map (Value.int .u8))) ∧ w.there g 0 (bs.length * 256)
theorem BkC.of {w w' : World} {B g : Nat} {v : Value} {bs : List (List Int)} (h : BkC w B g v bs) (he : w'.heap[g]? = w.heap[g]?) (hs : g < w'.heap.size) : BkC w' B g v bs := by
 obtain ⟨h1, h2, h3, h4, h5⟩ := h
 refine ⟨h1, h2, hs, fun i l hl => ⟨(h4 i l hl).1, fun j v hv => (World.cell?_of_block (a := ⟨g, i * 256 + j, none⟩) he).trans ((h4 i l hl).2 j v hv)⟩, fun j hj => ?_⟩
 rw [World.cell?_of_block (a := ⟨g, 0 + j, none⟩) he, World.frozen?_of_block (a := ⟨g, 0 + j, none⟩) he]
 exact h5 j hj
theorem BkC.set {w : World} {B g : Nat} {v : Value} {bs : List (List Int)} (h : BkC w B g v bs) (i : Nat) (hi : i < bs.length) (l : List Int) (hl : l.length = 256) : BkC (w.setCells g (i * 256) (l.map (Value.int .u8))) B g v (bs.set i l) := by
  obtain ⟨h1, h2, h3, h4, h5⟩ := h
  have hmul : i * 256 + 256 ≤ bs.length * 256 := by omega
  have hth : w.there g (i * 256) (l.map (Value.int .u8)).length := fun j hj => by
    rw [List.length_map, hl] at hj
    have := h5 (i * 256 + j) (by omega)
    rwa [Nat.zero_add] at this
  refine ⟨by simpa using h1, h2, by rw [setCells_size]; exact h3, fun k m hk => ?_, fun j hj => ?_⟩
  · rw [List.getElem?_set] at hk
    by_cases hik : i = k
    · subst hik
      rw [if_pos rfl, if_pos hi] at hk
      injection hk with hk
      subst hk
      exact ⟨hl, World.rangeAt_setCells_same w g (i * 256) _ hth⟩
    · rw [if_neg hik] at hk
      obtain ⟨a1, a2⟩ := h4 k m hk
      refine ⟨a1, fun j v hv => ?_⟩
      have hj : j < 256 := by have := (List.getElem?_eq_some_iff.1 hv).1; simpa [a1] using this
      rw [World.cell?_setCells_out _ _ _ _ _ (fun _ _ => by
        show k * 256 + j < i * 256 ∨ i * 256 + _ ≤ k * 256 + j
        rw [List.length_map, hl]; omega)]
      exact a2 j v hv
  · rw [List.length_set] at hj
    have := h5 j hj
    rw [World.frozen?_setCells]
    refine ⟨?_, this.2⟩
    by_cases hin : i * 256 ≤ j ∧ j < i * 256 + 256
    · obtain ⟨k, rfl⟩ : ∃ k, j = i * 256 + k := ⟨j - i * 256, by omega⟩
      rw [Nat.zero_add, World.cell?_setCells_in _ _ _ _ (fun q hq => (hth q hq).1) k (by simp [hl]; omega)]
      rfl
    · rw [World.cell?_setCells_out _ _ _ _ _ (fun _ _ => by
        show 0 + j < i * 256 ∨ i * 256 + _ ≤ 0 + j
        rw [List.length_map, hl]; omega)]
      exact this.1
def flatB (bs : List (List Int)) : List Value := bs.flatMap fun l => l.map (Value.int .u8)
theorem flatB_len : ∀ (bs : List (List Int)), (∀ l ∈ bs, l.length = 256) → (flatB bs).length = bs.length * 256
 | [], _ => rfl
 | l :: bs, h => by
  have ih := flatB_len bs (fun m hm => h m (List.mem_cons_of_mem _ hm))
  have h1 := h l List.mem_cons_self
  show (l.map (Value.int .u8) ++ flatB bs).length = _
  rw [List.length_append, List.length_map, h1, ih, List.length_cons]
  omega
theorem flatB_get : ∀ (bs : List (List Int)), (∀ l ∈ bs, l.length = 256) → ∀ (i : Nat) (l : List Int), bs[i]? = some l → ∀ (j : Nat) (v : Value), (l.map (Value.int .u8))[j]? = some v → (flatB bs)[i * 256 + j]? = some v
 | [], _, i, l, h, _, _, _ => by simp at h
 | m :: bs, hb, 0, l, h, j, v, hv => by
  simp only [List.getElem?_cons_zero, Option.some.injEq] at h
  subst h
  show (m.map (Value.int .u8) ++ flatB bs)[0 * 256 + j]? = _
  rw [Nat.zero_mul, Nat.zero_add, List.getElem?_append_left (List.getElem?_eq_some_iff.1 hv).1]
  exact hv
 | m :: bs, hb, i + 1, l, h, j, v, hv => by
  have h1 := hb m List.mem_cons_self
  have ih := flatB_get bs (fun k hk => hb k (List.mem_cons_of_mem _ hk)) i l (by simpa using h) j v hv
  show (m.map (Value.int .u8) ++ flatB bs)[(i + 1) * 256 + j]? = _
  rw [List.getElem?_append_right (by simp [h1]; omega)]
  rw [List.length_map, h1, show (i + 1) * 256 + j - 256 = i * 256 + j by omega]
  exact ih
/-- where the k-th cell of the blocks lies -/
theorem flatB_at (bs : List (List Int)) (hb : ∀ l ∈ bs, l.length = 256) (k : Nat) (v : Value) (h : (flatB bs)[k]? = some v) : ∃ i j l, k = i * 256 + j ∧ bs[i]? = some l ∧ (l.map (Value.int .u8))[j]? = some v := by
 have hk := (List.getElem?_eq_some_iff.1 h).1
 rw [flatB_len bs hb] at hk
 have hi : k / 256 < bs.length := by omega
 have hl : bs[k / 256]? = some (bs[k / 256]'hi) := List.getElem?_eq_getElem hi
 have hl2 := hb _ (List.mem_of_getElem? hl)
 refine ⟨k / 256, k % 256, _, by omega, hl, ?_⟩
 have hj : k % 256 < ((bs[k / 256]'hi).map (Value.int .u8)).length := by rw [List.length_map, hl2]; omega
 have h2 := flatB_get bs hb (k / 256) _ hl (k % 256) _ (List.getElem?_eq_getElem hj)
 rw [show k / 256 * 256 + k % 256 = k by omega, h] at h2
 rw [List.getElem?_eq_getElem hj, h2]
theorem BkC.cells {w : World} {B g : Nat} {v : Value} {bs : List (List Int)} (h : BkC w B g v bs) : ∀ k u, (flatB bs)[k]? = some u → w.cell? ((⟨g, 0, none⟩ : Addr).add k) = some u := by
 intro k u hu
 obtain ⟨_, _, _, h4, _⟩ := h
 obtain ⟨i, j, l, rfl, hl, hv⟩ := flatB_at bs (fun l hl => by obtain ⟨i, hi⟩ := List.mem_iff_getElem?.1 hl; exact (h4 i l hi).1) k u hu
 rw [Addr.add_mid, Nat.zero_add]
 exact (h4 i l hl).2 j u hv
theorem BkC.owned {w : World} {B : Nat} {v : Value} {bs : List (List Int)} (hb : ∀ l ∈ bs, l.length = 256) (h0 : 0 < bs.length) (h : w.ownsRow B 50 256 v bs.length (flatB bs)) : ∃ g, BkC w B g v bs := by
  rcases h.2 with ⟨_, e⟩ | ⟨g, cap, cur, rfl, hbg, hg, hn, hc, hcs, ht⟩
  · omega
  · refine ⟨g, ⟨cap, rfl⟩, hbg, (Array.getElem?_eq_some_iff.1 hg).1, fun i l hl => ⟨hb l (List.mem_of_getElem? hl), fun j v hv => ?_⟩, fun j hj => ?_⟩
    · have := h.cells (g := g) rfl (i * 256 + j) v (flatB_get bs hb i l hl j v hv)
      rwa [Addr.add_mid, Nat.zero_add] at this
    · refine ⟨?_, frozen_of_row w _ _ _ _ hg⟩
      have hfl := flatB_len bs hb
      have hj2 : j < (flatB bs).length := by omega
      have := h.cells (g := g) rfl j _ (List.getElem?_eq_getElem hj2)
      rw [Addr.add_mid] at this
      rw [this]; rfl
end Go.Proofs.YtdkjkibdncbibaaGreat
namespace Go.Proofs.YtdkjkibdncbibaaGreat
open Go.RowKit
open Go.Lib (hid)
theorem run_empty_blocks (u : World) : (Instr.buildSlice 25 0 #[]).run Tryz.prog u = .ok (.slice (some ⟨u.heap.size, 0, none⟩) 0 0) (u.alloc (.cells #[] 50)) := by kernel_rfl
theorem run_append_blocks (u : World) (ty : TypeId) (B g : Nat) (v : Value) (bs : List (List Int)) (h : BkC u B g v bs) (h0 : 0 < bs.length) (hl : bs.length ≤ 4096) (e : Nat) (he : u.heap[e]? = some (.cells #[] 50 (0, 0))) (B' : Nat) (hB : B' ≤ e) :
  ∃ v' g' w', (Builtin.append_ #[25, 25] ty #[.slice (some ⟨e, 0, none⟩) 0 0, v]).run Tryz.prog u = .ok v' w' ∧ BkC w' B' g' v' bs ∧ u.grownBy w' (some e) ∧ e ≤ g' := by
 obtain ⟨i, z, hi, hz, hs, hby, hzs⟩ : ∃ i z, Tryz.prog.info? 50 = some i ∧ i.zero = some z ∧ i.size = 256 ∧ i.bytes = 256 ∧ z.cells.size = 256 := by
  have h1 : (Tryz.prog.info? 50).map (fun ie => (ie.zero.map fun z => z.cells.size, ie.size, ie.bytes)) = some (some 256, 256, 256) := by kernel_rfl
  cases hie : Tryz.prog.info? 50 with
  | none => rw [hie] at h1; cases h1
  | some ie =>
   rw [hie] at h1
   simp only [Option.map_some, Option.some.injEq, Prod.mk.injEq] at h1
   cases hz : ie.zero with
   | none => rw [hz] at h1; exact absurd h1.1 (by simp)
   | some z => rw [hz] at h1; exact ⟨ie, z, rfl, hz, h1.2.1, h1.2.2, by simpa using h1.1⟩
 have hc := h.cells
 have hb : ∀ l ∈ bs, l.length = 256 := fun l hl => by obtain ⟨i, hi⟩ := List.mem_iff_getElem?.1 hl; exact (h.2.2.2.1 i l hi).1
 obtain ⟨⟨cap, rfl⟩, _⟩ := h
 have how : u.ownsRow e 50 256 (.slice (some ⟨e, 0, none⟩) 0 0) 0 [] := ⟨rfl, .inr ⟨e, 0, #[], rfl, Nat.le_refl _, he, Nat.le_refl _, Nat.zero_le _, rfl, rfl⟩⟩
 have h1 : ∀ v ∈ flatB bs, v.oneCell' = true := fun v hv => by
  obtain ⟨l, _, hv⟩ := List.mem_flatMap.1 hv
  obtain ⟨x, _, rfl⟩ := List.mem_map.1 hv
  rfl
 obtain ⟨v', w', hr, h2, h3, _⟩ := run_append_own (P := Tryz.prog) u e 25 ty 50 i z 256 256 Tryz.underlying25 hi hz hs hby hzs (by decide) _ 0 [] how ⟨g, 0, none⟩ bs.length cap (flatB bs) (flatB_len bs hb) hc h1 (by unfold maxLen; omega) (by omega) (Nat.le_of_lt (Array.getElem?_eq_some_iff.1 he).1)
 rw [Nat.zero_add, List.nil_append] at h2
 obtain ⟨g', hg'⟩ := BkC.owned hb h0 h2
 obtain ⟨a1, a2, a3⟩ := hg'
 exact ⟨v', g', w', hr, ⟨a1, by omega, a3⟩, h3, a2⟩
end Go.Proofs.YtdkjkibdncbibaaGreat
/- the reference: numbers in a page, pages in use -/
namespace Go.Proofs.YtdkjkibdncbibaaGreat
open Go.RowKit
open Go.Lib (hid)
theorem BkC.cell {w : World} {B g : Nat} {v : Value} {bs : List (List Int)} (h : BkC w B g v bs) (i : Nat) (l : List Int) (hl : bs[i]? = some l) (j : Nat) (hj : j < 256) : w.cell? ⟨g, i * 256 + j, none⟩ = some (.int .u8 (l[j]?.getD 0)) := by
 obtain ⟨e1, e2⟩ := h.2.2.2.1 i l hl
 have hj2 : j < l.length := by omega
 rw [e2 j (.int .u8 l[j]) (by rw [List.getElem?_map, List.getElem?_eq_getElem hj2]; rfl), List.getElem?_eq_getElem hj2]
 rfl
theorem BkC.fro {w : World} {B g : Nat} {v : Value} {bs : List (List Int)} (h : BkC w B g v bs) (i : Nat) (hi : i < bs.length) (j : Nat) (hj : j < 256) : w.frozen? ⟨g, i * 256 + j, none⟩ = false := by
  have h1 : i * 256 + 256 ≤ bs.length * 256 := by omega
  have := (h.2.2.2.2 (i * 256 + j) (by omega)).2
  rwa [Nat.zero_add] at this
theorem BkC.put1 {w : World} {B g : Nat} {v : Value} {bs : List (List Int)} (h : BkC w B g v bs) (i : Nat) (l : List Int) (hl : bs[i]? = some l) (j : Nat) (hj : j < 256) (x : Int) : BkC (w.setCell ⟨g, i * 256 + j, none⟩ (.int .u8 x)) B g v (bs.set i (l.set j x)) := by
 have hi : i < bs.length := (List.getElem?_eq_some_iff.1 hl).1
 have hll := (h.2.2.2.1 i l hl).1
 have hc := h.cell i l hl j hj
 have hz : (w.setCell ⟨g, i * 256 + j, none⟩ (.int .u8 x)).heap.size = w.heap.size := by simp
 refine ⟨by have := h.1; simpa using this, h.2.1, by rw [hz]; exact h.2.2.1, fun k m hk => ?_, fun q hq => ?_⟩
 ·rw [List.getElem?_set] at hk
  by_cases hik : i = k
  ·subst hik
   rw [if_pos rfl, if_pos hi] at hk
   injection hk with hk
   subst hk
   refine ⟨by simp [hll], fun q u hu => ?_⟩
   have hq : q < 256 := by have := (List.getElem?_eq_some_iff.1 hu).1; simpa [hll] using this
   rw [List.getElem?_map, List.getElem?_set] at hu
   by_cases hjq : j = q
   ·subst hjq
    rw [if_pos rfl, if_pos (by omega)] at hu
    rw [← Option.some.inj hu]
    exact World.cell?_setCell_same _ _ _ hc
   ·rw [if_neg hjq] at hu
    refine (World.cell?_setCell_other _ _ _ _ (show (⟨g, i * 256 + j, none⟩ : Addr) ≠ ⟨g, i * 256 + q, none⟩ from fun e => by injection e with e1 e2; omega)).trans ?_
    exact (h.2.2.2.1 i l hl).2 q u (by rw [List.getElem?_map]; exact hu)
  ·rw [if_neg hik] at hk
   obtain ⟨a1, a2⟩ := h.2.2.2.1 k m hk
   refine ⟨a1, fun q u hu => ?_⟩
   have hq : q < 256 := by have := (List.getElem?_eq_some_iff.1 hu).1; simpa [a1] using this
   refine (World.cell?_setCell_other _ _ _ _ (show (⟨g, i * 256 + j, none⟩ : Addr) ≠ ⟨g, k * 256 + q, none⟩ from fun e => by injection e with e1 e2; omega)).trans ?_
   exact a2 q u hu
 ·rw [List.length_set] at hq
  obtain ⟨q1, q2⟩ := h.2.2.2.2 q hq
  refine ⟨?_, by rw [World.frozen?_setCell]; exact q2⟩
  by_cases he : 0 + q = i * 256 + j
  ·rw [he, World.cell?_setCell_same _ _ _ hc]; rfl
  ·rw [World.cell?_setCell_other _ _ _ _ (show (⟨g, i * 256 + j, none⟩ : Addr) ≠ ⟨g, 0 + q, none⟩ from fun e => by injection e with e1 e2; omega)]
   exact q1
set_option maxHeartbeats 1000000 in
theorem rnumber5_any (B g : Nat) (v : Value) (bs : List (List Int)) (i at_ : Nat) (l : List Int) (w : World) (h : BkC w B g v bs) (hl : bs[i]? = some l) (hr : Rng l) (hat : at_ + 8 ≤ 256) :
  Calls Tryz.prog 77 #[.pointer (some ⟨g, i * 256, none⟩), .int .i64 (at_ : Int)] w fun e w' => w = w' ∧ e = .returned (.int .u64 (beI ((l.drop at_).take 8))) := by
 have hll := (h.2.2.2.1 i l hl).1
 have HC := hid (fun j hj => h.cell i l hl j hj)
 have HR := hid (show Rng (l.drop at_) from fun x hx => hr x (List.mem_of_mem_drop hx))
 have HG := hid (show ∀ j, (l.drop at_)[j]?.getD 0 = l[at_ + j]?.getD 0 from fun j => by rw [List.getElem?_drop])
 have HLL := hid (show 8 ≤ (l.drop at_).length by rw [List.length_drop]; omega)
 clear h hl hr hll
 go_enter Tryz.func77, Tryz.ntmps77
 go_wp2_with fail
 go_loop [5, 6] (fun t iv => ∃ k : Nat, k ≤ 8 ∧ iv = .int .i64 k ∧ t = .int .u64 (beI ((l.drop at_).take k))) (fun _ iv => 8 - (intOf iv).toNat)
 case atStart => exact ⟨0, Nat.zero_le _, rfl, rfl⟩
 case round =>
  obtain ⟨k, hk, rfl, rfl⟩ := hrel
  by_cases hlt : k < 8
  ·have hce := HC.out (at_ + k) (by omega)
   have HST := hid (be_step (l.drop at_) HR.out k hlt (by have := HLL.out; omega))
   have hwr : IntKind.i64.wrap ((at_ : Int) + (k : Int)) = ((at_ + k : Nat) : Int) := by rw [wrap_i64 _ (by omega) (by omega)]; omega
   have hlt2 : at_ + k < 256 := by omega
   go_wp2
   go_round
   case rel => exact ⟨k + 1, by omega, by go_num, by rw [← HG.out k, HST.out]⟩
   case measure => simp [intOf]; omega
  ·obtain rfl : k = 8 := by omega
   go_wp2
   go_ret
   exact ⟨rfl, rfl⟩
set_option maxRecDepth 100000 in
set_option maxHeartbeats 1000000 in
theorem rset5_any (B g : Nat) (v : Value) (bs : List (List Int)) (i at_ k : Nat) (l : List Int) (w : World) (h : BkC w B g v bs) (hl : bs[i]? = some l) (hat : at_ + 8 ≤ 256) (hk : k < 18446744073709551616) :
  Calls Tryz.prog 41 #[.pointer (some ⟨g, i * 256, none⟩), .int .i64 (at_ : Int), .int .u64 (k : Int)] w fun e w' => e = .returned (.tuple #[]) ∧ BkC w' B g v (bs.set i (putL l at_ (be8 k))) ∧ Chg (fun q => q = g) w w' := by
 have hi : i < bs.length := (List.getElem?_eq_some_iff.1 hl).1
 have HLL := hid (h.2.2.2.1 i l hl).1
 have HH := hid h
 have HI := hid hi
 have HL := hid hl
 have HK := hid hk
 have h8 := be8_len k
 clear h hl hi hk
 go_enter Tryz.func41, Tryz.ntmps41
 go_wp2_with fail
 go_loopw [6] (fun s wr => ∃ j : Nat, j ≤ 8 ∧ s = .int .i64 (j : Int) ∧ BkC wr B g v (bs.set i (putL l at_ ((be8 k).take j))) ∧ Chg (fun q => q = g) w wr)
  (fun s _ => 8 - (intOf s).toNat)
 case atStart => exact ⟨0, by omega, rfl, by simpa [putL, List.set_getElem_self, (List.getElem?_eq_some_iff.1 HL.out).2.symm] using HH.out, Chg.refl _ _⟩
 case round =>
  obtain ⟨j, hj, rfl, hown, hbw⟩ := hrel
  by_cases hlt : j < 8
  ·have HB := hid (be8_succ k j hlt)
   have HBW := hid hbw
   have HOW := hid hown
   have H8 := hid h8
   have HTJ := hid (show ((be8 k).take j).length = j by simp [h8]; omega)
   have hpl : (putL l at_ ((be8 k).take j)).length = 256 := by rw [putL_len _ _ _ (by rw [HTJ.out, HLL.out]; omega)]; exact HLL.out
   have hgi : (bs.set i (putL l at_ ((be8 k).take j)))[i]? = some (putL l at_ ((be8 k).take j)) := by rw [List.getElem?_set, if_pos rfl, if_pos HI.out]
   have cs := hown.cell i _ hgi (at_ + j) (by omega)
   have fs := hown.fro i (by rw [List.length_set]; exact HI.out) (at_ + j) (by omega)
   have HGI := hid hgi
   generalize ((putL l at_ ((be8 k).take j))[at_ + j]?.getD 0) = old at cs
   have hwr : IntKind.i64.wrap ((at_ : Int) + (j : Int)) = ((at_ + j : Nat) : Int) := by rw [wrap_i64 _ (by omega) (by omega)]; omega
   have hlt2 : at_ + j < 256 := by omega
   obtain ⟨p, hp⟩ : ∃ p : Nat, p = at_ + j := ⟨_, rfl⟩
   obtain ⟨q8, hq8⟩ : ∃ q : Nat, q = 56 - 8 * j := ⟨_, rfl⟩
   have HQ8 := hid hq8
   have hw8 : IntKind.i64.wrap (8 * (j : Int)) = 8 * (j : Int) := wrap_i64 _ (by omega) (by omega)
   have hw56 : IntKind.i64.wrap (56 - 8 * (j : Int)) = (q8 : Int) := by rw [wrap_i64 _ (by omega) (by omega)]; omega
   have hpl2 : (p : Int) < 256 := by omega
   rw [← hp] at cs fs hwr
   have HP := hid hp
   clear hq8 hp
   clear hbw hown h8 hpl hgi hlt2
   have csd : wr.drew.cell? ⟨g, i * 256 + p, none⟩ = some (.int .u8 old) := cs
   have fsd : wr.drew.frozen? ⟨g, i * 256 + p, none⟩ = false := fs
   go_wp2_with fail
   refine wp_region_held_drew (S := fun _ => True) (by kernel_rfl) (trivial) (fun hHeld => ?_)
   refine tk (i := 0) (oi := ⟨some 11, .move (.tmp 0), 89, "ref.go:26", #[], none⟩) (v := ?_) (Or.inl ⟨by rfl, ?_⟩) ?_
   rotate_left 1
   ·(intro u hSw; go_simp; try with_reducible rfl)
   try simp only [Act.put, sA, sB, sC]
   refine tk (i := 1) (oi := ⟨some 12, .move (.tmp 1), 3, "ref.go:26", #[], none⟩) (v := ?_) (Or.inl ⟨by rfl, ?_⟩) ?_
   rotate_left 1
   ·(intro u hSw; go_simp; try with_reducible rfl)
   try simp only [Act.put, sA, sB, sC]
   refine tk (i := 2) (oi := ⟨some 13, .move (.tmp 6), 3, "ref.go:26", #[], none⟩) (v := ?_) (Or.inl ⟨by rfl, ?_⟩) ?_
   rotate_left 1
   ·(intro u hSw; go_simp; try with_reducible rfl)
   try simp only [Act.put, sA, sB, sC]
   refine tk (i := 3) (oi := ⟨some 14, .binOp BinOp.add 3 (.tmp 12) (.tmp 13) 3, 3, "ref.go:26", #[⟨1, .data⟩, ⟨2, .data⟩], none⟩) (v := .int .i64 (p : Int)) (Or.inl ⟨by rfl, ?_⟩) ?_
   ·intro u hSw
    go_simp; try rw [hwr]
   try simp only [Act.put, sA, sB, sC]
   refine tk (i := 4) (oi := ⟨some 15, .move (.tmp 2), 60, "ref.go:26", #[], none⟩) (v := ?_) (Or.inl ⟨by rfl, ?_⟩) ?_
   rotate_left 1
   ·(intro u hSw; go_simp; try with_reducible rfl)
   try simp only [Act.put, sA, sB, sC]
   refine tk (i := 5) (oi := ⟨some 16, .move (.tmp 6), 3, "ref.go:26", #[], none⟩) (v := ?_) (Or.inl ⟨by rfl, ?_⟩) ?_
   rotate_left 1
   ·(intro u hSw; go_simp; try with_reducible rfl)
   try simp only [Act.put, sA, sB, sC]
   refine tk (i := 6) (oi := ⟨some 17, .binOp BinOp.mul 3 (.const (Value.int IntKind.i64 8)) (.tmp 16) 3, 3, "ref.go:26", #[⟨5, .data⟩], none⟩) (v := .int .i64 (8 * (j : Int))) (Or.inl ⟨by rfl, ?_⟩) ?_
   ·intro u hSw
    go_simp; try rw [hw8]
   try simp only [Act.put, sA, sB, sC]
   refine tk (i := 7) (oi := ⟨some 18, .binOp BinOp.sub 3 (.const (Value.int IntKind.i64 56)) (.tmp 17) 3, 3, "ref.go:26", #[⟨6, .data⟩], none⟩) (v := .int .i64 (q8 : Int)) (Or.inl ⟨by rfl, ?_⟩) ?_
   ·intro u hSw
    go_simp; try rw [hw56]
   try simp only [Act.put, sA, sB, sC]
   refine tk (i := 8) (oi := ⟨some 19, .binOp BinOp.shr 60 (.tmp 15) (.tmp 18) 3, 60, "ref.go:26", #[⟨4, .data⟩, ⟨7, .data⟩], none⟩) (v := ?_) (Or.inl ⟨by rfl, ?_⟩) ?_
   rotate_left 1
   ·(intro u hSw; go_simp; try with_reducible rfl)
   try simp only [Act.put, sA, sB, sC]
   refine tk (i := 9) (oi := ⟨some 20, .convert 60 5 (.tmp 19), 5, "ref.go:26", #[⟨8, .data⟩], none⟩) (v := ?_) (Or.inl ⟨by rfl, ?_⟩) ?_
   rotate_left 1
   ·(intro u hSw; go_simp; try with_reducible rfl)
   try simp only [Act.put, sA, sB, sC]
   refine tk (i := 10) (oi := ⟨some 21, .nilCheck (.tmp 11), 0, "ref.go:26", #[⟨0, .data⟩], none⟩) (v := ?_) (Or.inl ⟨by rfl, ?_⟩) ?_
   rotate_left 1
   ·(intro u hSw; go_simp; try with_reducible rfl)
   try simp only [Act.put, sA, sB, sC]
   refine tk (i := 11) (oi := ⟨some 22, .indexAddr 50 (.tmp 21) (.tmp 14), 0, "ref.go:26", #[⟨10, .data⟩, ⟨3, .data⟩, ⟨0, .phase⟩, ⟨1, .phase⟩, ⟨2, .phase⟩, ⟨3, .phase⟩, ⟨4, .phase⟩, ⟨5, .phase⟩, ⟨6, .phase⟩, ⟨7, .phase⟩, ⟨8, .phase⟩, ⟨9, .phase⟩], none⟩) (v := ?_) (Or.inl ⟨by rfl, ?_⟩) ?_
   rotate_left 1
   ·(intro u hSw; go_simp; try with_reducible rfl)
   try simp only [Act.put, sA, sB, sC]
   refine wpAnyH_ready (rs := [12]) (by kernel_rfl) (by simp) ?_
   refine (AllReadyH.cons (o := ⟨none, .store 5 (.tmp 22) (.tmp 20), 0, "ref.go:26", #[⟨11, .data⟩, ⟨9, .data⟩, ⟨0, .phase⟩, ⟨1, .phase⟩, ⟨2, .phase⟩, ⟨3, .phase⟩, ⟨4, .phase⟩, ⟨5, .phase⟩, ⟨6, .phase⟩, ⟨7, .phase⟩, ⟨8, .phase⟩, ⟨9, .phase⟩], none⟩) rfl (fun K hK => ?_) AllReadyH.nil)
   go_simp
   refine hK.out _ _ trivial (fun hHeld => ?_)
   clear hK K
   try simp only [Act.put]
   refine wpAnyH_done (by kernel_rfl) ?_ _
   go_wp2_with fail
   go_roundw
   case rel =>
    refine ⟨j + 1, by omega, by go_num, ?_, ?_⟩
    ·have h1 := (HOW.out.of (w' := wr.drew) rfl HOW.out.2.2.1).put1 i _ HGI.out p (by omega) (IntKind.u8.wrap ((k : Int) / 2 ^ min q8 64))
     rw [List.set_set] at h1
     have h2 := putL_set l ((be8 k).take j) at_ ((k : Int) / 2 ^ (56 - 8 * j) % 256) (by rw [HTJ.out, HLL.out]; omega)
     rw [HTJ.out, ← HP.out] at h2
     rw [HB.out, ← h2]
     have h3 : IntKind.u8.wrap ((k : Int) / 2 ^ min q8 64) = (k : Int) / 2 ^ (56 - 8 * j) % 256 := by
      rw [show min q8 64 = 56 - 8 * j by have := HQ8.out; omega, IntKind.wrap_u8]
     rw [h3] at h1
     rw [show min q8 64 = 56 - 8 * j by have := HQ8.out; omega]
     exact h1.of rfl h1.2.2.1
    ·exact (Chg.trans (F := fun q => q = g) HBW.out (Chg.fresh (F := fun _ => False) (Below.refl _ wr).drew) (fun _ h => h.elim)).setCell _ _ (.inl rfl)
   case measure => simp [intOf]; omega
  ·obtain rfl : j = 8 := by omega
   have h9 : (be8 k).take 8 = be8 k := List.take_of_length_le (by omega)
   rw [h9] at hown
   have HX := hid (And.intro hown hbw)
   clear hown hbw h9
   go_wp2_with fail
   go_end0
   exact ⟨rfl, HX.out.1, HX.out.2⟩
end Go.Proofs.YtdkjkibdncbibaaGreat
/- the reference's pager: in, Get, Root, Put, SetRoot -/
namespace Go.Proofs.YtdkjkibdncbibaaGreat
open Go.RowKit
open Go.Lib (hid)
/-- the reference's pager: its block, and its pages now -/
structure RPg (w : World) (B P gn : Nat) (nv wv : Value) (ar us : Int) (now : List (List Int)) : Prop where
 box : w.heap[P]? = some (.cells #[nv, wv, .int .i64 ar, .int .i64 us] 44 (0, 0))
 nw : BkC w B gn nv now
 np : P ≠ gn
 bp : B ≤ P
 rg : ∀ l ∈ now, Rng l
 ne : 0 < now.length
section
variable {w w' : World} {B P gn : Nat} {nv wv : Value} {ar us : Int} {now : List (List Int)}
theorem RPg.lt (h : RPg w B P gn nv wv ar us now) : P < w.heap.size ∧ gn < w.heap.size := ⟨(Array.getElem?_eq_some_iff.1 h.box).1, h.nw.2.2.1⟩
theorem RPg.chg (h : RPg w B P gn nv wv ar us now) {F : Nat → Prop} (hc : Chg F w w') (h1 : ¬ F P) (h2 : ¬ F gn) : RPg w' B P gn nv wv ar us now :=
 { h with box := (hc.block P h.lt.1 h1).trans h.box, nw := h.nw.of (hc.block gn h.lt.2 h2) (Nat.lt_of_lt_of_le h.lt.2 hc.size) }
theorem RPg.fresh (h : RPg w B P gn nv wv ar us now) (hb : Below w.heap.size w w') : RPg w' B P gn nv wv ar us now := h.chg (Chg.fresh (F := fun _ => False) hb) (fun h => h) (fun h => h)
theorem RPg.num (h : RPg w B P gn nv wv ar us now) (i at_ : Nat) (l : List Int) (hl : now[i]? = some l) (hat : at_ + 8 ≤ 256) (o : Nat) (ho : o = i * 256) :
  Calls Tryz.prog 77 #[.pointer (some ⟨gn, o, none⟩), .int .i64 (at_ : Int)] w fun e w' => w = w' ∧ e = .returned (.int .u64 (beI ((l.drop at_).take 8))) := by
 subst ho
 exact rnumber5_any B gn nv now i at_ l w h.nw hl (h.rg l (List.mem_of_getElem? hl)) hat
end
theorem wrap_u64n (n : Int) (h1 : 0 ≤ n) (h2 : n ≤ 9223372036854775807) : IntKind.u64.wrap n = n := by
 simp [IntKind.wrap, IntKind.bits, IntKind.signed]
 omega
/-- the first page -/
def z0 (now : List (List Int)) : List Int := now[0]?.getD []
def rin (now : List (List Int)) (n : Int) : Bool := decide (1 ≤ n) && decide (n < (nAt (z0 now) 0 : Nat))
theorem z0_get {now : List (List Int)} (h : 0 < now.length) : now[0]? = some (z0 now) := by
 unfold z0
 rw [List.getElem?_eq_getElem h]
 rfl
set_option maxRecDepth 100000 in
set_option maxHeartbeats 1000000 in
theorem rin_any (B P gn : Nat) (nv wv : Value) (ar us : Int) (now : List (List Int)) (n : Int) (w : World) (h : RPg w B P gn nv wv ar us now) (hn : n ≤ 9223372036854775807) :
  Calls Tryz.prog 76 #[.pointer (some ⟨P, 0, none⟩), .int .i64 n] w fun e w' => w = w' ∧ e = .returned (.bool (rin now n)) := by
 obtain ⟨cap, rfl⟩ := h.nw.1
 have c0 := (cell_of_row w P 0 _ _ _ h.box).trans (show (#[Value.slice (some ⟨gn, 0, none⟩) now.length cap, wv, .int .i64 ar, .int .i64 us] : Array Value)[0]? = some (.slice (some ⟨gn, 0, none⟩) now.length cap) from rfl)
 have hnum := h.num 0 0 (z0 now) (z0_get h.ne) (by decide) 0 rfl
 have HNU := hid hnum
 have hne := h.ne
 have hlen : 0 < (now.length : Int) := by omega
 have hcap : (now.length : Int) ≤ (now.length : Int) := Int.le_refl _
 by_cases h1 : 1 ≤ n
 ·have hx : IntKind.u64.wrap n = n := wrap_u64n n (by omega) hn
  have HR := hid (show rin now n = decide (n < (beI (((z0 now).drop 0).take 8) : Nat)) by
   unfold rin nAt
   rw [decide_eq_true h1, Bool.true_and])
  clear h hnum
  have h1g : n ≥ 1 := h1
  go_enter Tryz.func76, Tryz.ntmps76
  go_wp2_with fail
  refine HNU.out.mono ?_
  rintro e w' ⟨rfl, rfl⟩
  generalize beI (((z0 now).drop 0).take 8) = u at *
  go_wp2_with fail
  go_ret
  exact ⟨rfl, by rw [HR.out]; rfl⟩
 ·have HR := hid (show rin now n = false by unfold rin; rw [decide_eq_false h1]; rfl)
  clear h hnum
  have h1g : ¬ n ≥ 1 := h1
  go_enter Tryz.func76, Tryz.ntmps76
  go_wp2_with fail
  go_ret
  exact ⟨rfl, by rw [HR.out]; rfl⟩
def rgetV (now : List (List Int)) (n : Int) : Value := if rin now n = true then .tuple #[.agg (ArrU8 (now[n.toNat]?.getD [])), .int .i64 0] else .tuple #[.agg (ArrU8 (zeros 256)), .int .i64 2]
def rrootV (now : List (List Int)) (n : Int) : Int := if 0 ≤ n ∧ n < 16 then (nAt (z0 now) (2 + n.toNat) : Nat) else 0
theorem rin_lt {now : List (List Int)} {n : Int} (h : rin now n = true) (hu : nAt (z0 now) 0 ≤ now.length) : 1 ≤ n ∧ n < now.length := by
 unfold rin at h
 simp at h
 omega
theorem bk_row {w : World} {B g : Nat} {v : Value} {bs : List (List Int)} (h : BkC w B g v bs) (i : Nat) (l : List Int) (hl : bs[i]? = some l) : w.rangeAt g (i * 256) (l.map (Value.int .u8)) ∧ w.there g (i * 256) 256 :=
  ⟨(h.2.2.2.1 i l hl).2, fun j hj => by
    have h1 : i < bs.length := (List.getElem?_eq_some_iff.1 hl).1
    have h2 : i * 256 + 256 ≤ bs.length * 256 := by omega
    have := h.2.2.2.2 (i * 256 + j) (by omega)
    rwa [Nat.zero_add] at this⟩
set_option maxRecDepth 100000 in
set_option maxHeartbeats 1000000 in
theorem rget_any (B P gn : Nat) (nv wv : Value) (ar us : Int) (now : List (List Int)) (n : Int) (w : World) (h : RPg w B P gn nv wv ar us now) (hn : n ≤ 9223372036854775807) (hu : nAt (z0 now) 0 ≤ now.length) :
  Calls Tryz.prog 43 #[.pointer (some ⟨P, 0, none⟩), .int .i64 n] w fun e w' => e = .returned (rgetV now n) ∧ Below w.heap.size w w' := by
 have hz := zero35
 have hbl : ∀ u : World, (Instr.build 50 #[]).run Tryz.prog u = .ok (.agg (ArrU8 (zeros 256))) u := fun u => by kernel_rfl
 have HI35 := hid (show (Tryz.prog.info? 50).map (·.size) = some 256 by kernel_rfl)
 have SZ := hid (show (ArrU8 (zeros 256)).size = 256 by rw [ArrU8_size, zeros_len])
 have hb1 : Below w.heap.size w (w.alloc (.cells (ArrU8 (zeros 256)) 50)) := (Below.refl _ _).alloc (Nat.le_refl _) _
 have h1 := h.fresh hb1
 have HX := hid (heap_alloc_new w (.cells (ArrU8 (zeros 256)) 50))
 have HIN := hid (rin_any B P gn nv wv ar us now n _ h1 hn)
 have H1 := hid h1
 have HB1 := hid hb1
 obtain ⟨cap, rfl⟩ := h.nw.1
 have c0 := (cell_of_row _ P 0 _ _ _ h1.box).trans (show (#[Value.slice (some ⟨gn, 0, none⟩) now.length cap, wv, .int .i64 ar, .int .i64 us] : Array Value)[0]? = some (.slice (some ⟨gn, 0, none⟩) now.length cap) from rfl)
 clear h h1 hb1
 by_cases hr : rin now n = true
 ·obtain ⟨n1, n2⟩ := rin_lt hr hu
  obtain ⟨m, rfl⟩ : ∃ m : Nat, n = (m : Int) := ⟨n.toNat, by omega⟩
  have hm : m < now.length := by omega
  obtain ⟨l, hl⟩ : ∃ l, now[m]? = some l := ⟨_, List.getElem?_eq_getElem hm⟩
  have HRW := hid (bk_row H1.out.nw m l hl).1
  have HLL := hid (H1.out.nw.2.2.2.1 m l hl).1
  have SL := hid (show (ArrU8 l).size = 256 by rw [ArrU8_size, (H1.out.nw.2.2.2.1 m l hl).1])
  have HR := hid (show rgetV now (m : Int) = .tuple #[.agg (ArrU8 l), .int .i64 0] by
   unfold rgetV
   rw [if_pos hr, show ((m : Int)).toNat = m from rfl, hl]
   rfl)
  have HIM := hid (show (Tryz.prog.info? 50).map (·.size) = some (l.map (Value.int .u8)).length by rw [List.length_map, HLL.out]; exact HI35.out)
  have hml : (m : Int) < (now.length : Int) := n2
  clear hl n1 n2
  go_enter Tryz.func43, Tryz.ntmps43
  go_wp2_with fail
  refine HIN.out.mono ?_
  rintro e w1 ⟨rfl, rfl⟩
  rw [hr]
  clear hr
  go_wp2_with (first | (refine wpList_load_mid rfl 50 (Operand.tmp 16) rfl gn (m * 256) rfl (l.map (Value.int .u8)) _ HRW.out Tryz.underlying50 rfl HIM.out ?_) | (refine wpList_store_row rfl 50 (Operand.tmp 4) (Operand.tmp 17) rfl w.heap.size (ArrU8 l) rfl rfl 50 (ArrU8 (zeros 256)) HX.out (by rw [HI35.out, SL.out]) (by rw [SL.out, SZ.out]) (ArrU8_one _) ?_))
  refine bodyPost_ret (results_cell_tmp (p := 4) (q := 5) (ty := 50) rfl _ _ w.heap.size 50 (ArrU8 l) (0, 0) _ rfl (setRow_heap _ _ _ _ _ _ HX.out) Tryz.underlying50 rfl (by rw [HI35.out, SL.out])) rfl ⟨by rw [HR.out]; rfl, below_setRow HB1.out (by omega) _⟩
 ·have hrf : rin now n = false := by simpa using hr
  have HR := hid (show rgetV now n = .tuple #[.agg (ArrU8 (zeros 256)), .int .i64 2] by unfold rgetV; rw [if_neg hr])
  clear hr
  go_enter Tryz.func43, Tryz.ntmps43
  go_wp2_with fail
  refine HIN.out.mono ?_
  rintro e w1 ⟨rfl, rfl⟩
  rw [hrf]
  clear hrf
  go_wp2_with (refine wpList_store_row rfl 50 (Operand.tmp 4) (Operand.tmp 10) rfl w.heap.size (ArrU8 (zeros 256)) rfl rfl 50 (ArrU8 (zeros 256)) HX.out (by rw [HI35.out, SZ.out]) rfl (ArrU8_one _) ?_)
  refine bodyPost_ret (results_cell_tmp (p := 4) (q := 5) (ty := 50) rfl _ _ w.heap.size 50 (ArrU8 (zeros 256)) (0, 0) _ rfl (setRow_heap _ _ _ _ _ _ HX.out) Tryz.underlying50 rfl (by rw [HI35.out, SZ.out])) rfl ⟨by rw [HR.out]; rfl, below_setRow HB1.out (by omega) _⟩
set_option maxRecDepth 100000 in
set_option maxHeartbeats 1000000 in
theorem rroot_any (B P gn : Nat) (nv wv : Value) (ar us : Int) (now : List (List Int)) (n : Int) (w : World) (h : RPg w B P gn nv wv ar us now) :
  Calls Tryz.prog 51 #[.pointer (some ⟨P, 0, none⟩), .int .i64 n] w fun e w' => w = w' ∧ e = .returned (.int .u64 (rrootV now n)) := by
 obtain ⟨cap, rfl⟩ := h.nw.1
 have c0 := (cell_of_row w P 0 _ _ _ h.box).trans (show (#[Value.slice (some ⟨gn, 0, none⟩) now.length cap, wv, .int .i64 ar, .int .i64 us] : Array Value)[0]? = some (.slice (some ⟨gn, 0, none⟩) now.length cap) from rfl)
 have hlen : 0 < (now.length : Int) := by have := h.ne; omega
 by_cases h0 : n < 0
 ·have HR := hid (show rrootV now n = 0 by unfold rrootV; rw [if_neg (by omega)])
  clear h
  go_enter Tryz.func51, Tryz.ntmps51
  go_wp2_with fail
  go_ret
  exact ⟨rfl, by rw [HR.out]; rfl⟩
 ·by_cases h15 : n > 15
  ·have HR := hid (show rrootV now n = 0 by unfold rrootV; rw [if_neg (by omega)])
   clear h
   go_enter Tryz.func51, Tryz.ntmps51
   go_wp2_with fail
   go_ret
   exact ⟨rfl, by rw [HR.out]; rfl⟩
  ·obtain ⟨m, rfl⟩ : ∃ m : Nat, n = (m : Int) := ⟨n.toNat, by omega⟩
   have HR := hid (show rrootV now (m : Int) = (beI (((z0 now).drop (16 + 8 * m)).take 8) : Nat) by
    unfold rrootV
    rw [if_pos ⟨by omega, by omega⟩, show ((m : Int)).toNat = m from rfl]
    unfold nAt
    rw [show 8 * (2 + m) = 16 + 8 * m by omega])
   have HNU := hid (h.num 0 (16 + 8 * m) (z0 now) (z0_get h.ne) (by omega) 0 rfl)
   have hw8 : IntKind.i64.wrap (8 * (m : Int)) = 8 * (m : Int) := wrap_i64 _ (by omega) (by omega)
   have hw16 : IntKind.i64.wrap (16 + 8 * (m : Int)) = ((16 + 8 * m : Nat) : Int) := by rw [wrap_i64 _ (by omega) (by omega)]; omega
   clear h
   go_enter Tryz.func51, Tryz.ntmps51
   go_wp2_with fail
   refine HNU.out.mono ?_
   rintro e w' ⟨rfl, rfl⟩
   go_wp2_with fail
   go_ret
   exact ⟨rfl, by rw [HR.out]; rfl⟩
end Go.Proofs.YtdkjkibdncbibaaGreat
