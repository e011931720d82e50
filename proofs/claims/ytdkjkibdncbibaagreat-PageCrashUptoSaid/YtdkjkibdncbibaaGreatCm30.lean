/-
 PageDoes, second form: for any number of blocks, size, hold, junk and script, where the arguments are of bulk at most 1048576, the law returns true and its arguments read as before. Conditions: those of the given statement alone.
-/
import Derived.Test.YtdkjkibdncbibaaGreatCm03
import Derived.Test.YtdkjkibdncbibaaGreatCm27
import Derived.Test.YtdkjkibdncbibaaGreatCm29
namespace Go.Proofs.YtdkjkibdncbibaaGreat
open Go.ChangeShapes Go.WideShapes Go.ChangeAt Go.RowKit Go.Deep
open Go.Lib (hid)
section
variable {H : Type} {enc : TypeId × Value → H} {W : World}
set_option maxRecDepth 100000 in
theorem steps5_of_trod {v : Value} {d : DataW H} {p : List MemPlace} {b : Nat}
    (hok : Value.okWide Tryz.prog W .any b 22 v) (h : DataW.Trod enc Tryz.prog W 0 (fun _ => true) true 22 v d p) (hB : Rows.uptoBulk d ≤ 1048576) :
    ∃ r : List S5, Steps5 W v r ∧ r.length ≤ 1048576 := by
  obtain ⟨a0, len, cap, rfl⟩ := okWide_slice Tryz.underlying22 hok
  obtain ⟨fuel, hf⟩ := h
  rcases open_slice_fields Tryz.underlying22 Tryz.underlying36 (by kernel_rfl) (by kernel_rfl) hf with ⟨hcs, hx⟩ | ⟨a, len', cap', m, D, Pl, hcs, _, hl, _, hm, hx, hi⟩
  · simp [Value.cells] at hcs
    obtain ⟨rfl, rfl, rfl⟩ := hcs
    exact ⟨[], ⟨none, 0, rfl, fun h => by simp at h⟩, Nat.zero_le _⟩
  · simp [Value.cells] at hcs
    obtain ⟨rfl, rfl, rfl⟩ := hcs
    simp only [if_true] at hm
    simp only [Prod.mk.injEq] at hx
    obtain ⟨rfl, _⟩ := hx
    have hlen : len ≤ 1048576 := by
      have := bulk_len (H := H) ((List.range len).map D)
      simp only [Rows.uptoBulk, List.length_map, List.length_range] at this hB
      omega
    have hx : ∀ i, i < len → ∃ x : S5, W.cell? (a.add (i * 3 + 0)) = some (.int .i64 x.k) ∧ W.cell? (a.add (i * 3 + 1)) = some (.int .i64 x.n) ∧ W.cell? (a.add (i * 3 + 2)) = some (.int .u8 x.b) ∧ x.OK := by
      intro i him
      obtain ⟨ys, n, hD, _, hlen, hfd⟩ := hi i (by omega)
      obtain ⟨v0, y0, c0, e0, t0⟩ := hfd 0 _ rfl
      obtain ⟨v1, y1, c1, e1, t1⟩ := hfd 1 _ rfl
      obtain ⟨v2, y2, c2, e2, t2⟩ := hfd 2 _ rfl
      obtain ⟨n0, g0, rfl, w0⟩ := DataW.trod_int Tryz.underlying3 t0
      obtain ⟨n1, g1, rfl, w1⟩ := DataW.trod_int Tryz.underlying3 t1
      obtain ⟨n2, g2, rfl, w2⟩ := DataW.trod_int Tryz.underlying5 t2
      simp only [List.cons.injEq, and_true] at g0 g1 g2
      subst g0 g1 g2
      exact ⟨⟨n0, n1, n2⟩, c0, c1, c2, ⟨i64_of_wf w0, i64_of_wf w1, u8_of_wf w2⟩⟩
    obtain ⟨f, hf⟩ : ∃ f : Nat → S5, ∀ i, i < len → W.cell? (a.add (i * 3 + 0)) = some (.int .i64 (f i).k) ∧ W.cell? (a.add (i * 3 + 1)) = some (.int .i64 (f i).n) ∧ W.cell? (a.add (i * 3 + 2)) = some (.int .u8 (f i).b) ∧ (f i).OK :=
      ⟨fun i => if h : i < len then Classical.choose (hx i h) else ⟨0, 0, 0⟩, fun i h => by simp only [dif_pos h]; exact Classical.choose_spec (hx i h)⟩
    refine ⟨(List.range len).map f, ⟨some a, cap, by simp, fun hl0 => ?_⟩, by simpa using hlen⟩
    simp only [List.length_map, List.length_range] at hl0
    have h0 := (hf 0 (by omega)).1
    have hsp := World.cell?_spot h0
    have hlt := World.block_lt_of_cell? _ _ h0
    obtain ⟨ab, ao, asp⟩ := a
    have hsp' : asp = none := by simpa [Addr.add] using hsp
    subst hsp'
    refine ⟨ab, ao, rfl, by simpa [Addr.add] using hlt, fun i x hx => ?_⟩
    have hil : i < len := by have := (List.getElem?_eq_some_iff.1 hx).1; simpa using this
    rw [List.getElem?_map, List.getElem?_range hil] at hx
    simp only [Option.map_some, Option.some.injEq] at hx
    subst hx
    obtain ⟨h1, h2, h3, h4⟩ := hf i hil
    rw [add_none] at h1 h2 h3
    exact ⟨h1, h2, h3, h4⟩
end
namespace plainPageDoes
end plainPageDoes
end Go.Proofs.YtdkjkibdncbibaaGreat
/- both pagers side by side, on any disk; the document's count of used bytes is left open -/
namespace Go.Proofs.YtdkjkibdncbibaaGreat
open Go.RowKit
open Go.Lib (hid)
/-- what turns -/
structure TU where
 v : PV
 rs : List (List Int)
 W : Int → List Int
 gn : Nat
 gw : Nat
 nv : Value
 wv : Value
 now : List (List Int)
 was : List (List Int)
 us : Int
/-- the blocks of both -/
def UF (k : PK) (P : Nat) (t : TU) (g : Nat) : Prop := PF k t.v g ∨ g = P ∨ g = t.gn ∨ g = t.gw
def AptU (k : PK) (P : Nat) (t : TU) : Prop := ∀ g, PF k t.v g → g ≠ P ∧ g ≠ t.gn ∧ g ≠ t.gw
/-- both pagers, on a disk without faults -/
structure TwoU (k : PK) (Bx P : Nat) (t : TU) (w : World) : Prop where
 pg : PgS k t.v w
 pl : PL k t.v t.rs t.W
 pj : PJ k t.v
 pm : PM t.v t.W
 w0 : ∀ n, (t.W n).length = 256 ∧ Rng (t.W n)
 ur : 0 ≤ t.us ∧ t.us ≤ (k.sz - 2) * 256
 rf : RPw w Bx P t.gn t.gw t.nv t.wv ((k.sz - 2) * 256) t.us t.now t.was
 ap : AptU k P t
 rn : Rel (nP k) (NL t.v t.W) t.now
 rw : Rel (nP k) t.W t.was
def UE (k : PK) (Bx P : Nat) (t : TU) (w : World) (t' : TU) (w' : World) : Prop := TwoU k Bx P t' w' ∧ Chg (UF k P t) w w' ∧ (∀ g, UF k P t' g → UF k P t g ∨ w.heap.size ≤ g) ∧ t'.v.a ≤ t.v.a + 2 ∧ t'.v.b ≤ t.v.b + 1
/-- what no step but a commit turns -/
def Keep (t t' : TU) : Prop := t'.v.s = t.v.s ∧ t'.was = t.was ∧ t'.W = t.W ∧ t'.rs = t.rs ∧ t'.v.a = t.v.a ∧ t'.v.b = t.v.b
section
variable {k : PK} {Bx P : Nat} {t t' : TU} {w w' u u' : World}
theorem TwoU.lt (h : TwoU k Bx P t w) : ∀ g, UF k P t g → g < w.heap.size := by
 rintro g (hg | rfl | rfl | rfl)
 ·exact (h.pg.lt g hg).2
 ·exact h.rf.pg.lt.1
 ·exact h.rf.pg.lt.2
 ·exact h.rf.ws.2.2.1
/-- the program's step leaves the document's pager -/
theorem TwoU.prog (h : TwoU k Bx P t w) {v' : PV} (hp : PE k t.v w v' w') : RPw w' Bx P t.gn t.gw t.nv t.wv ((k.sz - 2) * 256) t.us t.now t.was ∧ (∀ g, PF k v' g → g ≠ P ∧ g ≠ t.gn ∧ g ≠ t.gw) := by
 have h1 := h.rf.pg.lt.1
 have h2 := h.rf.pg.lt.2
 have h3 := h.rf.ws.2.2.1
 refine ⟨h.rf.chg hp.2.1 (fun e => (h.ap _ e).1 rfl) (fun e => (h.ap _ e).2.1 rfl) (fun e => (h.ap _ e).2.2 rfl), fun g hg => ?_⟩
 rcases hp.2.2 g hg with h4 | h4
 ·exact h.ap g h4
 ·exact ⟨by omega, by omega, by omega⟩
/-- behind it, and whatever new came, the document's step leaves the program's pager: both together -/
theorem TwoU.both (h : TwoU k Bx P t w) {v' : PV} (hp : PE k t.v w v' w') (hb : Below w'.heap.size w' u) {gn' gw' : Nat} {nv' wv' : Value} {us' : Int} {now' was' rs' : List (List Int)} {W' : Int → List Int}
  (hc : Chg (fun q => q = P ∨ q = t.gn) u u') (hr : RPw u' Bx P gn' gw' nv' wv' ((k.sz - 2) * 256) us' now' was') (hg1 : gn' = t.gn ∨ w'.heap.size ≤ gn') (hg2 : gw' = t.gw ∨ w'.heap.size ≤ gw') (hus : 0 ≤ us' ∧ us' ≤ (k.sz - 2) * 256)
  (hl : PL k v' rs' W') (hj : PJ k v') (hm : PM v' W') (h0 : ∀ n, (W' n).length = 256 ∧ Rng (W' n)) (hn : Rel (nP k) (NL v' W') now') (hw : Rel (nP k) W' was') (ha : v'.a ≤ t.v.a + 2) (hbb : v'.b ≤ t.v.b + 1) :
  UE k Bx P t w ⟨v', rs', W', gn', gw', nv', wv', now', was', us'⟩ u' := by
 obtain ⟨h1, h2⟩ := h.prog hp
 have hs : w.heap.size ≤ w'.heap.size := hp.2.1.size
 have hpu := hp.1.fresh hb
 have hlt := hp.1.lt
 have hap : ∀ g, PF k v' g → g ≠ P ∧ g ≠ gn' ∧ g ≠ gw' := fun g hg => by
  obtain ⟨a1, a2, a3⟩ := h2 g hg
  have a4 := (hlt g hg).2
  refine ⟨a1, ?_, ?_⟩
  ·rcases hg1 with e | e
   ·rw [e]; exact a2
   ·omega
  ·rcases hg2 with e | e
   ·rw [e]; exact a3
   ·omega
 have hpg : PgS k v' u' := hpu.chg hc (fun g hg e => by rcases e with e | e; exact (h2 g hg).1 e; exact (h2 g hg).2.1 e)
 refine ⟨⟨hpg, hl, hj, hm, h0, hus, hr, hap, hn, hw⟩, ?_, ?_, ha, hbb⟩
 ·refine ((hp.2.1.mono (fun i hi => .inl hi)).trans (Chg.fresh (F := fun q => q = P ∨ q = t.gn) hb) (fun i hi => .inl (by rcases hi with e | e; exact .inr (.inl e); exact .inr (.inr (.inl e))))).trans hc (fun i hi => .inl (by rcases hi with e | e; exact .inr (.inl e); exact .inr (.inr (.inl e))))
 ·rintro g (hg | rfl | hg | hg)
  ·rcases hp.2.2 g hg with e | e
   ·exact .inl (.inl e)
   ·exact .inr e
  ·exact .inl (.inr (.inl rfl))
  ·rcases hg1 with e | e
   ·exact .inl (.inr (.inr (.inl (by rw [← e]; exact hg))))
   ·exact .inr (by show w.heap.size ≤ g; have : g = gn' := hg; omega)
  ·rcases hg2 with e | e
   ·exact .inl (.inr (.inr (.inr (by rw [← e]; exact hg))))
   ·exact .inr (by show w.heap.size ≤ g; have : g = gw' := hg; omega)
end
end Go.Proofs.YtdkjkibdncbibaaGreat
/- both pagers' calls -/
namespace Go.Proofs.YtdkjkibdncbibaaGreat
open Go.RowKit
open Go.Lib (hid)
section
variable {k : PK} {Bx P : Nat} {t : TU} {w : World}
theorem TwoU.used (h : TwoU k Bx P t w) : nAt (z0 t.now) 0 ≤ t.now.length := by
 have h1 := h.pj.u1.2
 have h2 := h.pj.nP.1
 rw [rel_used h.pj h.rn 0 (by decide), h.rn.1]
 omega
theorem TwoU.len (h : TwoU k Bx P t w) : t.now.length ≤ 4096 := by
  have := h.pj.nP.2.2
  rw [h.rn.1]
  exact this
theorem u_put (h : TwoU k Bx P t w) (n : Int) (b : List Int) (hn : n ≤ 9223372036854775807) (hb : b.length = 256) (hbr : Rng b) :
  Calls Tryz.prog 23 #[.pointer (some ⟨k.P, 0, none⟩), .int .i64 n, .agg (ArrU8 b)] w fun e w1 => ∃ E : Int, e = .returned (.int .i64 E) ∧ Chg (UF k P t) w w1 ∧ ∀ u, Below w1.heap.size w1 u →
   Calls Tryz.prog 42 #[.pointer (some ⟨P, 0, none⟩), .int .i64 n, .agg (ArrU8 b)] u fun e2 u2 => e2 = .returned (.int .i64 E) ∧ ∃ t', UE k Bx P t w t' u2 ∧ Keep t t' := by
 refine (put_any k t.v n b w h.pg h.pj.pin (usedN_le h.pj) hn hb).mono ?_
 rintro e w1 ⟨rfl, ov', hp⟩
 refine ⟨_, rfl, hp.2.1.mono (fun i hi => .inl hi), fun u hu => ?_⟩
 have hru := (h.prog hp).1.fresh hu
 obtain ⟨q1, q2, q3, q4, q5⟩ := rel_put h.pl h.pj h.pm h.rn n b hb hbr ov'
 refine (rput_any _ _ _ _ _ _ _ _ n b u hru.pg hn h.used hb hbr).mono ?_
 rintro e2 u2 ⟨rfl, hg, hc⟩
 have hlen : (rputN t.now n b).length = t.now.length := q5.1.trans h.rn.1.symm
 exact ⟨by rw [q1], _, h.both hp hu (hc.mono (fun i hi => .inr hi)) (hru.step hg hlen hc) (.inl rfl) (.inl rfl) h.ur q2 q3 q4 h.w0 q5 h.rw (Nat.le_add_right _ _) (Nat.le_add_right _ _), rfl, rfl, rfl, rfl, rfl, rfl⟩
theorem u_alloc (h : TwoU k Bx P t w) :
  Calls Tryz.prog 18 #[.pointer (some ⟨k.P, 0, none⟩)] w fun e w1 => ∃ A E : Int, e = .returned (.tuple #[.int .i64 A, .int .i64 E]) ∧ Chg (UF k P t) w w1 ∧ ∀ u, Below w1.heap.size w1 u →
   Calls Tryz.prog 44 #[.pointer (some ⟨P, 0, none⟩)] u fun e2 u2 => e2 = .returned (.tuple #[.int .i64 A, .int .i64 E]) ∧ ∃ t', UE k Bx P t w t' u2 ∧ Keep t t' := by
 refine (alloc_any k t.v w h.pg h.pj).mono ?_
 rintro e w1 ⟨rfl, ov', hp⟩
 refine ⟨_, _, rfl, hp.2.1.mono (fun i hi => .inl hi), fun u hu => ?_⟩
 have hru := (h.prog hp).1.fresh hu
 obtain ⟨q1, q2, q3⟩ := rel_alloc h.pl h.pj h.pm h.rn
 obtain ⟨s1, s2, s3, s4, s5, s6, s7⟩ := alU_s (k := k) (v := t.v)
 refine (ralloc_any _ _ _ _ _ _ _ _ u hru.pg h.used h.len).mono ?_
 rintro e2 u2 ⟨rfl, hg, hc⟩
 have hlen : (ralN t.now).length = t.now.length := q3.1.trans h.rn.1.symm
 refine ⟨by rw [q1], _, h.both hp hu (hc.mono (fun i hi => .inr hi)) (hru.step hg hlen hc) (.inl rfl) (.inl rfl) h.ur (h.pl.as s1 s2 s3 s4 s5 s6 s7) ((alU_j h.pj).ov ov') (q2.as rfl rfl rfl) h.w0 q3 h.rw ?_ ?_, s1, rfl, rfl, rfl, s2, s3⟩
 ·show (alU k t.v).1.a ≤ _
  rw [s2]
  exact Nat.le_add_right _ _
 ·show (alU k t.v).1.b ≤ _
  rw [s3]
  exact Nat.le_add_right _ _
theorem frU_ju (h : PJ k t.v) (n : Int) : PJ k (frU k t.v n) := by
  unfold frU
  split
  · rename_i hi
    have hr := inU_rng hi (usedN_le h)
    refine (h.st n (frB t.v) hr (frB_len t.v) (frB_rng t.v)).head n.toNat ?_
    have := h.z3; have := h.z1; omega
  · exact h
theorem u_free (h : TwoU k Bx P t w) (n : Int) (hn : n ≤ 9223372036854775807) :
  Calls Tryz.prog 27 #[.pointer (some ⟨k.P, 0, none⟩), .int .i64 n] w fun e w1 => ∃ E : Int, e = .returned (.int .i64 E) ∧ Chg (UF k P t) w w1 ∧ ∀ u, Below w1.heap.size w1 u →
   Calls Tryz.prog 45 #[.pointer (some ⟨P, 0, none⟩), .int .i64 n] u fun e2 u2 => e2 = .returned (.int .i64 E) ∧ ∃ t', UE k Bx P t w t' u2 ∧ Keep t t' := by
 refine (free_page k t.v n w h.pg h.pj hn).mono ?_
 rintro e w1 ⟨rfl, ov', hp⟩
 refine ⟨_, rfl, hp.2.1.mono (fun i hi => .inl hi), fun u hu => ?_⟩
 have hru := (h.prog hp).1.fresh hu
 have q3 := rel_free h.pl h.pj h.pm h.rn n
 have q2 : PM (frU k t.v n) t.W := by
  by_cases hi : inU t.v n = true
  ·exact (fr_yes h.pl h.pj h.pm hi).1
  ·rw [fr_no hi]; exact h.pm
 obtain ⟨s1, s2, s3, s4, s5, s6, s7⟩ := frU_s (k := k) (v := t.v) n
 refine (rfree_any _ _ _ _ _ _ _ _ n u hru.pg hn h.used h.len).mono ?_
 rintro e2 u2 ⟨rfl, hg, hc⟩
 have hlen : (rfrN t.now n).length = t.now.length := q3.1.trans h.rn.1.symm
 refine ⟨by unfold rputE; rw [rel_in h.pj h.rn], _, h.both hp hu (hc.mono (fun i hi => .inr hi)) (hru.step hg hlen hc) (.inl rfl) (.inl rfl) h.ur (h.pl.as s1 s2 s3 s4 s5 s6 s7) ((frU_ju h.pj n).ov ov') (q2.as rfl rfl rfl) h.w0 q3 h.rw ?_ ?_, s1, rfl, rfl, rfl, s2, s3⟩
 ·show (frU k t.v n).a ≤ _
  rw [s2]
  exact Nat.le_add_right _ _
 ·show (frU k t.v n).b ≤ _
  rw [s3]
  exact Nat.le_add_right _ _
theorem u_setroot (h : TwoU k Bx P t w) (n : Int) (x : Nat) (hx : x < 18446744073709551616) :
  Calls Tryz.prog 46 #[.pointer (some ⟨k.P, 0, none⟩), .int .i64 n, .int .u64 (x : Int)] w fun e w1 => ∃ E : Int, e = .returned (.int .i64 E) ∧ Chg (UF k P t) w w1 ∧ ∀ u, Below w1.heap.size w1 u →
   Calls Tryz.prog 47 #[.pointer (some ⟨P, 0, none⟩), .int .i64 n, .int .u64 (x : Int)] u fun e2 u2 => e2 = .returned (.int .i64 E) ∧ ∃ t', UE k Bx P t w t' u2 ∧ Keep t t' := by
 refine (psetroot_any k t.v n x w h.pg).mono ?_
 rintro e w1 ⟨rfl, hp⟩
 refine ⟨_, rfl, hp.2.1.mono (fun i hi => .inl hi), fun u hu => ?_⟩
 have hru := (h.prog hp).1.fresh hu
 obtain ⟨q1, q2, q3, _⟩ := psr_all h.pl h.pj h.pm n x hx
 have q5 := rel_root_set h.pl h.pj h.pm h.rn n x hx
 obtain ⟨s1, s2, s3, s4⟩ := psrU_s (v := t.v) n x
 refine (rsetroot_any _ _ _ _ _ _ _ _ n x u hru.pg hx).mono ?_
 rintro e2 u2 ⟨rfl, hg, hc⟩
 have hlen : (rsrN t.now n x).length = t.now.length := q5.1.trans h.rn.1.symm
 refine ⟨rfl, _, h.both hp hu (hc.mono (fun i hi => .inr hi)) (hru.step hg hlen hc) (.inl rfl) (.inl rfl) h.ur q1 q2 q3 h.w0 q5 h.rw ?_ ?_, s1, rfl, rfl, rfl, s2, s3⟩
 ·rw [s2]
  exact Nat.le_add_right _ _
 ·rw [s3]
  exact Nat.le_add_right _ _
theorem u_abort (h : TwoU k Bx P t w) :
  Calls Tryz.prog 21 #[.pointer (some ⟨k.P, 0, none⟩)] w fun e w1 => e = .returned (.tuple #[]) ∧ Chg (UF k P t) w w1 ∧ ∀ u, Below w1.heap.size w1 u →
   Calls Tryz.prog 11 #[.pointer (some ⟨P, 0, none⟩)] u fun e2 u2 => e2 = .returned (.tuple #[]) ∧ ∃ t', UE k Bx P t w t' u2 ∧ Keep t t' := by
 refine (abort_any k t.v w h.pg).mono ?_
 rintro e w1 ⟨rfl, H, hp⟩
 refine ⟨rfl, hp.2.1.mono (fun i hi => .inl hi), fun u hu => ?_⟩
 have hru := (h.prog hp).1.fresh hu
 refine (rabort_any _ _ _ _ _ _ _ _ _ _ u hru h.len).mono ?_
 rintro e2 u2 ⟨rfl, ⟨g', nv', hr, hg⟩, hc⟩
 have hm2 : PM { t.v with h1 := t.v.h0, Hm := H, ch := [] } t.W := ⟨h.pm.ca, fun n x hx => by simp [gl] at hx, h.pm.h0⟩
 exact ⟨rfl, _, h.both hp hu (hc.mono (fun i hi => .inl hi)) hr (.inr (Nat.le_trans hu.size hg)) (.inl rfl) h.ur (h.pl.as rfl rfl rfl rfl rfl rfl rfl) (h.pj.ab H) hm2 h.w0 (h.rw.congr (fun m => NL_clean hm2 (h.w0 0) rfl rfl m)) h.rw (Nat.le_add_right _ _) (Nat.le_add_right _ _), rfl, rfl, rfl, rfl, rfl, rfl⟩
end
end Go.Proofs.YtdkjkibdncbibaaGreat
/- both pagers, the document's count of used bytes left open: Commit and Checkpoint on a disk without faults -/
namespace Go.Proofs.YtdkjkibdncbibaaGreat
open Go.RowKit
open Go.Lib (hid)
theorem difL_zero {l m : List (List Int)} (hl : m.length = l.length) (h : difL l m l.length = 0) : l = m := by
 unfold difL at h
 have h1 := List.eq_nil_of_length_eq_zero h
 rw [List.filter_eq_nil_iff] at h1
 refine List.ext_getElem? fun i => ?_
 by_cases hi : i < l.length
 ·have h2 := h1 i (List.mem_range.2 hi)
  rw [List.getElem?_eq_getElem hi, List.getElem?_eq_getElem (hl ▸ hi)] at h2 ⊢
  simp only [Option.getD_some, decide_eq_true_eq, ne_eq, Decidable.not_not] at h2
  rw [h2]
 ·rw [List.getElem?_eq_none (by omega), List.getElem?_eq_none (by omega)]
section
variable {k : PK} {Bx P : Nat} {t : TU} {w : World}
theorem TwoU.ar (h : TwoU k Bx P t w) : (k.sz - 2) * 256 ≤ 1048576 := by
 have h2 := h.pj.z2
 have h3 := h.pj.z3
 omega
/-- behind a Commit of the program that was refused: the document's pages are not begun anew yet -/
structure Hf (k : PK) (Bx P : Nat) (t : TU) (w : World) : Prop where
 pg : PgS k t.v w
 pl : PL k t.v t.rs t.W
 pj : PJ k t.v
 pm : PM t.v t.W
 w0 : ∀ n, (t.W n).length = 256 ∧ Rng (t.W n)
 ur : 0 ≤ t.us ∧ t.us ≤ (k.sz - 2) * 256
 rf : RPw w Bx P t.gn t.gw t.nv t.wv ((k.sz - 2) * 256) t.us t.now t.was
 ap : AptU k P t
 rw : Rel (nP k) t.W t.was
 cl : ∀ m, NL t.v t.W m = t.W m
 ln : t.now.length ≤ 4096
theorem Hf.chg {w' : World} (h : Hf k Bx P t w) {F : Nat → Prop} (hc : Chg F w w') (hn : ∀ g, UF k P t g → ¬ F g) : Hf k Bx P t w' :=
 { h with pg := h.pg.chg hc (fun g hg => hn g (.inl hg)), rf := h.rf.chg hc (hn _ (.inr (.inl rfl))) (hn _ (.inr (.inr (.inl rfl)))) (hn _ (.inr (.inr (.inr rfl)))) }
theorem hf_abort (h : Hf k Bx P t w) :
  Calls Tryz.prog 11 #[.pointer (some ⟨P, 0, none⟩)] w fun e2 u2 => e2 = .returned (.tuple #[]) ∧ ∃ t', TwoU k Bx P t' u2 ∧ Chg (UF k P t) w u2 ∧ (∀ g, UF k P t' g → UF k P t g ∨ w.heap.size ≤ g) ∧ t'.v = t.v ∧ t'.was = t.was := by
 refine (rabort_any _ _ _ _ _ _ _ _ _ _ w h.rf h.ln).mono ?_
 rintro e2 u2 ⟨rfl, ⟨g', nv', hr, hg⟩, hc⟩
 have hlt := h.pg.lt
 refine ⟨rfl, { t with gn := g', nv := nv', now := t.was }, ⟨h.pg.chg hc (fun g hg e => (h.ap g hg).1 e), h.pl, h.pj, h.pm, h.w0, h.ur, hr, fun g hg => ⟨(h.ap g hg).1, by have := (hlt g hg).2; show g ≠ g'; omega, (h.ap g hg).2.2⟩, h.rw.congr h.cl, h.rw⟩, hc.mono (fun i hi => .inr (.inl hi)), ?_, rfl, rfl⟩
 rintro g (e | e | e | e)
 ·exact .inl (.inl e)
 ·exact .inl (.inr (.inl e))
 ·exact .inr (by show w.heap.size ≤ g; have : g = g' := e; omega)
 ·exact .inl (.inr (.inr (.inr e)))
end
end Go.Proofs.YtdkjkibdncbibaaGreat
/- the program's pager alone, on any disk that has not failed -/
namespace Go.Proofs.YtdkjkibdncbibaaGreat
open Go.RowKit
open Go.Lib (hid)
structure P1 (k : PK) (v : PV) (rs : List (List Int)) (W : Int → List Int) (w : World) : Prop where
 pg : PgS k v w
 pl : PL k v rs W
 pj : PJ k v
 pm : PM v W
 w0 : ∀ n, (W n).length = 256 ∧ Rng (W n)
def P1E (k : PK) (v : PV) (rs : List (List Int)) (W : Int → List Int) (w : World) (v' : PV) (w' : World) : Prop := P1 k v' rs W w' ∧ PE k v w v' w' ∧ v'.s = v.s ∧ v'.a = v.a ∧ v'.b = v.b
section
variable {k : PK} {v v1 v2 : PV} {rs : List (List Int)} {W : Int → List Int} {w w1 w2 : World}
theorem P1E.refl (h : P1 k v rs W w) : P1E k v rs W w v w := ⟨h, PE.same h.pg (Below.refl _ _), rfl, rfl, rfl⟩
theorem P1E.trans (h : P1E k v rs W w v1 w1) (g : P1E k v1 rs W w1 v2 w2) : P1E k v rs W w v2 w2 := ⟨g.1, h.2.1.trans g.2.1, g.2.2.1.trans h.2.2.1, g.2.2.2.1.trans h.2.2.2.1, g.2.2.2.2.trans h.2.2.2.2⟩
theorem P1E.fresh (h : P1E k v rs W w v1 w1) (hb : Below w1.heap.size w1 w2) : P1E k v rs W w v1 w2 := ⟨{ h.1 with pg := h.1.pg.fresh hb }, h.2.1.post hb, h.2.2⟩
theorem p1_get (h : P1 k v rs W w) (n : Int) (hn : n ≤ 9223372036854775807) :
  Calls Tryz.prog 20 #[.pointer (some ⟨k.P, 0, none⟩), .int .i64 n] w fun e w1 => e = .returned (.tuple #[.agg (ArrU8 (geR k v n).1), .int .i64 (geR k v n).2]) ∧ (geR k v n).1.length = 256 ∧ ∃ v', P1E k v rs W w v' w1 ∧ NL v' W = NL v W ∧ v'.lv = v.lv := by
 refine (get_any k v n w h.pg h.pj.pin (usedN_le h.pj) hn).mono ?_
 rintro e w1 ⟨rfl, ov', hp⟩
 have hl : (geR k v n).1.length = 256 := by
  unfold geR
  split
  ·exact (h.pj.cuR n).1
  ·exact zeros_len _
 have hj2 : PJ k { v with ov := ov', ca := (geV k v n).1, od := (geV k v n).2 } := by
  unfold geV
  split
  ·rename_i hi
   exact (h.pj.cu n (inU_rng hi (usedN_le h.pj))).ov ov'
  ·exact h.pj.ov ov'
 have hm2 : PM { v with ov := ov', ca := (geV k v n).1, od := (geV k v n).2 } W := by
  refine ⟨?_, h.pm.ch, h.pm.h0⟩
  unfold geV
  split
  ·rename_i hi
   have hr := inU_rng hi (usedN_le h.pj)
   exact PM.cuV h.pl h.pj h.pm n hr.1 hr.2
  ·exact h.pm.ca
 exact ⟨rfl, hl, _, ⟨⟨hp.1, h.pl.as rfl rfl rfl rfl rfl rfl rfl, hj2, hm2, h.w0⟩, hp, rfl, rfl, rfl⟩, rfl, rfl⟩
end
end Go.Proofs.YtdkjkibdncbibaaGreat
/- the law's same: a pager beside any list of pages -/
namespace Go.Proofs.YtdkjkibdncbibaaGreat
open Go.RowKit
open Go.Lib (hid)
/-- a pager, and the document's pages that it has -/
structure Wk (k : PK) (Bx P gn : Nat) (nv wv : Value) (ar us : Int) (now : List (List Int)) (v : PV) (rs : List (List Int)) (W : Int → List Int) (w : World) : Prop where
 p : P1 k v rs W w
 r : RPg w Bx P gn nv wv ar us now
 ap : ∀ g, PF k v g → g ≠ P ∧ g ≠ gn
 rn : Rel (nP k) (NL v W) now
def WE (k : PK) (v : PV) (rs : List (List Int)) (W : Int → List Int) (w : World) (v' : PV) (w' : World) : Prop := P1E k v rs W w v' w' ∧ NL v' W = NL v W ∧ v'.lv = v.lv
section
variable {k : PK} {Bx P gn : Nat} {nv wv : Value} {ar us : Int} {now : List (List Int)} {v v1 v2 : PV} {rs : List (List Int)} {W : Int → List Int} {w w1 w2 : World}
theorem WE.trans (h : WE k v rs W w v1 w1) (g : WE k v1 rs W w1 v2 w2) : WE k v rs W w v2 w2 := ⟨h.1.trans g.1, g.2.1.trans h.2.1, g.2.2.trans h.2.2⟩
theorem WE.post (h : WE k v rs W w v1 w1) (hb : Below w1.heap.size w1 w2) : WE k v rs W w v1 w2 := ⟨h.1.fresh hb, h.2⟩
theorem Wk.step (h : Wk k Bx P gn nv wv ar us now v rs W w) (g : WE k v rs W w v1 w1) : Wk k Bx P gn nv wv ar us now v1 rs W w1 :=
 ⟨g.1.1, h.r.chg g.1.2.1.2.1 (fun e => (h.ap _ e).1 rfl) (fun e => (h.ap _ e).2 rfl), fun q hq => by
  have h1 := h.r.lt.1
  have h2 := h.r.lt.2
  rcases g.1.2.1.2.2 q hq with e | e
  ·exact h.ap q e
  ·exact ⟨by omega, by omega⟩, by rw [g.2.1]; exact h.rn⟩
theorem Wk.used (h : Wk k Bx P gn nv wv ar us now v rs W w) : nAt (z0 now) 0 ≤ now.length := by
 have h1 := h.p.pj.u1.2
 have h2 := h.p.pj.nP.1
 rw [rel_used h.p.pj h.rn 0 (by decide), h.rn.1]
 omega
theorem wk_get (h : Wk k Bx P gn nv wv ar us now v rs W w) (n : Int) (hn : n ≤ 9223372036854775807) :
  Calls Tryz.prog 20 #[.pointer (some ⟨k.P, 0, none⟩), .int .i64 n] w fun e w1 => ∃ (l : List Int) (E : Int), l.length = 256 ∧ e = .returned (.tuple #[.agg (ArrU8 l), .int .i64 E]) ∧ ∀ u, Below w1.heap.size w1 u →
   Calls Tryz.prog 43 #[.pointer (some ⟨P, 0, none⟩), .int .i64 n] u fun e2 u2 => e2 = .returned (.tuple #[.agg (ArrU8 l), .int .i64 E]) ∧ Below u.heap.size u u2 ∧ ∃ v', WE k v rs W w v' u2 := by
 refine (p1_get h.p n hn).mono ?_
 rintro e w1 ⟨rfl, hl, v', hp, hnl⟩
 refine ⟨_, _, hl, rfl, fun u hu => ?_⟩
 have hru := (h.step ⟨hp, hnl⟩).r.fresh hu
 refine (rget_any _ _ _ _ _ _ _ _ n u hru hn h.used).mono ?_
 rintro e2 u2 ⟨rfl, hbl⟩
 exact ⟨by rw [rel_get h.p.pl h.p.pj h.p.pm h.rn n], hbl, v', (hp.fresh hu).fresh hbl, hnl⟩
theorem wk_root (h : Wk k Bx P gn nv wv ar us now v rs W w) (n : Int) :
    ∃ R : Int, Calls Tryz.prog 28 #[.pointer (some ⟨k.P, 0, none⟩), .int .i64 n] w (fun e w1 => e = .returned (.int .u64 R) ∧ w = w1) ∧
      Calls Tryz.prog 51 #[.pointer (some ⟨P, 0, none⟩), .int .i64 n] w fun e w1 => w = w1 ∧ e = .returned (.int .u64 R) := by
  refine ⟨_, root_any k v n w h.p.pg, ?_⟩
  have := rroot_any _ _ _ _ _ _ _ now n w h.r
  rwa [rel_root h.p.pj h.rn n] at this
set_option maxRecDepth 100000 in
set_option maxHeartbeats 2000000 in
theorem same_wk (h : Wk k Bx P gn nv wv ar us now v rs W w) :
  Calls Tryz.prog 13 #[.pointer (some ⟨k.P, 0, none⟩), .pointer (some ⟨P, 0, none⟩)] w fun e w' => e = .returned (.bool true) ∧ ∃ v', WE k v rs W w v' w' := by
 have HI35 := hid (show (Tryz.prog.info? 50).map (·.size) = some 256 by kernel_rfl)
 have SZ := hid (show (ArrU8 (zeros 256)).size = 256 by rw [ArrU8_size, zeros_len])
 have hz := zero35
 have HT := hid (show WE k v rs W w v w from ⟨P1E.refl h.p, rfl, rfl⟩)
 have HH := hid h
 obtain ⟨N, hN⟩ : ∃ N, nP k = N := ⟨_, rfl⟩
 have HN := hid hN
 have hN4 : N ≤ 4096 := by have := h.p.pj.nP.2.2; omega
 clear h hN
 go_enter Tryz.func13, Tryz.ntmps13
 go_wp2_with fail
 go_loopw [5] (fun iv wr => ∃ i : Nat, iv = .int .i64 (i : Int) ∧ 1 ≤ i ∧ i ≤ N + 1 ∧ ∃ v1, WE k v rs W w v1 wr) (fun iv _ => N + 1 - (intOf iv).toNat)
 case atStart => exact ⟨1, rfl, Nat.le_refl _, by omega, v, HT.out⟩
 case round =>
  obtain ⟨i, rfl, hi1, hi2, v1, htl⟩ := hrel
  have HTL := hid htl
  have h1 := HH.out.step htl
  obtain ⟨cap, hcap⟩ := h1.r.nw.1
  have c0 := (cell_of_row _ P 0 _ _ _ h1.r.box).trans (show (#[nv, wv, .int .i64 ar, .int .i64 us] : Array Value)[0]? = some nv from rfl)
  have hnl : now.length = N := h1.rn.1.trans HN.out
  rw [hcap, hnl] at c0
  by_cases hlt : i ≤ N
  ·have hle : (i : Int) ≤ (N : Int) := by omega
   have HC := hid (wk_get h1 (i : Int) (by omega))
   clear htl h1 hcap hnl hlt
   go_wp2_with fail
   refine HC.out.mono ?_
   rintro e w1 ⟨l, E, hl, rfl, hnx⟩
   have SL := hid (show (ArrU8 l).size = 256 by rw [ArrU8_size, hl])
   have HL := hid hl
   have HNX := hid hnx
   clear hnx hl c0
   go_wp2_with (refine wpList_store_nw rfl 50 (Operand.tmp 6) (Operand.tmp 24) rfl w1 _ 50 rfl w1.heap.size (ArrU8 l) rfl rfl rfl (by rw [HI35.out, SL.out]) (by rw [SZ.out, SL.out]) (ArrU8_one _) ?_; intro wb hd hb hs; have QB := hid hd; have XB := hid hb; have SB := hid hs; clear hd hb hs)
   refine (HNX.out wb XB.out).mono ?_
   rintro e w2 ⟨rfl, hbl, v', hte⟩
   have XC := hid hbl
   have HTE := hid hte
   clear hbl hte
   go_wp2_with (first
    | (refine wpList_store_nw rfl 50 (Operand.tmp 8) (Operand.tmp 30) rfl w2 _ 50 rfl w2.heap.size (ArrU8 l) rfl rfl rfl (by rw [HI35.out, SL.out]) (by rw [SZ.out, SL.out]) (ArrU8_one _) ?_; intro wd hd hb hs; have QD := hid hd; have XD := hid hb; have SD := hid hs; clear hd hb hs)
    | (refine wpList_load_row rfl 50 (Operand.tmp 6) rfl w1.heap.size rfl 50 (ArrU8 l) (0, 0) _ ((XD.out.block w1.heap.size (by have := XC.out.size; have := SB.out; omega)).trans ((XC.out.block w1.heap.size (by have := SB.out; omega)).trans QB.out)) Tryz.underlying50 rfl (by rw [HI35.out, SL.out]) ?_)
    | (refine wpList_load_row rfl 50 (Operand.tmp 8) rfl w2.heap.size rfl 50 (ArrU8 l) (0, 0) _ QD.out Tryz.underlying50 rfl (by rw [HI35.out, SL.out]) ?_)
    | (refine wpList_of_run rfl (exec_neq_blk (Operand.tmp 32) (Operand.tmp 33) 50 rfl l l rfl rfl HL.out HL.out false (by simp)) ?_))
   go_roundw
   case rel => exact ⟨i + 1, by go_num, by omega, by go_num, v', HTL.out.trans (HTE.out.post XD.out)⟩
   case measure => simp [intOf]; omega
  ·have hle : ¬ (i : Int) ≤ (N : Int) := by omega
   clear htl h1 hcap hnl hlt
   go_wp2_with fail
   go_loopw [10] (fun iv wr => ∃ j : Nat, iv = .int .i64 (j : Int) ∧ j ≤ 16 ∧ ∃ v1, WE k v rs W w v1 wr) (fun iv _ => 16 - (intOf iv).toNat)
   case atStart => exact ⟨0, rfl, by omega, v1, HTL.out⟩
   case round =>
    clear HTL c0
    obtain ⟨j, rfl, hj, v2, htl⟩ := hrel
    have HT2 := hid htl
    by_cases hlt : j < 16
    ·have hjl : (j : Int) < 16 := by omega
     obtain ⟨R, hr1, hr2⟩ := wk_root (HH.out.step htl) (j : Int)
     have HR1 := hid hr1
     have HR2 := hid hr2
     clear hr1 hr2 htl hlt
     go_wp2_with fail
     refine HR1.out.mono ?_
     rintro e w3 ⟨rfl, rfl⟩
     go_wp2_with fail
     refine HR2.out.mono ?_
     rintro e w3 ⟨rfl, rfl⟩
     go_wp2_with fail
     go_roundw
     case rel => exact ⟨j + 1, by go_num, by go_num, v2, HT2.out⟩
     case measure => simp [intOf]; omega
    ·obtain rfl : j = 16 := by omega
     clear htl hlt
     go_wp2_with fail
     go_ret
     exact ⟨rfl, v2, HT2.out⟩
end
end Go.Proofs.YtdkjkibdncbibaaGreat
/- play: what stays while steps are played -/
namespace Go.Proofs.YtdkjkibdncbibaaGreat
open Go.RowKit
open Go.Lib (hid)
abbrev PB (v v' : Value) (a u : Int) : Obj := .cells #[v, v', .int .i64 a, .int .i64 u] 44
theorem set4 {u : World} {H : Nat} {v v' : Value} {a s : Int} (h : u.heap[H]? = some (PB v v' a s)) (x x' : Value) (b c : Int) :
  ((((u.setCell ⟨H, 0, none⟩ x).setCell ⟨H, 1, none⟩ x').setCell ⟨H, 2, none⟩ (.int .i64 b)).setCell ⟨H, 3, none⟩ (.int .i64 c)).heap[H]? = some (PB x x' b c) := by
 have h1 := heap_setCell_same u H 0 _ _ x h
 have h2 := heap_setCell_same _ H 1 _ _ x' h1
 have h3 := heap_setCell_same _ H 2 _ _ (.int .i64 b) h2
 exact heap_setCell_same _ H 3 _ _ (.int .i64 c) h3
theorem set4_other {u : World} {H g : Nat} (x x' : Value) (b c : Int) (hg : g ≠ H) :
  ((((u.setCell ⟨H, 0, none⟩ x).setCell ⟨H, 1, none⟩ x').setCell ⟨H, 2, none⟩ (.int .i64 b)).setCell ⟨H, 3, none⟩ (.int .i64 c)).heap[g]? = u.heap[g]? := by
 rw [heap_setCell_other _ _ _ _ hg, heap_setCell_other _ _ _ _ hg, heap_setCell_other _ _ _ _ hg, heap_setCell_other _ _ _ _ hg]
theorem set4_chg {H : Nat} (u : World) (x x' : Value) (b c : Int) :
  Chg (fun q => q = H) u ((((u.setCell ⟨H, 0, none⟩ x).setCell ⟨H, 1, none⟩ x').setCell ⟨H, 2, none⟩ (.int .i64 b)).setCell ⟨H, 3, none⟩ (.int .i64 c)) :=
 ((((Chg.setCell (F := fun q => q = H) (Chg.refl _ u) ⟨H, 0, none⟩ x (.inl rfl)).setCell ⟨H, 1, none⟩ x' (.inl rfl)).setCell ⟨H, 2, none⟩ _ (.inl rfl)).setCell ⟨H, 3, none⟩ _ (.inl rfl))
def FrB (Bx F8 F9 F10 F11 gf : Nat) (was : List (List Int)) (w : World) : Prop :=
 w.heap[F8]? = some (PB (.slice none 0 0) (.slice none 0 0) 0 0) ∧ w.heap[F9]? = some (PB (.slice none 0 0) (.slice none 0 0) 0 0) ∧
 (∃ cap a n c u1 u2, w.heap[F10]? = some (PB (.slice (some ⟨gf, 0, none⟩) was.length cap) (.slice a n c) u1 u2) ∧ BkC w Bx gf (.slice (some ⟨gf, 0, none⟩) was.length cap) was) ∧
 ∃ a n c a' n' c' u1 u2, w.heap[F11]? = some (PB (.slice a n c) (.slice a' n' c') u1 u2)
section
variable {k : PK} {Bx P F8 F9 F10 F11 gf : Nat} {was : List (List Int)} {t t' : TU} {w w' u u' : World}
theorem hlt5 {u : World} {H : Nat} {o : Obj} (h : u.heap[H]? = some o) : H < u.heap.size := (Array.getElem?_eq_some_iff.1 h).1
theorem FrB.lt (h : FrB Bx F8 F9 F10 F11 gf was w) : F8 < w.heap.size ∧ F9 < w.heap.size ∧ F10 < w.heap.size ∧ F11 < w.heap.size ∧ gf < w.heap.size := by
 obtain ⟨h1, h2, ⟨_, _, _, _, _, _, h3, h4⟩, ⟨_, _, _, _, _, _, _, _, h5⟩⟩ := h
 exact ⟨hlt5 h1, hlt5 h2, hlt5 h3, hlt5 h5, h4.2.2.1⟩
theorem FrB.chg (h : FrB Bx F8 F9 F10 F11 gf was w) {F : Nat → Prop} (hc : Chg F w w') (n8 : ¬ F F8) (n9 : ¬ F F9) (n10 : ¬ F F10) (n11 : ¬ F F11) (ng : ¬ F gf) : FrB Bx F8 F9 F10 F11 gf was w' := by
 obtain ⟨l1, l2, l3, l4, l5⟩ := h.lt
 obtain ⟨h1, h2, ⟨cap, a, n, c, u1, u2, h3, h4⟩, ⟨b1, b2, b3, b4, b5, b6, b7, b8, h5⟩⟩ := h
 exact ⟨(hc.block _ l1 n8).trans h1, (hc.block _ l2 n9).trans h2, ⟨cap, a, n, c, u1, u2, (hc.block _ l3 n10).trans h3, h4.of (hc.block _ l5 ng) (Nat.lt_of_lt_of_le l5 hc.size)⟩, ⟨b1, b2, b3, b4, b5, b6, b7, b8, (hc.block _ l4 n11).trans h5⟩⟩
theorem TwoU.chg (h : TwoU k Bx P t w) {F : Nat → Prop} (hc : Chg F w w') (hn : ∀ g, UF k P t g → ¬ F g) : TwoU k Bx P t w' :=
 { h with pg := h.pg.chg hc (fun g hg => hn g (.inl hg)), rf := h.rf.chg hc (hn _ (.inr (.inl rfl))) (hn _ (.inr (.inr (.inl rfl)))) (hn _ (.inr (.inr (.inr rfl)))) }
end
end Go.Proofs.YtdkjkibdncbibaaGreat
/- both pagers, Commit and Checkpoint on a disk that may fail at any time, with room for all -/
namespace Go.Proofs.YtdkjkibdncbibaaGreat
open Go.RowKit
open Go.Lib (hid)
/-- a disk that holds the pages of a list -/
def OKR (A : Nat) (k : PK) (g : Int → List Int) (l : List (List Int)) : Prop := ∃ W, OKD A k.nb k.sz g W ∧ (1 ≤ hN (hdr (W 0)) 0 ∧ (hN (hdr (W 0)) 0 : Int) ≤ k.nb - k.sz) ∧ (∀ n, (W n).length = 256 ∧ Rng (W n)) ∧ Rel (nP k) W l
theorem OKR.mono {A A' : Nat} {k : PK} {g : Int → List Int} {l : List (List Int)} (h : OKR A k g l) (hA : A ≤ A') : OKR A' k g l := by
 obtain ⟨W, h0, h1⟩ := h
 exact ⟨W, h0.mono hA, h1⟩
/-- the disk is down: the pager's box, the document's pager beside it -/
structure Fd (k : PK) (Bx P : Nat) (t : TU) (w : World) : Prop where
 pg : PgS k t.v w
 rf : RPw w Bx P t.gn t.gw t.nv t.wv ((k.sz - 2) * 256) t.us t.now t.was
 ap : AptU k P t
 ln : t.now.length ≤ 4096
section
variable {k : PK} {Bx P : Nat} {t : TU} {w : World}
theorem UF_pe {v' : PV} {w1 : World} (hp : PE k t.v w v' w1) (rs2 : List (List Int)) : ∀ g, UF k P { t with v := v', rs := rs2 } g → UF k P t g ∨ w.heap.size ≤ g := by
 rintro g (e | e | e | e)
 ·rcases hp.2.2 g e with e | e
  ·exact .inl (.inl e)
  ·exact .inr e
 ·exact .inl (.inr (.inl e))
 ·exact .inl (.inr (.inr (.inl e)))
 ·exact .inl (.inr (.inr (.inr e)))
theorem Fd.chg {w' : World} (h : Fd k Bx P t w) {F : Nat → Prop} (hc : Chg F w w') (hn : ∀ g, UF k P t g → ¬ F g) : Fd k Bx P t w' :=
 { h with pg := h.pg.chg hc (fun g hg => hn g (.inl hg)), rf := h.rf.chg hc (hn _ (.inr (.inl rfl))) (hn _ (.inr (.inr (.inl rfl)))) (hn _ (.inr (.inr (.inr rfl)))) }
theorem u_commit_f (h : TwoU k Bx P t w) (hL0 : t.v.s.L = []) (hrm : k.nb ≤ k.rm) (ha : t.v.a + 2 < 1099511627776) (hb : t.v.b + 1 < 1099511627776) :
    Calls Tryz.prog 19 #[.pointer (some ⟨k.P, 0, none⟩)] w fun e w1 => ∃ E : Int, e = .returned (.int .i64 E) ∧ Chg (UF k P t) w w1 ∧
      (E = 0 → ∀ u, Below w1.heap.size w1 u → Calls Tryz.prog 48 #[.pointer (some ⟨P, 0, none⟩)] u fun e2 u2 => (∃ E2 : Int, e2 = .returned (.int .i64 E2)) ∧ ∃ t', UE k Bx P t w t' u2 ∧ t'.was = t.now ∧ t'.v.s.L = []) ∧
      (E ≠ 0 → (∃ t', Hf k Bx P t' w1 ∧ (∀ g, UF k P t' g → UF k P t g ∨ w.heap.size ≤ g) ∧ t'.was = t.was ∧ t'.v.s.L = [] ∧ t'.v.a ≤ t.v.a + 2 ∧ t'.v.b ≤ t.v.b + 1) ∨
        ∃ t', Fd k Bx P t' w1 ∧ (∀ g, UF k P t' g → UF k P t g ∨ w.heap.size ≤ g) ∧ t'.was = t.was ∧ t'.now = t.now ∧ Crash k t'.v.s fun g => OKR (t.v.a + t.v.b + 3) k g t.was ∨ OKR (t.v.a + t.v.b + 3) k g t.now) := by
  refine (commit2 k t.v t.rs t.W w h.pg h.pj h.pl h.pm hL0 h.w0 ha hb).mono ?_
  rintro e w1 ⟨E, v', rfl, hp, ha', hb', hor, hcal⟩
  have hd := rel_dif h.pl h.pj h.pm (h.w0 0) h.rn h.rw
  have hL := chL_eq (k := k) h.pm
  have hNW := NW_NL h.pm (h.w0 0)
  refine ⟨E, rfl, hp.2.1.mono (fun i hi => .inl hi), fun hE0 u hu => ?_, fun hE1 => ?_⟩
  · have hru := (h.prog hp).1.fresh hu
    refine (rcommit_any _ _ _ _ _ _ _ _ _ _ u hru h.len h.ur.1 h.ur.2 h.ar).mono ?_
    rintro e2 u2 ⟨hc, hr⟩
    have hdz := difL_zero (l := t.now) (m := t.was) h.rf.ln
    generalize difL t.now t.was t.now.length = d at *
    rcases hor with ⟨c0, _, rfl⟩ | ⟨c0, _, ⟨rs2, x2⟩, xL, xj, xm, x1, xc, xcc, xfit⟩ | ⟨c0, h42, _⟩ | ⟨_, h44, _⟩
    · rcases hr with ⟨d0, rfl, r⟩ | ⟨d0, _⟩ | ⟨d0, _⟩
      · exact ⟨⟨0, rfl⟩, _, h.both hp hu (hc.mono (fun i hi => .inl hi)) r (.inl rfl) (.inl rfl) h.ur h.pl h.pj h.pm h.w0 h.rn h.rw ha' hb', (hdz d0).symm, hL0⟩
      · omega
      · omega
    · rcases hr with ⟨d0, rfl, r⟩ | ⟨d0, d1, _⟩ | ⟨d0, d1, rfl, g', wv', r, hg⟩
      · omega
      · omega
      · have w0' : ∀ n, (NW t.v t.W n).length = 256 ∧ Rng (NW t.v t.W n) := fun n => by rw [hNW]; exact NL_blk h.pj h.w0 n
        have hh : v'.h1 = v'.h0 := by rw [x1, xm.h0, NW_hdr h.pj h.pm]
        refine ⟨⟨0, rfl⟩, _, h.both hp hu (hc.mono (fun i hi => .inl hi)) r (.inl rfl) (.inr (Nat.le_trans hu.size hg)) ?_ x2 xj xm w0' (h.rn.congr (fun m => by rw [NL_clean xm (w0' 0) hh xc m, hNW])) (h.rn.congr (fun m => by rw [hNW])) ha' hb', rfl, xL⟩
        have := h.ur
        split <;> omega
    · omega
    · omega
  · obtain ⟨hru, hap⟩ := h.prog hp
    rcases hor with ⟨_, h0, _⟩ | ⟨_, h0, _⟩ | ⟨c0, _, ⟨rs2, x2⟩, xj, xm, x1, xc, xcal⟩ | ⟨_, h44, hcr⟩
    · exact absurd h0 hE1
    · exact absurd h0 hE1
    · obtain ⟨y1, y2, y3⟩ := xcal hrm
      have hh : v'.h1 = v'.h0 := by rw [x1, xm.h0, h.pm.h0]
      exact .inl ⟨{ t with v := v', rs := rs2 }, ⟨hp.1, x2, xj, xm, h.w0, h.ur, hru, hap, h.rw, fun m => NL_clean xm (h.w0 0) hh xc m, h.len⟩, UF_pe hp rs2, rfl, y2, ha', hb'⟩
    · refine .inr ⟨{ t with v := v' }, ⟨hp.1, hru, hap, h.len⟩, UF_pe hp t.rs, rfl, rfl, hcr.1, hcr.2.1, fun ks tt => ?_⟩
      rcases hcr.2.2 ks tt with h9 | h9
      · exact .inl ⟨t.W, h9, by rw [← h.pm.h0]; exact h.pj.u0, h.w0, h.rw⟩
      · exact .inr ⟨NW t.v t.W, h9, by rw [NW_hdr h.pj h.pm]; exact h.pj.u1, fun n => by rw [hNW]; exact NL_blk h.pj h.w0 n, by rw [hNW]; exact h.rn⟩
theorem u_ckpt_f (h : TwoU k Bx P t w) (hL0 : t.v.s.L = []) (hrm : k.nb ≤ k.rm) (ha : t.v.a + 1 < 1099511627776) (hb : t.v.b + 1 < 1099511627776) :
  Calls Tryz.prog 50 #[.pointer (some ⟨k.P, 0, none⟩)] w fun e u2 => ∃ E : Int, e = .returned (.int .i64 E) ∧ ((∃ t', UE k Bx P t w t' u2 ∧ t'.was = t.was ∧ t'.v.s.L = []) ∨
   ∃ t', Fd k Bx P t' u2 ∧ Chg (UF k P t) w u2 ∧ (∀ g, UF k P t' g → UF k P t g ∨ w.heap.size ≤ g) ∧ t'.was = t.was ∧ t'.now = t.now ∧ Crash k t'.v.s fun g => OKR (t.v.a + t.v.b + 3) k g t.was) := by
 refine (checkpoint2 k t.v t.rs t.W w h.pg h.pj h.pl hL0 h.w0 ha hb).mono ?_
 rintro e u2 ⟨E, v', rfl, hp, hs, hck, hcal⟩
 refine ⟨E, rfl, ?_⟩
 rcases hck with ⟨_, x1, x2, x3, x4, x5⟩ | ⟨h9, _⟩ | ⟨h9, _, _, hcr⟩
 ·have hjj : PJ k v' := h.pj.re hs (fun n x hx => by rw [x1.lg] at hx; simp [lgF, gl] at hx) x1.g.fl x1.g.rng
  have hmm : PM v' t.W := ⟨by rw [hs.ca]; exact h.pm.ca, by rw [hs.ch]; exact h.pm.ch, by rw [hs.h0]; exact h.pm.h0⟩
  have hnl : NL v' t.W = NL t.v t.W := by
   funext m
   unfold NL
   rw [hs.h1, hs.ch]
  exact .inl ⟨_, h.both hp (Below.refl _ _) (Chg.refl _ _) (h.prog hp).1 (.inl rfl) (.inl rfl) h.ur x1 hjj hmm h.w0 (by rw [hnl]; exact h.rn) h.rw (by omega) (by omega), rfl, x2⟩
 ·exact absurd h9 (hcal hrm).1
 ·exact .inr ⟨{ t with v := v' }, ⟨hp.1, (h.prog hp).1, (h.prog hp).2, h.len⟩, hp.2.1.mono (fun i hi => .inl hi), UF_pe hp t.rs, rfl, rfl, hcr.1, hcr.2.1, fun ks tt => ⟨t.W, (hcr.2.2 ks tt).mono (by omega), by rw [← h.pm.h0]; exact h.pj.u0, h.w0, h.rw⟩⟩
end
end Go.Proofs.YtdkjkibdncbibaaGreat
/- what holds at each step of the law's play on a disk that may fail, with room for all -/
namespace Go.Proofs.YtdkjkibdncbibaaGreat
open Go.RowKit
open Go.Lib (hid)
section
variable {k : PK} {Bx P F8 F9 F10 F11 gf : Nat} {was : List (List Int)} {t t' : TU} {w w' u u' : World}
structure PfI (k : PK) (Bx P F8 F9 F10 F11 B0 : Nat) (w0 : World) (i : Nat) (w : World) (t : TU) (gf : Nat) : Prop where
 tw : TwoU k Bx P t w
 cm : k.nb ≤ k.rm
 L0 : t.v.s.L = []
 a : t.v.a ≤ 1 + 2 * i
 b : t.v.b ≤ 1 + i
 bw : Below B0 w0 w
 ap : ∀ g, UF k P t g → B0 ≤ g ∧ g ≠ F8 ∧ g ≠ F9 ∧ g ≠ F10 ∧ g ≠ F11 ∧ g ≠ gf
 fr : FrB Bx F8 F9 F10 F11 gf t.was w
 bf : B0 ≤ F8 ∧ F8 < F9 ∧ F9 < F10 ∧ F10 < F11 ∧ gf ≠ F8 ∧ gf ≠ F9 ∧ gf ≠ F10 ∧ gf ≠ F11 ∧ B0 ≤ gf
theorem PfI.fresh {B0 i : Nat} {w0 : World} (h : PfI k Bx P F8 F9 F10 F11 B0 w0 i w t gf) (hb : Below w.heap.size w u) : PfI k Bx P F8 F9 F10 F11 B0 w0 i u t gf := by
 have hc : Chg (fun _ => False) w u := Chg.fresh hb
 have h9 := h.fr.lt
 have h10 := h.bf
 exact { h with tw := h.tw.chg hc (fun _ _ e => e), bw := h.bw.trans (hb.mono (by omega)), fr := h.fr.chg hc (fun e => e) (fun e => e) (fun e => e) (fun e => e) (fun e => e) }
theorem PfI.ue {B0 i : Nat} {w0 : World} (h : PfI k Bx P F8 F9 F10 F11 B0 w0 i w t gf) (g : UE k Bx P t w t' w') (hw : t'.was = t.was) (hcm : k.nb ≤ k.rm) (hL : t'.v.s.L = []) : PfI k Bx P F8 F9 F10 F11 B0 w0 (i + 1) w' t' gf := by
 obtain ⟨g1, g2, g3, g4, g5⟩ := g
 have h9 := h.fr.lt
 have h10 := h.bf
 refine ⟨g1, hcm, hL, by have := h.a; omega, by have := h.b; omega, h.bw.trans (g2.below (fun q hq => (h.ap q hq).1) (by omega)), fun q hq => ?_, ?_, h.bf⟩
 ·rcases g3 q hq with e | e
  ·exact h.ap q e
  ·refine ⟨by omega, by omega, by omega, by omega, by omega, by omega⟩
 ·rw [hw]
  exact h.fr.chg g2 (fun e => (h.ap _ e).2.1 rfl) (fun e => (h.ap _ e).2.2.1 rfl) (fun e => (h.ap _ e).2.2.2.1 rfl) (fun e => (h.ap _ e).2.2.2.2.1 rfl) (fun e => (h.ap _ e).2.2.2.2.2 rfl)
theorem PfI.keep {B0 i : Nat} {w0 : World} (h : PfI k Bx P F8 F9 F10 F11 B0 w0 i w t gf) (g : UE k Bx P t w t' w') (hk : Keep t t') : PfI k Bx P F8 F9 F10 F11 B0 w0 (i + 1) w' t' gf :=
 h.ue g hk.2.1 h.cm (by rw [hk.1]; exact h.L0)
theorem pf_start {B0 : Nat} {w0 w8 : World} {n cap : Nat} {nv0 : Value} {a1 : Option Addr} {n1 c1 : Nat} {arr us : Int} (htu : TwoU k Bx P t u) (hcm : k.nb ≤ k.rm) (hL : t.v.s.L = []) (ha : t.v.a ≤ 1) (hb : t.v.b ≤ 1) (hbw : Below B0 w0 u) (hB0 : B0 ≤ n) (hun : u.heap.size = n + 1 + 1 + 1) (hbl8 : Below u.heap.size u w8)
    (hap : ∀ g, UF k P t g → B0 ≤ g ∧ g < n) (hp8 : w8.heap[n]? = some (PB (.slice none 0 0) (.slice none 0 0) 0 0)) (hp9 : w8.heap[n + 1]? = some (PB (.slice none 0 0) (.slice none 0 0) 0 0)) (hp10 : w8.heap[n + 1 + 1]? = some (PB nv0 (.slice a1 n1 c1) arr us)) (hge : n + 1 + 1 + 1 ≤ gf)
    (hbk : BkC w8 Bx gf (.slice (some ⟨gf, 0, none⟩) t.was.length cap) t.was) :
    PfI k Bx P n (n + 1) (n + 1 + 1) w8.heap.size B0 w0 0 ((w8.setCell ⟨n + 1 + 1, 0, none⟩ (.slice (some ⟨gf, 0, none⟩) t.was.length cap)).alloc (PB (.slice (some ⟨gf, 0, none⟩) t.was.length cap) (.slice a1 n1 c1) arr us)) t gf := by
  have hs8 := hbl8.size
  have hgl := hbk.2.2.1
  have hc1 : Chg (fun q => q = n + 1 + 1) w8 ((w8.setCell ⟨n + 1 + 1, 0, none⟩ (.slice (some ⟨gf, 0, none⟩) t.was.length cap)).alloc (PB (.slice (some ⟨gf, 0, none⟩) t.was.length cap) (.slice a1 n1 c1) arr us)) := (Chg.setCell (F := fun q => q = n + 1 + 1) (Chg.refl _ w8) ⟨n + 1 + 1, 0, none⟩ _ (.inl rfl)).alloc _
  have hc0 : Chg (fun q => q = n + 1 + 1) u w8 := Chg.fresh hbl8
  have hc := hc0.trans hc1 (fun _ e => .inl e)
  have h10 := heap_setCell_same w8 (n + 1 + 1) 0 _ _ (.slice (some ⟨gf, 0, none⟩) t.was.length cap) hp10
  have e11 := heap_alloc_new (w8.setCell ⟨n + 1 + 1, 0, none⟩ (.slice (some ⟨gf, 0, none⟩) t.was.length cap)) (PB (.slice (some ⟨gf, 0, none⟩) t.was.length cap) (.slice a1 n1 c1) arr us)
  have ez : (w8.setCell ⟨n + 1 + 1, 0, none⟩ (.slice (some ⟨gf, 0, none⟩) t.was.length cap)).heap.size = w8.heap.size := by simp
  rw [ez] at e11
  have h10' := (((Below.refl _ _).alloc (Nat.le_refl _) (PB (.slice (some ⟨gf, 0, none⟩) t.was.length cap) (.slice a1 n1 c1) arr us)).block (n + 1 + 1) (by rw [ez]; omega)).trans h10
  exact {
    tw := htu.chg hc (fun g hg e => by have := hap g hg; omega)
    cm := hcm
    L0 := hL
    a := by omega
    b := by omega
    bw := hbw.trans (hc.below (B := B0) (fun q hq => by omega) (by omega))
    ap := fun g hg => by have := hap g hg; refine ⟨this.1, by omega, by omega, by omega, by omega, by omega⟩
    fr := ⟨(hc1.block _ (by omega) (by omega)).trans hp8, (hc1.block _ (by omega) (by omega)).trans hp9, ⟨cap, a1, n1, c1, arr, us, h10', hbk.of (hc1.block _ hgl (by omega)) (Nat.lt_of_lt_of_le hgl hc1.size)⟩, ⟨_, _, _, _, _, _, _, _, e11⟩⟩
    bf := by refine ⟨hB0, by omega, by omega, by omega, by omega, by omega, by omega, by omega, by omega⟩ }
/-- next has the copy of the pages that are to be committed -/
structure PfC (k : PK) (Bx P F8 F9 F10 F11 B0 : Nat) (w0 : World) (i : Nat) (w : World) (t : TU) (gf g2 capf : Nat) (a : Option Addr) (n c : Nat) (u1 u2 : Int) : Prop where
 pl : PfI k Bx P F8 F9 F10 F11 B0 w0 i w t gf
 n11 : w.heap[F11]? = some (PB (.slice (some ⟨g2, 0, none⟩) t.now.length capf) (.slice a n c) u1 u2)
 bk : BkC w Bx g2 (.slice (some ⟨g2, 0, none⟩) t.now.length capf) t.now
 g2 : (∀ g, UF k P t g → g ≠ g2) ∧ F11 < g2
theorem PfI.commit {B0 i g2 capf : Nat} {w0 : World} {v : Value} {a : Option Addr} {n c : Nat} {u1 u2 : Int} (h : PfI k Bx P F8 F9 F10 F11 B0 w0 i w t gf) (h11 : w.heap[F11]? = some (PB v (.slice a n c) u1 u2))
  (hbk : BkC w Bx g2 (.slice (some ⟨g2, 0, none⟩) t.now.length capf) t.now) (hg : F11 < g2 ∧ ∀ g, UF k P t g → g < g2) :
  PfC k Bx P F8 F9 F10 F11 B0 w0 i (w.setCell ⟨F11, 0, none⟩ (.slice (some ⟨g2, 0, none⟩) t.now.length capf)) t gf g2 capf a n c u1 u2 := by
 have hc : Chg (fun q => q = F11) w (w.setCell ⟨F11, 0, none⟩ (.slice (some ⟨g2, 0, none⟩) t.now.length capf)) := Chg.setCell (F := fun q => q = F11) (Chg.refl _ w) ⟨F11, 0, none⟩ _ (.inl rfl)
 have h11' := heap_setCell_same w F11 0 _ _ (.slice (some ⟨g2, 0, none⟩) t.now.length capf) h11
 obtain ⟨l1, l2, l3, l4, l5⟩ := h.fr.lt
 have hb := h.bf
 have hg2 := hbk.2.2.1
 obtain ⟨f8, f9, ⟨cap, a', n', c', q1, q2, f10, fb⟩, -⟩ := h.fr
 refine ⟨{ h with tw := h.tw.chg hc (fun g hg e => (h.ap g hg).2.2.2.2.1 e), bw := h.bw.trans (hc.below (B := B0) (fun q e => by omega) (by omega)), fr := ⟨(hc.block _ l1 (by omega)).trans f8, (hc.block _ l2 (by omega)).trans f9, ⟨cap, a', n', c', q1, q2, (hc.block _ l3 (by omega)).trans f10, fb.of (hc.block _ l5 (by omega)) (Nat.lt_of_lt_of_le l5 hc.size)⟩, ⟨_, _, _, _, _, _, _, _, h11'⟩⟩ }, h11', hbk.of (hc.block _ hg2 (by omega)) (Nat.lt_of_lt_of_le hg2 hc.size), fun g hg' e => by have := hg.2 g hg'; omega, hg.1⟩
/-- behind the document's Commit: what stands in both boxes -/
theorem PfC.boxes {B0 i g2 capf : Nat} {w0 w9 w2 : World} {a : Option Addr} {n c : Nat} {u1 u2 : Int} (h : PfC k Bx P F8 F9 F10 F11 B0 w0 i w9 t gf g2 capf a n c u1 u2) (hc : Chg (UF k P t) w9 w2) :
  w2.heap[F11]? = some (PB (.slice (some ⟨g2, 0, none⟩) t.now.length capf) (.slice a n c) u1 u2) ∧ (∃ cap a n c u1 u2, w2.heap[F10]? = some (PB (.slice (some ⟨gf, 0, none⟩) t.was.length cap) (.slice a n c) u1 u2)) := by
 obtain ⟨l1, l2, l3, l4, l5⟩ := h.pl.fr.lt
 obtain ⟨f8, f9, ⟨cap, a', n', c', q1, q2, f10, fb⟩, -⟩ := h.pl.fr
 exact ⟨(hc.block _ l4 (fun e => (h.pl.ap _ e).2.2.2.2.1 rfl)).trans h.n11, ⟨cap, a', n', c', q1, q2, (hc.block _ l3 (fun e => (h.pl.ap _ e).2.2.2.1 rfl)).trans f10⟩⟩
theorem PfC.ok {B0 i g2 capf : Nat} {w0 w9 w2 : World} {a : Option Addr} {n c : Nat} {u1 u2 : Int} (h : PfC k Bx P F8 F9 F10 F11 B0 w0 i w9 t gf g2 capf a n c u1 u2) (g : UE k Bx P t w9 t' w2) (hw : t'.was = t.now) (hcm : k.nb ≤ k.rm) (hL : t'.v.s.L = []) :
  PfI k Bx P F8 F9 F10 F11 B0 w0 (i + 1) ((((w2.setCell ⟨F10, 0, none⟩ (.slice (some ⟨g2, 0, none⟩) t.now.length capf)).setCell ⟨F10, 1, none⟩ (.slice a n c)).setCell ⟨F10, 2, none⟩ (.int .i64 u1)).setCell ⟨F10, 3, none⟩ (.int .i64 u2)) t' g2 := by
 obtain ⟨h11, ⟨cap, a', n', c', q1, q2, h10⟩⟩ := h.boxes g.2.1
 obtain ⟨g1, g2', g3, g4, g5⟩ := g
 obtain ⟨l1, l2, l3, l4, l5⟩ := h.pl.fr.lt
 have hb := h.pl.bf
 have hlg := h.g2.2
 have hbl := h.bk.2.2.1
 obtain ⟨f8, f9, -, -⟩ := h.pl.fr
 have hs2 := g2'.size
 have hcc := set4_chg (H := F10) w2 (.slice (some ⟨g2, 0, none⟩) t.now.length capf) (.slice a n c) u1 u2
 have h8 := (g2'.block _ l1 (fun e => (h.pl.ap _ e).2.1 rfl)).trans f8
 have h9 := (g2'.block _ l2 (fun e => (h.pl.ap _ e).2.2.1 rfl)).trans f9
 have hbk2 := h.bk.of (g2'.block _ hbl (fun e => h.g2.1 _ e rfl)) (Nat.lt_of_lt_of_le hbl hs2)
 have hap : ∀ g, UF k P t' g → B0 ≤ g ∧ g ≠ F8 ∧ g ≠ F9 ∧ g ≠ F10 ∧ g ≠ F11 ∧ g ≠ g2 := fun q hq => by
  rcases g3 q hq with e | e
  ·obtain ⟨a1, a2, a3, a4, a5, a6⟩ := h.pl.ap q e
   exact ⟨a1, a2, a3, a4, a5, h.g2.1 q e⟩
  ·refine ⟨by omega, by omega, by omega, by omega, by omega, by omega⟩
 refine { tw := g1.chg hcc (fun g hg e => (hap g hg).2.2.2.1 e), cm := hcm, L0 := hL, a := by have := h.pl.a; omega, b := by have := h.pl.b; omega, bw := (h.pl.bw.trans (g2'.below (fun q hq => (h.pl.ap q hq).1) (by omega))).trans (hcc.below (B := B0) (fun q e => by omega) (by omega)), ap := hap, fr := ⟨(hcc.block _ (by omega) (by omega)).trans h8, (hcc.block _ (by omega) (by omega)).trans h9, ?_, ⟨_, _, _, _, _, _, _, _, (hcc.block _ (by omega) (by omega)).trans h11⟩⟩, bf := by refine ⟨hb.1, hb.2.1, hb.2.2.1, hb.2.2.2.1, by omega, by omega, by omega, by omega, by omega⟩ }
 rw [hw]
 exact ⟨capf, a, n, c, u1, u2, set4 h10 _ _ u1 u2, hbk2.of (hcc.block _ (by omega) (by omega)) (by have := hcc.size; omega)⟩
/-- behind a Commit that was refused, the boxes set again -/
theorem PfI.no {B0 i : Nat} {w0 w9 w1 wB w2 : World} {t2 : TU} (h : PfI k Bx P F8 F9 F10 F11 B0 w0 i w9 t gf) (hc : Chg (UF k P t) w9 w1) (hg : ∀ g, UF k P t2 g → UF k P t g ∨ w9.heap.size ≤ g) (hcB : Chg (fun q => q = F11) w1 wB) {v v' : Value} {x y : Int} (h11 : wB.heap[F11]? = some (PB v v' x y)) (hv : ∃ a n c a' n' c', v = .slice a n c ∧ v' = .slice a' n' c')
  (tw : TwoU k Bx P t' w2) (hc2 : Chg (UF k P t2) wB w2) (hg2 : ∀ g, UF k P t' g → UF k P t2 g ∨ wB.heap.size ≤ g) (hvv : t'.v = t2.v) (hw : t'.was = t2.was) (hw2 : t2.was = t.was) (hcm : k.nb ≤ k.rm) (hL : t2.v.s.L = []) (ha : t2.v.a ≤ t.v.a + 2) (hb : t2.v.b ≤ t.v.b + 1) :
  PfI k Bx P F8 F9 F10 F11 B0 w0 (i + 1) w2 t' gf := by
 obtain ⟨a, n, c, a', n', c', rfl, rfl⟩ := hv
 obtain ⟨l1, l2, l3, l4, l5⟩ := h.fr.lt
 have hbf := h.bf
 have s1 := hc.size
 have s2 := hcB.size
 have s3 := hc2.size
 have ap2 : ∀ g, UF k P t2 g → B0 ≤ g ∧ g ≠ F8 ∧ g ≠ F9 ∧ g ≠ F10 ∧ g ≠ F11 ∧ g ≠ gf := fun q hq => by
  rcases hg q hq with e | e
  ·exact h.ap q e
  ·refine ⟨by omega, by omega, by omega, by omega, by omega, by omega⟩
 have f1 := h.fr.chg hc (fun e => (h.ap _ e).2.1 rfl) (fun e => (h.ap _ e).2.2.1 rfl) (fun e => (h.ap _ e).2.2.2.1 rfl) (fun e => (h.ap _ e).2.2.2.2.1 rfl) (fun e => (h.ap _ e).2.2.2.2.2 rfl)
 obtain ⟨f8, f9, ⟨cap, b1, b2, b3, q1, q2, f10, fb⟩, -⟩ := f1
 have fB : FrB Bx F8 F9 F10 F11 gf t.was wB := ⟨(hcB.block _ (by omega) (by omega)).trans f8, (hcB.block _ (by omega) (by omega)).trans f9, ⟨cap, b1, b2, b3, q1, q2, (hcB.block _ (by omega) (by omega)).trans f10, fb.of (hcB.block _ (by omega) (by omega)) (by omega)⟩, ⟨_, _, _, _, _, _, _, _, h11⟩⟩
 refine { tw := tw, cm := hcm, L0 := by rw [hvv]; exact hL, a := by rw [hvv]; have := h.a; omega, b := by rw [hvv]; have := h.b; omega, bw := ((h.bw.trans (hc.below (fun q hq => (h.ap q hq).1) (by omega))).trans (hcB.below (B := B0) (fun q e => by omega) (by omega))).trans (hc2.below (B := B0) (fun q hq => (ap2 q hq).1) (by omega)), ap := fun q hq => ?_, fr := ?_, bf := hbf }
 ·rcases hg2 q hq with e | e
  ·exact ap2 q e
  ·refine ⟨by omega, by omega, by omega, by omega, by omega, by omega⟩
 ·rw [hw, hw2]
  exact fB.chg hc2 (fun e => (ap2 _ e).2.1 rfl) (fun e => (ap2 _ e).2.2.1 rfl) (fun e => (ap2 _ e).2.2.2.1 rfl) (fun e => (ap2 _ e).2.2.2.2.1 rfl) (fun e => (ap2 _ e).2.2.2.2.2 rfl)
end
end Go.Proofs.YtdkjkibdncbibaaGreat
