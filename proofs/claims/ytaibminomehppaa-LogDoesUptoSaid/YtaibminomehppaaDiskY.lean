import Derived.Test.YtaibminomehppaaDiskX
import Derived.WalkKit
import Derived.ProofKit
import Derived.BigQuiet
import Derived.Deep.QuietTactic
import Derived.WalkSpells
import Derived.WalkLawsBesides
import Derived.Lib.Hide
import Derived.Deep.MidRow
import Derived.Deep.RegionLaw
import Derived.BigRegion
import Derived.Laws.AppendOwnNone
import Derived.Deep.DeepMust
import Derived.Deep.AppendLies
import Derived.RegionTactic
import Derived.Deep.WholeRow
import Derived.BigFrame
import Derived.Deep.RegionWith
import Derived.Deep.RegionHeld3
import Derived.Maps.RangeWalk
import Derived.Laws.CopyOwn
import Derived.StillTailTactics
namespace Go.Proofs.Ytaibminomehppaa
open Go.RowKit
def RFoot (R gf : Nat) (rv : Value) (k : Nat) : Prop := k = R ∨ k = gf ∨ rv.ownBlock = some k
/-- THE STATE OF THE REFERENCE'S DISK -/
def RS (w : World) (B R gf nb fcap : Nat) (rv : Value) (rm fz : Int) (dn : Bool) (bs : List (List Int)) (K : List RW) : Prop :=
  RefIs w R (RC (.slice (some ⟨gf, 0, none⟩) nb fcap) rv rm fz dn) ∧ BkC w B gf (.slice (some ⟨gf, 0, none⟩) nb fcap) bs ∧ RLIs w B rv K ∧ ROK K ∧ (∀ x ∈ K, 0 ≤ x.1 ∧ x.1 < nb) ∧ R ≠ gf ∧ (∀ k, rv.ownBlock = some k → k ≠ gf ∧ k ≠ R) ∧ B ≤ R ∧ (-1 ≤ fz ∧ fz ≤ 9223372036854775807) ∧ bs.length = nb
theorem RS.foot {w : World} {B R gf nb fcap : Nat} {rv : Value} {rm fz : Int} {dn : Bool} {bs : List (List Int)} {K : List RW} (h : RS w B R gf nb fcap rv rm fz dn bs K) : ∀ k, RFoot R gf rv k → B ≤ k ∧ k < w.heap.size := by
  obtain ⟨h1, h2, h3, h4, h5, h6, h7, h8, h9⟩ := h
  intro k hk
  rcases hk with rfl | rfl | hk
  · exact ⟨h8, h1.lt⟩
  · exact ⟨h2.2.1, h2.2.2.1⟩
  · exact h3.own k hk
theorem RS.kept {w w' : World} {B R gf nb fcap : Nat} {rv : Value} {rm fz : Int} {dn : Bool} {bs : List (List Int)} {K : List RW} (h : RS w B R gf nb fcap rv rm fz dn bs K) (he : ∀ k, RFoot R gf rv k → w'.heap[k]? = w.heap[k]?) (hs : w.heap.size ≤ w'.heap.size) : RS w' B R gf nb fcap rv rm fz dn bs K := by
  obtain ⟨h1, h2, h3, h4⟩ := h
  exact ⟨(he R (.inl rfl)).trans h1, h2.of (he gf (.inr (.inl rfl))) (Nat.lt_of_lt_of_le h2.2.2.1 hs), h3.kept (fun k hk => he k (.inr (.inr hk))), h4⟩
theorem RS.chg {w w' : World} {B R gf nb fcap : Nat} {rv : Value} {rm fz : Int} {dn : Bool} {bs : List (List Int)} {K : List RW} {F : Nat → Prop} (h : RS w B R gf nb fcap rv rm fz dn bs K) (hc : Chg F w w') (hF : ∀ k, RFoot R gf rv k → ¬ F k) : RS w' B R gf nb fcap rv rm fz dn bs K :=
  h.kept (fun k hk => hc.block k (h.foot k hk).2 (hF k hk)) hc.size
theorem RS.rows {w : World} {B R gf nb fcap : Nat} {rv : Value} {rm fz : Int} {dn : Bool} {bs : List (List Int)} {K : List RW} (h : RS w B R gf nb fcap rv rm fz dn bs K) : ∀ l ∈ bs, l.length = 256 := fun l hl => by
  obtain ⟨i, hi⟩ := List.mem_iff_getElem?.1 hl
  exact (h.2.1.2.2.2.1 i l hi).1
theorem hasB_iff {nb n : Int} (h : hasB nb n = true) : 0 ≤ n ∧ n < nb := by simp [hasB] at h; omega
theorem wErr_has {nb rm fz n : Int} {dn : Bool} (h : wErr nb rm fz n dn = 0) : 0 ≤ n ∧ n < nb := by
  apply hasB_iff
  unfold wErr at h
  cases hb : hasB nb n
  · rw [hb] at h; split at h <;> simp at h
  · rfl
def RWrEnds (B R gf nb fcap : Nat) (rv : Value) (rm fz : Int) (dn : Bool) (bs : List (List Int)) (K : List RW) (n : Int) (b : List Int) (w : World) (e : Ending) (w' : World) : Prop :=
  e = .returned (.int .i64 (wErr nb rm fz n dn)) ∧ ∃ rv', RS w' B R gf nb fcap rv' rm (opFz fz dn) (opDn fz dn) bs (if wErr nb rm fz n dn = 0 then K ++ [(n, b)] else K) ∧ Chg (RFoot R gf rv) w w' ∧ (∀ k, RFoot R gf rv' k → RFoot R gf rv k ∨ w.heap.size ≤ k)
theorem rwrite_rs (B R gf nb fcap : Nat) (rv : Value) (rm fz n : Int) (dn : Bool) (bs : List (List Int)) (K : List RW) (b : List Int) (w : World) (h : RS w B R gf nb fcap rv rm fz dn bs K) (hb : b.length = 256) (hKl : K.length ≤ 268435455) :
    Calls Try.prog 39 #[.pointer (some ⟨R, 0, none⟩), .int .i64 n, .agg (ArrU8 b)] w (RWrEnds B R gf nb fcap rv rm fz dn bs K n b w) := by
  have hft := h.foot
  obtain ⟨h1, h2, h3, h4, h5, h6, h7, h8, h9, h10⟩ := h
  refine (rwrite_any B R gf nb fcap rv rm fz n dn K b w h1 h9 h3 (fun e => (h7 R e).2 rfl) hb hKl).mono ?_
  rintro e w' ⟨rfl, rv', hd, hc, hl⟩
  have hRg : gf < w.heap.size := (hft gf (.inr (.inl rfl))).2
  have hRl : R < w.heap.size := (hft R (.inl rfl)).2
  have hBw : B ≤ w.heap.size := by have := (hft R (.inl rfl)); omega
  refine ⟨rfl, rv', ?_, hc.mono (fun i hi => .inl hi), ?_⟩
  · have hbk := h2.of (hc.block gf hRg (fun e => h6 e.symm)) (Nat.lt_of_lt_of_le hRg hc.size)
    by_cases he : wErr nb rm fz n dn = 0
    · rw [if_pos he] at hl ⊢
      have hn := wErr_has he
      refine ⟨hd, hbk, hl.lower hBw, ?_, ?_, h6, ?_, h8, opFz_rng h9, h10⟩
      · intro x hx
        rcases List.mem_append.1 hx with hx | hx
        · exact h4 x hx
        · rw [List.mem_singleton.1 hx]; exact hb
      · intro x hx
        rcases List.mem_append.1 hx with hx | hx
        · exact h5 x hx
        · rw [List.mem_singleton.1 hx]; exact hn
      · intro k hk
        have := (hl.own k hk).1
        exact ⟨by omega, by omega⟩
    · rw [if_neg he] at hl ⊢
      subst hl
      exact ⟨hd, hbk, h3.kept (fun k hk => hc.block k (h3.own k hk).2 (h7 k hk).2), h4, h5, h6, h7, h8, opFz_rng h9, h10⟩
  · intro k hk
    by_cases he : wErr nb rm fz n dn = 0
    · rw [if_pos he] at hl
      rcases hk with hk | hk | hk
      · exact .inl (.inl hk)
      · exact .inl (.inr (.inl hk))
      · exact .inr (hl.own k hk).1
    · rw [if_neg he] at hl
      subst hl
      exact .inl hk
def RSyEnds (B R gf nb fcap : Nat) (rv : Value) (rm fz : Int) (dn : Bool) (bs : List (List Int)) (K : List RW) (w : World) (e : Ending) (w' : World) : Prop :=
  e = .returned (.int .i64 (if opOk fz dn = true then 0 else 44)) ∧ ∃ rv', RS w' B R gf nb fcap rv' rm (opFz fz dn) (opDn fz dn) (if opOk fz dn = true then firmL bs K else bs) (if opOk fz dn = true then [] else K) ∧ Chg (RFoot R gf rv) w w' ∧ (∀ k, RFoot R gf rv' k → RFoot R gf rv k ∨ w.heap.size ≤ k)
theorem opDn_ok (fz : Int) (dn : Bool) : opDn fz dn = !opOk fz dn := by simp [opDn, opOk]
theorem rsync_rs (B R gf nb fcap : Nat) (rv : Value) (rm fz : Int) (dn : Bool) (bs : List (List Int)) (K : List RW) (w : World) (h : RS w B R gf nb fcap rv rm fz dn bs K) (hKl : K.length ≤ 268435455) :
    Calls Try.prog 41 #[.pointer (some ⟨R, 0, none⟩)] w (RSyEnds B R gf nb fcap rv rm fz dn bs K w) := by
  have hft := h.foot
  obtain ⟨h1, h2, h3, h4, h5, h6, h7, h8, h9, h10⟩ := h
  refine (rsync_any B R gf _ rv rm fz dn bs K w h1 h9 h2 h3 h4 (by rw [h10]; exact h5) h6 h7 (by omega)).mono ?_
  rintro e w' ⟨rfl, hd, hb, hc⟩
  unfold RSyEnds
  rw [opDn_ok] at hd hb ⊢
  have hch : Chg (RFoot R gf rv) w w' := hc.mono (fun i hi => hi.elim .inl (fun h => .inr (.inl h)))
  cases hok : opOk fz dn
  · rw [hok] at hd hb
    refine ⟨rfl, rv, ?_, hch, fun k hk => .inl hk⟩
    exact ⟨hd, hb, h3.kept (fun k hk => hc.block k (h3.own k hk).2 (fun e => e.elim (h7 k hk).2 (h7 k hk).1)), h4, h5, h6, h7, h8, opFz_rng h9, h10⟩
  · rw [hok] at hd hb
    refine ⟨rfl, .slice none 0 0, ?_, hch, fun k hk => .inl ?_⟩
    · exact ⟨hd, hb, World.ownsRow_nil _ _ _ _, (fun x hx => by cases hx), (fun x hx => by cases hx), h6, (fun k hk => by cases hk), h8, opFz_rng h9, by show (firmL bs K).length = nb; rw [firmL_len]; exact h10⟩
    · rcases hk with hk | hk | hk
      · exact .inl hk
      · exact .inr (.inl hk)
      · cases hk
def RUpsEnds (B R gf nb fcap : Nat) (rm : Int) (bs : List (List Int)) (K : List RW) (ks : List Bool) (t : Int) (w : World) (e : Ending) (w' : World) : Prop :=
  e = .returned (.tuple #[]) ∧ RS w' B R gf nb fcap (.slice none 0 0) rm (-1) false (rupL bs K ks t (rLast ks (min K.length ks.length)) (min K.length ks.length)) [] ∧ Chg (fun k => k = R ∨ k = gf) w w'
theorem rup_rs (B R gf nb fcap : Nat) (rv kv : Value) (rm fz t : Int) (dn : Bool) (bs : List (List Int)) (K : List RW) (ks : List Bool) (w : World) (h : RS w B R gf nb fcap rv rm fz dn bs K) (hkb : Bools w kv ks) (hkd : ∀ b o n c, kv = .slice (some ⟨b, o, none⟩) n c → 0 < ks.length → b ≠ gf) (hKl : K.length ≤ 268435455) (hkl : ks.length ≤ 140737488355328) :
    Calls Try.prog 57 #[.pointer (some ⟨R, 0, none⟩), kv, .int .i64 t] w (RUpsEnds B R gf nb fcap rm bs K ks t w) := by
  obtain ⟨h1, h2, h3, h4, h5, h6, h7, h8, h9, h10⟩ := h
  refine (rup_any B R gf nb fcap rv kv rm fz t dn bs K ks w h1 h2 h3 h4 h5 h6 h7 hkb hkd (by omega) hkl).mono ?_
  rintro e w' ⟨rfl, hd, hb, hc⟩
  exact ⟨rfl, ⟨hd, hb, World.ownsRow_nil _ _ _ _, (fun x hx => by cases hx), (fun x hx => by cases hx), h6, (fun k hk => by cases hk), h8, ⟨by omega, by omega⟩, by rw [rupL_len]; exact h10⟩, hc⟩
/-- what the one's state has to do with the other's -/
def Rel (nb : Nat) (f : Int → List Int) (L : List WR) (bs : List (List Int)) (K : List RW) : Prop := K = rOf L ∧ BsF nb bs (undoF f L) ∧ Told f L ∧ ∀ x ∈ L, 0 ≤ x.1 ∧ x.1 < (nb : Int)
theorem Rel.len {nb : Nat} {f : Int → List Int} {L : List WR} {bs : List (List Int)} {K : List RW} (h : Rel nb f L bs K) : K.length = L.length := by rw [h.1, rOf_len]
theorem Rel.write {nb : Nat} {f : Int → List Int} {L : List WR} {bs : List (List Int)} {K : List RW} (h : Rel nb f L bs K) (n : Int) (b : List Int) (hn : 0 ≤ n ∧ n < nb) : Rel nb (fput f n b) (L ++ [(n, f n, b)]) bs (K ++ [(n, b)]) := by
  obtain ⟨h1, h2, h3, h4⟩ := h
  refine ⟨by rw [rOf_snoc, h1], by rw [undoF_write]; exact h2, h3.put n b, fun x hx => ?_⟩
  rcases List.mem_append.1 hx with hx | hx
  · exact h4 x hx
  · rw [List.mem_singleton.1 hx]; exact hn
theorem Rel.sync {nb : Nat} {f : Int → List Int} {L : List WR} {bs : List (List Int)} {K : List RW} (h : Rel nb f L bs K) : Rel nb f [] (firmL bs K) [] := by
  obtain ⟨h1, h2, h3, h4⟩ := h
  refine ⟨rfl, ?_, Told.nil f, fun x hx => by cases hx⟩
  have := firm_puts nb bs _ L h2 h4
  rw [h3, ← h1] at this
  exact this
theorem Rel.up {nb : Nat} {f : Int → List Int} {L : List WR} {bs : List (List Int)} {K : List RW} (h : Rel nb f L bs K) (ks : List Bool) (t : Int) : Rel nb (upF f L ks t) [] (rupL bs K ks t (rLast ks (min K.length ks.length)) (min K.length ks.length)) [] := by
  obtain ⟨h1, h2, h3, h4⟩ := h
  refine ⟨rfl, ?_, Told.nil _, fun x hx => by cases hx⟩
  subst h1
  rw [rOf_len]
  exact rup_up nb bs f L ks t h2 h4 _ rfl
theorem Rel.read {nb : Nat} {f : Int → List Int} {L : List WR} {bs : List (List Int)} {K : List RW} (h : Rel nb f L bs K) (m : Nat) (hm : m < nb) : ∃ b0, bs[m]? = some b0 ∧ rdL b0 K (m : Int) = f m := by
  obtain ⟨h1, h2, h3, h4⟩ := h
  refine ⟨_, h2.2 m hm, ?_⟩
  rw [h1, rdL_puts, h3]
theorem rread_rs (B R gf nb fcap : Nat) (rv : Value) (rm fz n : Int) (dn : Bool) (bs : List (List Int)) (K : List RW) (f : Int → List Int) (L : List WR) (w : World) (h : RS w B R gf nb fcap rv rm fz dn bs K) (hr : Rel nb f L bs K) (hKl : K.length ≤ 268435455) :
    Calls Try.prog 43 #[.pointer (some ⟨R, 0, none⟩), .int .i64 n] w fun e w' => e = .returned (.tuple #[.agg (ArrU8 (rdF nb n dn f)), .int .i64 (readErr nb n dn)]) ∧ Below w.heap.size w w' := by
  obtain ⟨h1, h2, h3, h4, h5, h6, h7, h8, h9, h10⟩ := h
  cases dn
  · cases hb : hasB nb n
    · have e1 : rdF nb n false f = zeros 256 := by simp [rdF, hb]
      have e2 : readErr nb n false = 2 := by simp [readErr, hb]
      rw [e1, e2]
      exact rread_out R (some ⟨gf, 0, none⟩) nb fcap rv rm fz n w h1 (by simp [hasB] at hb; omega)
    · obtain ⟨h01, h02⟩ := hasB_iff hb
      obtain ⟨m, rfl⟩ : ∃ m : Nat, n = (m : Int) := ⟨n.toNat, by omega⟩
      obtain ⟨b0, hb0, hrd⟩ := hr.read m (by omega)
      have e1 : rdF nb (m : Int) false f = rdL b0 K (m : Int) := by simp [rdF, hb, hrd]
      have e2 : readErr nb (m : Int) false = 0 := by simp [readErr, hb]
      rw [e1, e2]
      subst h10
      exact rread_yes R B gf m fcap rv rm fz bs K b0 w h1 h2 h3 h4 hb0 (by omega)
  · have e1 : rdF nb n true f = zeros 256 := by simp [rdF]
    have e2 : readErr nb n true = 44 := by simp [readErr]
    rw [e1, e2]
    exact rread_off R _ rv rm fz n w h1
end Go.Proofs.Ytaibminomehppaa
