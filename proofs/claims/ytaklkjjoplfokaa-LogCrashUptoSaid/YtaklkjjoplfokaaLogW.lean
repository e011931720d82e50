import Derived.Test.YtaklkjjoplfokaaLogV
import Derived.Test.YtaklkjjoplfokaaLogN
import Derived.WalkKit
import Derived.ProofKit
import Derived.BigQuiet
import Derived.Deep.QuietTactic
import Derived.WalkSpells
import Derived.WalkLawsBesides
import Derived.Lib.Hide
import Derived.Deep.MidRow
import Derived.Deep.RegionLaw
import Derived.BigRegion
import Derived.Laws.AppendOwnNone
import Derived.Deep.DeepMust
import Derived.Deep.AppendLies
import Derived.RegionTactic
import Derived.Deep.WholeRow
import Derived.BigFrame
import Derived.Deep.RegionWith
import Derived.Deep.RegionHeld3
import Derived.Maps.RangeWalk
import Derived.Laws.CopyOwn
import Derived.StillTailTactics
namespace Go.Proofs.Ytaklkjjoplfokaa
open Go.RowKit
theorem Pss0.under {w w' : World} {v : Value} {ps : List (List Int)} (h : Pss0 w v ps) (hb : Below w.heap.size w w') : Pss0 w' v ps := ((recs_of_pss h).under hb).pss
theorem either_any (v1 v2 v3 : Value) (ps qs : List (List Int)) (w : World) (h1 : Pss0 w v1 ps) (h2 : Pss0 w v2 qs) (r1 : ∀ p ∈ ps, Rng p) (r2 : ∀ p ∈ qs, Rng p) (hl : ps.length ≤ 1099511627776) (hor : ps = qs ∨ Pss0 w v3 ps) :
    Calls Try.prog 39 #[v1, v2, v3] w fun e w' => e = .returned (.bool true) ∧ Below w.heap.size w w' := by
  have H1 := Lib.hid h1
  have H2 := Lib.hid h2
  have R1 := Lib.hid r1
  have R2 := Lib.hid r2
  have HO := Lib.hid hor
  clear h1 h2 r1 r2 hor
  go_enter Try.func39, Try.ntmps39
  go_wp2_with fail
  refine (rsame_any v1 v2 ps qs w H1.out H2.out R1.out R2.out hl).mono ?_
  rintro e w1 ⟨rfl, hb⟩
  have X1 := Lib.hid hb
  clear hb
  by_cases hq : ps = qs
  · rw [decide_eq_true hq]
    go_wp2_with fail
    go_ret
    exact ⟨rfl, X1.out⟩
  · have h3 : Pss0 w v3 ps := HO.out.resolve_left hq
    have H3 := Lib.hid (h3.under X1.out)
    have H4 := Lib.hid (H1.out.under X1.out)
    rw [decide_eq_false hq]
    clear h3 hq
    go_wp2_with fail
    refine (rsame_any v1 v3 ps ps w1 H4.out H3.out R1.out R1.out hl).mono ?_
    rintro e w2 ⟨rfl, hb⟩
    have X2 := Lib.hid (X1.out.trans (hb.mono X1.out.size))
    clear hb
    rw [decide_eq_true rfl]
    go_wp2_with fail
    go_ret
    exact ⟨rfl, X2.out⟩
theorem own_same {w w' : World} {B e size n : Nat} {v : Value} {xs : List Value} (h : w.ownsRow B e size v n xs) (he : ∀ g, v.ownBlock = some g → w'.heap[g]? = w.heap[g]?) : w'.ownsRow B e size v n xs := by
  obtain ⟨h1, h2⟩ := h
  refine ⟨h1, h2.imp id ?_⟩
  rintro ⟨g, cap, cur, hv, hb, hg, hr⟩
  exact ⟨g, cap, cur, hv, hb, (he g (by rw [hv]; rfl)).trans hg, hr⟩
theorem OwnIn.chg {w w' : World} {lo P : Nat} {v : Value} {ps : List (List Int)} {F : Nat → Prop} (h : OwnIn w lo P v ps) (hc : Chg F w w') (hP : P ≤ w.heap.size) (hF : ∀ k, lo ≤ k → k < P → ¬ F k) :
    ∃ wg : World, wg.heap.size = P ∧ OwnPs 62 5 wg lo v ps ∧ ∀ k, lo ≤ k → k < P → w'.heap[k]? = wg.heap[k]? := by
  obtain ⟨wg, h1, h2, h3⟩ := h
  exact ⟨wg, h1, h2, fun k hk hk2 => (hc.block k (by omega) (hF k hk hk2)).trans (h3 k hk2)⟩
/-- records of one's own that lie from one block on and below another -/
def OwnBt (w : World) (lo P : Nat) (v : Value) (ps : List (List Int)) : Prop := ∃ wg : World, wg.heap.size = P ∧ OwnPs 62 5 wg lo v ps ∧ ∀ k, lo ≤ k → k < P → w.heap[k]? = wg.heap[k]?
theorem OwnIn.bt {w : World} {lo P : Nat} {v : Value} {ps : List (List Int)} (h : OwnIn w lo P v ps) : OwnBt w lo P v ps := by
  obtain ⟨wg, h1, h2, h3⟩ := h
  exact ⟨wg, h1, h2, fun k _ hk => h3 k hk⟩
theorem OwnBt.chg {w w' : World} {lo P : Nat} {v : Value} {ps : List (List Int)} {F : Nat → Prop} (h : OwnBt w lo P v ps) (hc : Chg F w w') (hP : P ≤ w.heap.size) (hF : ∀ k, lo ≤ k → k < P → ¬ F k) : OwnBt w' lo P v ps := by
  obtain ⟨wg, h1, h2, h3⟩ := h
  exact ⟨wg, h1, h2, fun k hk hk2 => (hc.block k (by omega) (hF k hk hk2)).trans (h3 k hk hk2)⟩
/-- .. are one's own there -/
theorem OwnBt.own {w : World} {lo P : Nat} {v : Value} {ps : List (List Int)} (h : OwnBt w lo P v ps) : OwnPs 62 5 w lo v ps ∧ (∀ g, v.ownBlock = some g → lo ≤ g ∧ g < P) := by
  obtain ⟨wg, h1, ⟨xs, h2, h3⟩, h4⟩ := h
  have hs : ∀ {e n : Nat} {u : Value} {ys : List Value}, wg.ownsRow lo e 1 u n ys → w.ownsRow lo e 1 u n ys := fun hu => own_same hu (fun g hg => by have := hu.lt g hg; exact h4 g this.1 (by omega))
  refine ⟨⟨xs, hs h2, fun i hi => ?_⟩, fun g hg => by have := h2.lt g hg; omega⟩
  obtain ⟨x, hx, ho, hn⟩ := h3 i hi
  exact ⟨x, hx, hs ho, hn⟩
/-- an append to records of one's own, read -/
theorem app_pss {w0 w1 : World} {lo lo' g cap : Nat} {v x : Value} {ps : List (List Int)} {m : List Int} {xs : List Value} (ho : w0.ownsRow lo 62 1 v ps.length xs)
    (h2 : ∀ i, i < ps.length → ∃ x, xs[i]? = some x ∧ w0.ownsRow lo 5 1 x (ps[i]?.getD []).length ((ps[i]?.getD []).map (Value.int .u8)) ∧ (x.ownBlock = none ∨ x.ownBlock ≠ v.ownBlock))
    (hx : Bs w0 x m) (hxn : ∀ ad n c, x = .slice (some ad) n c → v.ownBlock ≠ some ad.block) (hown : w1.ownsRow lo' 62 1 (.slice (some ⟨g, 0, none⟩) (ps.length + 1) cap) (ps.length + 1) (xs ++ [x])) (hg : w0.grownBy w1 v.ownBlock) :
    Pss0 w1 (.slice (some ⟨g, 0, none⟩) (ps.length + 1) cap) (ps ++ [m]) := by
  have hc : Chg (fun k => v.ownBlock = some k) w0 w1 := Chg.grown hg (fun k hk => hk)
  have hl : xs.length = ps.length := by have := ho.1; simpa using this
  refine ⟨some ⟨g, 0, none⟩, cap, by simp, fun _ => ⟨g, 0, rfl, (hown.lt g rfl).2, fun i hi => ?_⟩⟩
  by_cases hi2 : i < ps.length
  · obtain ⟨y, hy, hoy, hn⟩ := h2 i hi2
    have hcell := hown.cells (g := g) rfl i y (by rw [List.getElem?_append_left (by omega)]; exact hy)
    rw [Addr.add_mid] at hcell
    refine ⟨y, hcell, ?_⟩
    rw [List.getElem?_append_left hi2]
    exact (Bs_of_own hoy).chg hc (fun ad n c e h0 e2 => by
      rcases hn with hn | hn
      · rw [e] at hn; cases hn
      · exact hn (by rw [e2, e]; rfl))
  · have hi3 : i = ps.length := by simp at hi; omega
    subst hi3
    have hcell := hown.cells (g := g) rfl ps.length x (by rw [List.getElem?_append_right (by omega), hl]; simp)
    rw [Addr.add_mid] at hcell
    refine ⟨x, hcell, ?_⟩
    rw [List.getElem?_append_right (by omega), Nat.sub_self]
    exact hx.chg hc (fun ad n c e h0 e2 => hxn ad n c e e2)
/-- slices of slices of slices of bytes, read -/
def Gss (w : World) (hi : Nat) (v : Value) (gs : List (List (List Int))) : Prop :=
  ∃ (a : Option Addr) (cap : Nat), v = .slice a gs.length cap ∧ (0 < gs.length → ∃ b off, a = some ⟨b, off, none⟩ ∧ b < hi ∧ ∀ i, i < gs.length → ∃ x, w.cell? ⟨b, off + i, none⟩ = some x ∧ Recs w 0 hi x (gs[i]?.getD []))
theorem Gss.under {w w' : World} {hi : Nat} {v : Value} {gs : List (List (List Int))} (h : Gss w hi v gs) (hb : Below hi w w') : Gss w' hi v gs := by
  obtain ⟨a, cap, hv, h⟩ := h
  refine ⟨a, cap, hv, fun hl => ?_⟩
  obtain ⟨b, off, ha, hlt, hc⟩ := h hl
  refine ⟨b, off, ha, hlt, fun i hi => ?_⟩
  obtain ⟨x, hx, hr⟩ := hc i hi
  exact ⟨x, (hb.cell (p := ⟨b, off + i, none⟩) hlt).trans hx, hr.under hb⟩
section
variable {w w' : World} {B D M P i : Nat} {fv nv : Value}
theorem encs_ge : ∀ (rs : List (List Int)), 8 * rs.length ≤ (encs rs).length
  | [] => Nat.le_refl _
  | r :: rs => by
    have := encs_ge rs
    rw [encs_cons]
    simp [be8_len]
    omega
/-- what is known at the head of the law's loop: the log holds the records of 'firm'; or the disk went down, and the log holds those of 'firm' or those of 'next' -/
def CrI (B D M P : Nat) (fv _nv : Value) (i : Nat) (w : World) : Prop :=
  (∃ fz f lv a b c rs av, LgF w B D M 40 fz f lv P 3 30 a b c rs av [] ∧ OwnW w B fv rs ∧ (∀ k, LFoot D M lv P av k → fv.ownBlock ≠ some k) ∧ a ≤ 1 + 2 * i ∧ b ≤ 1 + i)
def CrF (B D M : Nat) (fv nv : Value) (w : World) : Prop :=
  (∃ lv a b c rs b' c' rs', Fallen w B D M 40 3 a b c rs b' c' rs' lv ∧ OwnW w B fv rs ∧ OwnW w B nv rs' ∧ (∀ k, Foot D M lv k → B ≤ k ∧ fv.ownBlock ≠ some k ∧ nv.ownBlock ≠ some k) ∧ c ≤ 7168 ∧ c' ≤ 7168 ∧ a ≤ 4194304 ∧ b ≤ 4194304 ∧ b' ≤ 4194304 ∧ (∀ r ∈ rs, Rng r) ∧ (∀ r ∈ rs', Rng r))
def CuEnds (B D M : Nat) (fv nv : Value) (w : World) (e : Ending) (w' : World) : Prop :=
  e = .returned (.tuple #[]) ∧ Chg (fun k => k = D ∨ k = M) w w' ∧ ∃ g a b c rs qs, LgD w' B D M 40 40 g (.slice none 0 0) 3 30 a b c rs ∧ a ≤ 4194305 ∧ OwnW w' B fv qs ∧ (rs = qs ∨ OwnW w' B nv rs) ∧ (∀ r ∈ qs, Rng r)
theorem crash_up {kv : Value} {ks : List Bool} {t : Int} (h : CrI B D M P fv nv i w ∨ CrF B D M fv nv w) (hi : i ≤ 1048576) (hB : B ≤ w.heap.size) (hkb : Bools w kv ks) (hkd : ∀ b o n c, kv = .slice (some ⟨b, o, none⟩) n c → 0 < ks.length → b ≠ M) (hkl : ks.length ≤ 1048576) :
    Calls Try.prog 21 #[.pointer (some ⟨D, 0, none⟩), kv, .int .i64 t] w (CuEnds B D M fv nv w) := by
  rcases h with ⟨fz, f, lv, a, b, c, rs, av, hl, ho, hn, ha, hb⟩ | ⟨lv, a, b, c, rs, b', c', rs', hf, ho, ho', hn, hc, hc', ha, hb, hb', hr, hr'⟩
  · refine (lf_up hl hkb hkd hkl).mono ?_
    rintro e w' ⟨rfl, hd, hch⟩
    have hDM : ∀ k, k = D ∨ k = M → LFoot D M lv P av k := fun k hk => .inl (hk.elim .inl (fun h => .inr (.inl h)))
    exact ⟨rfl, hch, f, a, b, c, rs, rs, hd, by omega, ho.chg hch (fun g hg e => hn g (hDM g e) hg) (hch.below (fun k hk => (hl.lt k (hDM k hk)).1) hB), .inl rfl, hl.rrs⟩
  · refine (fallen_up hf hkb hkd hkl).mono ?_
    rintro e w' ⟨rfl, ⟨g, hd, hu, hg⟩, hch⟩
    have hDM : ∀ k, k = D ∨ k = M → Foot D M lv k := fun k hk => hk.elim .inl (fun h => .inr (.inl h))
    have hbe : Below B w w' := hch.below (fun k hk => (hn k (hDM k hk)).1) hB
    have h1 := ho.chg hch (fun g hg e => (hn g (hDM g e)).2.1 hg) hbe
    have h2 := ho'.chg hch (fun g hg e => (hn g (hDM g e)).2.2 hg) hbe
    obtain ⟨a2, b2, c2, rs2, hld, hor, ha2⟩ := up2_ld (sz := 30) hd hu hg (by omega) (by omega) hr hr' (by decide) (by decide) (by decide) (by decide) (by omega) (by omega) (by omega)
    exact ⟨rfl, hch, g, a2, b2, c2, rs2, rs, hld, by omega, h1, hor.imp id (fun h => by rw [h]; exact h2), hr⟩
end
end Go.Proofs.Ytaklkjjoplfokaa
