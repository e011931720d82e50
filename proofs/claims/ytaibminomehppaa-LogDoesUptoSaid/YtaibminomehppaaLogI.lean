import Derived.Test.YtaibminomehppaaLogH
import Derived.WalkKit
import Derived.ProofKit
import Derived.BigQuiet
import Derived.Deep.QuietTactic
import Derived.WalkSpells
import Derived.WalkLawsBesides
import Derived.Lib.Hide
import Derived.Deep.MidRow
import Derived.Deep.RegionLaw
import Derived.BigRegion
import Derived.Laws.AppendOwnNone
import Derived.Deep.DeepMust
import Derived.Deep.AppendLies
import Derived.RegionTactic
import Derived.Deep.WholeRow
import Derived.BigFrame
import Derived.Deep.RegionWith
import Derived.Deep.RegionHeld3
import Derived.Maps.RangeWalk
import Derived.Laws.CopyOwn
import Derived.StillTailTactics

namespace Go.Proofs.Ytaibminomehppaa
open Go.RowKit
/-- a disk that holds a log -/
structure LgD (w : World) (B D M : Nat) (nb rm : Int) (f : Int → List Int) (lv : Value) (fi sz : Int) (a b c : Nat) (rs : List (List Int)) : Prop where
  dk : Dk w B D M nb rm (-1) false f [] lv
  mkf : Mk f fi a b c
  area : areaB f (fi + 2) c = encs rs
  fits : (c : Int) ≤ (sz - 2) * 256
  rng : ∀ n, Rng (f n)
  rrs : ∀ r ∈ rs, Rng r
  h1 : 0 ≤ fi
  h2 : 3 ≤ sz
  h3 : fi ≤ nb - sz
  h4 : nb ≤ 4096
  ha : a < 1099511627776
  hb : b < 1099511627776
section
variable {w w' : World} {B D M : Nat} {nb rm : Int} {f : Int → List Int} {lv : Value} {P : Nat} {fi sz : Int} {a b c : Nat} {rs : List (List Int)} {av : Value} {pe : List (List Int)}
theorem LgS.disk (h : LgS w B D M nb rm f lv P fi sz a b c rs av pe) : LgD w B D M nb rm f lv fi sz a b c rs :=
  ⟨h.dk, h.mkf, h.area, by have := h.fits; omega, h.rng, h.rrs, h.h1, h.h2, h.h3, h.h4, h.ha, h.hb⟩
def LoEnds (B D M : Nat) (nb rm : Int) (f : Int → List Int) (lv : Value) (fi sz : Int) (a b c : Nat) (rs : List (List Int)) (w : World) (e : Ending) (w' : World) : Prop :=
  ∃ P v, e = .returned (.tuple #[.pointer (some ⟨P, 0, none⟩), v, .int .i64 0]) ∧ LgS w' B D M nb rm f lv P fi sz a b c rs (.slice none 0 0) [] ∧ Recs w' w.heap.size P v rs ∧ w.heap.size ≤ P ∧ Below w.heap.size w w'
theorem ld_open (h : LgD w B D M nb rm f lv fi sz a b c rs) : Calls Try.prog 28 #[.pointer (some ⟨D, 0, none⟩), .int .i64 fi, .int .i64 sz] w (LoEnds B D M nb rm f lv fi sz a b c rs w) := by
  refine (open_yes B D M nb rm (-1) fi sz f [] lv a b c rs w h.dk h.h1 h.h2 h.h3 h.h4 h.rng (nst_mk h.mkf) h.mkf.2.1 h.fits h.area h.rrs).mono ?_
  rintro e w' ⟨P, v, rfl, hp, hr, hP, hb⟩
  have hD := h.dk.foot D (.inl rfl)
  exact ⟨P, v, rfl, ⟨h.dk.chg (Chg.fresh (F := fun _ => False) hb) (fun _ _ h => h), hp, Own.nil _ _, fun e => by have := (h.dk.foot P e).2; omega, (fun e => by cases e), (fun g hg => by cases hg), by omega, h.mkf, h.area, by rw [show encs ([] : List (List Int)) = [] from rfl, List.length_nil]; have := h.fits; omega, h.rng, h.rrs, (fun r hr => by cases hr), h.h1, h.h2, h.h3, h.h4, h.ha, h.hb⟩, hr, hP, hb⟩
def FmEnds (B D M : Nat) (nb rm : Int) (_f : Int → List Int) (lv : Value) (fi sz : Int) (w : World) (e : Ending) (w' : World) : Prop :=
  e = .returned (.int .i64 0) ∧ ∃ f' lv', LgD w' B D M nb rm f' lv' fi sz 1 1 0 [] ∧ Chg (Foot D M lv) w w' ∧ (∀ k, Foot D M lv' k → Foot D M lv k ∨ w.heap.size ≤ k)
theorem ld_format (hd : Dk w B D M nb rm (-1) false f [] lv) (hr : ∀ n, Rng (f n)) (h1 : 0 ≤ fi) (h2 : 3 ≤ sz) (h3 : fi ≤ nb - sz) (h4 : nb ≤ 4096) (hrm : fi + 1 < rm) :
    Calls Try.prog 8 #[.pointer (some ⟨D, 0, none⟩), .int .i64 fi, .int .i64 sz] w (FmEnds B D M nb rm f lv fi sz w) := by
  refine (format_yes B D M nb rm fi sz ⟨-1, false, f, []⟩ lv w hd h1 h2 h3 h4 (by simp)).mono ?_
  obtain ⟨g1, g2⟩ := wsy_calm (nb := nb) (rm := rm) (fw fi) (s := ⟨-1, false, f, []⟩) ⟨rfl, rfl⟩ (fun x hx => by
    rw [fw, List.mem_cons, List.mem_singleton] at hx
    rcases hx with rfl | rfl
    · show 0 ≤ fi + 1 ∧ fi + 1 < nb ∧ fi + 1 < rm; omega
    · show 0 ≤ fi ∧ fi < nb ∧ fi < rm; omega)
  rw [g1, g2]
  rintro e w' ⟨rfl, lv', hdk, hc, hf⟩
  refine ⟨rfl, fputs f (fw fi), lv', ⟨hdk, mk_format f fi, rfl, by omega, fputs_rng _ _ hr (fun x hx => ?_), (fun r hr => by cases hr), h1, h2, h3, h4, by decide, by decide⟩, hc, hf⟩
  rw [fw, List.mem_cons, List.mem_singleton] at hx
  rcases hx with rfl | rfl
  · exact mb_rng _ _ _
  · exact zeros_rng _
end
theorem fits_yes {sz : Int} {c n m : Nat} (h : 8 + (m : Int) ≤ (sz - 2) * 256 - c - n) : fitsL sz c n m = true := decide_eq_true h
/-- a literal of two slices -/
theorem pss_two {w : World} (X : Nat) (x y : Value) (l m : List Int) (T : TypeId) (cap : Nat) (hX : w.heap[X]? = some (.cells #[x, y] T (0, 0))) (hx : Bs w x l) (hy : Bs w y m) : Pss0 w (.slice (some ⟨X, 0, none⟩) 2 cap) [l, m] := by
  refine ⟨_, cap, rfl, fun _ => ⟨X, 0, rfl, (Array.getElem?_eq_some_iff.1 hX).1, fun i hi => ?_⟩⟩
  rw [cell_of_row _ _ _ _ _ _ hX, Nat.zero_add]
  match i, hi with
  | 0, _ => exact ⟨x, rfl, hx⟩
  | 1, _ => exact ⟨y, rfl, hy⟩
set_option maxRecDepth 100000 in
set_option maxHeartbeats 8000000 in
theorem lfixed_any (w : World) : Calls Try.prog 5 #[] w fun e w' => e = .returned (.bool true) ∧ Below w.heap.size w w' := by
  go_enter Try.func5, Try.ntmps5
  go_wp2_with fail
  refine (new_dk 8 w (by decide) (by decide)).mono ?_
  rintro e w1 ⟨rfl, hdk, hb⟩
  have DK1 := Lib.hid hdk
  have X1 := Lib.hid hb
  clear hdk hb
  generalize hD : w.heap.size + 1 = D at *
  have HDE := Lib.hid hD
  clear hD
  go_wp2_with fail
  refine (ld_format DK1.out (fun _ => zeros_rng 256) (by decide) (by decide) (by decide) (by decide) (by decide)).mono ?_
  rintro e w2 ⟨rfl, f2, lv2, hld, hc, hf⟩
  have LD2 := Lib.hid hld
  have X2 := Lib.hid (X1.out.trans (hc.below (fun k hk => (DK1.out.foot k hk).1) X1.out.size))
  clear hld hc hf
  go_wp2_with fail
  refine (format_no _ _ _ 8 8 (-1) 0 2 false f2 [] lv2 w2 LD2.out.dk (by decide) (by decide) (by decide) (by decide)).mono ?_
  rintro e w3 ⟨rfl, hb⟩
  have X3 := Lib.hid (X2.out.trans (hb.mono X2.out.size))
  have LD3 := Lib.hid (show LgD w3 w.heap.size D w.heap.size 8 8 f2 lv2 1 5 1 1 0 [] from { LD2.out with dk := LD2.out.dk.chg (Chg.fresh (F := fun _ => False) hb) (fun _ _ h => h) })
  clear hb
  go_wp2_with fail
  refine (ld_open LD3.out).mono ?_
  rintro e w4 ⟨P, v4, rfl, hls, hrc, hP, hb⟩
  obtain ⟨ra4, rc4, hv4, _⟩ := hrc
  subst hv4
  have LS4 := Lib.hid hls
  have X4 := Lib.hid (X3.out.trans (hb.mono X3.out.size))
  clear hls hP hb
  go_wp2_with (go_at_call 30; refine (epoch_any P _ 1 5 1 1 0 (.slice none 0 0) _ LS5.out.box).mono ?_; rintro e w' ⟨rfl, rfl⟩)
  refine (left_any P D 1 5 1 1 0 none 0 0 w4 LS4.out.box (by decide) (by decide) (by decide) (by decide)).mono ?_
  rintro e w5 ⟨rfl, hb⟩
  have LS5 := Lib.hid (LS4.out.fresh hb)
  have X5 := Lib.hid (X4.out.trans (hb.mono X4.out.size))
  clear hb
  rw [if_pos (by decide)]
  have hcv : (convert 39 39 (.slice (some ⟨w5.heap.size, 0, none⟩) 2 2)).run Try.prog (w5.alloc (.cells #[.int .u8 97, .int .u8 98] 5)) = .ok (.slice (some ⟨w5.heap.size, 0, none⟩) 2 2) (w5.alloc (.cells #[.int .u8 97, .int .u8 98] 5 (2, 3))) := Lib.run_convert_bytes_const (P := Try.prog) w5 39 5 #[.int .u8 97, .int .u8 98] 2 2 Try.underlying39 Try.underlying5
  go_wp2_with (go_at_call 30; refine (epoch_any P _ 1 5 1 1 0 (.slice none 0 0) _ LS5.out.box).mono ?_; rintro e w' ⟨rfl, rfl⟩)
  clear hcv
  have hb6 : Below w5.heap.size w5 (w5.alloc (.cells #[.int .u8 97, .int .u8 98] 5 (2, 3))) := (Below.refl _ _).alloc (Nat.le_refl _) _
  have LS6 := Lib.hid (LS5.out.fresh hb6)
  have X6 := Lib.hid (X5.out.trans (hb6.mono X5.out.size))
  clear hb6
  refine (ls_append LS6.out (.slice (some ⟨w5.heap.size, 0, none⟩) 2 2) [97, 98] (lit_bs w5 _ [97, 98] _ 2 2 rfl (Nat.le_refl 2)) (fun _ _ _ _ _ e => by cases e) (by decide) (fun x hx => by simp at hx; omega)).mono ?_
  rintro e w7 ⟨he, av7, hls, hc, hf⟩
  rw [if_pos (by decide)] at he hls
  subst he
  have LS7 := Lib.hid hls
  have X7 := Lib.hid (X6.out.trans (hc.below (fun k hk => (LS6.out.lt k hk).1) X6.out.size))
  clear hls hc hf
  go_wp2_with fail
  refine (ls_append LS7.out (.slice none 0 0) [] (Bs.nil _) (fun _ _ _ e => by cases e) (by decide) (fun x hx => by cases hx)).mono ?_
  rintro e w8 ⟨he, av8, hls, hc, hf⟩
  rw [if_pos (by decide)] at he hls
  subst he
  have LS8 := Lib.hid hls
  have X8 := Lib.hid (X7.out.trans (hc.below (fun k hk => (LS7.out.lt k hk).1) X7.out.size))
  obtain ⟨sa8, sc8, hav8⟩ := own_form hls.own
  clear hls hc hf
  rw [show (encs (([] ++ [[97, 98]]) ++ [[]])).length = 18 from by simp [encs, be8_len]] at hav8
  subst hav8
  go_wp2_with fail
  refine (left_any P D 1 5 1 1 0 sa8 18 sc8 w8 LS8.out.box (by decide) (by decide) (by decide) (by decide)).mono ?_
  rintro e w9 ⟨rfl, hb⟩
  have LS9 := Lib.hid (LS8.out.fresh hb)
  have X9 := Lib.hid (X8.out.trans (hb.mono X8.out.size))
  clear hb
  rw [if_pos (by decide)]
  go_wp2_with fail
  refine (ls_sync LS9.out (by decide)).mono ?_
  rintro e w10 ⟨f10, lv10, a10, c10, rs10, av10, hls, hc, hf, hcase⟩
  have hcase2 : e = .returned (.int .i64 0) ∧ rs10 = [] ++ (([] ++ [[97, 98]]) ++ [[]]) := by
    rcases hcase with ⟨h1, h2, _⟩ | ⟨_, _, _, h, _⟩
    · exact ⟨h1, h2⟩
    · exact absurd h (by decide)
  obtain ⟨he, hrs⟩ := hcase2
  subst he hrs
  have LS10 := Lib.hid hls
  have X10 := Lib.hid (X9.out.trans (hc.below (fun k hk => (LS9.out.lt k hk).1) X9.out.size))
  clear hls hc hf hcase
  go_wp2_with fail
  refine (ld_open LS10.out.disk).mono ?_
  rintro e w11 ⟨P2, v11, rfl, hls, hrc, hP, hb⟩
  have HRC := Lib.hid hrc
  have X11 := Lib.hid (X10.out.trans (hb.mono X10.out.size))
  clear hls hrc hP hb
  have hcv : (convert 39 39 (.slice (some ⟨w11.heap.size, 0, none⟩) 2 2)).run Try.prog (w11.alloc (.cells #[.int .u8 97, .int .u8 98] 5)) = .ok (.slice (some ⟨w11.heap.size, 0, none⟩) 2 2) (w11.alloc (.cells #[.int .u8 97, .int .u8 98] 5 (2, 3))) := Lib.run_convert_bytes_const (P := Try.prog) w11 39 5 #[.int .u8 97, .int .u8 98] 2 2 Try.underlying39 Try.underlying5
  go_wp2_with fail
  have hp2 : Pss0 (((w11.alloc (.cells #[.int .u8 97, .int .u8 98] 5 (2, 3))).alloc (.cells #[] 5)).alloc (.cells #[.slice (some ⟨w11.heap.size, 0, none⟩) 2 2, .slice (some ⟨w11.heap.size + 1, 0, none⟩) 0 0] 39)) (.slice (some ⟨w11.heap.size + 1 + 1, 0, none⟩) 2 2) [[97, 98], []] := by
    have hl := lit_bs w11 5 [97, 98] (2, 3) 2 2 rfl (Nat.le_refl 2)
    have hx := heap_alloc_new ((w11.alloc (.cells #[.int .u8 97, .int .u8 98] 5 (2, 3))).alloc (.cells #[] 5)) (.cells #[.slice (some ⟨w11.heap.size, 0, none⟩) 2 2, .slice (some ⟨w11.heap.size + 1, 0, none⟩) 0 0] 39)
    rw [World.size_alloc, World.size_alloc] at hx
    refine pss_two (w11.heap.size + 1 + 1) _ _ [97, 98] [] 39 2 hx ?_ ⟨some ⟨w11.heap.size + 1, 0, none⟩, 0, rfl, ⟨Nat.le_refl _, fun e => by cases e⟩, fun h => by simp at h⟩
    exact (hl.below ((Below.refl _ _).alloc (Nat.le_refl _) _)).below ((Below.refl _ _).alloc (Nat.le_refl _) _)
  have hb12 : Below w11.heap.size w11 (((w11.alloc (.cells #[.int .u8 97, .int .u8 98] 5 (2, 3))).alloc (.cells #[] 5)).alloc (.cells #[.slice (some ⟨w11.heap.size, 0, none⟩) 2 2, .slice (some ⟨w11.heap.size + 1, 0, none⟩) 0 0] 39)) := (((Below.refl _ _).alloc (Nat.le_refl _) _).alloc (by simp) _).alloc (by simp; omega) _
  have X12 := Lib.hid (X11.out.trans (hb12.mono X11.out.size))
  refine (rsame_any v11 _ ([] ++ (([] ++ [[97, 98]]) ++ [[]])) [[97, 98], []] _ (HRC.out.chg (Chg.fresh (F := fun _ => False) hb12) (fun _ _ _ h => h)).pss hp2 (fun p hp => ?_) (fun p hp => ?_) (by decide)).mono ?_
  · simp at hp
    rcases hp with rfl | rfl
    · intro x hx; simp at hx; omega
    · intro x hx; cases hx
  · simp at hp
    rcases hp with rfl | rfl
    · intro x hx; simp at hx; omega
    · intro x hx; cases hx
  rintro e w13 ⟨rfl, hb⟩
  have X13 := Lib.hid (X12.out.trans (hb.mono X12.out.size))
  clear hb hb12 hp2 hcv
  rw [show decide (([] ++ (([] ++ [[97, 98]]) ++ [[]]) : List (List Int)) = [[97, 98], []]) = true from by decide]
  go_wp2_with fail
  go_ret
  exact ⟨rfl, X13.out⟩
end Go.Proofs.Ytaibminomehppaa
