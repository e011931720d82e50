import Derived.Test.YtaibminomehppaaLdoM
import Derived.WalkKit
import Derived.ProofKit
import Derived.BigQuiet
import Derived.Deep.QuietTactic
import Derived.WalkSpells
import Derived.WalkLawsBesides
import Derived.Lib.Hide
import Derived.Deep.MidRow
import Derived.Deep.RegionLaw
import Derived.BigRegion
import Derived.Laws.AppendOwnNone
import Derived.Deep.DeepMust
import Derived.Deep.AppendLies
import Derived.RegionTactic
import Derived.Deep.WholeRow
import Derived.BigFrame
import Derived.Deep.RegionWith
import Derived.Deep.RegionHeld3
import Derived.Maps.RangeWalk
import Derived.Laws.CopyOwn
import Derived.StillTailTactics
namespace Go.Proofs.Ytaibminomehppaa
open Go.RowKit
open Go.RowKit
theorem DP.fresh {w w1 : World} {B Z D R nb M gf fcap : Nat} {rm : Int} {s : DS} {lv rv lp mp : Value} (h : DP w B Z D R nb M gf fcap rm s lv rv lp mp) (hb : Below w.heap.size w w1) : DP w1 B Z D R nb M gf fcap rm s lv rv lp mp :=
  { h with dk := Dk.chg h.dk (Chg.fresh (F := fun _ => False) hb) (fun _ _ h => h), rd := h.rd.fresh hb, p := h.p.fresh hb }
theorem DP.formats {w w1 w2 : World} {B Z D R nb M gf fcap : Nat} {rm : Int} {s s' : DS} {lv rv lp mp lv' rv' : Value} (h : DP w B Z D R nb M gf fcap rm s lv rv lp mp) (hd : DkS w1 B D M nb rm s' lv') (hc : Chg (Foot D M lv) w w1) (hf : ∀ k, Foot D M lv' k → Foot D M lv k ∨ w.heap.size ≤ k)
    (hr : RD w2 B R gf nb fcap rm s' rv') (hcr : Chg (RFoot R gf rv) w1 w2) (hfr : ∀ k, RFoot R gf rv' k → RFoot R gf rv k ∨ w1.heap.size ≤ k) : DP w2 B Z D R nb M gf fcap rm s' lv' rv' lp mp := by
  have hx : ∀ k, Foot D M lv' k → ¬ RFoot R gf rv k := fun k hk e => (hf k hk).elim (fun h' => h.ap k h' e) (fun h' => by have := (h.rd.foot k e).2; omega)
  refine { dk := Dk.chg hd hcr hx, rd := hr, ap := fun k hk e => (hfr k e).elim (hx k hk) (fun h' => by have := (hd.foot k hk).2; omega), p := (h.p.chg hc h.zl).chg hcr h.zq, zl := fun e => (hf Z e).elim h.zl (fun h' => by have := h.p.lt; omega), zq := fun e => (hfr Z e).elim h.zq (fun h' => by have := h.p.lt; have := hc.size; omega), base := h.base }
theorem both_newL {w1 w2 w3 : World} {B nb : Nat} (hB : B ≤ w1.heap.size) (hdk : Dk w2 w1.heap.size (w1.heap.size + 1) w1.heap.size nb nb (-1) false (fun _ => zeros 256) [] (.slice none 0 0)) (hb2 : Below w1.heap.size w1 w2)
    (hd : RefIs w3 (w2.heap.size + 1) (RC (.slice (some ⟨w2.heap.size, 0, none⟩) nb nb) (.slice none 0 0) (nb : Int) (-1) false)) (hk : BkC w3 w2.heap.size w2.heap.size (.slice (some ⟨w2.heap.size, 0, none⟩) nb nb) (List.replicate nb (zeros 256))) (hb3 : Below w2.heap.size w2 w3) :
    Both w3 B (w1.heap.size + 1) w1.heap.size (w2.heap.size + 1) w2.heap.size nb nb nb (-1) false (fun _ => zeros 256) [] (.slice none 0 0) (.slice none 0 0) (List.replicate nb (zeros 256)) [] := by
  have hs := hb2.size
  refine ⟨(hdk.lower hB).chg (Chg.fresh (F := fun _ => False) hb3) (fun _ _ h => h), ⟨hd, hk.lower (by omega), World.ownsRow_nil _ _ _ _, (fun x hx => by cases hx), (fun x hx => by cases hx), by omega, (fun k hk => by cases hk), by omega, ⟨by omega, by omega⟩, List.length_replicate⟩, ⟨rfl, ⟨List.length_replicate, fun n hn => ?_⟩, Told.nil _, fun x hx => by cases hx⟩, fun k hk e => ?_⟩
  · rw [List.getElem?_replicate, if_pos hn]; rfl
  · have h1 := (hdk.foot k hk).2
    rcases e with e | e | e
    · omega
    · omega
    · cases e
structure SX where
  xk : Int
  xn : Int
  bv : Value
  kv : Value
  m : List Int
  ks : List Bool
/-- the law's steps -/
def StpIs (w : World) (v : Value) (xs : List SX) : Prop :=
  ∃ a cap, v = .slice a xs.length cap ∧ (0 < xs.length → ∃ b off, a = some ⟨b, off, none⟩ ∧ b < w.heap.size ∧ ∀ i x, xs[i]? = some x → w.cell? ⟨b, off + i * 4, none⟩ = some (.int .i64 x.xk) ∧ w.cell? ⟨b, off + i * 4 + 1, none⟩ = some (.int .i64 x.xn) ∧ w.cell? ⟨b, off + i * 4 + 2, none⟩ = some x.bv ∧ w.cell? ⟨b, off + i * 4 + 3, none⟩ = some x.kv ∧
    BsI w 0 w.heap.size x.bv x.m ∧ Rng x.m ∧ x.m.length ≤ 16777216 ∧ BlI w w.heap.size x.kv x.ks ∧ x.ks.length ≤ 1048576 ∧ x.xn ≤ 9223372036854775807)
theorem PS.pr {w : World} {B Z D R nb : Nat} {fi sz rm : Int} {s : DS} {a b c : Nat} {rs pe : List (List Int)} (h : PS w B Z D R nb fi sz rm s a b c rs pe) : ∃ P Q, PrIs w Z D R (.pointer (some ⟨P, 0, none⟩)) (.pointer (some ⟨Q, 0, none⟩)) := by
  obtain ⟨_, _, _, _, _, P, Q, _, _, _, hp⟩ := h
  exact ⟨P, Q, hp.p⟩
theorem PS.fresh {w w1 : World} {B Z D R nb : Nat} {fi sz rm : Int} {s : DS} {a b c : Nat} {rs pe : List (List Int)} (h : PS w B Z D R nb fi sz rm s a b c rs pe) (hb : Below w.heap.size w w1) : PS w1 B Z D R nb fi sz rm s a b c rs pe := by
  obtain ⟨x1, x2, x3, x4, x5, P, Q, x8, x9, x10, hp⟩ := h
  exact ⟨x1, x2, x3, x4, x5, P, Q, x8, x9, x10, hp.fresh hb⟩
theorem PS.same {w : World} {B Z D R nb : Nat} {fi sz rm : Int} {s : DS} {a b c : Nat} {rs pe : List (List Int)} (h : PS w B Z D R nb fi sz rm s a b c rs pe) (hn : nb ≤ 4096) :
    Calls Try.prog 10 #[.pointer (some ⟨Z, 0, none⟩)] w fun e w' => e = .returned (.bool true) ∧ Below w.heap.size w w' := by
  obtain ⟨x1, x2, x3, x4, x5, P, Q, x8, x9, x10, hp⟩ := h
  exact same_any B Z D x1 R x2 nb x3 rm s x4 x5 _ _ w hp.dp.dk hp.dp.rd hp.dp.p hn
section
variable {w w1 : World} {B Z D R nb : Nat} {fi sz : Int} {a b : Nat}
theorem CalmP.pr (h : CalmP w B Z D R nb fi sz a b) : ∃ P Q, PrIs w Z D R (.pointer (some ⟨P, 0, none⟩)) (.pointer (some ⟨Q, 0, none⟩)) := by
  obtain ⟨_, _, _, _, _, _, _, hp, _⟩ := h; exact hp.pr
theorem DownP.pr (h : DownP w B Z D R nb fi sz a b) : ∃ P Q, PrIs w Z D R (.pointer (some ⟨P, 0, none⟩)) (.pointer (some ⟨Q, 0, none⟩)) := by
  obtain ⟨_, _, _, _, _, _, _, hp, _⟩ := h; exact hp.pr
theorem CalmP.fresh (h : CalmP w B Z D R nb fi sz a b) (hb : Below w.heap.size w w1) : CalmP w1 B Z D R nb fi sz a b := by
  obtain ⟨rm, s, a', b', c', rs, pe, hp, h⟩ := h; exact ⟨rm, s, a', b', c', rs, pe, hp.fresh hb, h⟩
theorem DownP.fresh (h : DownP w B Z D R nb fi sz a b) (hb : Below w.heap.size w w1) : DownP w1 B Z D R nb fi sz a b := by
  obtain ⟨rm, s, a', b', c', rs, pe, hp, h⟩ := h; exact ⟨rm, s, a', b', c', rs, pe, hp.fresh hb, h⟩
theorem CalmP.same (h : CalmP w B Z D R nb fi sz a b) (hn : nb ≤ 4096) :
    Calls Try.prog 10 #[.pointer (some ⟨Z, 0, none⟩)] w fun e w' => e = .returned (.bool true) ∧ Below w.heap.size w w' := by
  obtain ⟨rm, s, a', b', c', rs, pe, hp, h⟩ := h; exact hp.same hn
theorem DownP.same (h : DownP w B Z D R nb fi sz a b) (hn : nb ≤ 4096) :
    Calls Try.prog 10 #[.pointer (some ⟨Z, 0, none⟩)] w fun e w' => e = .returned (.bool true) ∧ Below w.heap.size w w' := by
  obtain ⟨rm, s, a', b', c', rs, pe, hp, h⟩ := h; exact hp.same hn
theorem CalmP.down (h : CalmP w B Z D R nb fi sz a b) :
    Calls Try.prog 13 #[.pointer (some ⟨D, 0, none⟩)] w fun e w' => w = w' ∧ e = .returned (.bool false) := by
  obtain ⟨rm, s, a', b', c', rs, pe, ⟨x1, x2, x3, x4, x5, P, Q, x8, x9, x10, hp⟩, hdn, _⟩ := h
  have := down_any D nb rm s.fz s.dn _ x4 w hp.l.dk.1
  rw [hdn] at this
  exact this
end
set_option maxRecDepth 100000 in
set_option maxHeartbeats 16000000 in
theorem ldoes_walk (n fi sz : Int) (v : Value) (xs : List SX) (w : World) (hv : StpIs w v xs) (hl : xs.length ≤ 1048576) (hfi : -9223372036854775808 ≤ fi ∧ fi ≤ 9223372036854775807) (hsz : -9223372036854775808 ≤ sz ∧ sz ≤ 9223372036854775807) :
    Calls Try.prog 3 #[.int .i64 n, .int .i64 fi, .int .i64 sz, v] w fun e w' => e = .returned (.bool true) ∧ Below w.heap.size w w' := by
  have HV := Lib.hid hv
  obtain ⟨sa, sc, hv1, hv2⟩ := hv
  subst hv1
  have HV2 := Lib.hid hv2
  have HFI := Lib.hid hfi
  have HSZ := Lib.hid hsz
  have HXL := Lib.hid hl
  clear hv2 hfi hsz
  go_enter Try.func3, Try.ntmps3
  go_wp2_with fail
  refine (lfixed_any w).mono ?_
  rintro e w1 ⟨rfl, hb⟩
  have B1 := Lib.hid hb
  clear hb
  go_wp2_with fail
  by_cases hn : n < 1 ∨ 4096 < n
  · refine (new_nil n w1 hn).mono ?_
    rintro e w' ⟨rfl, rfl⟩
    go_wp2_with fail
    refine (rnew_nil n w1 hn).mono ?_
    rintro e w' ⟨rfl, rfl⟩
    go_wp2_with fail
    go_ret
    exact ⟨rfl, B1.out.alloc B1.out.size _⟩
  obtain ⟨nb, rfl⟩ : ∃ nb : Nat, n = (nb : Int) := ⟨n.toNat, by omega⟩
  have HN := Lib.hid (show 1 ≤ nb ∧ nb ≤ 4096 by omega)
  clear hn
  refine (new_dk (nb : Int) w1 (by have := HN.out; omega) (by have := HN.out; omega)).mono ?_
  rintro e w2 ⟨rfl, hdk, hb⟩
  have DK2 := Lib.hid hdk
  have X2 := Lib.hid hb
  clear hdk hb
  go_wp2_with fail
  refine (rnew_any nb w2 HN.out.1 HN.out.2).mono ?_
  rintro e w3 ⟨rfl, hd, hk, hb⟩
  have HB3 := Lib.hid (both_newL B1.out.size DK2.out X2.out hd hk hb)
  have B3 := Lib.hid ((B1.out.trans (X2.out.mono B1.out.size)).trans (hb.mono (by have := B1.out.size; have := X2.out.size; omega)))
  clear hd hk hb DK2 X2
  generalize w1.heap.size + 1 = D at *
  generalize w1.heap.size = M at *
  generalize w2.heap.size + 1 = R at *
  generalize w2.heap.size = gf at *
  have hbx : Below w3.heap.size w3 (w3.alloc (.cells #[.pointer (some ⟨D, 0, none⟩), .pointer (some ⟨R, 0, none⟩), .pointer none, .pointer none] 32)) := (Below.refl _ _).alloc (Nat.le_refl _) _
  have hpx : PrIs (w3.alloc (.cells #[.pointer (some ⟨D, 0, none⟩), .pointer (some ⟨R, 0, none⟩), .pointer none, .pointer none] 32)) w3.heap.size D R (.pointer none) (.pointer none) := heap_alloc_new _ _
  have h4 := HB3.out.fresh hbx
  have DP4 := Lib.hid (show DP (w3.alloc (.cells #[.pointer (some ⟨D, 0, none⟩), .pointer (some ⟨R, 0, none⟩), .pointer none, .pointer none] 32)) w.heap.size w3.heap.size D R nb M gf nb nb ⟨-1, false, fun _ => zeros 256, []⟩ (.slice none 0 0) (.slice none 0 0) (.pointer none) (.pointer none) from
    ⟨h4.1, ⟨_, _, h4.2.1, h4.2.2.1, by simp⟩, h4.2.2.2, hpx, fun e => by have := (HB3.out.1.foot _ e).2; omega, fun e => by have := (HB3.out.2.1.foot _ e).2; omega, B3.out.size⟩)
  have B4 := Lib.hid (B3.out.trans (hbx.mono B3.out.size))
  clear hbx hpx h4 HB3
  go_wp2_with fail
  generalize w3.alloc (.cells #[.pointer (some ⟨D, 0, none⟩), .pointer (some ⟨R, 0, none⟩), .pointer none, .pointer none] 32) = w4 at *
  generalize w3.heap.size = Z at *
  obtain ⟨fcap, hfc⟩ : ∃ fcap, fcap = nb := ⟨_, rfl⟩
  have DP4 := Lib.hid (show DP w4 w.heap.size Z D R nb M gf fcap nb ⟨-1, false, fun _ => zeros 256, []⟩ (.slice none 0 0) (.slice none 0 0) (.pointer none) (.pointer none) from by rw [hfc]; exact DP4.out)
  clear hfc
  have SS := Lib.hid (And.intro (DP4.out.p.cell 0) (DP4.out.p.cell 1))
  have DPD := Lib.hid (DP4.out.fresh (show Below w4.heap.size w4 w4.drew from (Below.refl _ _).drew))
  have BW4 := Lib.hid (show Below w.heap.size w w4.drew from B4.out.drew)
  by_cases hok : 0 ≤ fi ∧ 3 ≤ sz ∧ sz ≤ nb ∧ fi ≤ nb - sz
  · obtain ⟨h1, h2, h2b, h3⟩ := hok
    have HG := Lib.hid (show Good nb nb (-1) (fputs (fun _ => zeros 256) (fw fi)) fi sz 1 1 0 [] [] from good_format (fun _ => zeros_rng _) (fun _ => by rw [zeros, List.length_replicate]) h1 h2 h3 (by have := HN.out; omega))
    have hfm := format_yes w.heap.size D M nb nb fi sz ⟨-1, false, fun _ => zeros 256, []⟩ (.slice none 0 0) w4.drew DPD.out.dk h1 h2 h3 (by have := HN.out; omega) (by simp)
    have hrfm := fun u (h : RD u w.heap.size R gf nb fcap nb ⟨-1, false, fun _ => zeros 256, []⟩ (.slice none 0 0)) => rformat_any w.heap.size R gf nb fcap nb fi sz ⟨-1, false, fun _ => zeros 256, []⟩ (.slice none 0 0) u h h1 h2 h3 HN.out.2 (by simp)
    rw [format_both h1 h2 h3] at hfm hrfm
    have HFM := Lib.hid hfm
    have HRFM := Lib.hid hrfm
    clear hfm hrfm h1 h2 h2b h3
    refine wp_region_held_drew (S := fun u => u.cell? ⟨Z, 0, none⟩ = some (.pointer (some ⟨D, 0, none⟩)) ∧ u.cell? ⟨Z, 1, none⟩ = some (.pointer (some ⟨R, 0, none⟩))) (by kernel_rfl) (SS.out) (fun hHeld => ?_)
    refine wpAnyH_take (i := 0) (oi := ({ dst := some 47, op := Op.move (Operand.tmp 9), type := 24, pos := "law.go:108", after := #[], guard := none } : Oper)) (v := ?_) rfl (by kernel_rfl) (by kernel_rfl) (by kernel_rfl) (fun _ _ _ h => h) (Or.inl ⟨by rfl, ?_⟩) (by assumption) ?_
    rotate_left 1
    · (intro u hSw; go_simp; try with_reducible rfl)
    try simp only [Act.put, List.setIfInBounds_toArray, List.set_cons_zero, List.set_cons_succ]
    refine wpAnyH_take (i := 1) (oi := ({ dst := some 48, op := Op.nilCheck (Operand.tmp 47), type := 0, pos := "law.go:108", after := #[{ on := 0, ground := Ground.data }], guard := none } : Oper)) (v := ?_) rfl (by kernel_rfl) (by kernel_rfl) (by kernel_rfl) (fun _ _ _ h => h) (Or.inl ⟨by rfl, ?_⟩) (by assumption) ?_
    rotate_left 1
    · (intro u hSw; go_simp; try with_reducible rfl)
    try simp only [Act.put, List.setIfInBounds_toArray, List.set_cons_zero, List.set_cons_succ]
    refine wpAnyH_take (i := 2) (oi := ({ dst := some 49, op := Op.fieldAddr 32 (Operand.tmp 48) 0, type := 0, pos := "law.go:108", after := #[{ on := 1, ground := Ground.data }], guard := none } : Oper)) (v := ?_) rfl (by kernel_rfl) (by kernel_rfl) (by kernel_rfl) (fun _ _ _ h => h) (Or.inl ⟨by rfl, ?_⟩) (by assumption) ?_
    rotate_left 1
    · (intro u hSw; go_simp; try with_reducible rfl)
    try simp only [Act.put, List.setIfInBounds_toArray, List.set_cons_zero, List.set_cons_succ]
    refine wpAnyH_take (i := 3) (oi := ({ dst := some 50, op := Op.load 25 (Operand.tmp 49), type := 25, pos := "law.go:108", after := #[{ on := 2, ground := Ground.data }], guard := none } : Oper)) (v := ?_) rfl (by kernel_rfl) (by kernel_rfl) (by kernel_rfl) (fun _ _ _ h => h) (Or.inl ⟨by rfl, ?_⟩) (by assumption) ?_
    rotate_left 1
    · intro u hSw
      have h := hSw.1
      go_simp
      try with_reducible rfl
    try simp only [Act.put, List.setIfInBounds_toArray, List.set_cons_zero, List.set_cons_succ]
    refine wpAnyH_take (i := 4) (oi := ({ dst := some 51, op := Op.move (Operand.tmp 1), type := 3, pos := "law.go:108", after := #[], guard := none } : Oper)) (v := ?_) rfl (by kernel_rfl) (by kernel_rfl) (by kernel_rfl) (fun _ _ _ h => h) (Or.inl ⟨by rfl, ?_⟩) (by assumption) ?_
    rotate_left 1
    · (intro u hSw; go_simp; try with_reducible rfl)
    try simp only [Act.put, List.setIfInBounds_toArray, List.set_cons_zero, List.set_cons_succ]
    refine wpAnyH_take (i := 5) (oi := ({ dst := some 52, op := Op.move (Operand.tmp 2), type := 3, pos := "law.go:108", after := #[], guard := none } : Oper)) (v := ?_) rfl (by kernel_rfl) (by kernel_rfl) (by kernel_rfl) (fun _ _ _ h => h) (Or.inl ⟨by rfl, ?_⟩) (by assumption) ?_
    rotate_left 1
    · (intro u hSw; go_simp; try with_reducible rfl)
    try simp only [Act.put, List.setIfInBounds_toArray, List.set_cons_zero, List.set_cons_succ]
    refine wpAnyH_take (i := 7) (oi := ({ dst := some 54, op := Op.move (Operand.tmp 9), type := 24, pos := "law.go:108", after := #[], guard := none } : Oper)) (v := ?_) rfl (by kernel_rfl) (by kernel_rfl) (by kernel_rfl) (fun _ _ _ h => h) (Or.inl ⟨by rfl, ?_⟩) (by assumption) ?_
    rotate_left 1
    · (intro u hSw; go_simp; try with_reducible rfl)
    try simp only [Act.put, List.setIfInBounds_toArray, List.set_cons_zero, List.set_cons_succ]
    refine wpAnyH_take (i := 8) (oi := ({ dst := some 55, op := Op.nilCheck (Operand.tmp 54), type := 0, pos := "law.go:108", after := #[{ on := 7, ground := Ground.data }], guard := none } : Oper)) (v := ?_) rfl (by kernel_rfl) (by kernel_rfl) (by kernel_rfl) (fun _ _ _ h => h) (Or.inl ⟨by rfl, ?_⟩) (by assumption) ?_
    rotate_left 1
    · (intro u hSw; go_simp; try with_reducible rfl)
    try simp only [Act.put, List.setIfInBounds_toArray, List.set_cons_zero, List.set_cons_succ]
    refine wpAnyH_take (i := 9) (oi := ({ dst := some 56, op := Op.fieldAddr 32 (Operand.tmp 55) 1, type := 0, pos := "law.go:108", after := #[{ on := 8, ground := Ground.data }], guard := none } : Oper)) (v := ?_) rfl (by kernel_rfl) (by kernel_rfl) (by kernel_rfl) (fun _ _ _ h => h) (Or.inl ⟨by rfl, ?_⟩) (by assumption) ?_
    rotate_left 1
    · (intro u hSw; go_simp; try with_reducible rfl)
    try simp only [Act.put, List.setIfInBounds_toArray, List.set_cons_zero, List.set_cons_succ]
    refine wpAnyH_take (i := 10) (oi := ({ dst := some 57, op := Op.load 27 (Operand.tmp 56), type := 27, pos := "law.go:108", after := #[{ on := 9, ground := Ground.data }], guard := none } : Oper)) (v := ?_) rfl (by kernel_rfl) (by kernel_rfl) (by kernel_rfl) (fun _ _ _ h => h) (Or.inl ⟨by rfl, ?_⟩) (by assumption) ?_
    rotate_left 1
    · intro u hSw
      have h := hSw.2
      go_simp
      try with_reducible rfl
    try simp only [Act.put, List.setIfInBounds_toArray, List.set_cons_zero, List.set_cons_succ]
    refine wpAnyH_take (i := 11) (oi := ({ dst := some 58, op := Op.move (Operand.tmp 1), type := 3, pos := "law.go:108", after := #[], guard := none } : Oper)) (v := ?_) rfl (by kernel_rfl) (by kernel_rfl) (by kernel_rfl) (fun _ _ _ h => h) (Or.inl ⟨by rfl, ?_⟩) (by assumption) ?_
    rotate_left 1
    · (intro u hSw; go_simp; try with_reducible rfl)
    try simp only [Act.put, List.setIfInBounds_toArray, List.set_cons_zero, List.set_cons_succ]
    refine wpAnyH_take (i := 12) (oi := ({ dst := some 59, op := Op.move (Operand.tmp 2), type := 3, pos := "law.go:108", after := #[], guard := none } : Oper)) (v := ?_) rfl (by kernel_rfl) (by kernel_rfl) (by kernel_rfl) (fun _ _ _ h => h) (Or.inl ⟨by rfl, ?_⟩) (by assumption) ?_
    rotate_left 1
    · (intro u hSw; go_simp; try with_reducible rfl)
    try simp only [Act.put, List.setIfInBounds_toArray, List.set_cons_zero, List.set_cons_succ]
    refine wpAnyH_ready (rs := [6]) (by kernel_rfl) (by simp) ?_
    refine AllReadyH.cons (o := ({ dst := some 53, op := Op.call { callee := Callee.value (Operand.func 8), args := #[Operand.tmp 50, Operand.tmp 51, Operand.tmp 52], argTypes := #[25, 3, 3] }, type := 33, pos := "law.go:108", after := #[{ on := 3, ground := Ground.data }, { on := 4, ground := Ground.data }, { on := 5, ground := Ground.data }], guard := none } : Oper)) rfl (fun K hK => ?_) AllReadyH.nil
    go_simp
    go_at_call 8
    refine (HFM.out).mono ?_
    rintro e w5 ⟨rfl, lv5, hd5, hc5, hf5⟩
    have HD5 := Lib.hid hd5
    have HC5 := Lib.hid hc5
    have HF5 := Lib.hid hf5
    have HP5 := Lib.hid (DPD.out.p.chg hc5 DPD.out.zl)
    have HR5 := Lib.hid (DPD.out.rd.chg hc5 (fun k hk e => DPD.out.ap k e hk))
    have BW5 := Lib.hid (BW4.out.trans (hc5.below (fun k hk => (DPD.out.dk.foot k hk).1) BW4.out.size))
    have S5 := Lib.hid (And.intro (HP5.out.cell 0) (HP5.out.cell 1))
    clear hd5 hc5 hf5
    go_wp2_with fail
    refine hK.out _ _ S5.out (fun hHeld => ?_)
    clear hK K
    try simp only [Act.put, List.setIfInBounds_toArray, List.set_cons_zero, List.set_cons_succ]
    refine wpAnyH_ready (rs := [13]) (by kernel_rfl) (by simp) ?_
    refine AllReadyH.cons (o := ({ dst := some 60, op := Op.call { callee := Callee.value (Operand.func 9), args := #[Operand.tmp 57, Operand.tmp 58, Operand.tmp 59], argTypes := #[27, 3, 3] }, type := 33, pos := "law.go:108", after := #[{ on := 10, ground := Ground.data }, { on := 11, ground := Ground.data }, { on := 12, ground := Ground.data }, { on := 6, ground := Ground.chain }], guard := none } : Oper)) rfl (fun K hK => ?_) AllReadyH.nil
    go_simp
    go_at_call 9
    refine (HRFM.out w5 HR5.out).mono ?_
    rintro e w6 ⟨rfl, rv6, hd6, hc6, hf6⟩
    have DP6 := Lib.hid (DP.formats DPD.out HD5.out HC5.out HF5.out hd6 hc6 hf6)
    have BW6 := Lib.hid (BW5.out.trans (hc6.below (fun k hk => (HR5.out.foot k hk).1) BW5.out.size))
    have S6 := Lib.hid (And.intro (DP6.out.p.cell 0) (DP6.out.p.cell 1))
    clear hd6 hc6 hf6
    go_wp2_with fail
    refine hK.out _ _ S6.out (fun hHeld => ?_)
    clear hK K
    try simp only [Act.put, List.setIfInBounds_toArray, List.set_cons_zero, List.set_cons_succ]
    refine wpAnyH_take (i := 14) (oi := ({ dst := some 61, op := Op.binOp BinOp.neq 33 (Operand.tmp 53) (Operand.tmp 60) 33, type := 4, pos := "law.go:108", after := #[{ on := 6, ground := Ground.data }, { on := 13, ground := Ground.data }], guard := none } : Oper)) (v := ?_) rfl (by kernel_rfl) (by kernel_rfl) (by kernel_rfl) (fun _ _ _ h => h) (Or.inl ⟨by rfl, ?_⟩) (by assumption) ?_
    rotate_left 1
    · (intro u hSw; go_simp; try with_reducible rfl)
    try simp only [Act.put, List.setIfInBounds_toArray, List.set_cons_zero, List.set_cons_succ]
    refine wpAnyH_take (i := 15) (oi := ({ dst := some 62, op := Op.move (Operand.tmp 61), type := 4, pos := "law.go:108", after := #[{ on := 14, ground := Ground.data }, { on := 13, ground := Ground.chain }], guard := none } : Oper)) (v := (.bool false)) rfl (by kernel_rfl) (by kernel_rfl) (by kernel_rfl) (fun _ _ _ h => h) (Or.inl ⟨by rfl, ?_⟩) (by assumption) ?_
    · (intro u hSw; go_simp; try with_reducible rfl)
    try simp only [Act.put, List.setIfInBounds_toArray, List.set_cons_zero, List.set_cons_succ]
    refine wpAnyH_take (i := 16) (oi := ({ dst := some 63, op := Op.move (Operand.tmp 9), type := 24, pos := "law.go:108", after := #[{ on := 15, ground := Ground.guard }], guard := some (15, false) } : Oper)) (v := ?_) rfl (by kernel_rfl) (by kernel_rfl) (by kernel_rfl) (fun _ _ _ h => h) (Or.inl ⟨by rfl, ?_⟩) (by assumption) ?_
    rotate_left 1
    · (intro u hSw; go_simp; try with_reducible rfl)
    try simp only [Act.put, List.setIfInBounds_toArray, List.set_cons_zero, List.set_cons_succ]
    refine wpAnyH_ready (rs := [17]) (by kernel_rfl) (by simp) ?_
    refine AllReadyH.cons (o := ({ dst := some 64, op := Op.call { callee := Callee.value (Operand.func 10), args := #[Operand.tmp 63], argTypes := #[24] }, type := 4, pos := "law.go:108", after := #[{ on := 16, ground := Ground.data }, { on := 15, ground := Ground.chain }, { on := 15, ground := Ground.guard }], guard := some (15, false) } : Oper)) rfl (fun K hK => ?_) AllReadyH.nil
    go_simp
    go_at_call 10
    refine (same_any w.heap.size Z D M R gf nb fcap nb _ _ _ _ _ w6 DP6.out.dk DP6.out.rd DP6.out.p HN.out.2).mono ?_
    rintro e w7 ⟨rfl, hb⟩
    have DP7 := Lib.hid (DP6.out.fresh hb)
    have BW7 := Lib.hid (BW6.out.trans (hb.mono BW6.out.size))
    have S7 := Lib.hid (And.intro (DP7.out.p.cell 0) (DP7.out.p.cell 1))
    clear hb
    go_wp2_with fail
    refine hK.out _ _ S7.out (fun hHeld => ?_)
    clear hK K
    try simp only [Act.put, List.setIfInBounds_toArray, List.set_cons_zero, List.set_cons_succ]
    refine wpAnyH_take (i := 18) (oi := ({ dst := some 65, op := Op.unOp UnOp.not 4 (Operand.tmp 64), type := 4, pos := "law.go:108", after := #[{ on := 17, ground := Ground.data }, { on := 15, ground := Ground.guard }], guard := some (15, false) } : Oper)) (v := ?_) rfl (by kernel_rfl) (by kernel_rfl) (by kernel_rfl) (fun _ _ _ h => h) (Or.inl ⟨by rfl, ?_⟩) (by assumption) ?_
    rotate_left 1
    · (intro u hSw; go_simp; try with_reducible rfl)
    try simp only [Act.put, List.setIfInBounds_toArray, List.set_cons_zero, List.set_cons_succ]
    refine wpAnyH_take (i := 19) (oi := ({ dst := some 66, op := Op.pick (Operand.tmp 62) (Operand.const (Value.bool true)) (Operand.tmp 65), type := 4, pos := "law.go:108", after := #[{ on := 15, ground := Ground.data }, { on := 18, ground := Ground.data }], guard := none } : Oper)) (v := ?_) rfl (by kernel_rfl) (by kernel_rfl) (by kernel_rfl) (fun _ _ _ h => h) (Or.inl ⟨by rfl, ?_⟩) (by assumption) ?_
    rotate_left 1
    · (intro u hSw; go_simp; try with_reducible rfl)
    try simp only [Act.put, List.setIfInBounds_toArray, List.set_cons_zero, List.set_cons_succ]
    refine wpAnyH_take (i := 20) (oi := ({ dst := some 67, op := Op.move (Operand.tmp 66), type := 4, pos := "law.go:108", after := #[{ on := 19, ground := Ground.data }, { on := 17, ground := Ground.chain }], guard := none } : Oper)) (v := (.bool false)) rfl (by kernel_rfl) (by kernel_rfl) (by kernel_rfl) (fun _ _ _ h => h) (Or.inl ⟨by rfl, ?_⟩) (by assumption) ?_
    · (intro u hSw; go_simp; try with_reducible rfl)
    try simp only [Act.put, List.setIfInBounds_toArray, List.set_cons_zero, List.set_cons_succ]
    refine wpAnyH_take (i := 21) (oi := ({ dst := some 68, op := Op.move (Operand.tmp 9), type := 24, pos := "law.go:108", after := #[{ on := 20, ground := Ground.guard }], guard := some (20, false) } : Oper)) (v := ?_) rfl (by kernel_rfl) (by kernel_rfl) (by kernel_rfl) (fun _ _ _ h => h) (Or.inl ⟨by rfl, ?_⟩) (by assumption) ?_
    rotate_left 1
    · (intro u hSw; go_simp; try with_reducible rfl)
    try simp only [Act.put, List.setIfInBounds_toArray, List.set_cons_zero, List.set_cons_succ]
    refine wpAnyH_take (i := 22) (oi := ({ dst := some 69, op := Op.move (Operand.tmp 1), type := 3, pos := "law.go:108", after := #[{ on := 20, ground := Ground.guard }], guard := some (20, false) } : Oper)) (v := ?_) rfl (by kernel_rfl) (by kernel_rfl) (by kernel_rfl) (fun _ _ _ h => h) (Or.inl ⟨by rfl, ?_⟩) (by assumption) ?_
    rotate_left 1
    · (intro u hSw; go_simp; try with_reducible rfl)
    try simp only [Act.put, List.setIfInBounds_toArray, List.set_cons_zero, List.set_cons_succ]
    refine wpAnyH_take (i := 23) (oi := ({ dst := some 70, op := Op.move (Operand.tmp 2), type := 3, pos := "law.go:108", after := #[{ on := 20, ground := Ground.guard }], guard := some (20, false) } : Oper)) (v := ?_) rfl (by kernel_rfl) (by kernel_rfl) (by kernel_rfl) (fun _ _ _ h => h) (Or.inl ⟨by rfl, ?_⟩) (by assumption) ?_
    rotate_left 1
    · (intro u hSw; go_simp; try with_reducible rfl)
    try simp only [Act.put, List.setIfInBounds_toArray, List.set_cons_zero, List.set_cons_succ]
    refine wpAnyH_ready (rs := [24]) (by kernel_rfl) (by simp) ?_
    refine AllReadyH.cons (o := ({ dst := some 71, op := Op.call { callee := Callee.value (Operand.func 11), args := #[Operand.tmp 68, Operand.tmp 69, Operand.tmp 70], argTypes := #[24, 3, 3] }, type := 4, pos := "law.go:108", after := #[{ on := 21, ground := Ground.data }, { on := 22, ground := Ground.data }, { on := 23, ground := Ground.data }, { on := 20, ground := Ground.chain }, { on := 20, ground := Ground.guard }], guard := some (20, false) } : Oper)) rfl (fun K hK => ?_) AllReadyH.nil
    go_simp
    go_at_call 11
    refine (popen_any w.heap.size Z D R nb M gf fcap nb fi sz _ _ _ _ _ 1 1 0 [] [] w7 DP7.out HG.out rfl).mono ?_
    rintro e w8 ⟨rfl, hps, hb⟩
    have PS8 := Lib.hid hps
    have BW8 := Lib.hid (BW7.out.trans hb)
    obtain ⟨lp8, mp8, hp8⟩ := hps.pr
    have S8 := Lib.hid (And.intro (hp8.cell 0) (hp8.cell 1))
    clear hps hb hp8
    go_wp2_with fail
    refine hK.out _ _ S8.out (fun hHeld => ?_)
    clear hK K
    try simp only [Act.put, List.setIfInBounds_toArray, List.set_cons_zero, List.set_cons_succ]
    refine wpAnyH_take (i := 25) (oi := ({ dst := some 72, op := Op.unOp UnOp.not 4 (Operand.tmp 71), type := 4, pos := "law.go:108", after := #[{ on := 24, ground := Ground.data }, { on := 20, ground := Ground.guard }], guard := some (20, false) } : Oper)) (v := ?_) rfl (by kernel_rfl) (by kernel_rfl) (by kernel_rfl) (fun _ _ _ h => h) (Or.inl ⟨by rfl, ?_⟩) (by assumption) ?_
    rotate_left 1
    · (intro u hSw; go_simp; try with_reducible rfl)
    try simp only [Act.put, List.setIfInBounds_toArray, List.set_cons_zero, List.set_cons_succ]
    refine wpAnyH_take (i := 26) (oi := ({ dst := some 73, op := Op.pick (Operand.tmp 67) (Operand.const (Value.bool true)) (Operand.tmp 72), type := 4, pos := "law.go:108", after := #[{ on := 20, ground := Ground.data }, { on := 25, ground := Ground.data }], guard := none } : Oper)) (v := ?_) rfl (by kernel_rfl) (by kernel_rfl) (by kernel_rfl) (fun _ _ _ h => h) (Or.inl ⟨by rfl, ?_⟩) (by assumption) ?_
    rotate_left 1
    · (intro u hSw; go_simp; try with_reducible rfl)
    try simp only [Act.put, List.setIfInBounds_toArray, List.set_cons_zero, List.set_cons_succ]
    refine wpAnyH_done (by kernel_rfl) ?_ _
    have CP8 := Lib.hid (show CalmP w8 w.heap.size Z D R nb fi sz 1 1 from ⟨_, _, 1, 1, 0, [], [], PS8.out, rfl, rfl, HG.out, Nat.le_refl _, Nat.le_refl _⟩)
    clear HFM HRFM DP4 DPD SS BW4 B4 B3 B1 HV
    go_wp2_with fail
    go_loopw [10] (fun iv wr => ∃ i : Nat, i ≤ xs.length ∧ iv = .int .i64 (i : Int) ∧ CalmP wr w.heap.size Z D R nb fi sz (i + 1) (i + 1) ∧ Below w.heap.size w wr) (fun iv _ => xs.length - (intOf iv).toNat)
    case atStart => exact ⟨0, Nat.zero_le _, rfl, CP8.out, BW8.out⟩
    case round =>
      obtain ⟨i, hi, rfl, hcp, hb⟩ := hrel
      have CP := Lib.hid hcp
      have BW := Lib.hid hb
      obtain ⟨P0, Q0, hpr⟩ := hcp.pr
      have z2 : wr.cell? ⟨Z, 2, none⟩ = some (.pointer (some ⟨P0, 0, none⟩)) := hpr.cell 2
      clear hcp hb hpr
      by_cases hil : i < xs.length
      · obtain ⟨bl, off, rfl, hblt, hcs⟩ := HV2.out (by omega)
        have hx : xs[i]? = some (xs[i]'hil) := List.getElem?_eq_getElem hil
        obtain ⟨c0, c1, c2, c3, hbs, hrm, hml, hbk, hkl, hxn⟩ := hcs i (xs[i]'hil) hx
        generalize xs[i]'hil = x at c0 c1 c2 c3 hbs hrm hml hbk hkl hxn hx
        obtain ⟨xk, xn, bv, kv, m, ks⟩ := x
        clear hx hcs
        dsimp only at c0 c1 c2 c3 hbs hrm hml hbk hkl hxn
        have hbs2 := hbs.1
        have hbk2 := hbk.1
        obtain ⟨xa, xc, hbv, _⟩ := hbs2
        obtain ⟨ka, kc, hkv, _⟩ := hbk2
        subst hbv hkv
        have HST := Lib.hid (step_all w.heap.size Z D R nb fi sz (i + 1) (i + 1) wr CP.out xk xn xa ka m.length xc ks.length kc m ks (hbs.under BW.out) hml hrm (hbk.under BW.out) hkl hxn (by have := HXL.out; omega) (by have := HXL.out; omega))
        have HBK := Lib.hid hbk
        have HKL := Lib.hid hkl
        have C1 := Lib.hid c1
        have C3 := Lib.hid c3
        have HBL := Lib.hid hblt
        have HIL := Lib.hid hil
        have c0 := (BW.out.cell (p := ⟨bl, off + i * 4, none⟩) hblt).trans c0
        have c1 := (BW.out.cell (p := ⟨bl, off + i * 4 + 1, none⟩) hblt).trans c1
        have c2 := (BW.out.cell (p := ⟨bl, off + i * 4 + 2, none⟩) hblt).trans c2
        have c3 := (BW.out.cell (p := ⟨bl, off + i * 4 + 3, none⟩) hblt).trans c3
        have hili : (i : Int) < (xs.length : Int) := by omega
        clear hbs hrm hml hbk hkl hxn hblt hi hl
        go_wp2_with fail
        refine HST.out.mono ?_
        rintro e wa ⟨E, rfl, hba, hcase⟩
        have BA := Lib.hid (BW.out.trans hba)
        clear hba c0 c1 c2 c3 z2
        rcases hcase with ⟨hE, hcp⟩ | ⟨rfl, hdp⟩
        · have CPA := Lib.hid hcp
          clear hcp
          go_wp2_with fail
          refine (CPA.out.same HN.out.2).mono ?_
          rintro e wb ⟨rfl, hb⟩
          have CPB := Lib.hid (CPA.out.fresh hb)
          have BB := Lib.hid (BA.out.trans (hb.mono BA.out.size))
          obtain ⟨P1, Q1, hpr⟩ := CPB.out.pr
          have z0 : wb.cell? ⟨Z, 0, none⟩ = some (.pointer (some ⟨D, 0, none⟩)) := hpr.cell 0
          clear hb hpr
          go_wp2_with fail
          refine (CPB.out.down).mono ?_
          rintro e wc ⟨rfl, rfl⟩
          clear z0
          have hxl := HXL.out
          go_wp2_with fail
          go_roundw
          case rel => exact ⟨i + 1, by have := HIL.out; omega, by have := HXL.out; have := HIL.out; go_num, CPB.out, BB.out⟩
          case measure => have := HIL.out; have := HXL.out; simp [intOf]; omega
        · have DPA := Lib.hid hdp
          clear hdp
          go_wp2_with fail
          refine (DPA.out.same HN.out.2).mono ?_
          rintro e wb ⟨rfl, hb⟩
          have DPB := Lib.hid (DPA.out.fresh hb)
          have BB := Lib.hid (BA.out.trans (hb.mono BA.out.size))
          have C13 := Lib.hid (And.intro ((BB.out.cell (p := ⟨bl, off + i * 4 + 1, none⟩) HBL.out).trans C1.out) ((BB.out.cell (p := ⟨bl, off + i * 4 + 3, none⟩) HBL.out).trans C3.out))
          have hbd : ∀ u : World, (Instr.build 42 #[(0, .int .i64 6), (1, .int .i64 xn), (3, .slice ka ks.length kc)]).run Try.prog u = .ok (.agg #[Value.int .i64 6, .int .i64 xn, .slice none 0 0, .slice ka ks.length kc]) u := fun u => by kernel_rfl
          clear hb
          go_wp2_with fail
          have DPW := Lib.hid (DPB.out.fresh (show Below wb.heap.size wb wb.drew from (Below.refl _ _).drew))
          have BW2 := Lib.hid (show Below w.heap.size w wb.drew from BB.out.drew)
          refine wp_region_held_drew (S := fun u => u.cell? ⟨bl, off + i * 4 + 1, none⟩ = some (.int .i64 xn) ∧ u.cell? ⟨bl, off + i * 4 + 3, none⟩ = some (.slice ka ks.length kc)) (by kernel_rfl) (C13.out) (fun hHeld => ?_)
          refine wpAnyH_take (i := 0) (oi := ({ dst := some 115, op := Op.move (Operand.tmp 9), type := 24, pos := "law.go:117", after := #[], guard := none } : Oper)) (v := ?_) rfl (by kernel_rfl) (by kernel_rfl) (by kernel_rfl) (fun _ _ _ h => h) (Or.inl ⟨by rfl, ?_⟩) (by assumption) ?_
          rotate_left 1
          · (intro u hSw; go_simp; try with_reducible rfl)
          try simp only [Act.put, List.setIfInBounds_toArray, List.set_cons_zero, List.set_cons_succ]
          refine wpAnyH_take (i := 1) (oi := ({ dst := some 116, op := Op.move (Operand.tmp 3), type := 22, pos := "law.go:117", after := #[], guard := none } : Oper)) (v := ?_) rfl (by kernel_rfl) (by kernel_rfl) (by kernel_rfl) (fun _ _ _ h => h) (Or.inl ⟨by rfl, ?_⟩) (by assumption) ?_
          rotate_left 1
          · (intro u hSw; go_simp; try with_reducible rfl)
          try simp only [Act.put, List.setIfInBounds_toArray, List.set_cons_zero, List.set_cons_succ]
          refine wpAnyH_take (i := 2) (oi := ({ dst := some 117, op := Op.move (Operand.tmp 10), type := 3, pos := "law.go:117", after := #[], guard := none } : Oper)) (v := ?_) rfl (by kernel_rfl) (by kernel_rfl) (by kernel_rfl) (fun _ _ _ h => h) (Or.inl ⟨by rfl, ?_⟩) (by assumption) ?_
          rotate_left 1
          · (intro u hSw; go_simp; try with_reducible rfl)
          try simp only [Act.put, List.setIfInBounds_toArray, List.set_cons_zero, List.set_cons_succ]
          refine wpAnyH_take (i := 3) (oi := ({ dst := some 118, op := Op.indexAddr 22 (Operand.tmp 116) (Operand.tmp 117), type := 0, pos := "law.go:117", after := #[{ on := 1, ground := Ground.data }, { on := 2, ground := Ground.data }], guard := none } : Oper)) (v := ?_) rfl (by kernel_rfl) (by kernel_rfl) (by kernel_rfl) (fun _ _ _ h => h) (Or.inl ⟨by rfl, ?_⟩) (by assumption) ?_
          rotate_left 1
          · (intro u hSw; go_simp; try with_reducible rfl)
          try simp only [Act.put, List.setIfInBounds_toArray, List.set_cons_zero, List.set_cons_succ]
          refine wpAnyH_take (i := 4) (oi := ({ dst := some 119, op := Op.fieldAddr 42 (Operand.tmp 118) 1, type := 0, pos := "law.go:117", after := #[{ on := 3, ground := Ground.data }], guard := none } : Oper)) (v := ?_) rfl (by kernel_rfl) (by kernel_rfl) (by kernel_rfl) (fun _ _ _ h => h) (Or.inl ⟨by rfl, ?_⟩) (by assumption) ?_
          rotate_left 1
          · (intro u hSw; go_simp; try with_reducible rfl)
          try simp only [Act.put, List.setIfInBounds_toArray, List.set_cons_zero, List.set_cons_succ]
          refine wpAnyH_take (i := 5) (oi := ({ dst := some 120, op := Op.load 3 (Operand.tmp 119), type := 3, pos := "law.go:117", after := #[{ on := 4, ground := Ground.data }], guard := none } : Oper)) (v := ?_) rfl (by kernel_rfl) (by kernel_rfl) (by kernel_rfl) (fun _ _ _ h => h) (Or.inl ⟨by rfl, ?_⟩) (by assumption) ?_
          rotate_left 1
          · intro u hSw
            have h := hSw.1
            go_simp
            try with_reducible rfl
          try simp only [Act.put, List.setIfInBounds_toArray, List.set_cons_zero, List.set_cons_succ]
          refine wpAnyH_take (i := 6) (oi := ({ dst := some 121, op := Op.move (Operand.tmp 3), type := 22, pos := "law.go:117", after := #[], guard := none } : Oper)) (v := ?_) rfl (by kernel_rfl) (by kernel_rfl) (by kernel_rfl) (fun _ _ _ h => h) (Or.inl ⟨by rfl, ?_⟩) (by assumption) ?_
          rotate_left 1
          · (intro u hSw; go_simp; try with_reducible rfl)
          try simp only [Act.put, List.setIfInBounds_toArray, List.set_cons_zero, List.set_cons_succ]
          refine wpAnyH_take (i := 7) (oi := ({ dst := some 122, op := Op.move (Operand.tmp 10), type := 3, pos := "law.go:117", after := #[], guard := none } : Oper)) (v := ?_) rfl (by kernel_rfl) (by kernel_rfl) (by kernel_rfl) (fun _ _ _ h => h) (Or.inl ⟨by rfl, ?_⟩) (by assumption) ?_
          rotate_left 1
          · (intro u hSw; go_simp; try with_reducible rfl)
          try simp only [Act.put, List.setIfInBounds_toArray, List.set_cons_zero, List.set_cons_succ]
          refine wpAnyH_take (i := 8) (oi := ({ dst := some 123, op := Op.indexAddr 22 (Operand.tmp 121) (Operand.tmp 122), type := 0, pos := "law.go:117", after := #[{ on := 6, ground := Ground.data }, { on := 7, ground := Ground.data }], guard := none } : Oper)) (v := ?_) rfl (by kernel_rfl) (by kernel_rfl) (by kernel_rfl) (fun _ _ _ h => h) (Or.inl ⟨by rfl, ?_⟩) (by assumption) ?_
          rotate_left 1
          · (intro u hSw; go_simp; try with_reducible rfl)
          try simp only [Act.put, List.setIfInBounds_toArray, List.set_cons_zero, List.set_cons_succ]
          refine wpAnyH_take (i := 9) (oi := ({ dst := some 124, op := Op.fieldAddr 42 (Operand.tmp 123) 3, type := 0, pos := "law.go:117", after := #[{ on := 8, ground := Ground.data }], guard := none } : Oper)) (v := ?_) rfl (by kernel_rfl) (by kernel_rfl) (by kernel_rfl) (fun _ _ _ h => h) (Or.inl ⟨by rfl, ?_⟩) (by assumption) ?_
          rotate_left 1
          · (intro u hSw; go_simp; try with_reducible rfl)
          try simp only [Act.put, List.setIfInBounds_toArray, List.set_cons_zero, List.set_cons_succ]
          refine wpAnyH_take (i := 10) (oi := ({ dst := some 125, op := Op.load 40 (Operand.tmp 124), type := 40, pos := "law.go:117", after := #[{ on := 9, ground := Ground.data }], guard := none } : Oper)) (v := ?_) rfl (by kernel_rfl) (by kernel_rfl) (by kernel_rfl) (fun _ _ _ h => h) (Or.inl ⟨by rfl, ?_⟩) (by assumption) ?_
          rotate_left 1
          · intro u hSw
            have h := hSw.2
            go_simp
            try with_reducible rfl
          try simp only [Act.put, List.setIfInBounds_toArray, List.set_cons_zero, List.set_cons_succ]
          refine wpAnyH_take (i := 11) (oi := ({ dst := some 126, op := Op.build 42 #[(0, Operand.const (Value.int IntKind.i64 6)), (1, Operand.tmp 120), (3, Operand.tmp 125)], type := 42, pos := "law.go:117", after := #[{ on := 5, ground := Ground.data }, { on := 10, ground := Ground.data }], guard := none } : Oper)) (v := ?_) rfl (by kernel_rfl) (by kernel_rfl) (by kernel_rfl) (fun _ _ _ h => h) (Or.inl ⟨by rfl, ?_⟩) (by assumption) ?_
          rotate_left 1
          · intro u hSw
            have h := hbd u
            go_simp
            try with_reducible rfl
          try simp only [Act.put, List.setIfInBounds_toArray, List.set_cons_zero, List.set_cons_succ]
          refine wpAnyH_take (i := 12) (oi := ({ dst := some 127, op := Op.move (Operand.tmp 1), type := 3, pos := "law.go:117", after := #[], guard := none } : Oper)) (v := ?_) rfl (by kernel_rfl) (by kernel_rfl) (by kernel_rfl) (fun _ _ _ h => h) (Or.inl ⟨by rfl, ?_⟩) (by assumption) ?_
          rotate_left 1
          · (intro u hSw; go_simp; try with_reducible rfl)
          try simp only [Act.put, List.setIfInBounds_toArray, List.set_cons_zero, List.set_cons_succ]
          refine wpAnyH_take (i := 13) (oi := ({ dst := some 128, op := Op.move (Operand.tmp 2), type := 3, pos := "law.go:117", after := #[], guard := none } : Oper)) (v := ?_) rfl (by kernel_rfl) (by kernel_rfl) (by kernel_rfl) (fun _ _ _ h => h) (Or.inl ⟨by rfl, ?_⟩) (by assumption) ?_
          rotate_left 1
          · (intro u hSw; go_simp; try with_reducible rfl)
          try simp only [Act.put, List.setIfInBounds_toArray, List.set_cons_zero, List.set_cons_succ]
          refine wpAnyH_ready (rs := [14]) (by kernel_rfl) (by simp) ?_
          refine AllReadyH.cons (o := ({ dst := some 129, op := Op.call { callee := Callee.value (Operand.func 12), args := #[Operand.tmp 115, Operand.tmp 126, Operand.tmp 127, Operand.tmp 128], argTypes := #[24, 42, 3, 3] }, type := 37, pos := "law.go:117", after := #[{ on := 0, ground := Ground.data }, { on := 11, ground := Ground.data }, { on := 12, ground := Ground.data }, { on := 13, ground := Ground.data }], guard := none } : Oper)) rfl (fun K hK => ?_) AllReadyH.nil
          go_simp
          go_at_call 12
          refine (step_up w.heap.size Z D R nb fi sz (i + 1 + 1) (i + 1 + 1) wb.drew DPW.out xn none ka 0 0 ks.length kc ks (HBK.out.under BW2.out) HKL.out).mono ?_
          rintro e wc ⟨rfl, hcp, hb⟩
          have CPC := Lib.hid hcp
          have BC := Lib.hid (BW2.out.trans hb)
          have S3 := Lib.hid (And.intro ((BC.out.cell (p := ⟨bl, off + i * 4 + 1, none⟩) HBL.out).trans C1.out) ((BC.out.cell (p := ⟨bl, off + i * 4 + 3, none⟩) HBL.out).trans C3.out))
          clear hcp hb
          go_wp2_with fail
          refine hK.out _ _ S3.out (fun hHeld => ?_)
          clear hK K
          try simp only [Act.put, List.setIfInBounds_toArray, List.set_cons_zero, List.set_cons_succ]
          refine wpAnyH_take (i := 15) (oi := ({ dst := some 114, op := Op.move (Operand.tmp 129), type := 37, pos := "law.go:117", after := #[{ on := 14, ground := Ground.data }], guard := none } : Oper)) (v := ?_) rfl (by kernel_rfl) (by kernel_rfl) (by kernel_rfl) (fun _ _ _ h => h) (Or.inl ⟨by rfl, ?_⟩) (by assumption) ?_
          rotate_left 1
          · (intro u hSw; go_simp; try with_reducible rfl)
          try simp only [Act.put, List.setIfInBounds_toArray, List.set_cons_zero, List.set_cons_succ]
          refine wpAnyH_take (i := 16) (oi := ({ dst := some 130, op := Op.extract (Operand.tmp 114) 0, type := 33, pos := "law.go:117", after := #[{ on := 15, ground := Ground.data }], guard := none } : Oper)) (v := ?_) rfl (by kernel_rfl) (by kernel_rfl) (by kernel_rfl) (fun _ _ _ h => h) (Or.inl ⟨by rfl, ?_⟩) (by assumption) ?_
          rotate_left 1
          · (intro u hSw; go_simp; try with_reducible rfl)
          try simp only [Act.put, List.setIfInBounds_toArray, List.set_cons_zero, List.set_cons_succ]
          refine wpAnyH_take (i := 17) (oi := ({ dst := some 131, op := Op.extract (Operand.tmp 114) 1, type := 4, pos := "law.go:117", after := #[{ on := 15, ground := Ground.data }, { on := 18, ground := Ground.gcOnly Departure.lateStores }], guard := none } : Oper)) (v := ?_) rfl (by kernel_rfl) (by kernel_rfl) (by kernel_rfl) (fun _ _ _ h => h) (Or.inl ⟨by rfl, ?_⟩) (by assumption) ?_
          rotate_left 1
          · (intro u hSw; go_simp; try with_reducible rfl)
          try simp only [Act.put, List.setIfInBounds_toArray, List.set_cons_zero, List.set_cons_succ]
          refine wpAnyH_take (i := 18) (oi := ({ dst := some 13, op := Op.assign (Operand.tmp 130), type := 33, pos := "law.go:117", after := #[{ on := 16, ground := Ground.data }, { on := 14, ground := Ground.chain }, { on := 0, ground := Ground.phase }, { on := 1, ground := Ground.phase }, { on := 2, ground := Ground.phase }, { on := 3, ground := Ground.phase }, { on := 4, ground := Ground.phase }, { on := 5, ground := Ground.phase }, { on := 6, ground := Ground.phase }, { on := 7, ground := Ground.phase }, { on := 8, ground := Ground.phase }, { on := 9, ground := Ground.phase }, { on := 10, ground := Ground.phase }, { on := 11, ground := Ground.phase }, { on := 12, ground := Ground.phase }, { on := 13, ground := Ground.phase }, { on := 14, ground := Ground.phase }, { on := 15, ground := Ground.phase }, { on := 16, ground := Ground.phase }, { on := 17, ground := Ground.textOnly Departure.lateStores }], guard := none } : Oper)) (v := ?_) rfl (by kernel_rfl) (by kernel_rfl) (by kernel_rfl) (fun _ _ _ h => h) (Or.inl ⟨by rfl, ?_⟩) (by assumption) ?_
          rotate_left 1
          · (intro u hSw; go_simp; try with_reducible rfl)
          try simp only [Act.put, List.setIfInBounds_toArray, List.set_cons_zero, List.set_cons_succ]
          refine wpAnyH_take (i := 19) (oi := ({ dst := some 14, op := Op.assign (Operand.tmp 131), type := 4, pos := "law.go:117", after := #[{ on := 17, ground := Ground.data }, { on := 18, ground := Ground.chain }, { on := 0, ground := Ground.phase }, { on := 1, ground := Ground.phase }, { on := 2, ground := Ground.phase }, { on := 3, ground := Ground.phase }, { on := 4, ground := Ground.phase }, { on := 5, ground := Ground.phase }, { on := 6, ground := Ground.phase }, { on := 7, ground := Ground.phase }, { on := 8, ground := Ground.phase }, { on := 9, ground := Ground.phase }, { on := 10, ground := Ground.phase }, { on := 11, ground := Ground.phase }, { on := 12, ground := Ground.phase }, { on := 13, ground := Ground.phase }, { on := 14, ground := Ground.phase }, { on := 15, ground := Ground.phase }, { on := 16, ground := Ground.phase }, { on := 17, ground := Ground.phase }, { on := 18, ground := Ground.phase }], guard := none } : Oper)) (v := ?_) rfl (by kernel_rfl) (by kernel_rfl) (by kernel_rfl) (fun _ _ _ h => h) (Or.inl ⟨by rfl, ?_⟩) (by assumption) ?_
          rotate_left 1
          · (intro u hSw; go_simp; try with_reducible rfl)
          try simp only [Act.put, List.setIfInBounds_toArray, List.set_cons_zero, List.set_cons_succ]
          refine wpAnyH_done (by kernel_rfl) ?_ _
          clear hbd
          go_wp2_with fail
          refine (CPC.out.same HN.out.2).mono ?_
          rintro e wd ⟨rfl, hb⟩
          have CPD := Lib.hid (CPC.out.fresh hb)
          have BD := Lib.hid (BC.out.trans (hb.mono BC.out.size))
          clear hb
          have hxl := HXL.out
          go_wp2_with fail
          go_roundw
          case rel => exact ⟨i + 1, by have := HIL.out; omega, by have := HXL.out; have := HIL.out; go_num, CPD.out, BD.out⟩
          case measure => have := HIL.out; have := HXL.out; simp [intOf]; omega
      · have hili : ¬ (i : Int) < (xs.length : Int) := by omega
        go_wp2_with fail
        go_ret
        exact ⟨rfl, BW.out⟩
  · have hno : fi < 0 ∨ sz < 3 ∨ (nb : Int) - sz < fi := by omega
    have HFM := Lib.hid (format_no w.heap.size D M nb nb (-1) fi sz false (fun _ => zeros 256) [] (.slice none 0 0) w4.drew DPD.out.dk hno (by have := HN.out; omega) (by omega) HSZ.out.2)
    have HRFM := Lib.hid (fun u (h : RD u w.heap.size R gf nb fcap nb ⟨-1, false, fun _ => zeros 256, []⟩ (.slice none 0 0)) => rformat_no w.heap.size R gf nb fcap nb fi sz ⟨-1, false, fun _ => zeros 256, []⟩ (.slice none 0 0) u h hok HFI.out HN.out.2)
    have HNO := Lib.hid hno
    clear hno hok
    refine wp_region_held_drew (S := fun u => u.cell? ⟨Z, 0, none⟩ = some (.pointer (some ⟨D, 0, none⟩)) ∧ u.cell? ⟨Z, 1, none⟩ = some (.pointer (some ⟨R, 0, none⟩))) (by kernel_rfl) (SS.out) (fun hHeld => ?_)
    refine wpAnyH_take (i := 0) (oi := ({ dst := some 47, op := Op.move (Operand.tmp 9), type := 24, pos := "law.go:108", after := #[], guard := none } : Oper)) (v := ?_) rfl (by kernel_rfl) (by kernel_rfl) (by kernel_rfl) (fun _ _ _ h => h) (Or.inl ⟨by rfl, ?_⟩) (by assumption) ?_
    rotate_left 1
    · (intro u hSw; go_simp; try with_reducible rfl)
    try simp only [Act.put, List.setIfInBounds_toArray, List.set_cons_zero, List.set_cons_succ]
    refine wpAnyH_take (i := 1) (oi := ({ dst := some 48, op := Op.nilCheck (Operand.tmp 47), type := 0, pos := "law.go:108", after := #[{ on := 0, ground := Ground.data }], guard := none } : Oper)) (v := ?_) rfl (by kernel_rfl) (by kernel_rfl) (by kernel_rfl) (fun _ _ _ h => h) (Or.inl ⟨by rfl, ?_⟩) (by assumption) ?_
    rotate_left 1
    · (intro u hSw; go_simp; try with_reducible rfl)
    try simp only [Act.put, List.setIfInBounds_toArray, List.set_cons_zero, List.set_cons_succ]
    refine wpAnyH_take (i := 2) (oi := ({ dst := some 49, op := Op.fieldAddr 32 (Operand.tmp 48) 0, type := 0, pos := "law.go:108", after := #[{ on := 1, ground := Ground.data }], guard := none } : Oper)) (v := ?_) rfl (by kernel_rfl) (by kernel_rfl) (by kernel_rfl) (fun _ _ _ h => h) (Or.inl ⟨by rfl, ?_⟩) (by assumption) ?_
    rotate_left 1
    · (intro u hSw; go_simp; try with_reducible rfl)
    try simp only [Act.put, List.setIfInBounds_toArray, List.set_cons_zero, List.set_cons_succ]
    refine wpAnyH_take (i := 3) (oi := ({ dst := some 50, op := Op.load 25 (Operand.tmp 49), type := 25, pos := "law.go:108", after := #[{ on := 2, ground := Ground.data }], guard := none } : Oper)) (v := ?_) rfl (by kernel_rfl) (by kernel_rfl) (by kernel_rfl) (fun _ _ _ h => h) (Or.inl ⟨by rfl, ?_⟩) (by assumption) ?_
    rotate_left 1
    · intro u hSw
      have h := hSw.1
      go_simp
      try with_reducible rfl
    try simp only [Act.put, List.setIfInBounds_toArray, List.set_cons_zero, List.set_cons_succ]
    refine wpAnyH_take (i := 4) (oi := ({ dst := some 51, op := Op.move (Operand.tmp 1), type := 3, pos := "law.go:108", after := #[], guard := none } : Oper)) (v := ?_) rfl (by kernel_rfl) (by kernel_rfl) (by kernel_rfl) (fun _ _ _ h => h) (Or.inl ⟨by rfl, ?_⟩) (by assumption) ?_
    rotate_left 1
    · (intro u hSw; go_simp; try with_reducible rfl)
    try simp only [Act.put, List.setIfInBounds_toArray, List.set_cons_zero, List.set_cons_succ]
    refine wpAnyH_take (i := 5) (oi := ({ dst := some 52, op := Op.move (Operand.tmp 2), type := 3, pos := "law.go:108", after := #[], guard := none } : Oper)) (v := ?_) rfl (by kernel_rfl) (by kernel_rfl) (by kernel_rfl) (fun _ _ _ h => h) (Or.inl ⟨by rfl, ?_⟩) (by assumption) ?_
    rotate_left 1
    · (intro u hSw; go_simp; try with_reducible rfl)
    try simp only [Act.put, List.setIfInBounds_toArray, List.set_cons_zero, List.set_cons_succ]
    refine wpAnyH_take (i := 7) (oi := ({ dst := some 54, op := Op.move (Operand.tmp 9), type := 24, pos := "law.go:108", after := #[], guard := none } : Oper)) (v := ?_) rfl (by kernel_rfl) (by kernel_rfl) (by kernel_rfl) (fun _ _ _ h => h) (Or.inl ⟨by rfl, ?_⟩) (by assumption) ?_
    rotate_left 1
    · (intro u hSw; go_simp; try with_reducible rfl)
    try simp only [Act.put, List.setIfInBounds_toArray, List.set_cons_zero, List.set_cons_succ]
    refine wpAnyH_take (i := 8) (oi := ({ dst := some 55, op := Op.nilCheck (Operand.tmp 54), type := 0, pos := "law.go:108", after := #[{ on := 7, ground := Ground.data }], guard := none } : Oper)) (v := ?_) rfl (by kernel_rfl) (by kernel_rfl) (by kernel_rfl) (fun _ _ _ h => h) (Or.inl ⟨by rfl, ?_⟩) (by assumption) ?_
    rotate_left 1
    · (intro u hSw; go_simp; try with_reducible rfl)
    try simp only [Act.put, List.setIfInBounds_toArray, List.set_cons_zero, List.set_cons_succ]
    refine wpAnyH_take (i := 9) (oi := ({ dst := some 56, op := Op.fieldAddr 32 (Operand.tmp 55) 1, type := 0, pos := "law.go:108", after := #[{ on := 8, ground := Ground.data }], guard := none } : Oper)) (v := ?_) rfl (by kernel_rfl) (by kernel_rfl) (by kernel_rfl) (fun _ _ _ h => h) (Or.inl ⟨by rfl, ?_⟩) (by assumption) ?_
    rotate_left 1
    · (intro u hSw; go_simp; try with_reducible rfl)
    try simp only [Act.put, List.setIfInBounds_toArray, List.set_cons_zero, List.set_cons_succ]
    refine wpAnyH_take (i := 10) (oi := ({ dst := some 57, op := Op.load 27 (Operand.tmp 56), type := 27, pos := "law.go:108", after := #[{ on := 9, ground := Ground.data }], guard := none } : Oper)) (v := ?_) rfl (by kernel_rfl) (by kernel_rfl) (by kernel_rfl) (fun _ _ _ h => h) (Or.inl ⟨by rfl, ?_⟩) (by assumption) ?_
    rotate_left 1
    · intro u hSw
      have h := hSw.2
      go_simp
      try with_reducible rfl
    try simp only [Act.put, List.setIfInBounds_toArray, List.set_cons_zero, List.set_cons_succ]
    refine wpAnyH_take (i := 11) (oi := ({ dst := some 58, op := Op.move (Operand.tmp 1), type := 3, pos := "law.go:108", after := #[], guard := none } : Oper)) (v := ?_) rfl (by kernel_rfl) (by kernel_rfl) (by kernel_rfl) (fun _ _ _ h => h) (Or.inl ⟨by rfl, ?_⟩) (by assumption) ?_
    rotate_left 1
    · (intro u hSw; go_simp; try with_reducible rfl)
    try simp only [Act.put, List.setIfInBounds_toArray, List.set_cons_zero, List.set_cons_succ]
    refine wpAnyH_take (i := 12) (oi := ({ dst := some 59, op := Op.move (Operand.tmp 2), type := 3, pos := "law.go:108", after := #[], guard := none } : Oper)) (v := ?_) rfl (by kernel_rfl) (by kernel_rfl) (by kernel_rfl) (fun _ _ _ h => h) (Or.inl ⟨by rfl, ?_⟩) (by assumption) ?_
    rotate_left 1
    · (intro u hSw; go_simp; try with_reducible rfl)
    try simp only [Act.put, List.setIfInBounds_toArray, List.set_cons_zero, List.set_cons_succ]
    refine wpAnyH_ready (rs := [6]) (by kernel_rfl) (by simp) ?_
    refine AllReadyH.cons (o := ({ dst := some 53, op := Op.call { callee := Callee.value (Operand.func 8), args := #[Operand.tmp 50, Operand.tmp 51, Operand.tmp 52], argTypes := #[25, 3, 3] }, type := 33, pos := "law.go:108", after := #[{ on := 3, ground := Ground.data }, { on := 4, ground := Ground.data }, { on := 5, ground := Ground.data }], guard := none } : Oper)) rfl (fun K hK => ?_) AllReadyH.nil
    go_simp
    go_at_call 8
    refine (HFM.out).mono ?_
    rintro e w5 ⟨rfl, hb⟩
    have DP5 := Lib.hid (DPD.out.fresh hb)
    have BW5 := Lib.hid (BW4.out.trans (hb.mono BW4.out.size))
    have S5 := Lib.hid (And.intro (DP5.out.p.cell 0) (DP5.out.p.cell 1))
    clear hb
    go_wp2_with fail
    refine hK.out _ _ S5.out (fun hHeld => ?_)
    clear hK K
    try simp only [Act.put, List.setIfInBounds_toArray, List.set_cons_zero, List.set_cons_succ]
    refine wpAnyH_ready (rs := [13]) (by kernel_rfl) (by simp) ?_
    refine AllReadyH.cons (o := ({ dst := some 60, op := Op.call { callee := Callee.value (Operand.func 9), args := #[Operand.tmp 57, Operand.tmp 58, Operand.tmp 59], argTypes := #[27, 3, 3] }, type := 33, pos := "law.go:108", after := #[{ on := 10, ground := Ground.data }, { on := 11, ground := Ground.data }, { on := 12, ground := Ground.data }, { on := 6, ground := Ground.chain }], guard := none } : Oper)) rfl (fun K hK => ?_) AllReadyH.nil
    go_simp
    go_at_call 9
    refine (HRFM.out w5 DP5.out.rd).mono ?_
    rintro e w6 ⟨rfl, rfl⟩
    have DP6 := Lib.hid DP5.out
    have BW6 := Lib.hid BW5.out
    have S6 := Lib.hid S5.out
    go_wp2_with fail
    refine hK.out _ _ S6.out (fun hHeld => ?_)
    clear hK K
    try simp only [Act.put, List.setIfInBounds_toArray, List.set_cons_zero, List.set_cons_succ]
    refine wpAnyH_take (i := 14) (oi := ({ dst := some 61, op := Op.binOp BinOp.neq 33 (Operand.tmp 53) (Operand.tmp 60) 33, type := 4, pos := "law.go:108", after := #[{ on := 6, ground := Ground.data }, { on := 13, ground := Ground.data }], guard := none } : Oper)) (v := ?_) rfl (by kernel_rfl) (by kernel_rfl) (by kernel_rfl) (fun _ _ _ h => h) (Or.inl ⟨by rfl, ?_⟩) (by assumption) ?_
    rotate_left 1
    · (intro u hSw; go_simp; try with_reducible rfl)
    try simp only [Act.put, List.setIfInBounds_toArray, List.set_cons_zero, List.set_cons_succ]
    refine wpAnyH_take (i := 15) (oi := ({ dst := some 62, op := Op.move (Operand.tmp 61), type := 4, pos := "law.go:108", after := #[{ on := 14, ground := Ground.data }, { on := 13, ground := Ground.chain }], guard := none } : Oper)) (v := (.bool false)) rfl (by kernel_rfl) (by kernel_rfl) (by kernel_rfl) (fun _ _ _ h => h) (Or.inl ⟨by rfl, ?_⟩) (by assumption) ?_
    · (intro u hSw; go_simp; try with_reducible rfl)
    try simp only [Act.put, List.setIfInBounds_toArray, List.set_cons_zero, List.set_cons_succ]
    refine wpAnyH_take (i := 16) (oi := ({ dst := some 63, op := Op.move (Operand.tmp 9), type := 24, pos := "law.go:108", after := #[{ on := 15, ground := Ground.guard }], guard := some (15, false) } : Oper)) (v := ?_) rfl (by kernel_rfl) (by kernel_rfl) (by kernel_rfl) (fun _ _ _ h => h) (Or.inl ⟨by rfl, ?_⟩) (by assumption) ?_
    rotate_left 1
    · (intro u hSw; go_simp; try with_reducible rfl)
    try simp only [Act.put, List.setIfInBounds_toArray, List.set_cons_zero, List.set_cons_succ]
    refine wpAnyH_ready (rs := [17]) (by kernel_rfl) (by simp) ?_
    refine AllReadyH.cons (o := ({ dst := some 64, op := Op.call { callee := Callee.value (Operand.func 10), args := #[Operand.tmp 63], argTypes := #[24] }, type := 4, pos := "law.go:108", after := #[{ on := 16, ground := Ground.data }, { on := 15, ground := Ground.chain }, { on := 15, ground := Ground.guard }], guard := some (15, false) } : Oper)) rfl (fun K hK => ?_) AllReadyH.nil
    go_simp
    go_at_call 10
    refine (same_any w.heap.size Z D M R gf nb fcap nb _ _ _ _ _ w5 DP6.out.dk DP6.out.rd DP6.out.p HN.out.2).mono ?_
    rintro e w7 ⟨rfl, hb⟩
    have DP7 := Lib.hid (DP6.out.fresh hb)
    have BW7 := Lib.hid (BW6.out.trans (hb.mono BW6.out.size))
    have S7 := Lib.hid (And.intro (DP7.out.p.cell 0) (DP7.out.p.cell 1))
    clear hb
    go_wp2_with fail
    refine hK.out _ _ S7.out (fun hHeld => ?_)
    clear hK K
    try simp only [Act.put, List.setIfInBounds_toArray, List.set_cons_zero, List.set_cons_succ]
    refine wpAnyH_take (i := 18) (oi := ({ dst := some 65, op := Op.unOp UnOp.not 4 (Operand.tmp 64), type := 4, pos := "law.go:108", after := #[{ on := 17, ground := Ground.data }, { on := 15, ground := Ground.guard }], guard := some (15, false) } : Oper)) (v := ?_) rfl (by kernel_rfl) (by kernel_rfl) (by kernel_rfl) (fun _ _ _ h => h) (Or.inl ⟨by rfl, ?_⟩) (by assumption) ?_
    rotate_left 1
    · (intro u hSw; go_simp; try with_reducible rfl)
    try simp only [Act.put, List.setIfInBounds_toArray, List.set_cons_zero, List.set_cons_succ]
    refine wpAnyH_take (i := 19) (oi := ({ dst := some 66, op := Op.pick (Operand.tmp 62) (Operand.const (Value.bool true)) (Operand.tmp 65), type := 4, pos := "law.go:108", after := #[{ on := 15, ground := Ground.data }, { on := 18, ground := Ground.data }], guard := none } : Oper)) (v := ?_) rfl (by kernel_rfl) (by kernel_rfl) (by kernel_rfl) (fun _ _ _ h => h) (Or.inl ⟨by rfl, ?_⟩) (by assumption) ?_
    rotate_left 1
    · (intro u hSw; go_simp; try with_reducible rfl)
    try simp only [Act.put, List.setIfInBounds_toArray, List.set_cons_zero, List.set_cons_succ]
    refine wpAnyH_take (i := 20) (oi := ({ dst := some 67, op := Op.move (Operand.tmp 66), type := 4, pos := "law.go:108", after := #[{ on := 19, ground := Ground.data }, { on := 17, ground := Ground.chain }], guard := none } : Oper)) (v := (.bool false)) rfl (by kernel_rfl) (by kernel_rfl) (by kernel_rfl) (fun _ _ _ h => h) (Or.inl ⟨by rfl, ?_⟩) (by assumption) ?_
    · (intro u hSw; go_simp; try with_reducible rfl)
    try simp only [Act.put, List.setIfInBounds_toArray, List.set_cons_zero, List.set_cons_succ]
    refine wpAnyH_take (i := 21) (oi := ({ dst := some 68, op := Op.move (Operand.tmp 9), type := 24, pos := "law.go:108", after := #[{ on := 20, ground := Ground.guard }], guard := some (20, false) } : Oper)) (v := ?_) rfl (by kernel_rfl) (by kernel_rfl) (by kernel_rfl) (fun _ _ _ h => h) (Or.inl ⟨by rfl, ?_⟩) (by assumption) ?_
    rotate_left 1
    · (intro u hSw; go_simp; try with_reducible rfl)
    try simp only [Act.put, List.setIfInBounds_toArray, List.set_cons_zero, List.set_cons_succ]
    refine wpAnyH_take (i := 22) (oi := ({ dst := some 69, op := Op.move (Operand.tmp 1), type := 3, pos := "law.go:108", after := #[{ on := 20, ground := Ground.guard }], guard := some (20, false) } : Oper)) (v := ?_) rfl (by kernel_rfl) (by kernel_rfl) (by kernel_rfl) (fun _ _ _ h => h) (Or.inl ⟨by rfl, ?_⟩) (by assumption) ?_
    rotate_left 1
    · (intro u hSw; go_simp; try with_reducible rfl)
    try simp only [Act.put, List.setIfInBounds_toArray, List.set_cons_zero, List.set_cons_succ]
    refine wpAnyH_take (i := 23) (oi := ({ dst := some 70, op := Op.move (Operand.tmp 2), type := 3, pos := "law.go:108", after := #[{ on := 20, ground := Ground.guard }], guard := some (20, false) } : Oper)) (v := ?_) rfl (by kernel_rfl) (by kernel_rfl) (by kernel_rfl) (fun _ _ _ h => h) (Or.inl ⟨by rfl, ?_⟩) (by assumption) ?_
    rotate_left 1
    · (intro u hSw; go_simp; try with_reducible rfl)
    try simp only [Act.put, List.setIfInBounds_toArray, List.set_cons_zero, List.set_cons_succ]
    refine wpAnyH_ready (rs := [24]) (by kernel_rfl) (by simp) ?_
    refine AllReadyH.cons (o := ({ dst := some 71, op := Op.call { callee := Callee.value (Operand.func 11), args := #[Operand.tmp 68, Operand.tmp 69, Operand.tmp 70], argTypes := #[24, 3, 3] }, type := 4, pos := "law.go:108", after := #[{ on := 21, ground := Ground.data }, { on := 22, ground := Ground.data }, { on := 23, ground := Ground.data }, { on := 20, ground := Ground.chain }, { on := 20, ground := Ground.guard }], guard := some (20, false) } : Oper)) rfl (fun K hK => ?_) AllReadyH.nil
    go_simp
    go_at_call 11
    refine (popen_no w.heap.size Z D R nb M gf fcap nb fi sz _ _ _ _ _ w7 DP7.out HNO.out HN.out.2 HFI.out HSZ.out.2).mono ?_
    rintro e w8 ⟨rfl, hp8, hb⟩
    have HP8 := Lib.hid hp8
    have BW8 := Lib.hid (BW7.out.trans hb)
    have S8 := Lib.hid (And.intro (hp8.cell 0) (hp8.cell 1))
    clear hp8 hb
    go_wp2_with fail
    refine hK.out _ _ S8.out (fun hHeld => ?_)
    clear hK K
    try simp only [Act.put, List.setIfInBounds_toArray, List.set_cons_zero, List.set_cons_succ]
    refine wpAnyH_take (i := 25) (oi := ({ dst := some 72, op := Op.unOp UnOp.not 4 (Operand.tmp 71), type := 4, pos := "law.go:108", after := #[{ on := 24, ground := Ground.data }, { on := 20, ground := Ground.guard }], guard := some (20, false) } : Oper)) (v := ?_) rfl (by kernel_rfl) (by kernel_rfl) (by kernel_rfl) (fun _ _ _ h => h) (Or.inl ⟨by rfl, ?_⟩) (by assumption) ?_
    rotate_left 1
    · (intro u hSw; go_simp; try with_reducible rfl)
    try simp only [Act.put, List.setIfInBounds_toArray, List.set_cons_zero, List.set_cons_succ]
    refine wpAnyH_take (i := 26) (oi := ({ dst := some 73, op := Op.pick (Operand.tmp 67) (Operand.const (Value.bool true)) (Operand.tmp 72), type := 4, pos := "law.go:108", after := #[{ on := 20, ground := Ground.data }, { on := 25, ground := Ground.data }], guard := none } : Oper)) (v := ?_) rfl (by kernel_rfl) (by kernel_rfl) (by kernel_rfl) (fun _ _ _ h => h) (Or.inl ⟨by rfl, ?_⟩) (by assumption) ?_
    rotate_left 1
    · (intro u hSw; go_simp; try with_reducible rfl)
    try simp only [Act.put, List.setIfInBounds_toArray, List.set_cons_zero, List.set_cons_succ]
    refine wpAnyH_done (by kernel_rfl) ?_ _
    clear HFM HRFM DP4 DPD SS BW4 B4 B3 B1 HV
    go_wp2_with fail
    go_loopw [10] (fun iv wr => iv = .int .i64 0 ∧ Below w.heap.size w wr ∧ PrIs wr Z D R (.pointer none) (.pointer none)) (fun _ _ => 0)
    case atStart => exact ⟨rfl, BW8.out, HP8.out⟩
    case round =>
      obtain ⟨rfl, hb, hp⟩ := hrel
      have BW := Lib.hid hb
      have z2 : wr.cell? ⟨Z, 2, none⟩ = some (.pointer none) := hp.cell 2
      clear hb hp
      by_cases h0 : 0 < xs.length
      · have h0i : (0 : Int) < (xs.length : Int) := by omega
        go_wp2_with fail
        go_ret
        exact ⟨rfl, BW.out⟩
      · have h0i : ¬ (0 : Int) < (xs.length : Int) := by omega
        go_wp2_with fail
        go_ret
        exact ⟨rfl, BW.out⟩
end Go.Proofs.Ytaibminomehppaa
