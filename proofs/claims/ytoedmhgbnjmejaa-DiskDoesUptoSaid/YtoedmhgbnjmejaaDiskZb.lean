import Derived.Test.YtoedmhgbnjmejaaDiskZ
import Derived.WalkKit
import Derived.ProofKit
import Derived.BigQuiet
import Derived.Deep.QuietTactic
import Derived.WalkSpells
import Derived.WalkLawsBesides
import Derived.Lib.Hide
import Derived.Deep.MidRow
import Derived.Deep.RegionLaw
import Derived.BigRegion
import Derived.Laws.AppendOwnNone
import Derived.Deep.DeepMust
import Derived.Deep.AppendLies
import Derived.RegionTactic
import Derived.Deep.WholeRow
import Derived.BigFrame
import Derived.Deep.RegionWith
import Derived.Deep.RegionHeld3
import Derived.Maps.RangeWalk
import Derived.Laws.CopyOwn
import Derived.StillTailTactics
namespace Go.Proofs.Ytoedmhgbnjmejaa
open Go.RowKit
/-- what holds at the head of the law's first loop -/
def DoesAt (B : Nat) (W wr : World) (nb i D R : Nat) : Prop :=
  ∃ M gf fcap rm fz dn f L lv rv bs K, Both wr B D M R gf nb fcap rm fz dn f L lv rv bs K ∧ L.length ≤ i ∧ Below B W wr
theorem both_new {w1 w2 w3 : World} {B nb : Nat} (hB : B ≤ w1.heap.size) (hdk : Dk w2 w1.heap.size (w1.heap.size + 1) w1.heap.size nb nb (-1) false (fun _ => zeros 256) [] (.slice none 0 0)) (hb2 : Below w1.heap.size w1 w2)
    (hd : RefIs w3 (w2.heap.size + 1) (RC (.slice (some ⟨w2.heap.size, 0, none⟩) nb nb) (.slice none 0 0) (nb : Int) (-1) false)) (hk : BkC w3 w2.heap.size w2.heap.size (.slice (some ⟨w2.heap.size, 0, none⟩) nb nb) (List.replicate nb (zeros 256))) (hb3 : Below w2.heap.size w2 w3) :
    Both w3 B (w1.heap.size + 1) w1.heap.size (w2.heap.size + 1) w2.heap.size nb nb nb (-1) false (fun _ => zeros 256) [] (.slice none 0 0) (.slice none 0 0) (List.replicate nb (zeros 256)) [] := by
  have hs := hb2.size
  refine ⟨(hdk.lower hB).chg (Chg.fresh (F := fun _ => False) hb3) (fun _ _ h => h), ⟨hd, hk.lower (by omega), World.ownsRow_nil _ _ _ _, (fun x hx => by cases hx), (fun x hx => by cases hx), by omega, (fun k hk => by cases hk), by omega, ⟨by omega, by omega⟩, List.length_replicate⟩, ⟨rfl, ⟨List.length_replicate, fun n hn => ?_⟩, Told.nil _, fun x hx => by cases hx⟩, fun k hk e => ?_⟩
  · rw [List.getElem?_replicate, if_pos hn]; rfl
  · have h1 := (hdk.foot k hk).2
    rcases e with e | e | e
    · omega
    · omega
    · cases e
theorem both_copy {w w1 w2 : World} {B D M R gf nb fcap D' M' R' gf' fcap' : Nat} {rm fz : Int} {dn : Bool} {f : Int → List Int} {L : List WR} {lv rv lv' rv' : Value} {bs : List (List Int)} {K : List RW} (h : Both w B D M R gf nb fcap rm fz dn f L lv rv bs K)
    (hdk : Dk w1 w.heap.size D' M' nb rm fz dn f L lv') (hb1 : Below w.heap.size w w1) (hd : RefIs w2 R' (RC (.slice (some ⟨gf', 0, none⟩) nb fcap') rv' rm fz dn)) (hkc : BkC w2 w1.heap.size gf' (.slice (some ⟨gf', 0, none⟩) nb fcap') bs) (hl : RLIs w2 w1.heap.size rv' K) (hb2 : Below w1.heap.size w1 w2)
    (hn1 : R' ≠ gf') (hn2 : rv'.ownBlock ≠ some R') (hn3 : rv'.ownBlock ≠ some gf') (hR : w1.heap.size ≤ R') :
    Both w2 w.heap.size D' M' R' gf' nb fcap' rm fz dn f L lv' rv' bs K := by
  have hs := hb1.size
  refine ⟨hdk.chg (Chg.fresh (F := fun _ => False) hb2) (fun _ _ h => h), ⟨hd, hkc.lower hs, hl.lower hs, h.2.1.2.2.2.1, h.2.1.2.2.2.2.1, hn1, (fun k hk => ⟨fun e => hn3 (by rw [hk, e]), fun e => hn2 (by rw [hk, e])⟩), by omega, h.2.1.2.2.2.2.2.2.2.2.1, h.blocks⟩, h.2.2.1, fun k hk e => ?_⟩
  have h1 := (hdk.foot k hk).2
  rcases e with e | e | e
  · omega
  · have := hkc.2.1; omega
  · have := (hl.own k e).1; omega
/-- the old disk goes on by itself -/
theorem Both.apart {w w1 : World} {B D M R gf nb fcap : Nat} {rm fz : Int} {dn : Bool} {f : Int → List Int} {L : List WR} {lv rv : Value} {bs : List (List Int)} {K : List RW} (h : Both w B D M R gf nb fcap rm fz dn f L lv rv bs K) {F : Nat → Prop} (hc : Chg F w w1) (hF : ∀ k, F k → ¬ BFoot D M R gf lv rv k) : Both w1 B D M R gf nb fcap rm fz dn f L lv rv bs K :=
  ⟨h.1.chg hc (fun k hk e => hF k e (.inl hk)), h.2.1.chg hc (fun k hk e => hF k e (.inr hk)), h.2.2⟩
theorem Both.lower {w : World} {B B' D M R gf nb fcap : Nat} {rm fz : Int} {dn : Bool} {f : Int → List Int} {L : List WR} {lv rv : Value} {bs : List (List Int)} {K : List RW} (h : Both w B D M R gf nb fcap rm fz dn f L lv rv bs K) (hB : B' ≤ B) : Both w B' D M R gf nb fcap rm fz dn f L lv rv bs K :=
  ⟨h.1.lower hB, h.2.1.lower hB, h.2.2⟩
set_option maxRecDepth 100000 in
set_option maxHeartbeats 16000000 in
theorem does_walk (n : Int) (v : Value) (xs : List ST) (w : World) (hv : StepsIs w v xs) (hl : xs.length ≤ 1048576) :
    Calls Try.prog 3 #[.int .i64 n, v] w fun e w' => e = .returned (.bool true) ∧ Below w.heap.size w w' := by
  have HV := Lib.hid hv
  obtain ⟨sa, sc, hv1, hv2⟩ := hv
  subst hv1
  have HV2 := Lib.hid hv2
  clear hv2
  go_enter Try.func3, Try.ntmps3
  go_wp2_with fail
  refine (fixed_any w).mono ?_
  rintro e w1 ⟨rfl, hb⟩
  have B1 := Lib.hid hb
  clear hb
  go_wp2_with fail
  by_cases hn : n < 1 ∨ 4096 < n
  · refine (new_nil n w1 hn).mono ?_
    rintro e w' ⟨rfl, rfl⟩
    go_wp2_with fail
    refine (rnew_nil n w1 hn).mono ?_
    rintro e w' ⟨rfl, rfl⟩
    go_wp2_with fail
    go_ret
    exact ⟨rfl, B1.out⟩
  obtain ⟨nb, rfl⟩ : ∃ nb : Nat, n = (nb : Int) := ⟨n.toNat, by omega⟩
  have HN := Lib.hid (show 1 ≤ nb ∧ nb ≤ 4096 by omega)
  clear hn
  refine (new_dk (nb : Int) w1 (by have := HN.out; omega) (by have := HN.out; omega)).mono ?_
  rintro e w2 ⟨rfl, hdk, hb⟩
  have DK2 := Lib.hid hdk
  have X2 := Lib.hid hb
  clear hdk hb
  go_wp2_with fail
  refine (rnew_any nb w2 HN.out.1 HN.out.2).mono ?_
  rintro e w3 ⟨rfl, hd, hk, hb⟩
  have HB3 := Lib.hid (both_new B1.out.size DK2.out X2.out hd hk hb)
  have B3 := Lib.hid ((B1.out.trans (X2.out.mono B1.out.size)).trans (hb.mono (by have := B1.out.size; have := X2.out.size; omega)))
  have AT3 := Lib.hid (show DoesAt w.heap.size w w3 nb 0 (w1.heap.size + 1) (w2.heap.size + 1) from ⟨_, _, _, _, _, _, _, _, _, _, _, _, HB3.out, Nat.le_refl _, B3.out⟩)
  clear hd hk hb HB3 B3 DK2
  generalize w1.heap.size + 1 = D0 at *
  generalize w2.heap.size + 1 = R0 at *
  go_wp2_with fail
  go_loopw [5, 6, 7] (fun dv rv iv wr => ∃ (i D R : Nat), i ≤ xs.length ∧ iv = .int .i64 (i : Int) ∧ dv = .pointer (some ⟨D, 0, none⟩) ∧ rv = .pointer (some ⟨R, 0, none⟩) ∧ DoesAt w.heap.size w wr nb i D R) (fun _ _ iv _ => xs.length - (intOf iv).toNat)
  case atStart => exact ⟨0, D0, R0, Nat.zero_le _, rfl, rfl, rfl, AT3.out⟩
  case round =>
    obtain ⟨i, D, R, hi, rfl, rfl, rfl, M, gf, fcap, rm, fz, dn, f, L, lv, rv, bs, K, hbo, hLi, hbw⟩ := hrel
    have HBO := Lib.hid hbo
    have HLI := Lib.hid hLi
    have HBW := Lib.hid hbw
    clear hbo hLi hbw
    by_cases hil : i < xs.length
    · obtain ⟨bl, off, rfl, hblt, hcs⟩ := HV2.out (by omega)
      have hx : xs[i]? = some (xs[i]'hil) := List.getElem?_eq_getElem hil
      obtain ⟨c0, c1, c2, c3, hks, hok⟩ := hcs i (xs[i]'hil) hx
      generalize xs[i]'hil = x at c0 c1 c2 c3 hks hok hx
      obtain ⟨xk, xn, xb, kv, ks⟩ := x
      clear hx
      have HKS := Lib.hid hks
      have HOK := Lib.hid hok
      obtain ⟨ka, kc, hkv, hkv2⟩ := hks
      simp only at hkv hkv2 c0 c1 c2 c3
      subst hkv
      have HKV2 := Lib.hid hkv2
      have HBL := Lib.hid hblt
      have c0 := (HBW.out.cell (p := ⟨bl, off + i * 4, none⟩) hblt).trans c0
      have c1 := (HBW.out.cell (p := ⟨bl, off + i * 4 + 1, none⟩) hblt).trans c1
      have c2 := (HBW.out.cell (p := ⟨bl, off + i * 4 + 2, none⟩) hblt).trans c2
      have c3 := (HBW.out.cell (p := ⟨bl, off + i * 4 + 3, none⟩) hblt).trans c3
      clear hcs hkv2 hok hblt
      have HLL := Lib.hid (show L.length ≤ 268435455 by have := HLI.out; omega)
      by_cases h6 : xk = 6
      · subst h6
        have C1 := Lib.hid c1
        have C2 := Lib.hid c2
        go_wp2_with fail
        refine (copy_any _ D M nb rm fz dn f L lv wr HBO.out.1 (by have := HLL.out; omega)).mono ?_
        rintro e w4 ⟨D', M', lv', rfl, hdk, hb4⟩
        have DK4 := Lib.hid hdk
        have X4 := Lib.hid hb4
        have HB4 := Lib.hid (HBO.out.fresh hb4)
        clear hdk hb4 c0 c1 c2 c3
        go_wp2_with fail
        refine (rcopy_any w.heap.size R gf nb fcap rv rm fz dn bs K w4 HB4.out.2.1.1 HB4.out.2.1.2.1 HB4.out.2.1.2.2.1 (by rw [HB4.out.len]; have := HLL.out; omega) (by have := HN.out; omega) HN.out.2).mono ?_
        rintro e w5 ⟨R', gf', fcap', rv', rfl, hd5, hk5, hl5, hb5, hn1, hn2, hn3, hR5⟩
        have N5 := Lib.hid (both_copy HBO.out DK4.out X4.out hd5 hk5 hl5 hb5 hn1 hn2 hn3 hR5)
        have X5 := Lib.hid (X4.out.trans (hb5.mono X4.out.size))
        have DO5 := Lib.hid (HBO.out.fresh X5.out).1
        have CC := Lib.hid (show ∀ u, Below wr.heap.size wr u → u.cell? ⟨bl, off + i * 4 + 1, none⟩ = some (.int .i64 xn) ∧ u.cell? ⟨bl, off + i * 4 + 2, none⟩ = some (.int .u8 xb) from fun u hu => ⟨(hu.cell (p := ⟨bl, off + i * 4 + 1, none⟩) (by have := HBL.out; have := HBW.out.size; show bl < _; omega)).trans C1.out, (hu.cell (p := ⟨bl, off + i * 4 + 2, none⟩) (by have := HBL.out; have := HBW.out.size; show bl < _; omega)).trans C2.out⟩)
        clear hd5 hk5 hl5 hb5 hn1 hn2 hn3 hR5 DK4 HB4
        go_wp2_with fail
        have HS5 := Lib.hid (show w5.drew.cell? ⟨bl, off + i * 4 + 1, none⟩ = some (.int .i64 xn) ∧ w5.drew.cell? ⟨bl, off + i * 4 + 2, none⟩ = some (.int .u8 xb) from CC.out w5 X5.out)
        refine wp_region_held_drew (S := fun u => u.cell? ⟨bl, off + i * 4 + 1, none⟩ = some (.int .i64 xn) ∧ u.cell? ⟨bl, off + i * 4 + 2, none⟩ = some (.int .u8 xb)) (by kernel_rfl) (HS5.out) (fun hHeld => ?_)
        refine wpAnyH_take (i := 0) (oi := ({ dst := some 52, op := Op.move (Operand.tmp 8), type := 24, pos := "law.go:90", after := #[], guard := none } : Oper)) (v := ?_) rfl (by kernel_rfl) (by kernel_rfl) (by kernel_rfl) (fun _ _ _ h => h) (Or.inl ⟨by rfl, ?_⟩) (by assumption) ?_
        rotate_left 1
        · (intro u hSw; go_simp; try with_reducible rfl)
        try simp only [Act.put, List.setIfInBounds_toArray, List.set_cons_zero, List.set_cons_succ]
        refine wpAnyH_take (i := 1) (oi := ({ dst := some 53, op := Op.move (Operand.tmp 1), type := 22, pos := "law.go:90", after := #[], guard := none } : Oper)) (v := ?_) rfl (by kernel_rfl) (by kernel_rfl) (by kernel_rfl) (fun _ _ _ h => h) (Or.inl ⟨by rfl, ?_⟩) (by assumption) ?_
        rotate_left 1
        · (intro u hSw; go_simp; try with_reducible rfl)
        try simp only [Act.put, List.setIfInBounds_toArray, List.set_cons_zero, List.set_cons_succ]
        refine wpAnyH_take (i := 2) (oi := ({ dst := some 54, op := Op.move (Operand.tmp 7), type := 3, pos := "law.go:90", after := #[], guard := none } : Oper)) (v := ?_) rfl (by kernel_rfl) (by kernel_rfl) (by kernel_rfl) (fun _ _ _ h => h) (Or.inl ⟨by rfl, ?_⟩) (by assumption) ?_
        rotate_left 1
        · (intro u hSw; go_simp; try with_reducible rfl)
        try simp only [Act.put, List.setIfInBounds_toArray, List.set_cons_zero, List.set_cons_succ]
        refine wpAnyH_take (i := 3) (oi := ({ dst := some 55, op := Op.indexAddr 22 (Operand.tmp 53) (Operand.tmp 54), type := 0, pos := "law.go:90", after := #[{ on := 1, ground := Ground.data }, { on := 2, ground := Ground.data }], guard := none } : Oper)) (v := ?_) rfl (by kernel_rfl) (by kernel_rfl) (by kernel_rfl) (fun _ _ _ h => h) (Or.inl ⟨by rfl, ?_⟩) (by assumption) ?_
        rotate_left 1
        · (intro u hSw; go_simp; try with_reducible rfl)
        try simp only [Act.put, List.setIfInBounds_toArray, List.set_cons_zero, List.set_cons_succ]
        refine wpAnyH_take (i := 4) (oi := ({ dst := some 56, op := Op.fieldAddr 30 (Operand.tmp 55) 1, type := 0, pos := "law.go:90", after := #[{ on := 3, ground := Ground.data }], guard := none } : Oper)) (v := ?_) rfl (by kernel_rfl) (by kernel_rfl) (by kernel_rfl) (fun _ _ _ h => h) (Or.inl ⟨by rfl, ?_⟩) (by assumption) ?_
        rotate_left 1
        · (intro u hSw; go_simp; try with_reducible rfl)
        try simp only [Act.put, List.setIfInBounds_toArray, List.set_cons_zero, List.set_cons_succ]
        refine wpAnyH_take (i := 5) (oi := ({ dst := some 57, op := Op.load 3 (Operand.tmp 56), type := 3, pos := "law.go:90", after := #[{ on := 4, ground := Ground.data }], guard := none } : Oper)) (v := ?_) rfl (by kernel_rfl) (by kernel_rfl) (by kernel_rfl) (fun _ _ _ h => h) (Or.inl ⟨by rfl, ?_⟩) (by assumption) ?_
        rotate_left 1
        · intro u hSw
          have h := hSw.1
          go_simp
          try with_reducible rfl
        try simp only [Act.put, List.setIfInBounds_toArray, List.set_cons_zero, List.set_cons_succ]
        refine wpAnyH_take (i := 6) (oi := ({ dst := some 58, op := Op.move (Operand.tmp 1), type := 22, pos := "law.go:90", after := #[], guard := none } : Oper)) (v := ?_) rfl (by kernel_rfl) (by kernel_rfl) (by kernel_rfl) (fun _ _ _ h => h) (Or.inl ⟨by rfl, ?_⟩) (by assumption) ?_
        rotate_left 1
        · (intro u hSw; go_simp; try with_reducible rfl)
        try simp only [Act.put, List.setIfInBounds_toArray, List.set_cons_zero, List.set_cons_succ]
        refine wpAnyH_take (i := 7) (oi := ({ dst := some 59, op := Op.move (Operand.tmp 7), type := 3, pos := "law.go:90", after := #[], guard := none } : Oper)) (v := ?_) rfl (by kernel_rfl) (by kernel_rfl) (by kernel_rfl) (fun _ _ _ h => h) (Or.inl ⟨by rfl, ?_⟩) (by assumption) ?_
        rotate_left 1
        · (intro u hSw; go_simp; try with_reducible rfl)
        try simp only [Act.put, List.setIfInBounds_toArray, List.set_cons_zero, List.set_cons_succ]
        refine wpAnyH_take (i := 8) (oi := ({ dst := some 60, op := Op.indexAddr 22 (Operand.tmp 58) (Operand.tmp 59), type := 0, pos := "law.go:90", after := #[{ on := 6, ground := Ground.data }, { on := 7, ground := Ground.data }], guard := none } : Oper)) (v := ?_) rfl (by kernel_rfl) (by kernel_rfl) (by kernel_rfl) (fun _ _ _ h => h) (Or.inl ⟨by rfl, ?_⟩) (by assumption) ?_
        rotate_left 1
        · (intro u hSw; go_simp; try with_reducible rfl)
        try simp only [Act.put, List.setIfInBounds_toArray, List.set_cons_zero, List.set_cons_succ]
        refine wpAnyH_take (i := 9) (oi := ({ dst := some 61, op := Op.fieldAddr 30 (Operand.tmp 60) 2, type := 0, pos := "law.go:90", after := #[{ on := 8, ground := Ground.data }], guard := none } : Oper)) (v := ?_) rfl (by kernel_rfl) (by kernel_rfl) (by kernel_rfl) (fun _ _ _ h => h) (Or.inl ⟨by rfl, ?_⟩) (by assumption) ?_
        rotate_left 1
        · (intro u hSw; go_simp; try with_reducible rfl)
        try simp only [Act.put, List.setIfInBounds_toArray, List.set_cons_zero, List.set_cons_succ]
        refine wpAnyH_take (i := 10) (oi := ({ dst := some 62, op := Op.load 5 (Operand.tmp 61), type := 5, pos := "law.go:90", after := #[{ on := 9, ground := Ground.data }], guard := none } : Oper)) (v := ?_) rfl (by kernel_rfl) (by kernel_rfl) (by kernel_rfl) (fun _ _ _ h => h) (Or.inl ⟨by rfl, ?_⟩) (by assumption) ?_
        rotate_left 1
        · intro u hSw
          have h := hSw.2
          go_simp
          try with_reducible rfl
        try simp only [Act.put, List.setIfInBounds_toArray, List.set_cons_zero, List.set_cons_succ]
        refine wpAnyH_take (i := 11) (oi := ({ dst := some 63, op := Op.binOp BinOp.add 5 (Operand.tmp 62) (Operand.const (Value.int IntKind.u8 1)) 5, type := 5, pos := "law.go:90", after := #[{ on := 10, ground := Ground.data }], guard := none } : Oper)) (v := ?_) rfl (by kernel_rfl) (by kernel_rfl) (by kernel_rfl) (fun _ _ _ h => h) (Or.inl ⟨by rfl, ?_⟩) (by assumption) ?_
        rotate_left 1
        · (intro u hSw; go_simp; try with_reducible rfl)
        try simp only [Act.put, List.setIfInBounds_toArray, List.set_cons_zero, List.set_cons_succ]
        refine wpAnyH_ready (rs := [12]) (by kernel_rfl) (by simp) ?_
        refine AllReadyH.cons (o := ({ dst := some 64, op := Op.call { callee := Callee.value (Operand.func 17), args := #[Operand.tmp 63], argTypes := #[5] }, type := 35, pos := "law.go:90", after := #[{ on := 11, ground := Ground.data }], guard := none } : Oper)) rfl (fun K hK => ?_) AllReadyH.nil
        go_simp
        go_at_call 17
        refine (block_any _ _).mono ?_
        rintro e w6 ⟨rfl, hb6⟩
        have X6 := Lib.hid (show Below w5.heap.size w5 w6 from ((Below.refl _ _).drew).trans hb6)
        have DO6 := Lib.hid (DO5.out.chg (Chg.fresh (F := fun _ => False) X6.out) (fun _ _ h => h))
        have N6 := Lib.hid (N5.out.fresh X6.out)
        have S6 := Lib.hid (CC.out w6 (X5.out.trans (X6.out.mono X5.out.size)))
        clear hb6
        generalize IntKind.wrap .u8 (xb + 1) = xc at *
        go_wp2_with fail
        refine hK.out _ _ S6.out (fun hHeld => ?_)
        clear hK K
        try simp only [Act.put, List.setIfInBounds_toArray, List.set_cons_zero, List.set_cons_succ]
        refine wpAnyH_ready (rs := [13]) (by kernel_rfl) (by simp) ?_
        refine AllReadyH.cons (o := ({ dst := some 65, op := Op.call { callee := Callee.value (Operand.func 16), args := #[Operand.tmp 52, Operand.tmp 57, Operand.tmp 64], argTypes := #[24, 3, 35] }, type := 33, pos := "law.go:90", after := #[{ on := 0, ground := Ground.data }, { on := 5, ground := Ground.data }, { on := 12, ground := Ground.data }, { on := 12, ground := Ground.chain }], guard := none } : Oper)) rfl (fun K hK => ?_) AllReadyH.nil
        go_simp
        go_at_call 16
        refine (write_any w.heap.size D M nb rm fz xn dn f L lv (blkOf _) w6 DO6.out (blk_len _) (by have := HLL.out; omega)).mono ?_
        rintro e w7 ⟨rfl, lv7, hdk, hch, hft⟩
        have DO7 := Lib.hid hdk
        have HC7 := Lib.hid hch
        have S7 := Lib.hid (show w7.cell? ⟨bl, off + i * 4 + 1, none⟩ = some (.int .i64 xn) ∧ w7.cell? ⟨bl, off + i * 4 + 2, none⟩ = some (.int .u8 xb) from by
        have hbox : w7.heap[bl]? = w6.heap[bl]? := hch.block _ (by have := HBL.out; have := HBW.out.size; have := X5.out.size; have := X6.out.size; omega) (fun e => by have := (HBO.out.1.foot _ e).1; have := HBL.out; omega)
        exact ⟨(World.cell?_of_block (a := ⟨bl, off + i * 4 + 1, none⟩) hbox).trans S6.out.1, (World.cell?_of_block (a := ⟨bl, off + i * 4 + 2, none⟩) hbox).trans S6.out.2⟩)
        have N7 := Lib.hid (N6.out.apart hch (fun k hk e => by have := (HBO.out.1.foot k hk).2; have := (N5.out.foot k e).1; omega))
        clear hdk hch hft
        go_wp2_with fail
        refine hK.out _ _ S7.out (fun hHeld => ?_)
        clear hK K
        try simp only [Act.put, List.setIfInBounds_toArray, List.set_cons_zero, List.set_cons_succ]
        refine wpAnyH_done (by kernel_rfl) ?_ _
        go_wp2_with fail
        refine (sync_dk _ _ _ _ _ _ _ _ _ _ w7 DO7.out).mono ?_
        rintro e w8 ⟨he, lv8, hdk, hch, hlv⟩
        generalize (if opOk (opFz fz dn) (opDn fz dn) = true then (0 : Int) else 44) = E8 at he
        subst he
        have DO8 := Lib.hid hdk
        have HC8 := Lib.hid hch
        have N8 := Lib.hid (N7.out.apart hch (fun k hk e => by subst hk; have := (HBO.out.1.foot _ (.inl rfl)).2; have := (N5.out.foot _ e).1; omega))
        clear hdk hch hlv
        go_wp2_with fail
        refine (room_dk _ _ _ _ _ _ 0 _ _ _ _ w8 DO8.out).mono ?_
        rintro e w9 ⟨rfl, hdk, hch⟩
        have N9 := Lib.hid (N8.out.apart hch (fun k hk e => by subst hk; have := (HBO.out.1.foot _ (.inl rfl)).2; have := (N5.out.foot _ e).1; omega))
        have B9 := Lib.hid (show Below w.heap.size w w9 from by
          have hD := (HBO.out.1.foot D (.inl rfl)).1
          have h0 := HBW.out.size
          have h1 := X5.out.size
          have h2 := X6.out.size
          have h3 := HC7.out.size
          have h4 := HC8.out.size
          have q1 := HBW.out.trans (X5.out.mono h0)
          have q2 := q1.trans (X6.out.mono (by omega))
          have q3 := q2.trans (HC7.out.below (fun k hk => (HBO.out.1.foot k hk).1) (by omega))
          have q4 := q3.trans (HC8.out.below (fun k hk => by subst hk; exact hD) (by omega))
          exact q4.trans (hch.below (fun k hk => by subst hk; exact hD) (by omega)))
        clear hdk hch
        go_wp2_with fail
        go_roundw
        case rel => exact ⟨i + 1, D', R', by omega, by go_num, rfl, rfl, M', gf', fcap', rm, fz, dn, f, L, lv', rv', bs, K, N9.out.lower HBW.out.size, by have := HLI.out; omega, B9.out⟩
        case measure => simp [intOf]; omega
      · have HKB := Lib.hid (show ∀ b o n c, (Value.slice ka ks.length kc) = .slice (some ⟨b, o, none⟩) n c → 0 < ks.length → b < w.heap.size from fun b o n c e h0 => by
          obtain ⟨b', o', e2, h2, _⟩ := HKV2.out h0
          subst e2
          injection e with e _ _
          injection e with e
          injection e with e _ _
          omega)
        go_wp2_with fail
        refine (play_any w.heap.size D M R gf nb fcap rm fz dn f L lv rv bs K xk xn xb _ ks wr HBO.out HOK.out.2.1.2 (HKS.out.below (HBW.out)) HKB.out HOK.out.2.2.2 HLL.out).mono ?_
        rintro e w4 ⟨rfl, rm', fz', dn', f', L', lv', rv', bs', K', hb4, hl4, hw4⟩
        have HB4 := Lib.hid hb4
        have HL4 := Lib.hid hl4
        have HW4 := Lib.hid (HBW.out.trans hw4)
        clear hb4 hl4 hw4 c0 c1 c2 c3
        go_wp2_with fail
        go_roundw
        case rel => exact ⟨i + 1, D, R, by omega, by go_num, rfl, rfl, M, gf, fcap, rm', fz', dn', f', L', lv', rv', bs', K', HB4.out, by have := HLI.out; have := HL4.out; omega, HW4.out⟩
        case measure => simp [intOf]; omega
    · have HLL := Lib.hid (show L.length ≤ 268435455 by have := HLI.out; omega)
      go_wp2_with fail
      refine (up_any w.heap.size D M nb rm fz (-1) dn f L lv (.slice none 0 0) [] wr HBO.out.1 ⟨none, 0, rfl, fun h => by simp at h⟩ (fun b o n c e _ => by cases e) (by have := HLL.out; omega) (by decide)).mono ?_
      rintro e w2' ⟨rfl, hdk, hch⟩
      have DK2 := Lib.hid hdk
      have CH2 := Lib.hid hch
      clear hdk hch
      go_wp2_with fail
      refine (rup_rs w.heap.size R gf nb fcap rv (.slice none 0 0) rm fz (-1) dn bs K [] w2' (HBO.out.rs CH2.out (fun k hk => hk.elim .inl (fun h => .inr (.inl h))) (Below.refl _ _)) ⟨none, 0, rfl, fun h => by simp at h⟩ (fun b o n c e _ => by cases e) (by rw [HBO.out.len]; exact HLL.out) (by decide)).mono ?_
      rintro e w4 ⟨rfl, hrs, hcr⟩
      have N4 := Lib.hid (HBO.out.next DK2.out CH2.out (fun k hk => hk.elim .inl (fun h => .inr (.inl h))) (fun k hk => .inl (hk.elim .inl (fun h => h.elim (fun h => .inr (.inl h)) (fun h => by cases h)))) (Below.refl _ _) hrs hcr (fun k hk => hk.elim .inl (fun h => .inr (.inl h))) (fun k hk => .inl (hk.elim .inl (fun h => h.elim (fun h => .inr (.inl h)) (fun h => by cases h)))) (HBO.out.2.2.1.up [] (-1)))
      have BW4 := Lib.hid (HBW.out.trans N4.out.2)
      have HB4 := Lib.hid N4.out.1
      clear hrs hcr N4 CH2 DK2 HBO
      generalize upF f L [] (-1) = f4 at *
      generalize rupL bs K [] (-1) (rLast [] (min K.length ([] : List Bool).length)) (min K.length ([] : List Bool).length) = bs4 at *
      have hz := zero35
      have HI35 := Lib.hid (show (Try.prog.info? 35).map (·.size) = some 256 by kernel_rfl)
      have SZ := Lib.hid (show (ArrU8 (zeros 256)).size = 256 by rw [ArrU8_size, zeros, List.length_replicate])
      have hHN := HN.out
      obtain ⟨m, hm⟩ : ∃ m : Nat, ((nb : Int) ≤ 40 ∧ m = nb) ∨ (¬ (nb : Int) ≤ 40 ∧ m = 40) := by
        by_cases h : (nb : Int) ≤ 40
        · exact ⟨nb, .inl ⟨h, rfl⟩⟩
        · exact ⟨40, .inr ⟨h, rfl⟩⟩
      have HM := Lib.hid hm
      clear hm
      go_wp2_with fail
      go_loopw [10] (fun iv wy => ∃ j : Nat, j ≤ m + 2 ∧ iv = .int .i64 ((j : Int) - 1) ∧ Both wy w.heap.size D M R gf nb fcap rm (-1) false f4 [] (.slice none 0 0) (.slice none 0 0) bs4 [] ∧ Below w.heap.size w wy) (fun iv _ => (m + 2 - (intOf iv + 1).toNat))
      case atStart => exact ⟨0, by omega, rfl, HB4.out, BW4.out⟩
      case round =>
        obtain ⟨j, hj, rfl, hk, hb⟩ := hrel
        have HK := Lib.hid hk
        have HY := Lib.hid hb
        have r0 : wr.cell? ⟨R, 0, none⟩ = some (.slice (some ⟨gf, 0, none⟩) nb fcap) := hk.2.1.1.cell 0
        clear hk hb
        by_cases hjm : j ≤ m + 1
        · have HG := Lib.hid (rdF_len nb ((j : Int) - 1) false f4 HK.out.1.2.2.2.2.2.2.1)
          have HRD := read_dk w.heap.size D M nb rm (-1) ((j : Int) - 1) false f4 [] (.slice none 0 0) wr HK.out.1
          have HRR := fun u (h : Both u w.heap.size D M R gf nb fcap rm (-1) false f4 [] (.slice none 0 0) (.slice none 0 0) bs4 []) => rread_rs w.heap.size R gf nb fcap (.slice none 0 0) rm (-1) ((j : Int) - 1) false bs4 [] f4 [] u h.2.1 h.2.2.1 (by decide)
          generalize rdF nb ((j : Int) - 1) false f4 = g at *
          generalize readErr nb ((j : Int) - 1) false = E at *
          have SG := Lib.hid (show (ArrU8 g).size = 256 by rw [ArrU8_size, HG.out])
          have HRD := Lib.hid HRD
          have HRR := Lib.hid HRR
          have HJ := Lib.hid (show j < m + 2 by omega)
          rcases HM.out with ⟨h40, rfl⟩ | ⟨h40, rfl⟩
          · have hjl : ((j : Int) - 1) ≤ (m : Int) := by omega
            go_wp2_with fail
            refine HRD.out.mono ?_
            rintro e wa ⟨rfl, hb⟩
            have XA := Lib.hid hb
            have HA := Lib.hid (HK.out.fresh hb)
            clear hb
            go_wp2_with (refine wpList_store_nw rfl 35 (Operand.tmp 11) (Operand.tmp 97) rfl wa _ 35 rfl wa.heap.size (ArrU8 g) rfl rfl rfl (by rw [HI35.out, SG.out]) (by rw [SZ.out, SG.out]) (ArrU8_one _) ?_; intro wb hd hb hs; have QB := Lib.hid hd; have XB := Lib.hid hb; have SB := Lib.hid hs; clear hd hb hs)
            refine (HRR.out wb (HA.out.fresh XB.out)).mono ?_
            rintro e wc ⟨rfl, hb⟩
            have XC := Lib.hid hb
            clear hb
            go_wp2_with (first
              | (refine wpList_store_nw rfl 35 (Operand.tmp 13) (Operand.tmp 103) rfl wc _ 35 rfl wc.heap.size (ArrU8 g) rfl rfl rfl (by rw [HI35.out, SG.out]) (by rw [SZ.out, SG.out]) (ArrU8_one _) ?_; intro wd hd hb hs; have QD := Lib.hid hd; have XD := Lib.hid hb; have SD := Lib.hid hs; clear hd hb hs)
              | (refine wpList_load_row rfl 35 (Operand.tmp 11) rfl wa.heap.size rfl 35 (ArrU8 g) (0, 0) _ ((XD.out.block wa.heap.size (by have := XC.out.size; have := SB.out; omega)).trans ((XC.out.block wa.heap.size (by have := SB.out; omega)).trans QB.out)) Try.underlying35 rfl (by rw [HI35.out, SG.out]) ?_)
              | (refine wpList_load_row rfl 35 (Operand.tmp 13) rfl wc.heap.size rfl 35 (ArrU8 g) (0, 0) _ QD.out Try.underlying35 rfl (by rw [HI35.out, SG.out]) ?_)
              | (refine wpList_of_run rfl (exec_neq_blk (Operand.tmp 105) (Operand.tmp 106) 35 rfl g g rfl rfl HG.out HG.out false (by simp)) ?_))
            go_roundw
            case rel =>
              have hy : Below wr.heap.size wr wd := ((XA.out.trans (XB.out.mono XA.out.size)).trans (XC.out.mono (by have := XA.out.size; have := XB.out.size; omega))).trans (XD.out.mono (by have := XA.out.size; have := XB.out.size; have := XC.out.size; omega))
              exact ⟨j + 1, by have := HJ.out; omega, by go_num, HK.out.fresh hy, HY.out.trans (hy.mono HY.out.size)⟩
            case measure => have := HJ.out; simp [intOf]; omega
          · have hjl : ((j : Int) - 1) ≤ (40 : Int) := by omega
            go_wp2_with fail
            refine HRD.out.mono ?_
            rintro e wa ⟨rfl, hb⟩
            have XA := Lib.hid hb
            have HA := Lib.hid (HK.out.fresh hb)
            clear hb
            go_wp2_with (refine wpList_store_nw rfl 35 (Operand.tmp 11) (Operand.tmp 97) rfl wa _ 35 rfl wa.heap.size (ArrU8 g) rfl rfl rfl (by rw [HI35.out, SG.out]) (by rw [SZ.out, SG.out]) (ArrU8_one _) ?_; intro wb hd hb hs; have QB := Lib.hid hd; have XB := Lib.hid hb; have SB := Lib.hid hs; clear hd hb hs)
            refine (HRR.out wb (HA.out.fresh XB.out)).mono ?_
            rintro e wc ⟨rfl, hb⟩
            have XC := Lib.hid hb
            clear hb
            go_wp2_with (first
              | (refine wpList_store_nw rfl 35 (Operand.tmp 13) (Operand.tmp 103) rfl wc _ 35 rfl wc.heap.size (ArrU8 g) rfl rfl rfl (by rw [HI35.out, SG.out]) (by rw [SZ.out, SG.out]) (ArrU8_one _) ?_; intro wd hd hb hs; have QD := Lib.hid hd; have XD := Lib.hid hb; have SD := Lib.hid hs; clear hd hb hs)
              | (refine wpList_load_row rfl 35 (Operand.tmp 11) rfl wa.heap.size rfl 35 (ArrU8 g) (0, 0) _ ((XD.out.block wa.heap.size (by have := XC.out.size; have := SB.out; omega)).trans ((XC.out.block wa.heap.size (by have := SB.out; omega)).trans QB.out)) Try.underlying35 rfl (by rw [HI35.out, SG.out]) ?_)
              | (refine wpList_load_row rfl 35 (Operand.tmp 13) rfl wc.heap.size rfl 35 (ArrU8 g) (0, 0) _ QD.out Try.underlying35 rfl (by rw [HI35.out, SG.out]) ?_)
              | (refine wpList_of_run rfl (exec_neq_blk (Operand.tmp 105) (Operand.tmp 106) 35 rfl g g rfl rfl HG.out HG.out false (by simp)) ?_))
            go_roundw
            case rel =>
              have hy : Below wr.heap.size wr wd := ((XA.out.trans (XB.out.mono XA.out.size)).trans (XC.out.mono (by have := XA.out.size; have := XB.out.size; omega))).trans (XD.out.mono (by have := XA.out.size; have := XB.out.size; have := XC.out.size; omega))
              exact ⟨j + 1, by have := HJ.out; omega, by go_num, HK.out.fresh hy, HY.out.trans (hy.mono HY.out.size)⟩
            case measure => have := HJ.out; simp [intOf]; omega
        · rcases HM.out with ⟨h40, rfl⟩ | ⟨h40, rfl⟩
          · have hjl : ¬ ((j : Int) - 1) ≤ (m : Int) := by omega
            go_wp2_with fail
            go_ret
            exact ⟨rfl, HY.out⟩
          · have hjl : ¬ ((j : Int) - 1) ≤ (40 : Int) := by omega
            go_wp2_with fail
            go_ret
            exact ⟨rfl, HY.out⟩
end Go.Proofs.Ytoedmhgbnjmejaa
