import Derived.Test.YtoedmhgbnjmejaaDiskY
import Derived.WalkKit
import Derived.ProofKit
import Derived.BigQuiet
import Derived.Deep.QuietTactic
import Derived.WalkSpells
import Derived.WalkLawsBesides
import Derived.Lib.Hide
import Derived.Deep.MidRow
import Derived.Deep.RegionLaw
import Derived.BigRegion
import Derived.Laws.AppendOwnNone
import Derived.Deep.DeepMust
import Derived.Deep.AppendLies
import Derived.RegionTactic
import Derived.Deep.WholeRow
import Derived.BigFrame
import Derived.Deep.RegionWith
import Derived.Deep.RegionHeld3
import Derived.Maps.RangeWalk
import Derived.Laws.CopyOwn
import Derived.StillTailTactics
namespace Go.Proofs.Ytoedmhgbnjmejaa
open Go.RowKit
theorem BkC.lower {w : World} {B B' g : Nat} {v : Value} {bs : List (List Int)} (h : BkC w B g v bs) (hB : B' ≤ B) : BkC w B' g v bs :=
  ⟨h.1, by have := h.2.1; omega, h.2.2⟩
theorem RS.lower {w : World} {B B' R gf nb fcap : Nat} {rv : Value} {rm fz : Int} {dn : Bool} {bs : List (List Int)} {K : List RW} (h : RS w B R gf nb fcap rv rm fz dn bs K) (hB : B' ≤ B) : RS w B' R gf nb fcap rv rm fz dn bs K := by
  obtain ⟨h1, h2, h3, h4, h5, h6, h7, h8, h9⟩ := h
  exact ⟨h1, h2.lower hB, h3.lower hB, h4, h5, h6, h7, by omega, h9⟩
/-- both disks, in one state -/
def Both (w : World) (B D M R gf nb fcap : Nat) (rm fz : Int) (dn : Bool) (f : Int → List Int) (L : List WR) (lv rv : Value) (bs : List (List Int)) (K : List RW) : Prop :=
  Dk w B D M nb rm fz dn f L lv ∧ RS w B R gf nb fcap rv rm fz dn bs K ∧ Rel nb f L bs K ∧ ∀ k, Foot D M lv k → ¬ RFoot R gf rv k
def BFoot (D M R gf : Nat) (lv rv : Value) (k : Nat) : Prop := Foot D M lv k ∨ RFoot R gf rv k
section
variable {w w1 w2 w3 : World} {B D M R gf nb fcap : Nat} {rm fz rm' fz' : Int} {dn dn' : Bool} {f f' : Int → List Int} {L L' : List WR} {lv rv lv' rv' : Value} {bs bs' : List (List Int)} {K K' : List RW}
theorem Both.foot (h : Both w B D M R gf nb fcap rm fz dn f L lv rv bs K) : ∀ k, BFoot D M R gf lv rv k → B ≤ k ∧ k < w.heap.size := fun k hk => hk.elim (h.1.foot k) (h.2.1.foot k)
theorem Both.fresh (h : Both w B D M R gf nb fcap rm fz dn f L lv rv bs K) (hb : Below w.heap.size w w1) : Both w1 B D M R gf nb fcap rm fz dn f L lv rv bs K :=
  ⟨h.1.chg (Chg.fresh (F := fun _ => False) hb) (fun _ _ h => h), h.2.1.chg (Chg.fresh (F := fun _ => False) hb) (fun _ _ h => h), h.2.2⟩
theorem Both.rs (h : Both w B D M R gf nb fcap rm fz dn f L lv rv bs K) {F : Nat → Prop} (hc : Chg F w w1) (hF : ∀ k, F k → Foot D M lv k) (hb : Below w1.heap.size w1 w2) : RS w2 B R gf nb fcap rv rm fz dn bs K :=
  (h.2.1.chg hc (fun k hk e => h.2.2.2 k (hF k e) hk)).chg (Chg.fresh (F := fun _ => False) hb) (fun _ _ h => h)
/-- a step of both -/
theorem Both.next (h : Both w B D M R gf nb fcap rm fz dn f L lv rv bs K) {F G : Nat → Prop} (hd : Dk w1 B D M nb rm' fz' dn' f' L' lv') (hc : Chg F w w1) (hF : ∀ k, F k → Foot D M lv k) (hf : ∀ k, Foot D M lv' k → Foot D M lv k ∨ w.heap.size ≤ k)
    (hb : Below w1.heap.size w1 w2) (hr : RS w3 B R gf nb fcap rv' rm' fz' dn' bs' K') (hg : Chg G w2 w3) (hG : ∀ k, G k → RFoot R gf rv k) (hrf : ∀ k, RFoot R gf rv' k → RFoot R gf rv k ∨ w2.heap.size ≤ k) (hrel : Rel nb f' L' bs' K') :
    Both w3 B D M R gf nb fcap rm' fz' dn' f' L' lv' rv' bs' K' ∧ Below B w w3 := by
  have hs1 := hc.size
  have hs2 := hb.size
  have hB : B ≤ w.heap.size := by have := h.1.foot D (.inl rfl); omega
  refine ⟨⟨(hd.chg (Chg.fresh (F := fun _ => False) hb) (fun _ _ h => h)).chg hg (fun k hk e => ?_), hr, hrel, fun k hk e => ?_⟩, ?_⟩
  · rcases hf k hk with h1 | h1
    · exact h.2.2.2 k h1 (hG k e)
    · have := (h.2.1.foot k (hG k e)).2; omega
  · have hk1 := (hd.foot k hk).2
    rcases hrf k e with h2 | h2
    · rcases hf k hk with h1 | h1
      · exact h.2.2.2 k h1 h2
      · have := (h.2.1.foot k h2).2; omega
    · omega
  · exact ((hc.below (fun k hk => (h.1.foot k (hF k hk)).1) hB).trans (hb.mono (by omega))).trans (hg.below (fun k hk => (h.2.1.foot k (hG k hk)).1) (by omega))
theorem Both.blocks (h : Both w B D M R gf nb fcap rm fz dn f L lv rv bs K) : bs.length = nb := h.2.1.2.2.2.2.2.2.2.2.2
theorem Both.len (h : Both w B D M R gf nb fcap rm fz dn f L lv rv bs K) : K.length = L.length := h.2.2.1.len
end
theorem below_drewN {B : Nat} {a w : World} (h : Below B a w) (n : Nat) : Below B a (w.drewN n) := ⟨h.os, h.tape, h.output, h.size, h.block⟩
theorem Both.drewN {w : World} {B D M R gf nb fcap : Nat} {rm fz : Int} {dn : Bool} {f : Int → List Int} {L : List WR} {lv rv : Value} {bs : List (List Int)} {K : List RW} (h : Both w B D M R gf nb fcap rm fz dn f L lv rv bs K) (n : Nat) : Both (w.drewN n) B D M R gf nb fcap rm fz dn f L lv rv bs K :=
  ⟨h.1.kept (fun _ _ => rfl), h.2.1.kept (fun _ _ => rfl) (Nat.le_refl _), h.2.2⟩
theorem Rel.writes {nb : Nat} {f : Int → List Int} {L : List WR} {bs : List (List Int)} {K : List RW} (h : Rel nb f L bs K) (n : Int) (b : List Int) (E : Int) (hE : E = 0 → 0 ≤ n ∧ n < nb) : Rel nb (if E = 0 then fput f n b else f) (if E = 0 then L ++ [(n, f n, b)] else L) bs (if E = 0 then K ++ [(n, b)] else K) := by
  by_cases he : E = 0
  · rw [if_pos he, if_pos he, if_pos he]; exact h.write n b (hE he)
  · rw [if_neg he, if_neg he, if_neg he]; exact h
theorem Rel.syncs {nb : Nat} {f : Int → List Int} {L : List WR} {bs : List (List Int)} {K : List RW} (h : Rel nb f L bs K) (c : Bool) : Rel nb f (if c = true then [] else L) (if c = true then firmL bs K else bs) (if c = true then [] else K) := by
  cases c
  · exact h
  · exact h.sync
theorem Bools.cg {w w' : World} {v : Value} {ks : List Bool} {F : Nat → Prop} (h : Bools w v ks) (hc : Chg F w w') (hF : ∀ b o n c, v = .slice (some ⟨b, o, none⟩) n c → 0 < ks.length → ¬ F b) : Bools w' v ks := by
  obtain ⟨a, cap, h1, h2⟩ := h
  refine ⟨a, cap, h1, fun h0 => ?_⟩
  obtain ⟨b, off, h3, h4, h5⟩ := h2 h0
  subst h3
  exact ⟨b, off, rfl, Nat.lt_of_lt_of_le h4 hc.size, fun i hi => (World.cell?_of_block (a := ⟨b, off + i, none⟩) (hc.block b h4 (hF b off _ _ h1 h0))).trans (h5 i hi)⟩
theorem rroom_rs (B R gf nb fcap : Nat) (rv : Value) (rm fz n : Int) (dn : Bool) (bs : List (List Int)) (K : List RW) (w : World) (h : RS w B R gf nb fcap rv rm fz dn bs K) :
    Calls Try.prog 61 #[.pointer (some ⟨R, 0, none⟩), .int .i64 n] w fun e w' => e = .returned (.tuple #[]) ∧ RS w' B R gf nb fcap rv (if 0 ≤ n then n else 0) fz dn bs K ∧ Chg (fun k => k = R) w w' := by
  obtain ⟨h1, h2, h3, h4, h5, h6, h7, h8, h9, h10⟩ := h
  refine (rroom_any R _ rv rm fz n dn w h1).mono ?_
  rintro e w' ⟨rfl, hd, hg, hs⟩
  have hch : Chg (fun k => k = R) w w' := Chg.grown hg (fun k hk => by injection hk with hk; exact hk.symm)
  exact ⟨rfl, ⟨hd, h2.cg hch (fun e => h6 e.symm), h3.kept (fun k hk => hch.block k (h3.own k hk).2 (h7 k hk).2), h4, h5, h6, h7, h8, h9, h10⟩, hch⟩
theorem rarm_rs (B R gf nb fcap : Nat) (rv : Value) (rm fz n : Int) (dn : Bool) (bs : List (List Int)) (K : List RW) (w : World) (h : RS w B R gf nb fcap rv rm fz dn bs K) (hn : n ≤ 9223372036854775807) :
    Calls Try.prog 62 #[.pointer (some ⟨R, 0, none⟩), .int .i64 n] w fun e w' => e = .returned (.tuple #[]) ∧ RS w' B R gf nb fcap rv rm (if 0 ≤ n then n else -1) dn bs K ∧ Chg (fun k => k = R) w w' := by
  obtain ⟨h1, h2, h3, h4, h5, h6, h7, h8, h9, h10⟩ := h
  refine (rarm_any R _ rv rm fz n dn w h1).mono ?_
  rintro e w' ⟨rfl, hd, hg, hs⟩
  have hch : Chg (fun k => k = R) w w' := Chg.grown hg (fun k hk => by injection hk with hk; exact hk.symm)
  exact ⟨rfl, ⟨hd, h2.cg hch (fun e => h6 e.symm), h3.kept (fun k hk => hch.block k (h3.own k hk).2 (h7 k hk).2), h4, h5, h6, h7, h8, by split <;> omega, h10⟩, hch⟩
def PlayEnds (B D M R gf nb fcap : Nat) (L : List WR) (w : World) (e : Ending) (w' : World) : Prop :=
  e = .returned (.bool true) ∧ ∃ rm fz dn f L' lv' rv' bs K, Both w' B D M R gf nb fcap rm fz dn f L' lv' rv' bs K ∧ L'.length ≤ L.length + 1 ∧ Below B w w'
set_option maxRecDepth 100000 in
set_option maxHeartbeats 8000000 in
theorem play_any (B D M R gf nb fcap : Nat) (rm fz : Int) (dn : Bool) (f : Int → List Int) (L : List WR) (lv rv : Value) (bs : List (List Int)) (KW : List RW) (xk xn xb : Int) (kv : Value) (ks : List Bool) (w : World) (h : Both w B D M R gf nb fcap rm fz dn f L lv rv bs KW)
    (hxn : xn ≤ 9223372036854775807) (hkb : Bools w kv ks) (hkB : ∀ b o n c, kv = .slice (some ⟨b, o, none⟩) n c → 0 < ks.length → b < B) (hkl : ks.length ≤ 1048576) (hL : L.length ≤ 268435455) :
    Calls Try.prog 20 #[.pointer (some ⟨D, 0, none⟩), .pointer (some ⟨R, 0, none⟩), .agg #[.int .i64 xk, .int .i64 xn, .int .u8 xb, kv]] w (PlayEnds B D M R gf nb fcap L w) := by
  have HKBo := Lib.hid hkb
  obtain ⟨ka, kc, hkv, hkv2⟩ := hkb
  subst hkv
  clear hkv2
  have HLL := Lib.hid (show L.length ≤ 268435456 by omega)
  have HKK := Lib.hid (show KW.length ≤ 268435455 by rw [h.len]; exact hL)
  have HXN := Lib.hid hxn
  have HKL := Lib.hid hkl
  have HKB := Lib.hid hkB
  have HB0 := Lib.hid (show B ≤ w.heap.size by have := h.foot D (.inl (.inl rfl)); omega)
  have hb1 : Below w.heap.size w (w.alloc (.cells #[.int .i64 xk, .int .i64 xn, .int .u8 xb, .slice ka ks.length kc] 30)) := (Below.refl _ _).alloc (Nat.le_refl _) _
  have hx1 : (w.alloc (.cells #[.int .i64 xk, .int .i64 xn, .int .u8 xb, .slice ka ks.length kc] 30)).heap[w.heap.size]? = some (.cells #[.int .i64 xk, .int .i64 xn, .int .u8 xb, .slice ka ks.length kc] 30 (0, 0)) := heap_alloc_new _ _
  have LX := Lib.hid (show w.heap.size < (w.alloc (.cells #[.int .i64 xk, .int .i64 xn, .int .u8 xb, .slice ka ks.length kc] 30)).heap.size by simp)
  have NX := Lib.hid (show ¬ BFoot D M R gf lv rv w.heap.size from fun e => by have := (h.foot _ e).2; omega)
  have H1 := Lib.hid (h.fresh hb1)
  have B1 := Lib.hid (hb1.mono HB0.out)
  have KB1 := Lib.hid (HKBo.out.below hb1)
  have c0 := (cell_of_row _ w.heap.size 0 _ _ _ hx1).trans (show (#[Value.int .i64 xk, .int .i64 xn, .int .u8 xb, .slice ka ks.length kc] : Array Value)[0]? = some (.int .i64 xk) from rfl)
  have c1 := (cell_of_row _ w.heap.size 1 _ _ _ hx1).trans (show (#[Value.int .i64 xk, .int .i64 xn, .int .u8 xb, .slice ka ks.length kc] : Array Value)[1]? = some (.int .i64 xn) from rfl)
  have c2 := (cell_of_row _ w.heap.size 2 _ _ _ hx1).trans (show (#[Value.int .i64 xk, .int .i64 xn, .int .u8 xb, .slice ka ks.length kc] : Array Value)[2]? = some (.int .u8 xb) from rfl)
  have c3 := (cell_of_row _ w.heap.size 3 _ _ _ hx1).trans (show (#[Value.int .i64 xk, .int .i64 xn, .int .u8 xb, .slice ka ks.length kc] : Array Value)[3]? = some (.slice ka ks.length kc) from rfl)
  have C0 := Lib.hid c0
  have C1 := Lib.hid c1
  have C2 := Lib.hid c2
  have C3 := Lib.hid c3
  clear hb1 hx1 HKBo hkB hkl hL hxn h c0 c1 c2 c3
  go_enter Try.func20, Try.ntmps20
  generalize hw1 : w.alloc (.cells #[.int .i64 xk, .int .i64 xn, .int .u8 xb, .slice ka ks.length kc] 30) = w1 at *
  have HW1 := Lib.hid hw1
  generalize hX : w.heap.size = X at *
  have HXE := Lib.hid hX
  by_cases h0 : xk = 0
  · subst h0
    have c0 := C0.out
    go_wp2_with fail
    clear c0
    refine wp_region_held_drew (S := fun u => u.cell? ⟨X, 1, none⟩ = some (.int .i64 xn) ∧ u.cell? ⟨X, 2, none⟩ = some (.int .u8 xb)) (by kernel_rfl) (⟨C1.out, C2.out⟩) (fun hHeld => ?_)
    refine wpAnyH_take (i := 0) (oi := ({ dst := some 15, op := Op.move (Operand.tmp 0), type := 24, pos := "law.go:52", after := #[], guard := none } : Oper)) (v := ?_) rfl (by kernel_rfl) (by kernel_rfl) (by kernel_rfl) (fun _ _ _ h => h) (Or.inl ⟨by rfl, ?_⟩) (by assumption) ?_
    rotate_left 1
    · (intro u hSw; go_simp; try with_reducible rfl)
    try simp only [Act.put, List.setIfInBounds_toArray, List.set_cons_zero, List.set_cons_succ]
    refine wpAnyH_take (i := 1) (oi := ({ dst := some 16, op := Op.fieldAddr 30 (Operand.tmp 5) 1, type := 0, pos := "law.go:52", after := #[], guard := none } : Oper)) (v := ?_) rfl (by kernel_rfl) (by kernel_rfl) (by kernel_rfl) (fun _ _ _ h => h) (Or.inl ⟨by rfl, ?_⟩) (by assumption) ?_
    rotate_left 1
    · (intro u hSw; go_simp; try with_reducible rfl)
    try simp only [Act.put, List.setIfInBounds_toArray, List.set_cons_zero, List.set_cons_succ]
    refine wpAnyH_take (i := 2) (oi := ({ dst := some 17, op := Op.load 3 (Operand.tmp 16), type := 3, pos := "law.go:52", after := #[{ on := 1, ground := Ground.data }], guard := none } : Oper)) (v := ?_) rfl (by kernel_rfl) (by kernel_rfl) (by kernel_rfl) (fun _ _ _ h => h) (Or.inl ⟨by rfl, ?_⟩) (by assumption) ?_
    rotate_left 1
    · intro u hSw
      have h := hSw.1
      go_simp
      try with_reducible rfl
    try simp only [Act.put, List.setIfInBounds_toArray, List.set_cons_zero, List.set_cons_succ]
    refine wpAnyH_take (i := 3) (oi := ({ dst := some 18, op := Op.fieldAddr 30 (Operand.tmp 5) 2, type := 0, pos := "law.go:52", after := #[], guard := none } : Oper)) (v := ?_) rfl (by kernel_rfl) (by kernel_rfl) (by kernel_rfl) (fun _ _ _ h => h) (Or.inl ⟨by rfl, ?_⟩) (by assumption) ?_
    rotate_left 1
    · (intro u hSw; go_simp; try with_reducible rfl)
    try simp only [Act.put, List.setIfInBounds_toArray, List.set_cons_zero, List.set_cons_succ]
    refine wpAnyH_take (i := 4) (oi := ({ dst := some 19, op := Op.load 5 (Operand.tmp 18), type := 5, pos := "law.go:52", after := #[{ on := 3, ground := Ground.data }], guard := none } : Oper)) (v := ?_) rfl (by kernel_rfl) (by kernel_rfl) (by kernel_rfl) (fun _ _ _ h => h) (Or.inl ⟨by rfl, ?_⟩) (by assumption) ?_
    rotate_left 1
    · intro u hSw
      have h := hSw.2
      go_simp
      try with_reducible rfl
    try simp only [Act.put, List.setIfInBounds_toArray, List.set_cons_zero, List.set_cons_succ]
    refine wpAnyH_take (i := 7) (oi := ({ dst := some 22, op := Op.move (Operand.tmp 1), type := 26, pos := "law.go:52", after := #[], guard := none } : Oper)) (v := ?_) rfl (by kernel_rfl) (by kernel_rfl) (by kernel_rfl) (fun _ _ _ h => h) (Or.inl ⟨by rfl, ?_⟩) (by assumption) ?_
    rotate_left 1
    · (intro u hSw; go_simp; try with_reducible rfl)
    try simp only [Act.put, List.setIfInBounds_toArray, List.set_cons_zero, List.set_cons_succ]
    refine wpAnyH_take (i := 8) (oi := ({ dst := some 23, op := Op.fieldAddr 30 (Operand.tmp 5) 1, type := 0, pos := "law.go:52", after := #[], guard := none } : Oper)) (v := ?_) rfl (by kernel_rfl) (by kernel_rfl) (by kernel_rfl) (fun _ _ _ h => h) (Or.inl ⟨by rfl, ?_⟩) (by assumption) ?_
    rotate_left 1
    · (intro u hSw; go_simp; try with_reducible rfl)
    try simp only [Act.put, List.setIfInBounds_toArray, List.set_cons_zero, List.set_cons_succ]
    refine wpAnyH_take (i := 9) (oi := ({ dst := some 24, op := Op.load 3 (Operand.tmp 23), type := 3, pos := "law.go:52", after := #[{ on := 8, ground := Ground.data }], guard := none } : Oper)) (v := ?_) rfl (by kernel_rfl) (by kernel_rfl) (by kernel_rfl) (fun _ _ _ h => h) (Or.inl ⟨by rfl, ?_⟩) (by assumption) ?_
    rotate_left 1
    · intro u hSw
      have h := hSw.1
      go_simp
      try with_reducible rfl
    try simp only [Act.put, List.setIfInBounds_toArray, List.set_cons_zero, List.set_cons_succ]
    refine wpAnyH_take (i := 10) (oi := ({ dst := some 25, op := Op.fieldAddr 30 (Operand.tmp 5) 2, type := 0, pos := "law.go:52", after := #[], guard := none } : Oper)) (v := ?_) rfl (by kernel_rfl) (by kernel_rfl) (by kernel_rfl) (fun _ _ _ h => h) (Or.inl ⟨by rfl, ?_⟩) (by assumption) ?_
    rotate_left 1
    · (intro u hSw; go_simp; try with_reducible rfl)
    try simp only [Act.put, List.setIfInBounds_toArray, List.set_cons_zero, List.set_cons_succ]
    refine wpAnyH_take (i := 11) (oi := ({ dst := some 26, op := Op.load 5 (Operand.tmp 25), type := 5, pos := "law.go:52", after := #[{ on := 10, ground := Ground.data }], guard := none } : Oper)) (v := ?_) rfl (by kernel_rfl) (by kernel_rfl) (by kernel_rfl) (fun _ _ _ h => h) (Or.inl ⟨by rfl, ?_⟩) (by assumption) ?_
    rotate_left 1
    · intro u hSw
      have h := hSw.2
      go_simp
      try with_reducible rfl
    try simp only [Act.put, List.setIfInBounds_toArray, List.set_cons_zero, List.set_cons_succ]
    refine wpAnyH_ready (rs := [5]) (by kernel_rfl) (by simp) ?_
    refine AllReadyH.cons (o := ({ dst := some 20, op := Op.call { callee := Callee.value (Operand.func 17), args := #[Operand.tmp 19], argTypes := #[5] }, type := 35, pos := "law.go:52", after := #[{ on := 4, ground := Ground.data }], guard := none } : Oper)) rfl (fun K hK => ?_) AllReadyH.nil
    go_simp
    go_at_call 17
    refine (block_any xb _).mono ?_
    rintro e w5 ⟨rfl, hb5⟩
    have X5 := Lib.hid (show Below w1.heap.size w1 w5 from ((Below.refl _ _).drew).trans hb5)
    have H5 := Lib.hid (H1.out.fresh X5.out)
    have S5 := Lib.hid (And.intro ((X5.out.cell (p := ⟨X, 1, none⟩) LX.out).trans C1.out) ((X5.out.cell (p := ⟨X, 2, none⟩) LX.out).trans C2.out))
    clear hb5
    go_wp2_with fail
    refine hK.out _ _ S5.out (fun hHeld => ?_)
    clear hK K
    try simp only [Act.put, List.setIfInBounds_toArray, List.set_cons_zero, List.set_cons_succ]
    refine wpAnyH_ready (rs := [6]) (by kernel_rfl) (by simp) ?_
    refine AllReadyH.cons (o := ({ dst := some 21, op := Op.call { callee := Callee.value (Operand.func 16), args := #[Operand.tmp 15, Operand.tmp 17, Operand.tmp 20], argTypes := #[24, 3, 35] }, type := 33, pos := "law.go:52", after := #[{ on := 0, ground := Ground.data }, { on := 2, ground := Ground.data }, { on := 5, ground := Ground.data }, { on := 5, ground := Ground.chain }], guard := none } : Oper)) rfl (fun K hK => ?_) AllReadyH.nil
    go_simp
    go_at_call 16
    refine (write_any B D M nb rm fz xn dn f L lv (blkOf xb) w5 H5.out.1 (blk_len xb) HLL.out).mono ?_
    rintro e w6 ⟨rfl, lv6, hdk, hch, hft⟩
    have DK6 := Lib.hid hdk
    have CH6 := Lib.hid hch
    have FT6 := Lib.hid hft
    have LX6 := Lib.hid (show X < w6.heap.size by have := hch.size; have := X5.out.size; have := LX.out; omega)
    have hbox : w6.heap[X]? = w5.heap[X]? := hch.block _ (by have := X5.out.size; have := LX.out; omega) (fun e => NX.out (.inl e))
    have S6 := Lib.hid (And.intro ((World.cell?_of_block (a := ⟨X, 1, none⟩) hbox).trans S5.out.1) ((World.cell?_of_block (a := ⟨X, 2, none⟩) hbox).trans S5.out.2))
    clear hdk hch hft hbox
    go_wp2_with fail
    refine hK.out _ _ S6.out (fun hHeld => ?_)
    clear hK K
    try simp only [Act.put, List.setIfInBounds_toArray, List.set_cons_zero, List.set_cons_succ]
    refine wpAnyH_ready (rs := [12]) (by kernel_rfl) (by simp) ?_
    refine AllReadyH.cons (o := ({ dst := some 27, op := Op.call { callee := Callee.value (Operand.func 17), args := #[Operand.tmp 26], argTypes := #[5] }, type := 35, pos := "law.go:52", after := #[{ on := 11, ground := Ground.data }, { on := 6, ground := Ground.chain }], guard := none } : Oper)) rfl (fun K hK => ?_) AllReadyH.nil
    go_simp
    go_at_call 17
    refine (block_any xb _).mono ?_
    rintro e w7 ⟨rfl, hb7⟩
    have X7 := Lib.hid hb7
    have S7 := Lib.hid (And.intro ((X7.out.cell (p := ⟨X, 1, none⟩) LX6.out).trans S6.out.1) ((X7.out.cell (p := ⟨X, 2, none⟩) LX6.out).trans S6.out.2))
    clear hb7
    go_wp2_with fail
    refine hK.out _ _ S7.out (fun hHeld => ?_)
    clear hK K
    try simp only [Act.put, List.setIfInBounds_toArray, List.set_cons_zero, List.set_cons_succ]
    refine wpAnyH_ready (rs := [13]) (by kernel_rfl) (by simp) ?_
    refine AllReadyH.cons (o := ({ dst := some 28, op := Op.call { callee := Callee.value (Operand.func 59), args := #[Operand.tmp 22, Operand.tmp 24, Operand.tmp 27], argTypes := #[26, 3, 35] }, type := 33, pos := "law.go:52", after := #[{ on := 7, ground := Ground.data }, { on := 9, ground := Ground.data }, { on := 12, ground := Ground.data }, { on := 12, ground := Ground.chain }], guard := none } : Oper)) rfl (fun K hK => ?_) AllReadyH.nil
    go_simp
    go_at_call 59
    refine (rwrite_rs B R gf nb fcap rv rm fz xn dn bs KW (blkOf xb) w7 (H5.out.rs CH6.out (fun _ h => h) X7.out) (blk_len xb) HKK.out).mono ?_
    rintro e w8 ⟨rfl, rv8, hrs, hcr, hrf⟩
    have N8 := Lib.hid (H5.out.next DK6.out CH6.out (fun _ h => h) FT6.out X7.out hrs hcr (fun _ h => h) hrf (H5.out.2.2.1.writes xn (blkOf xb) _ (fun h => wErr_has h)))
    have hbox : w8.heap[X]? = w7.heap[X]? := hcr.block _ (by have := X7.out.size; have := LX6.out; omega) (fun e => NX.out (.inr e))
    have S8 := Lib.hid (And.intro ((World.cell?_of_block (a := ⟨X, 1, none⟩) hbox).trans S7.out.1) ((World.cell?_of_block (a := ⟨X, 2, none⟩) hbox).trans S7.out.2))
    clear hrs hcr hrf hbox
    go_wp2_with fail
    refine hK.out _ _ S8.out (fun hHeld => ?_)
    clear hK K
    try simp only [Act.put, List.setIfInBounds_toArray, List.set_cons_zero, List.set_cons_succ]
    refine wpAnyH_take (i := 14) (oi := ({ dst := some 29, op := Op.binOp BinOp.eql 33 (Operand.tmp 21) (Operand.tmp 28) 33, type := 4, pos := "law.go:52", after := #[{ on := 6, ground := Ground.data }, { on := 13, ground := Ground.data }], guard := none } : Oper)) (v := ?_) rfl (by kernel_rfl) (by kernel_rfl) (by kernel_rfl) (fun _ _ _ h => h) (Or.inl ⟨by rfl, ?_⟩) (by assumption) ?_
    rotate_left 1
    · (intro u hSw; go_simp; try with_reducible rfl)
    try simp only [Act.put, List.setIfInBounds_toArray, List.set_cons_zero, List.set_cons_succ]
    refine wpAnyH_take (i := 15) (oi := ({ dst := some 6, op := Op.assign (Operand.tmp 29), type := 4, pos := "law.go:52", after := #[{ on := 14, ground := Ground.data }, { on := 13, ground := Ground.chain }, { on := 0, ground := Ground.phase }, { on := 1, ground := Ground.phase }, { on := 2, ground := Ground.phase }, { on := 3, ground := Ground.phase }, { on := 4, ground := Ground.phase }, { on := 5, ground := Ground.phase }, { on := 6, ground := Ground.phase }, { on := 7, ground := Ground.phase }, { on := 8, ground := Ground.phase }, { on := 9, ground := Ground.phase }, { on := 10, ground := Ground.phase }, { on := 11, ground := Ground.phase }, { on := 12, ground := Ground.phase }, { on := 13, ground := Ground.phase }, { on := 14, ground := Ground.phase }], guard := none } : Oper)) (v := ?_) rfl (by kernel_rfl) (by kernel_rfl) (by kernel_rfl) (fun _ _ _ h => h) (Or.inl ⟨by rfl, ?_⟩) (by assumption) ?_
    rotate_left 1
    · (intro u hSw; go_simp; try with_reducible rfl)
    try simp only [Act.put, List.setIfInBounds_toArray, List.set_cons_zero, List.set_cons_succ]
    refine wpAnyH_done (by kernel_rfl) ?_ _
    have H8 := Lib.hid N8.out.1
    go_wp2_with fail
    go_ret
    exact ⟨rfl, _, _, _, _, _, _, _, _, _, H8.out, (by split <;> simp), (((B1.out.trans (X5.out.mono (by have := HB0.out; have := B1.out.size; omega))).trans N8.out.2))⟩
  by_cases h1 : xk = 1
  · subst h1
    have c0 := C0.out
    have c1 := C1.out
    have hz := zero35
    have HI35 := Lib.hid (show (Try.prog.info? 35).map (·.size) = some 256 by kernel_rfl)
    have SZ := Lib.hid (show (ArrU8 (zeros 256)).size = 256 by rw [ArrU8_size, zeros, List.length_replicate])
    go_wp2_with fail
    refine (read_dk B D M nb rm fz xn dn f L lv w1 H1.out.1).mono ?_
    rintro e wa ⟨he, hb⟩
    have HG := Lib.hid (rdF_len nb xn dn f H1.out.1.2.2.2.2.2.2.1)
    have HRR := fun u (h : Both u B D M R gf nb fcap rm fz dn f L lv rv bs KW) => rread_rs B R gf nb fcap rv rm fz xn dn bs KW f L u h.2.1 h.2.2.1 HKK.out
    generalize rdF nb xn dn f = g at *
    generalize readErr nb xn dn = E at *
    subst he
    have SG := Lib.hid (show (ArrU8 g).size = 256 by rw [ArrU8_size, HG.out])
    have HRR := Lib.hid HRR
    have XA := Lib.hid hb
    have HA := Lib.hid (H1.out.fresh hb)
    have c1 := (hb.cell (p := ⟨X, 1, none⟩) LX.out).trans c1
    have CA := Lib.hid c1
    clear hb c0 c1
    go_wp2_with (refine wpList_store_nw rfl 35 (Operand.tmp 7) (Operand.tmp 37) rfl wa _ 35 rfl wa.heap.size (ArrU8 g) rfl rfl rfl (by rw [HI35.out, SG.out]) (by rw [SZ.out, SG.out]) (ArrU8_one _) ?_; intro wb hd hb hs; have QB := Lib.hid hd; have XB := Lib.hid hb; have SB := Lib.hid hs; have c1 := (hb.cell (p := ⟨X, 1, none⟩) (by have := XA.out.size; have := LX.out; show X < _; omega)).trans CA.out; clear hd hb hs)
    refine (HRR.out wb (HA.out.fresh XB.out)).mono ?_
    rintro e wc ⟨rfl, hb⟩
    have XC := Lib.hid hb
    clear hb c1
    go_wp2_with (first
      | (refine wpList_store_nw rfl 35 (Operand.tmp 9) (Operand.tmp 44) rfl wc _ 35 rfl wc.heap.size (ArrU8 g) rfl rfl rfl (by rw [HI35.out, SG.out]) (by rw [SZ.out, SG.out]) (ArrU8_one _) ?_; intro wd hd hb hs; have QD := Lib.hid hd; have XD := Lib.hid hb; have SD := Lib.hid hs; clear hd hb hs)
      | (refine wpList_load_row rfl 35 (Operand.tmp 7) rfl wa.heap.size rfl 35 (ArrU8 g) (0, 0) _ ((XD.out.block wa.heap.size (by have := XC.out.size; have := SB.out; omega)).trans ((XC.out.block wa.heap.size (by have := SB.out; omega)).trans QB.out)) Try.underlying35 rfl (by rw [HI35.out, SG.out]) ?_)
      | (refine wpList_load_row rfl 35 (Operand.tmp 9) rfl wc.heap.size rfl 35 (ArrU8 g) (0, 0) _ QD.out Try.underlying35 rfl (by rw [HI35.out, SG.out]) ?_)
      | (refine wpList_of_run rfl (exec_eql_blk (Operand.tmp 46) (Operand.tmp 47) 35 rfl g g rfl rfl HG.out HG.out true (by simp)) ?_))
    have hy : Below w1.heap.size w1 wd := ((XA.out.trans (XB.out.mono XA.out.size)).trans (XC.out.mono (by have := XA.out.size; have := XB.out.size; omega))).trans (XD.out.mono (by have := XA.out.size; have := XB.out.size; have := XC.out.size; omega))
    have HY := Lib.hid hy
    have HD := Lib.hid (H1.out.fresh hy)
    clear hy hz
    go_wp2_with fail
    go_ret
    exact ⟨rfl, _, _, _, _, _, _, _, _, _, HD.out, (Nat.le_succ _), ((B1.out.trans (HY.out.mono (by have := HB0.out; have := B1.out.size; omega))))⟩
  by_cases h2 : xk = 2
  · subst h2
    have c0 := C0.out
    go_wp2_with fail
    refine (sync_dk B D M nb rm fz dn f L lv w1 H1.out.1).mono ?_
    rintro e w2 ⟨he, lv2, hdk, hch, hlv⟩
    generalize hE : (if opOk fz dn = true then (0 : Int) else 44) = E at he
    have HE := Lib.hid hE
    subst he
    clear hE
    have DK2 := Lib.hid hdk
    have CH2 := Lib.hid hch
    have LV2 := Lib.hid hlv
    clear hdk hch hlv c0
    go_wp2_with fail
    refine (rsync_rs B R gf nb fcap rv rm fz dn bs KW w2 (H1.out.rs CH2.out (fun k hk => .inl hk) (Below.refl _ _)) (by have := HKK.out; omega)).mono ?_
    rintro e w3 ⟨he, rv3, hrs, hcr, hrf⟩
    rw [HE.out] at he
    subst he
    have N3 := Lib.hid (H1.out.next DK2.out CH2.out (fun k hk => .inl hk) (fun k hk => .inl (LV2.out.elim (fun e => by rw [← e]; exact hk) (fun e => by subst e; exact hk.elim .inl (fun h => h.elim (fun h => .inr (.inl h)) (fun h => by cases h))))) (Below.refl _ _) hrs hcr (fun _ h => h) hrf (H1.out.2.2.1.syncs _))
    have H3 := Lib.hid N3.out.1
    clear hrs hcr hrf
    go_wp2_with fail
    go_ret
    exact ⟨rfl, _, _, _, _, _, _, _, _, _, H3.out, (by split <;> simp), ((B1.out.trans N3.out.2))⟩
  by_cases h3 : xk = 3
  · subst h3
    have c0 := C0.out
    have c1 := C1.out
    go_wp2_with fail
    refine (room_dk B D M nb rm fz xn dn f L lv w1 H1.out.1).mono ?_
    rintro e w2 ⟨rfl, hdk, hch⟩
    have DK2 := Lib.hid hdk
    have CH2 := Lib.hid hch
    have c1 := (World.cell?_of_block (a := ⟨X, 1, none⟩) (hch.block X LX.out (fun e => NX.out (.inl (.inl e))))).trans c1
    clear hdk hch c0
    go_wp2_with fail
    refine (rroom_rs B R gf nb fcap rv rm fz xn dn bs KW w2 (H1.out.rs CH2.out (fun k hk => .inl hk) (Below.refl _ _))).mono ?_
    rintro e w3 ⟨rfl, hrs, hcr⟩
    have N3 := Lib.hid (H1.out.next DK2.out CH2.out (fun k hk => .inl hk) (fun _ h => .inl h) (Below.refl _ _) hrs hcr (fun k hk => .inl hk) (fun _ h => .inl h) H1.out.2.2.1)
    have H3 := Lib.hid N3.out.1
    clear hrs hcr c1
    go_wp2_with fail
    obtain ⟨ra, rc, hrv⟩ := H3.out.2.1.2.2.1.shape
    subst hrv
    have r0 : w3.cell? ⟨R, 0, none⟩ = some (.slice (some ⟨gf, 0, none⟩) nb fcap) := H3.out.2.1.1.cell 0
    have r1 : w3.cell? ⟨R, 1, none⟩ = some (.slice _ _ _) := H3.out.2.1.1.cell 1
    have r4 : w3.cell? ⟨R, 4, none⟩ = some (.bool _) := H3.out.2.1.1.cell 4
    have hlen := H3.out.len
    rw [hlen] at r1
    clear hlen
    go_quiet (first
      | (go_at_call 28; refine Calls.quiet_of_same ((down_any D _ _ _ _ _ _ _ (H3.out.drewN _).1.1).mono (fun e w' h => ⟨h.2, h.1.symm⟩)))
      | (go_at_call 25; refine Calls.quiet_of_same ((loose_dk _ _ _ _ _ _ _ _ _ _ _ (H3.out.drewN _).1).mono (fun e w' h => ⟨h.2, h.1.symm⟩)))
      | (go_at_call 56; refine Calls.quiet_of_same ((blocks_any D _ _ _ _ _ _ _ (H3.out.drewN _).1.1).mono (fun e w' h => ⟨h.2, h.1.symm⟩))))
    go_wp2_with fail
    go_ret
    exact ⟨rfl, _, _, _, _, _, _, _, _, _, H3.out.drewN _, (Nat.le_succ _), (below_drewN (B1.out.trans N3.out.2) _)⟩
  by_cases h4 : xk = 4
  · subst h4
    have c0 := C0.out
    have c1 := C1.out
    go_wp2_with fail
    refine (arm_dk B D M nb rm fz xn dn f L lv w1 H1.out.1 HXN.out).mono ?_
    rintro e w2 ⟨rfl, hdk, hch⟩
    have DK2 := Lib.hid hdk
    have CH2 := Lib.hid hch
    have c1 := (World.cell?_of_block (a := ⟨X, 1, none⟩) (hch.block X LX.out (fun e => NX.out (.inl (.inl e))))).trans c1
    clear hdk hch c0
    go_wp2_with fail
    refine (rarm_rs B R gf nb fcap rv rm fz xn dn bs KW w2 (H1.out.rs CH2.out (fun k hk => .inl hk) (Below.refl _ _)) HXN.out).mono ?_
    rintro e w3 ⟨rfl, hrs, hcr⟩
    have N3 := Lib.hid (H1.out.next DK2.out CH2.out (fun k hk => .inl hk) (fun _ h => .inl h) (Below.refl _ _) hrs hcr (fun k hk => .inl hk) (fun _ h => .inl h) H1.out.2.2.1)
    have H3 := Lib.hid N3.out.1
    clear hrs hcr c1
    go_wp2_with fail
    obtain ⟨ra, rc, hrv⟩ := H3.out.2.1.2.2.1.shape
    subst hrv
    have r0 : w3.cell? ⟨R, 0, none⟩ = some (.slice (some ⟨gf, 0, none⟩) nb fcap) := H3.out.2.1.1.cell 0
    have r1 : w3.cell? ⟨R, 1, none⟩ = some (.slice _ _ _) := H3.out.2.1.1.cell 1
    have r4 : w3.cell? ⟨R, 4, none⟩ = some (.bool _) := H3.out.2.1.1.cell 4
    have hlen := H3.out.len
    rw [hlen] at r1
    clear hlen
    go_quiet (first
      | (go_at_call 28; refine Calls.quiet_of_same ((down_any D _ _ _ _ _ _ _ (H3.out.drewN _).1.1).mono (fun e w' h => ⟨h.2, h.1.symm⟩)))
      | (go_at_call 25; refine Calls.quiet_of_same ((loose_dk _ _ _ _ _ _ _ _ _ _ _ (H3.out.drewN _).1).mono (fun e w' h => ⟨h.2, h.1.symm⟩)))
      | (go_at_call 56; refine Calls.quiet_of_same ((blocks_any D _ _ _ _ _ _ _ (H3.out.drewN _).1.1).mono (fun e w' h => ⟨h.2, h.1.symm⟩))))
    go_wp2_with fail
    go_ret
    exact ⟨rfl, _, _, _, _, _, _, _, _, _, H3.out.drewN _, (Nat.le_succ _), (below_drewN (B1.out.trans N3.out.2) _)⟩
  by_cases h5 : xk = 5
  · subst h5
    have c0 := C0.out
    have c1 := C1.out
    have c3 := C3.out
    go_wp2_with fail
    refine (up_any B D M nb rm fz xn dn f L lv (.slice ka ks.length kc) ks w1 H1.out.1 KB1.out (fun b o n c e h0 => by have := HKB.out b o n c e h0; have := (H1.out.1.foot M (.inr (.inl rfl))).1; omega) HLL.out (by have := HKL.out; omega)).mono ?_
    rintro e w2 ⟨rfl, hdk, hch⟩
    have DK2 := Lib.hid hdk
    have CH2 := Lib.hid hch
    have c1 := (World.cell?_of_block (a := ⟨X, 1, none⟩) (hch.block X LX.out (fun e => NX.out (.inl (e.elim .inl (fun e => .inr (.inl e))))))).trans c1
    have c3 := (World.cell?_of_block (a := ⟨X, 3, none⟩) (hch.block X LX.out (fun e => NX.out (.inl (e.elim .inl (fun e => .inr (.inl e))))))).trans c3
    have KB2 := Lib.hid (KB1.out.cg hch (fun b o n c e h0 he => by
      have := HKB.out b o n c e h0
      have h6 := (H1.out.1.foot D (.inl rfl)).1
      have h7 := (H1.out.1.foot M (.inr (.inl rfl))).1
      omega))
    clear hdk hch c0
    go_wp2_with fail
    refine (rup_rs B R gf nb fcap rv (.slice ka ks.length kc) rm fz xn dn bs KW ks w2 (H1.out.rs CH2.out (fun k hk => hk.elim .inl (fun h => .inr (.inl h))) (Below.refl _ _)) KB2.out (fun b o n c e h0 => by have := HKB.out b o n c e h0; have := (H1.out.2.1.foot gf (.inr (.inl rfl))).1; omega) HKK.out (by have := HKL.out; omega)).mono ?_
    rintro e w3 ⟨rfl, hrs, hcr⟩
    have N3 := Lib.hid (H1.out.next DK2.out CH2.out (fun k hk => hk.elim .inl (fun h => .inr (.inl h))) (fun k hk => .inl (hk.elim .inl (fun h => h.elim (fun h => .inr (.inl h)) (fun h => by cases h)))) (Below.refl _ _) hrs hcr (fun k hk => hk.elim .inl (fun h => .inr (.inl h))) (fun k hk => .inl (hk.elim .inl (fun h => h.elim (fun h => .inr (.inl h)) (fun h => by cases h)))) (H1.out.2.2.1.up ks xn))
    have H3 := Lib.hid N3.out.1
    clear hrs hcr c1 c3
    go_wp2_with fail
    have r0 : w3.cell? ⟨R, 0, none⟩ = some (.slice (some ⟨gf, 0, none⟩) nb fcap) := H3.out.2.1.1.cell 0
    have r1 : w3.cell? ⟨R, 1, none⟩ = some (.slice _ _ _) := H3.out.2.1.1.cell 1
    have r4 : w3.cell? ⟨R, 4, none⟩ = some (.bool _) := H3.out.2.1.1.cell 4
    go_quiet (first
      | (go_at_call 28; refine Calls.quiet_of_same ((down_any D _ _ _ _ _ _ _ (H3.out.drewN _).1.1).mono (fun e w' h => ⟨h.2, h.1.symm⟩)))
      | (go_at_call 25; refine Calls.quiet_of_same ((loose_dk _ _ _ _ _ _ _ _ _ _ _ (H3.out.drewN _).1).mono (fun e w' h => ⟨h.2, h.1.symm⟩)))
      | (go_at_call 56; refine Calls.quiet_of_same ((blocks_any D _ _ _ _ _ _ _ (H3.out.drewN _).1.1).mono (fun e w' h => ⟨h.2, h.1.symm⟩))))
    go_wp2_with fail
    go_ret
    exact ⟨rfl, _, _, _, _, _, _, _, _, _, H3.out.drewN _, (Nat.zero_le _), (below_drewN (B1.out.trans N3.out.2) _)⟩
  have c0 := C0.out
  go_wp2_with fail
  clear c0
  go_wp2_with fail
  obtain ⟨ra, rc, hrv⟩ := H1.out.2.1.2.2.1.shape
  subst hrv
  have r0 : w1.cell? ⟨R, 0, none⟩ = some (.slice (some ⟨gf, 0, none⟩) nb fcap) := H1.out.2.1.1.cell 0
  have r1 : w1.cell? ⟨R, 1, none⟩ = some (.slice _ _ _) := H1.out.2.1.1.cell 1
  have r4 : w1.cell? ⟨R, 4, none⟩ = some (.bool _) := H1.out.2.1.1.cell 4
  have hlen := H1.out.len
  rw [hlen] at r1
  clear hlen
  go_quiet (first
    | (go_at_call 28; refine Calls.quiet_of_same ((down_any D _ _ _ _ _ _ _ (H1.out.drewN _).1.1).mono (fun e w' h => ⟨h.2, h.1.symm⟩)))
    | (go_at_call 25; refine Calls.quiet_of_same ((loose_dk _ _ _ _ _ _ _ _ _ _ _ (H1.out.drewN _).1).mono (fun e w' h => ⟨h.2, h.1.symm⟩)))
    | (go_at_call 56; refine Calls.quiet_of_same ((blocks_any D _ _ _ _ _ _ _ (H1.out.drewN _).1.1).mono (fun e w' h => ⟨h.2, h.1.symm⟩))))
  go_wp2_with fail
  go_ret
  exact ⟨rfl, _, _, _, _, _, _, _, _, _, H1.out.drewN _, (Nat.le_succ _), (below_drewN B1.out _)⟩
end Go.Proofs.Ytoedmhgbnjmejaa
