import Derived.Test.YtaibminomehppaaDiskP
import Derived.WalkKit
import Derived.ProofKit
import Derived.BigQuiet
import Derived.Deep.QuietTactic
import Derived.WalkSpells
import Derived.WalkLawsBesides
import Derived.Lib.Hide
import Derived.Deep.MidRow
import Derived.Deep.RegionLaw
import Derived.BigRegion
import Derived.Laws.AppendOwnNone
import Derived.Deep.DeepMust
import Derived.Deep.AppendLies
import Derived.RegionTactic
import Derived.Deep.WholeRow
import Derived.BigFrame
import Derived.Deep.RegionWith
import Derived.Deep.RegionHeld3
import Derived.Maps.RangeWalk
import Derived.Laws.CopyOwn
import Derived.StillTailTactics
namespace Go.Proofs.Ytaibminomehppaa
open Go.RowKit
theorem BkC.cg {w w' : World} {B g : Nat} {v : Value} {bs : List (List Int)} {F : Nat → Prop} (h : BkC w B g v bs) (hc : Chg F w w') (hF : ¬ F g) : BkC w' B g v bs :=
  h.of (hc.block g h.2.2.1 hF) (Nat.lt_of_lt_of_le h.2.2.1 hc.size)
/-- the blocks, with the writes made firm -/
def firmL (bs : List (List Int)) (K : List RW) : List (List Int) := K.foldl (fun bs x => bs.set x.1.toNat x.2) bs
theorem firmL_len (K : List RW) : ∀ (bs : List (List Int)), (firmL bs K).length = bs.length := by
  induction K with
  | nil => intro bs; rfl
  | cons x K ih => intro bs; show (firmL (bs.set x.1.toNat x.2) K).length = _; rw [ih, List.length_set]
theorem firmL_snoc (bs : List (List Int)) (K : List RW) (i : Nat) (x : RW) (h : K[i]? = some x) : firmL bs (K.take (i + 1)) = (firmL bs (K.take i)).set x.1.toNat x.2 := by
  have hlt := (List.getElem?_eq_some_iff.1 h).1
  rw [List.take_succ_eq_append_getElem hlt, (List.getElem?_eq_some_iff.1 h).2, firmL, List.foldl_append]
  rfl
def RSyncEnds (B R gf : Nat) (fv lv : Value) (rm fz : Int) (off : Bool) (bs : List (List Int)) (K : List RW) (w : World) (e : Ending) (w' : World) : Prop :=
  e = .returned (.int .i64 (if opDn fz off = true then 44 else 0)) ∧ RefIs w' R (RC fv (if opDn fz off = true then lv else .slice none 0 0) rm (opFz fz off) (opDn fz off)) ∧ BkC w' B gf fv (if opDn fz off = true then bs else firmL bs K) ∧ Chg (fun k => k = R ∨ k = gf) w w'
set_option maxRecDepth 100000 in
set_option maxHeartbeats 4000000 in
theorem rsync_any (B R gf : Nat) (fv lv : Value) (rm fz : Int) (off : Bool) (bs : List (List Int)) (K : List RW) (w : World) (hd : RefIs w R (RC fv lv rm fz off)) (hf : -1 ≤ fz ∧ fz ≤ 9223372036854775807) (hb : BkC w B gf fv bs) (hl : RLIs w B lv K) (hK : ROK K) (hr : ∀ x ∈ K, 0 ≤ x.1 ∧ x.1 < bs.length) (hne : R ≠ gf) (hng : ∀ k, lv.ownBlock = some k → k ≠ gf ∧ k ≠ R) (hKl : K.length ≤ 268435456) :
    Calls Try.prog 41 #[.pointer (some ⟨R, 0, none⟩)] w (RSyncEnds B R gf fv lv rm fz off bs K w) := by
  have HD := Lib.hid hd
  have HB := Lib.hid hb
  have HL := Lib.hid hl
  have HK := Lib.hid hK
  have HR := Lib.hid hr
  have HNG := Lib.hid hng
  have HOF := Lib.hid (off_any R fv lv rm fz off w hd hf.1 hf.2)
  clear hd hb hl hK hr hng
  go_enter Try.func41, Try.ntmps41
  go_wp2_with fail
  refine HOF.out.mono ?_
  rintro e w1 ⟨rfl, hd1, hg1, hs1⟩
  have HD1 := Lib.hid hd1
  have HC1 := Lib.hid (show Chg (fun k => k = R) w w1 from Chg.grown hg1 (fun k hk => by injection hk with hk; exact hk.symm))
  have HB1 := Lib.hid (HB.out.cg HC1.out (fun e => hne e.symm))
  have HL1 := Lib.hid (show RLIs w1 B lv K from by
    refine ⟨HL.out.1, ?_⟩
    rcases HL.out.2 with h | ⟨g, cap, cur, e, hb, hg, rest⟩
    · exact .inl h
    · exact .inr ⟨g, cap, cur, e, hb, (HC1.out.block g (Array.getElem?_eq_some_iff.1 hg).1 (fun h => (HNG.out g (by rw [e]; rfl)).2 h)).trans hg, rest⟩)
  clear hd1 hg1 hs1 HOF HD HB HL
  obtain ⟨od, hod⟩ : ∃ od, opDn fz off = od := ⟨_, rfl⟩
  rw [hod]
  have HOD := Lib.hid hod
  clear hod
  cases od
  · obtain ⟨fcap, hfv⟩ := HB1.out.1
    subst hfv
    obtain ⟨la, lc, hlv⟩ := HL1.out.shape
    subst hlv
    rw [HOD.out] at HD1
    have c0 : w1.cell? ⟨R, 0, none⟩ = some (.slice (some ⟨gf, 0, none⟩) bs.length fcap) := HD1.out.cell 0
    have c1 : w1.cell? ⟨R, 1, none⟩ = some (.slice la K.length lc) := HD1.out.cell 1
    have C0 := Lib.hid c0
    have C1 := Lib.hid c1
    have hRlt := HD1.out.lt
    have HI35 := Lib.hid (show (Try.prog.info? 52).map (·.size) = some 256 by kernel_rfl)
    clear c0 c1
    go_wp2_with fail
    go_loopw [4] (fun iv wr => ∃ i : Nat, i ≤ K.length ∧ iv = .int .i64 (i : Int) ∧ Chg (fun k => k = gf) w1 wr ∧ BkC wr B gf (.slice (some ⟨gf, 0, none⟩) bs.length fcap) (firmL bs (K.take i))) (fun iv _ => K.length - (intOf iv).toNat)
    case atStart => exact ⟨0, Nat.zero_le _, rfl, Chg.refl _ _, by rw [List.take_zero]; exact HB1.out⟩
    case round =>
      obtain ⟨i, hi, rfl, hcr, hbr⟩ := hrel
      have HCR := Lib.hid hcr
      have HBR := Lib.hid hbr
      have c1 : wr.cell? ⟨R, 1, none⟩ = some (.slice la K.length lc) := (World.cell?_of_block (a := ⟨R, 1, none⟩) (hcr.block R hRlt hne)).trans C1.out
      have C1R := Lib.hid c1
      have C0R := Lib.hid (show wr.cell? ⟨R, 0, none⟩ = some (.slice (some ⟨gf, 0, none⟩) bs.length fcap) from (World.cell?_of_block (a := ⟨R, 0, none⟩) (hcr.block R hRlt hne)).trans C0.out)
      clear hcr hbr
      by_cases hil : i < K.length
      · have hx : K[i]? = some (K[i]'hil) := List.getElem?_eq_getElem hil
        obtain ⟨g, lcap, hlv, hat⟩ := HL1.out.at HK.out (by omega)
        injection hlv with e1 _ e2
        subst e1 e2
        generalize K[i]'hil = x at hx
        obtain ⟨hc0, hc1⟩ := hat i x hx
        have hgl := (HL1.out.lt g rfl).2
        have hgf := (HNG.out g rfl).1
        have hxm := List.mem_of_getElem? hx
        have hxl := HK.out x hxm
        obtain ⟨m, hm⟩ : ∃ m : Nat, x.1 = (m : Int) := ⟨x.1.toNat, by have := (HR.out x hxm).1; omega⟩
        have hml : m < bs.length := by have := (HR.out x hxm).2; omega
        have hst := firmL_snoc bs K i x hx
        rw [hm, Int.toNat_natCast] at hst
        have HST := Lib.hid hst
        have CN := Lib.hid (show wr.cell? ⟨g, i * 257, none⟩ = some (.int .i64 (m : Int)) from by rw [← hm]; exact (World.cell?_of_block (a := ⟨g, i * 257, none⟩) (HCR.out.block g hgl hgf)).trans hc0)
        have HRX := Lib.hid (show wr.rangeAt g (i * 257 + 1) (x.2.map (Value.int .u8)) from fun j v hv => (World.cell?_of_block (a := ⟨g, i * 257 + 1 + j, none⟩) (HCR.out.block g hgl hgf)).trans (hc1 j v hv))
        generalize x.2 = xb at *
        generalize firmL bs (K.take i) = fb at *
        have HFL := Lib.hid (show fb.length = bs.length from by have := HBR.out.1; obtain ⟨c, e⟩ := this; injection e with _ e _; exact e.symm)
        have hml2 : m < fb.length := by rw [HFL.out]; exact hml
        have HSET := Lib.hid ((show BkC wr.drew B gf _ fb from HBR.out.of rfl HBR.out.2.2.1).set m hml2 xb hxl)
        have HTH := Lib.hid (show wr.drew.there gf (m * 256) (ArrU8 xb).size from fun j hj => by
          rw [ArrU8_size, hxl] at hj
          have := HBR.out.2.2.2.2 (m * 256 + j) (by omega)
          rw [Nat.zero_add] at this
          exact this)
        have SX := Lib.hid (show (ArrU8 xb).size = 256 by rw [ArrU8_size, hxl])
        have HXM := Lib.hid (show (Try.prog.info? 52).map (·.size) = some (xb.map (Value.int .u8)).length by rw [HI35.out, List.length_map, hxl])
        have hE : Chg (fun k => k = gf) wr.drew (wr.drew.setCells gf (m * 256) (ArrU8 xb).toList) := Chg.grown (setCells_grown _ _ _ _) (fun k hk => by injection hk with hk; exact hk.symm)
        have HE := Lib.hid hE
        have hblk : ∀ b, b ≠ gf → (wr.drew.setCells gf (m * 256) (ArrU8 xb).toList).heap[b]? = wr.heap[b]? := fun b hb => setCells_block _ _ _ _ _ hb
        have HS2 := Lib.hid (show (wr.drew.setCells gf (m * 256) (ArrU8 xb).toList).cell? ⟨R, 0, none⟩ = some (.slice (some ⟨gf, 0, none⟩) bs.length fcap) ∧ (wr.drew.setCells gf (m * 256) (ArrU8 xb).toList).cell? ⟨R, 1, none⟩ = some (.slice (some ⟨g, 0, none⟩) K.length lc) ∧ (wr.drew.setCells gf (m * 256) (ArrU8 xb).toList).cell? ⟨g, i * 257, none⟩ = some (.int .i64 (m : Int)) ∧ (wr.drew.setCells gf (m * 256) (ArrU8 xb).toList).rangeAt g (i * 257 + 1) (xb.map (Value.int .u8)) from
          ⟨(World.cell?_of_block (a := ⟨R, 0, none⟩) (hblk R hne)).trans C0R.out, (World.cell?_of_block (a := ⟨R, 1, none⟩) (hblk R hne)).trans C1R.out, (World.cell?_of_block (a := ⟨g, i * 257, none⟩) (hblk g hgf)).trans CN.out, fun j v hv => (World.cell?_of_block (a := ⟨g, i * 257 + 1 + j, none⟩) (hblk g hgf)).trans (HRX.out j v hv)⟩)
        have HS1 := Lib.hid (And.intro C0R.out (And.intro C1R.out (And.intro CN.out HRX.out)))
        have hm1 : (m : Int) < bs.length := by omega
        clear hat hc0 hc1 hxm hx hm hst hE hblk hml2 hxl
        go_wp2_with fail
        refine wp_region_held_drew (S := fun u => u.cell? ⟨R, 0, none⟩ = some (.slice (some ⟨gf, 0, none⟩) bs.length fcap) ∧ u.cell? ⟨R, 1, none⟩ = some (.slice (some ⟨g, 0, none⟩) K.length lc) ∧ u.cell? ⟨g, i * 257, none⟩ = some (.int .i64 (m : Int)) ∧ u.rangeAt g (i * 257 + 1) (xb.map (Value.int .u8))) (by kernel_rfl) (HS1.out) (fun hHeld => ?_)
        refine wpAnyH_take (i := 0) (oi := ({ dst := some 17, op := Op.move (Operand.tmp 0), type := 27, pos := "ref.go:83", after := #[], guard := none } : Oper)) (v := ?_) rfl (by kernel_rfl) (by kernel_rfl) (by kernel_rfl) (fun _ _ _ h => h) (Or.inl ⟨by rfl, ?_⟩) (by assumption) ?_
        rotate_left 1
        · (intro u hSw; go_simp; try with_reducible rfl)
        try simp only [Act.put, List.setIfInBounds_toArray, List.set_cons_zero, List.set_cons_succ]
        refine wpAnyH_take (i := 1) (oi := ({ dst := some 18, op := Op.nilCheck (Operand.tmp 17), type := 0, pos := "ref.go:83", after := #[{ on := 0, ground := Ground.data }], guard := none } : Oper)) (v := ?_) rfl (by kernel_rfl) (by kernel_rfl) (by kernel_rfl) (fun _ _ _ h => h) (Or.inl ⟨by rfl, ?_⟩) (by assumption) ?_
        rotate_left 1
        · (intro u hSw; go_simp; try with_reducible rfl)
        try simp only [Act.put, List.setIfInBounds_toArray, List.set_cons_zero, List.set_cons_succ]
        refine wpAnyH_take (i := 2) (oi := ({ dst := some 19, op := Op.fieldAddr 77 (Operand.tmp 18) 0, type := 0, pos := "ref.go:83", after := #[{ on := 1, ground := Ground.data }], guard := none } : Oper)) (v := ?_) rfl (by kernel_rfl) (by kernel_rfl) (by kernel_rfl) (fun _ _ _ h => h) (Or.inl ⟨by rfl, ?_⟩) (by assumption) ?_
        rotate_left 1
        · (intro u hSw; go_simp; try with_reducible rfl)
        try simp only [Act.put, List.setIfInBounds_toArray, List.set_cons_zero, List.set_cons_succ]
        refine wpAnyH_take (i := 3) (oi := ({ dst := some 20, op := Op.load 74 (Operand.tmp 19), type := 74, pos := "ref.go:83", after := #[{ on := 2, ground := Ground.data }], guard := none } : Oper)) (v := ?_) rfl (by kernel_rfl) (by kernel_rfl) (by kernel_rfl) (fun _ _ _ h => h) (Or.inl ⟨by rfl, ?_⟩) (by assumption) ?_
        rotate_left 1
        · intro u hSw
          have h := hSw.1
          go_simp
          try with_reducible rfl
        try simp only [Act.put, List.setIfInBounds_toArray, List.set_cons_zero, List.set_cons_succ]
        refine wpAnyH_take (i := 4) (oi := ({ dst := some 21, op := Op.move (Operand.tmp 0), type := 27, pos := "ref.go:83", after := #[], guard := none } : Oper)) (v := ?_) rfl (by kernel_rfl) (by kernel_rfl) (by kernel_rfl) (fun _ _ _ h => h) (Or.inl ⟨by rfl, ?_⟩) (by assumption) ?_
        rotate_left 1
        · (intro u hSw; go_simp; try with_reducible rfl)
        try simp only [Act.put, List.setIfInBounds_toArray, List.set_cons_zero, List.set_cons_succ]
        refine wpAnyH_take (i := 5) (oi := ({ dst := some 22, op := Op.nilCheck (Operand.tmp 21), type := 0, pos := "ref.go:83", after := #[{ on := 4, ground := Ground.data }], guard := none } : Oper)) (v := ?_) rfl (by kernel_rfl) (by kernel_rfl) (by kernel_rfl) (fun _ _ _ h => h) (Or.inl ⟨by rfl, ?_⟩) (by assumption) ?_
        rotate_left 1
        · (intro u hSw; go_simp; try with_reducible rfl)
        try simp only [Act.put, List.setIfInBounds_toArray, List.set_cons_zero, List.set_cons_succ]
        refine wpAnyH_take (i := 6) (oi := ({ dst := some 23, op := Op.fieldAddr 77 (Operand.tmp 22) 1, type := 0, pos := "ref.go:83", after := #[{ on := 5, ground := Ground.data }], guard := none } : Oper)) (v := ?_) rfl (by kernel_rfl) (by kernel_rfl) (by kernel_rfl) (fun _ _ _ h => h) (Or.inl ⟨by rfl, ?_⟩) (by assumption) ?_
        rotate_left 1
        · (intro u hSw; go_simp; try with_reducible rfl)
        try simp only [Act.put, List.setIfInBounds_toArray, List.set_cons_zero, List.set_cons_succ]
        refine wpAnyH_take (i := 7) (oi := ({ dst := some 24, op := Op.load 75 (Operand.tmp 23), type := 75, pos := "ref.go:83", after := #[{ on := 6, ground := Ground.data }], guard := none } : Oper)) (v := ?_) rfl (by kernel_rfl) (by kernel_rfl) (by kernel_rfl) (fun _ _ _ h => h) (Or.inl ⟨by rfl, ?_⟩) (by assumption) ?_
        rotate_left 1
        · intro u hSw
          have h := hSw.2.1
          go_simp
          try with_reducible rfl
        try simp only [Act.put, List.setIfInBounds_toArray, List.set_cons_zero, List.set_cons_succ]
        refine wpAnyH_take (i := 8) (oi := ({ dst := some 25, op := Op.move (Operand.tmp 4), type := 3, pos := "ref.go:83", after := #[], guard := none } : Oper)) (v := ?_) rfl (by kernel_rfl) (by kernel_rfl) (by kernel_rfl) (fun _ _ _ h => h) (Or.inl ⟨by rfl, ?_⟩) (by assumption) ?_
        rotate_left 1
        · (intro u hSw; go_simp; try with_reducible rfl)
        try simp only [Act.put, List.setIfInBounds_toArray, List.set_cons_zero, List.set_cons_succ]
        refine wpAnyH_take (i := 9) (oi := ({ dst := some 26, op := Op.indexAddr 75 (Operand.tmp 24) (Operand.tmp 25), type := 0, pos := "ref.go:83", after := #[{ on := 7, ground := Ground.data }, { on := 8, ground := Ground.data }], guard := none } : Oper)) (v := ?_) rfl (by kernel_rfl) (by kernel_rfl) (by kernel_rfl) (fun _ _ _ h => h) (Or.inl ⟨by rfl, ?_⟩) (by assumption) ?_
        rotate_left 1
        · (intro u hSw; go_simp; try with_reducible rfl)
        try simp only [Act.put, List.setIfInBounds_toArray, List.set_cons_zero, List.set_cons_succ]
        refine wpAnyH_take (i := 10) (oi := ({ dst := some 27, op := Op.fieldAddr 134 (Operand.tmp 26) 0, type := 0, pos := "ref.go:83", after := #[{ on := 9, ground := Ground.data }], guard := none } : Oper)) (v := ?_) rfl (by kernel_rfl) (by kernel_rfl) (by kernel_rfl) (fun _ _ _ h => h) (Or.inl ⟨by rfl, ?_⟩) (by assumption) ?_
        rotate_left 1
        · (intro u hSw; go_simp; try with_reducible rfl)
        try simp only [Act.put, List.setIfInBounds_toArray, List.set_cons_zero, List.set_cons_succ]
        refine wpAnyH_take (i := 11) (oi := ({ dst := some 28, op := Op.load 3 (Operand.tmp 27), type := 3, pos := "ref.go:83", after := #[{ on := 10, ground := Ground.data }], guard := none } : Oper)) (v := ?_) rfl (by kernel_rfl) (by kernel_rfl) (by kernel_rfl) (fun _ _ _ h => h) (Or.inl ⟨by rfl, ?_⟩) (by assumption) ?_
        rotate_left 1
        · intro u hSw
          have h := hSw.2.2.1
          go_simp
          try with_reducible rfl
        try simp only [Act.put, List.setIfInBounds_toArray, List.set_cons_zero, List.set_cons_succ]
        refine wpAnyH_take (i := 12) (oi := ({ dst := some 29, op := Op.move (Operand.tmp 0), type := 27, pos := "ref.go:83", after := #[], guard := none } : Oper)) (v := ?_) rfl (by kernel_rfl) (by kernel_rfl) (by kernel_rfl) (fun _ _ _ h => h) (Or.inl ⟨by rfl, ?_⟩) (by assumption) ?_
        rotate_left 1
        · (intro u hSw; go_simp; try with_reducible rfl)
        try simp only [Act.put, List.setIfInBounds_toArray, List.set_cons_zero, List.set_cons_succ]
        refine wpAnyH_take (i := 13) (oi := ({ dst := some 30, op := Op.nilCheck (Operand.tmp 29), type := 0, pos := "ref.go:83", after := #[{ on := 12, ground := Ground.data }], guard := none } : Oper)) (v := ?_) rfl (by kernel_rfl) (by kernel_rfl) (by kernel_rfl) (fun _ _ _ h => h) (Or.inl ⟨by rfl, ?_⟩) (by assumption) ?_
        rotate_left 1
        · (intro u hSw; go_simp; try with_reducible rfl)
        try simp only [Act.put, List.setIfInBounds_toArray, List.set_cons_zero, List.set_cons_succ]
        refine wpAnyH_take (i := 14) (oi := ({ dst := some 31, op := Op.fieldAddr 77 (Operand.tmp 30) 1, type := 0, pos := "ref.go:83", after := #[{ on := 13, ground := Ground.data }], guard := none } : Oper)) (v := ?_) rfl (by kernel_rfl) (by kernel_rfl) (by kernel_rfl) (fun _ _ _ h => h) (Or.inl ⟨by rfl, ?_⟩) (by assumption) ?_
        rotate_left 1
        · (intro u hSw; go_simp; try with_reducible rfl)
        try simp only [Act.put, List.setIfInBounds_toArray, List.set_cons_zero, List.set_cons_succ]
        refine wpAnyH_take (i := 15) (oi := ({ dst := some 32, op := Op.load 75 (Operand.tmp 31), type := 75, pos := "ref.go:83", after := #[{ on := 14, ground := Ground.data }], guard := none } : Oper)) (v := ?_) rfl (by kernel_rfl) (by kernel_rfl) (by kernel_rfl) (fun _ _ _ h => h) (Or.inl ⟨by rfl, ?_⟩) (by assumption) ?_
        rotate_left 1
        · intro u hSw
          have h := hSw.2.1
          go_simp
          try with_reducible rfl
        try simp only [Act.put, List.setIfInBounds_toArray, List.set_cons_zero, List.set_cons_succ]
        refine wpAnyH_take (i := 16) (oi := ({ dst := some 33, op := Op.move (Operand.tmp 4), type := 3, pos := "ref.go:83", after := #[], guard := none } : Oper)) (v := ?_) rfl (by kernel_rfl) (by kernel_rfl) (by kernel_rfl) (fun _ _ _ h => h) (Or.inl ⟨by rfl, ?_⟩) (by assumption) ?_
        rotate_left 1
        · (intro u hSw; go_simp; try with_reducible rfl)
        try simp only [Act.put, List.setIfInBounds_toArray, List.set_cons_zero, List.set_cons_succ]
        refine wpAnyH_take (i := 17) (oi := ({ dst := some 34, op := Op.indexAddr 75 (Operand.tmp 32) (Operand.tmp 33), type := 0, pos := "ref.go:83", after := #[{ on := 15, ground := Ground.data }, { on := 16, ground := Ground.data }], guard := none } : Oper)) (v := ?_) rfl (by kernel_rfl) (by kernel_rfl) (by kernel_rfl) (fun _ _ _ h => h) (Or.inl ⟨by rfl, ?_⟩) (by assumption) ?_
        rotate_left 1
        · (intro u hSw; go_simp; try with_reducible rfl)
        try simp only [Act.put, List.setIfInBounds_toArray, List.set_cons_zero, List.set_cons_succ]
        refine wpAnyH_take (i := 18) (oi := ({ dst := some 35, op := Op.fieldAddr 134 (Operand.tmp 34) 1, type := 0, pos := "ref.go:83", after := #[{ on := 17, ground := Ground.data }], guard := none } : Oper)) (v := ?_) rfl (by kernel_rfl) (by kernel_rfl) (by kernel_rfl) (fun _ _ _ h => h) (Or.inl ⟨by rfl, ?_⟩) (by assumption) ?_
        rotate_left 1
        · (intro u hSw; go_simp; try with_reducible rfl)
        try simp only [Act.put, List.setIfInBounds_toArray, List.set_cons_zero, List.set_cons_succ]
        refine wpAnyH_take (i := 19) (oi := ({ dst := some 36, op := Op.load 52 (Operand.tmp 35), type := 52, pos := "ref.go:83", after := #[{ on := 18, ground := Ground.data }], guard := none } : Oper)) (v := .agg (ArrU8 xb)) rfl (by kernel_rfl) (by kernel_rfl) (by kernel_rfl) (fun _ _ _ h => h) (Or.inl ⟨by rfl, ?_⟩) (by assumption) ?_
        · intro u hSw
          exact exec_load_mid 52 (Operand.tmp 35) rfl g (i * 257 + 1) rfl (xb.map (Value.int .u8)) _ hSw.2.2.2 Try.underlying52 rfl HXM.out
        try simp only [Act.put, List.setIfInBounds_toArray, List.set_cons_zero, List.set_cons_succ]
        refine wpAnyH_take (i := 20) (oi := ({ dst := some 37, op := Op.indexAddr 74 (Operand.tmp 20) (Operand.tmp 28), type := 0, pos := "ref.go:83", after := #[{ on := 3, ground := Ground.data }, { on := 11, ground := Ground.data }, { on := 0, ground := Ground.phase }, { on := 1, ground := Ground.phase }, { on := 2, ground := Ground.phase }, { on := 3, ground := Ground.phase }, { on := 4, ground := Ground.phase }, { on := 5, ground := Ground.phase }, { on := 6, ground := Ground.phase }, { on := 7, ground := Ground.phase }, { on := 8, ground := Ground.phase }, { on := 9, ground := Ground.phase }, { on := 10, ground := Ground.phase }, { on := 11, ground := Ground.phase }, { on := 12, ground := Ground.phase }, { on := 13, ground := Ground.phase }, { on := 14, ground := Ground.phase }, { on := 15, ground := Ground.phase }, { on := 16, ground := Ground.phase }, { on := 17, ground := Ground.phase }, { on := 18, ground := Ground.phase }, { on := 19, ground := Ground.phase }], guard := none } : Oper)) (v := ?_) rfl (by kernel_rfl) (by kernel_rfl) (by kernel_rfl) (fun _ _ _ h => h) (Or.inl ⟨by rfl, ?_⟩) (by assumption) ?_
        rotate_left 1
        · (intro u hSw; go_simp; try with_reducible rfl)
        try simp only [Act.put, List.setIfInBounds_toArray, List.set_cons_zero, List.set_cons_succ]
        refine wpAnyH_ready (rs := [21]) (by kernel_rfl) (by simp) ?_
        refine AllReadyH.cons (o := ({ dst := none, op := Op.store 52 (Operand.tmp 37) (Operand.tmp 36), type := 0, pos := "ref.go:83", after := #[{ on := 20, ground := Ground.data }, { on := 19, ground := Ground.data }, { on := 0, ground := Ground.phase }, { on := 1, ground := Ground.phase }, { on := 2, ground := Ground.phase }, { on := 3, ground := Ground.phase }, { on := 4, ground := Ground.phase }, { on := 5, ground := Ground.phase }, { on := 6, ground := Ground.phase }, { on := 7, ground := Ground.phase }, { on := 8, ground := Ground.phase }, { on := 9, ground := Ground.phase }, { on := 10, ground := Ground.phase }, { on := 11, ground := Ground.phase }, { on := 12, ground := Ground.phase }, { on := 13, ground := Ground.phase }, { on := 14, ground := Ground.phase }, { on := 15, ground := Ground.phase }, { on := 16, ground := Ground.phase }, { on := 17, ground := Ground.phase }, { on := 18, ground := Ground.phase }, { on := 19, ground := Ground.phase }], guard := none } : Oper)) rfl (fun K hK => ?_) AllReadyH.nil
        refine step_of_skip ?_ (exec_store_mid 52 (Operand.tmp 37) (Operand.tmp 36) ?_ gf (m * 256) (ArrU8 xb) ?_ ?_ HTH.out (by rw [SX.out]; exact HI35.out) (ArrU8_one _)) ?_
        rfl
        rfl
        rfl
        rfl
        refine hK.out _ _ HS2.out (fun hHeld => ?_)
        clear hK K
        try simp only [Act.put]
        refine wpAnyH_done (by kernel_rfl) ?_ _
        clear hHeld
        go_wp2_with fail
        go_roundw
        case rel =>
          refine ⟨i + 1, by omega, by go_num, HCR.out.drew.trans HE.out (fun i hi => .inl hi), ?_⟩
          rw [HST.out]
          exact HSET.out
        case measure => simp [intOf]; omega
      · have hix : i = K.length := by omega
        subst hix
        rw [List.take_length] at HBR
        have HDR := Lib.hid (show RefIs wr R _ from (HCR.out.block R hRlt hne).trans HD1.out)
        have c1' := HDR.out.cell 1
        have f1' := HDR.out.frozen 1
        clear c1'
        go_wp2_with fail
        go_ret
        refine ⟨by rw [HOD.out]; rfl, ?_, ?_, ((HC1.out.mono (fun i hi => .inl hi)).trans HCR.out (fun i hi => .inl (.inr hi))).setCell ⟨R, 1, none⟩ _ (.inl (.inl rfl))⟩
        · rw [HOD.out, if_neg (by decide)]; exact HDR.out.set 1 _
        · rw [HOD.out, if_neg (by decide)]
          exact HBR.out.of (Below.heap_setCell _ _ _ _ (fun e => hne e.symm)) (by simp; exact HBR.out.2.2.1)
  · go_wp2_with fail
    go_ret
    refine ⟨by rw [HOD.out]; rfl, ?_, ?_, HC1.out.mono (fun i hi => .inl hi)⟩
    · rw [if_pos HOD.out]; exact HD1.out
    · rw [if_pos HOD.out]; exact HB1.out
end Go.Proofs.Ytaibminomehppaa
