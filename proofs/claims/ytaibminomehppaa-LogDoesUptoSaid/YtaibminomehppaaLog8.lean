import Derived.Test.YtaibminomehppaaLog7
import Derived.WalkKit
import Derived.ProofKit
import Derived.BigQuiet
import Derived.Deep.QuietTactic
import Derived.WalkSpells
import Derived.WalkLawsBesides
import Derived.Lib.Hide
import Derived.Deep.MidRow
import Derived.Deep.RegionLaw
import Derived.BigRegion
import Derived.Laws.AppendOwnNone
import Derived.Deep.DeepMust
import Derived.Deep.AppendLies
import Derived.RegionTactic
import Derived.Deep.WholeRow
import Derived.BigFrame
import Derived.Deep.RegionWith
import Derived.Deep.RegionHeld3
import Derived.Maps.RangeWalk
import Derived.Laws.CopyOwn
import Derived.StillTailTactics

namespace Go.Proofs.Ytaibminomehppaa
open Go.RowKit
/-- v is a slice of slices of the call's own, that reads as ps -/
def OwnPs (T E : TypeId) (w : World) (B : Nat) (v : Value) (ps : List (List Int)) : Prop :=
  ∃ xs : List Value, w.ownsRow B T 1 v ps.length xs ∧ ∀ i, i < ps.length → ∃ x, xs[i]? = some x ∧ w.ownsRow B E 1 x (ps[i]?.getD []).length ((ps[i]?.getD []).map (Value.int .u8)) ∧ (x.ownBlock = none ∨ x.ownBlock ≠ v.ownBlock)
theorem OwnPs.nil (T E : TypeId) (w : World) (B : Nat) : OwnPs T E w B (.slice none 0 0) [] :=
  ⟨[], World.ownsRow_nil _ _ _ _, fun i hi => by simp at hi⟩
theorem OwnPs.below {T E : TypeId} {w w' : World} {B B' : Nat} {v : Value} {ps : List (List Int)} (h : OwnPs T E w B v ps) (hb : Below B' w w') (hB : w.heap.size ≤ B') : OwnPs T E w' B v ps := by
  have hg : w.grownBy w' none := ⟨hb.os, hb.tape, hb.output, hb.size, fun k hk _ => hb.block k (by omega)⟩
  obtain ⟨xs, h1, h2⟩ := h
  refine ⟨xs, h1.kept hg ?_, fun i hi => ?_⟩
  · cases hv : v.ownBlock with
    | none => exact .inl rfl
    | some g => exact .inr (by simp)
  · obtain ⟨x, hx, ho, hne⟩ := h2 i hi
    refine ⟨x, hx, ho.kept hg ?_, hne⟩
    cases hv : x.ownBlock with
    | none => exact .inl rfl
    | some g => exact .inr (by simp)
/-- one part more -/
theorem OwnPs.snoc {T E : TypeId} {w w' : World} {B g cap : Nat} {v x : Value} {ps : List (List Int)} {p : List Int} {xs : List Value}
    (h1 : w.ownsRow B T 1 v ps.length xs) (h2 : ∀ i, i < ps.length → ∃ x, xs[i]? = some x ∧ w.ownsRow B E 1 x (ps[i]?.getD []).length ((ps[i]?.getD []).map (Value.int .u8)) ∧ (x.ownBlock = none ∨ x.ownBlock ≠ v.ownBlock))
    (hx : w.ownsRow B E 1 x p.length (p.map (Value.int .u8))) (hne : x.ownBlock = none ∨ x.ownBlock ≠ v.ownBlock)
    (hown : w'.ownsRow B T 1 (.slice (some ⟨g, 0, none⟩) (ps.length + 1) cap) (ps.length + 1) (xs ++ [x])) (hg : w.grownBy w' v.ownBlock) (hH : v.ownBlock = some g ∨ g = w.heap.size) :
    OwnPs T E w' B (.slice (some ⟨g, 0, none⟩) (ps.length + 1) cap) (ps ++ [p]) := by
  have key : ∀ (y : Value) (q : List Int), w.ownsRow B E 1 y q.length (q.map (Value.int .u8)) → (y.ownBlock = none ∨ y.ownBlock ≠ v.ownBlock) →
      w'.ownsRow B E 1 y q.length (q.map (Value.int .u8)) ∧ (y.ownBlock = none ∨ y.ownBlock ≠ (Value.slice (some ⟨g, 0, none⟩) (ps.length + 1) cap).ownBlock) := by
    intro y q ho hn
    refine ⟨ho.kept hg hn, ?_⟩
    rcases hn with hn | hn
    · exact .inl hn
    · right
      show y.ownBlock ≠ some g
      rcases hH with hH | hH
      · rw [← hH]; exact hn
      · intro he
        have := (ho.lt g he).2
        omega
  refine ⟨xs ++ [x], by simpa using hown, fun i hi => ?_⟩
  have hxl : xs.length = ps.length := by have := h1.1; simpa using this
  by_cases hi2 : i < ps.length
  · obtain ⟨y, hy, ho, hn⟩ := h2 i hi2
    rw [List.getElem?_append_left (by omega), List.getElem?_append_left hi2]
    exact ⟨y, hy, (key y _ ho hn).1, (key y _ ho hn).2⟩
  · have hi3 : i = ps.length := by simp at hi; omega
    subst hi3
    refine ⟨x, by rw [List.getElem?_append_right (by omega), hxl]; simp, ?_⟩
    rw [List.getElem?_append_right (by omega), Nat.sub_self]
    exact key x p hx hne
theorem info22 : (Try.prog.info? 39).map (fun i => (i.zero, i.size, i.bytes)) = some (some (.slice none 0 0), 1, 24) := by kernel_rfl
theorem own_base' {w : World} {B B' e size n : Nat} {v : Value} {xs : List Value} (h : w.ownsRow B' e size v n xs) (hB : B ≤ B') : w.ownsRow B e size v n xs :=
  ⟨h.1, h.2.imp id (fun ⟨g, cap, cur, a, b, c⟩ => ⟨g, cap, cur, a, Nat.le_trans hB b, c⟩)⟩

/-- bytes that lie below a block -/
def BsB (w : World) (B : Nat) (v : Value) (l : List Int) : Prop := Bs w v l ∧ ∀ ad n c, v = .slice (some ad) n c → 0 < l.length → ad.block < B
theorem BsB.kept {w w' : World} {B : Nat} {v : Value} {l : List Int} (h : BsB w B v l) (hb : Below B w w') : BsB w' B v l := by
  refine ⟨?_, h.2⟩
  obtain ⟨a, cap, hv, hc, h1⟩ := h.1
  refine ⟨a, cap, hv, hc, fun hl => ?_⟩
  obtain ⟨b, off, ha, hbs, hcell⟩ := h1 hl
  subst ha
  have hlt := h.2 _ _ _ hv hl
  exact ⟨b, off, rfl, Nat.lt_of_lt_of_le hbs hb.size, fun i hi => (World.cell?_of_block (a := ⟨b, off + i, none⟩) (hb.block b hlt)).trans (hcell i hi)⟩
theorem und62 : Try.prog.underlying 39 = some (.slice (Try.prog.elem 39)) := by kernel_rfl
theorem size62 (u : World) : (sizeOf (Try.prog.elem 39)).run Try.prog u = .ok 1 u := by kernel_rfl
theorem sub_bs {w : World} {a : Option Addr} {n cap : Nat} {l : List Int} (h : Bs w (.slice a n cap) l) (lo hi : Nat) (h1 : lo ≤ hi) (h2 : hi ≤ l.length) : Bs w (sliced a lo hi cap 1) ((l.drop lo).take (hi - lo)) := by
  obtain ⟨a', cap', hv, hc, hx⟩ := h
  injection hv with e1 e2 e3
  subst e1 e2 e3
  have hlen : ((l.drop lo).take (hi - lo)).length = hi - lo := by rw [List.length_take, List.length_drop]; omega
  refine ⟨_, cap - lo, by unfold sliced; rw [hlen], ⟨by rw [hlen]; omega, fun e => ?_⟩, fun hl => ?_⟩
  · by_cases hcl : cap = lo
    · omega
    · cases a with
      | none => have := hc.2 rfl; omega
      | some ad => simp [hcl] at e
  · rw [hlen] at hl
    obtain ⟨b, off, rfl, hbs, hcell⟩ := hx (by omega)
    refine ⟨b, off + lo, by rw [if_neg (by omega)]; simp [Addr.add_mid], hbs, fun i hi2 => ?_⟩
    rw [hlen] at hi2
    rw [Nat.add_assoc, hcell (lo + i) (by omega)]
    congr 2
    rw [List.getElem?_take, if_pos hi2, List.getElem?_drop]
theorem slice_bsb {w : World} {B : Nat} {v : Value} {l : List Int} (h : BsB w B v l) (lo hi : Nat) (h1 : lo ≤ hi) (h2 : hi ≤ l.length) :
    ∃ a n c, (∀ u : World, (Instr.slice 39 v (some (.int .i64 (lo : Int))) (some (.int .i64 (hi : Int))) none).run Try.prog u = .ok (.slice a n c) u) ∧ BsB w B (.slice a n c) ((l.drop lo).take (hi - lo)) := by
  obtain ⟨a, cap, hv, hc, hx⟩ := id h.1
  subst hv
  refine ⟨_, _, _, fun u => ?_, sub_bs h.1 lo hi h1 h2, fun ad n c e hl => ?_⟩
  · rw [run_slice_lh u 39 a l.length cap und62 .i64 .i64 (lo : Int) (hi : Int) (by omega) (by omega) (by omega), size62]
    rfl
  · have hl' : 0 < hi - lo := by rw [List.length_take, List.length_drop] at hl; omega
    obtain ⟨b, off, rfl, hbs, hcell⟩ := hx (by omega)
    have := h.2 _ _ _ rfl (by omega : 0 < l.length)
    rw [if_neg (by omega)] at e
    simp [Addr.add_mid] at e
    rw [← e.1]; exact this
theorem slice_bsb_l {w : World} {B : Nat} {v : Value} {l : List Int} (h : BsB w B v l) (lo : Nat) (h1 : lo ≤ l.length) :
    ∃ a n c, (∀ u : World, (Instr.slice 39 v (some (.int .i64 (lo : Int))) none none).run Try.prog u = .ok (.slice a n c) u) ∧ BsB w B (.slice a n c) (l.drop lo) := by
  obtain ⟨a, cap, hv, hc, hx⟩ := id h.1
  subst hv
  have hs := sub_bs h.1 lo l.length h1 (Nat.le_refl _)
  rw [List.take_of_length_le (by rw [List.length_drop]; exact Nat.le_refl _)] at hs
  refine ⟨_, _, _, fun u => ?_, hs, fun ad n c e hl => ?_⟩
  · rw [run_slice_l u 39 a l.length cap und62 .i64 (lo : Int) (by omega) (by omega), size62]
    rfl
  · have hl' : 0 < l.length - lo := by rw [List.length_drop] at hl; omega
    obtain ⟨b, off, rfl, hbs, hcell⟩ := hx (by omega)
    have := h.2 _ _ _ rfl (by omega : 0 < l.length)
    rw [if_neg (by omega)] at e
    simp [Addr.add_mid] at e
    rw [← e.1]; exact this
/-- records as they lie in the area -/
def encs (rs : List (List Int)) : List Int := rs.flatMap fun r => be8 r.length ++ r
theorem encs_cons (r : List Int) (rs : List (List Int)) : encs (r :: rs) = be8 r.length ++ r ++ encs rs := by simp [encs]
theorem encs_snoc (rs : List (List Int)) (r : List Int) : encs (rs ++ [r]) = encs rs ++ be8 r.length ++ r := by simp [encs]
theorem encs_append (a b : List (List Int)) : encs (a ++ b) = encs a ++ encs b := by simp [encs]
theorem encs_rng {rs : List (List Int)} (h : ∀ r ∈ rs, Rng r) : Rng (encs rs) := fun x hx => by
  obtain ⟨r, hr, hx⟩ := List.mem_flatMap.1 hx
  exact rng_append (be8_rng _) (h r hr) x hx
theorem encs_head (r : List Int) (rs : List (List Int)) (h : r.length < 18446744073709551616) : 8 + r.length ≤ (encs (r :: rs)).length ∧ beI ((encs (r :: rs)).take 8) = r.length ∧ ((encs (r :: rs)).drop 8).take (8 + r.length - 8) = r ∧ (encs (r :: rs)).drop (8 + r.length) = encs rs := by
  have h8 := be8_len r.length
  rw [encs_cons, List.append_assoc]
  refine ⟨by simp [h8], ?_, ?_, ?_⟩
  · rw [List.take_left' h8, beI_be8 _ h]
  · rw [List.drop_left' h8, List.take_left' (by omega)]
  · rw [← List.append_assoc, List.drop_left' (by simp [h8])]
theorem encs_many (a b : List (List Int)) : a.length + b.length ≤ (encs (a ++ b)).length := by
  induction a with
  | nil =>
    induction b with
    | nil => simp
    | cons r b ih => rw [List.nil_append] at ih ⊢; rw [encs_cons]; simp [be8_len] at ih ⊢; omega
  | cons r a ih => rw [List.cons_append, encs_cons]; simp [be8_len] at ih ⊢; omega
def lenV8 : Value → Nat
  | .slice _ n _ => n
  | _ => 0
theorem own_form {w : World} {B : Nat} {v : Value} {l : List Int} (h : Own w B v l) : ∃ a c, v = .slice a l.length c := by
  obtain ⟨a, c, h, _⟩ := h.bs
  exact ⟨a, c, h⟩
set_option maxRecDepth 100000 in
set_option maxHeartbeats 4000000 in
theorem recordsIn_any (v : Value) (rs : List (List Int)) (w : World) (hv : BsB w w.heap.size v (encs rs)) (hr : ∀ r ∈ rs, Rng r) (hl : (encs rs).length ≤ 1048576) :
    Calls Try.prog 79 #[v] w fun e w' => ∃ v', e = .returned (.tuple #[v', .int .i64 0]) ∧ OwnPs 39 5 w' w.heap.size v' rs ∧ Below w.heap.size w w' := by
  obtain ⟨i0, hi, hz0, hz1, hz2⟩ := info_parts info22
  have HV := Lib.hid hv
  have HR := Lib.hid hr
  have HL := Lib.hid hl
  clear hv hr hl
  go_enter Try.func79, Try.ntmps79
  go_wp2_with fail
  go_loopw [0, 4] (fun bv rv wr => ∃ j : Nat, j ≤ rs.length ∧ BsB wr w.heap.size bv (encs (rs.drop j)) ∧ OwnPs 39 5 wr w.heap.size rv (rs.take j) ∧ Below w.heap.size w wr) (fun bv _ _ => lenV8 bv)
  case atStart => exact ⟨0, Nat.zero_le _, HV.out, OwnPs.nil _ _ _ _, Below.refl _ _⟩
  case round =>
    obtain ⟨j, hj, hb, ho, hw⟩ := hrel
    have HB := Lib.hid hb
    have HO := Lib.hid ho
    have HW := Lib.hid hw
    obtain ⟨ba, bc, hbv, _⟩ := hb.1
    subst hbv
    clear hb ho hw
    by_cases hlt : j < rs.length
    · obtain ⟨r, hrj⟩ : ∃ r, rs[j]? = some r := ⟨_, List.getElem?_eq_getElem hlt⟩
      have hd : rs.drop j = r :: rs.drop (j + 1) := by
        rw [List.drop_eq_getElem_cons hlt]
        congr 1
        rw [List.getElem?_eq_getElem hlt] at hrj
        exact Option.some.inj hrj
      have htk : rs.take (j + 1) = rs.take j ++ [r] := by rw [List.take_add_one, hrj]; rfl
      have hrr : Rng r := HR.out r (List.mem_of_getElem? hrj)
      have htot : (encs (rs.drop j)).length ≤ 1048576 := by
        have := HL.out
        have h2 : encs rs = encs (rs.take j) ++ encs (rs.drop j) := by rw [← encs_append, List.take_append_drop]
        rw [h2, List.length_append] at this
        omega
      rw [hd] at HB htot ⊢
      have hr64 : r.length < 18446744073709551616 := by
        rw [encs_cons] at htot
        simp at htot
        omega
      obtain ⟨he1, he2, he3, he4⟩ := encs_head r (rs.drop (j + 1)) hr64
      obtain ⟨sa1, sn1, sc1, hsl1, hs1⟩ := slice_bsb HB.out 8 (8 + r.length) (by omega) he1
      obtain ⟨sa2, sn2, sc2, hsl2, hs2⟩ := slice_bsb_l HB.out (8 + r.length) he1
      rw [he3] at hs1
      rw [he4] at hs2
      have e1 : ((8 + r.length : Nat) : Int) = 8 + (r.length : Int) := by omega
      rw [e1] at hsl1 hsl2
      rw [show ((8 : Nat) : Int) = 8 from rfl] at hsl1
      have HNUM := Lib.hid (number_any _ _ wr HB.out.1 (encs_rng (rs := r :: rs.drop (j + 1)) (fun x hx => by
        rcases List.mem_cons.1 hx with hx | hx
        · rw [hx]; exact hrr
        · exact HR.out x (List.mem_of_mem_drop hx))) (by omega) (by omega))
      rw [he2] at HNUM
      have HS1 := Lib.hid hs1
      have HS2 := Lib.hid hs2
      have HTK := Lib.hid htk
      have HTOT := Lib.hid htot
      have HLT := Lib.hid hlt
      have HLN := Lib.hid (show (encs (rs.drop (j + 1))).length < (encs (r :: rs.drop (j + 1))).length by rw [encs_cons]; simp [be8_len]; omega)
      generalize hn : (encs (r :: rs.drop (j + 1))).length = n at *
      have hrn : (8 : Int) + (r.length : Int) ≤ (n : Int) := by omega
      have hn0 : 0 < n := by omega
      have hn8 : ¬ (n : Int) < 8 := by omega
      have hgt : ¬ ((n : Int) - 8 < (r.length : Int)) := by omega
      have hmx : (n : Int) ≤ 1048576 := by omega
      clear hs1 hs2 he1 he2 he3 he4 hd hrj htk hrr htot hlt hn e1 hr64
      generalize hR : r.length = R at *
      have HRL := Lib.hid hR
      clear hR
      go_wp2_with (first
        | (go_at_call 113; refine HNUM.out.mono ?_; rintro e w' ⟨rfl, rfl⟩)
        | (at_builtin; refine wpList_append_OwnT rfl (Operand.const (Value.slice none 0 0)) (Operand.tmp 28) rfl wr.heap.size (.slice none 0 0) [] rfl (Own.nil _ _) _ r rfl HS1.out.1 (by rw [HRL.out, List.length_nil]; omega) (Nat.le_refl _) ?_; intro v' w2 hown' hgrow hto; obtain ⟨va, vc, hvf⟩ := own_form hown'; subst hvf; have HO2 := Lib.hid hown'; have HC2 := Lib.hid (show Below wr.heap.size wr w2 from ⟨hgrow.os, hgrow.tape, hgrow.output, hgrow.size, fun k hk => hgrow.block k hk (fun e => by cases e)⟩); obtain ⟨xs, hx1, hx2⟩ := HO.out.below HC2.out (Nat.le_refl _); have X1 := Lib.hid hx1; have X2 := Lib.hid hx2; clear hown' hgrow hto hx1 hx2)
        | (at_builtin; refine wpList_append_lies _ rfl (Operand.tmp 25) (Operand.tmp 30) 64 rfl w.heap.size 39 i0 (.slice none 0 0) 1 24 Try.underlying64 hi hz0 hz1 hz2 rfl (by decide) _ (rs.take j).length xs rfl (X1.out.alloc _) ⟨w2.heap.size, 0, none⟩ 1 1 [.slice va _ vc] rfl rfl (cell_one_new _ _ _) (by intro u hu; simp at hu; subst hu; rfl) (by decide) (by unfold maxLen; have := HL.out; have h := encs_many (rs.take j) (rs.drop j); rw [List.take_append_drop] at h; omega) (by have := HL.out; have h := encs_many (rs.take j) (rs.drop j); rw [List.take_append_drop] at h; omega) (by have := HW.out.size; have := HC2.out.size; simp; omega) (w2.heap.size + 1) (by simp) ?_; intro g cp3 w3 hown3 hg3 hgH hgl; have HO3 := Lib.hid hown3; have HG3 := Lib.hid hg3; have HH3 := Lib.hid hgH; clear hown3 hg3 hgH hgl))
      go_roundw
      case rel =>
        have q0 := HW.out.size
        have q1 := HC2.out.size
        have hne : (Value.slice va ([] ++ r).length vc).ownBlock = none ∨ (Value.slice va ([] ++ r).length vc).ownBlock ≠ u4.ownBlock := by
          cases h1 : (Value.slice va ([] ++ r).length vc).ownBlock with
          | none => exact .inl rfl
          | some g =>
            right
            have a1 := (HO2.out.lt g h1).1
            intro he
            obtain ⟨ys, hy1, _⟩ := HO.out
            have a2 := (hy1.lt g he.symm).2
            omega
        have hsn := OwnPs.snoc (T := 39) (E := 5) (p := r) (w := w2.alloc (.cells #[.slice va ([] ++ r).length vc] 39)) (w' := w3) (v := u4) (x := .slice va ([] ++ r).length vc) (ps := rs.take j) (xs := xs) (g := g) (cap := cp3) (B := w.heap.size)
          (X1.out.alloc _) (fun i hi => by obtain ⟨x, h1, h2, h3⟩ := X2.out i hi; exact ⟨x, h1, h2.alloc _, h3⟩)
          ((own_base' HO2.out (by omega)).alloc _) hne HO3.out HG3.out (HH3.out.elim (fun h => .inl h) (fun h => .inr (by simpa using h)))
        have hlj : (rs.take j).length = j := by rw [List.length_take]; have := HLT.out; omega
        rw [hlj] at hsn
        have hbe : Below w.heap.size wr w3 := ((HC2.out.mono q0).alloc (by omega) _).grown HG3.out (by simp; omega) (fun g' hg' => by obtain ⟨ys, hy1, _⟩ := HO.out; exact (hy1.lt g' hg').1)
        refine ⟨j + 1, by have := HLT.out; omega, ?_, by rw [HTK.out]; exact hsn, ?_⟩
        · exact HS2.out.kept hbe
        · exact HW.out.trans hbe
      case measure =>
        obtain ⟨a, c, h, _⟩ := HS2.out.1
        injection h with _ h2 _
        show sn2 < n
        rw [h2]; exact HLN.out
    · obtain rfl : j = rs.length := by omega
      have e0 : encs (rs.drop rs.length) = [] := by simp [encs]
      rw [e0] at HB ⊢
      rw [List.take_of_length_le (Nat.le_refl _)] at HO
      clear hlt
      go_wp2_with fail
      go_ret2
      exact ⟨_, rfl, HO.out, HW.out⟩
end Go.Proofs.Ytaibminomehppaa
