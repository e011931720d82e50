import Derived.Test.YtdkjkibdncbibaaGreatCm00
import Derived.Test.YtdkjkibdncbibaaGreatCm05
namespace Go.Proofs.YtdkjkibdncbibaaGreat
open Go.RowKit
open Go.Lib (hid)
/-- v is a slice of slices of the call's own, that reads as ps -/
def OwnPs (T E : TypeId) (w : World) (B : Nat) (v : Value) (ps : List (List Int)) : Prop :=
 ∃ xs : List Value, w.ownsRow B T 1 v ps.length xs ∧ ∀ i, i < ps.length → ∃ x, xs[i]? = some x ∧ w.ownsRow B E 1 x (ps[i]?.getD []).length ((ps[i]?.getD []).map (Value.int .u8)) ∧ (x.ownBlock = none ∨ x.ownBlock ≠ v.ownBlock)
theorem OwnPs.nil (T E : TypeId) (w : World) (B : Nat) : OwnPs T E w B (.slice none 0 0) [] :=
 ⟨[], World.ownsRow_nil _ _ _ _, fun i hi => by simp at hi⟩
theorem OwnPs.below {T E : TypeId} {w w' : World} {B B' : Nat} {v : Value} {ps : List (List Int)} (h : OwnPs T E w B v ps) (hb : Below B' w w') (hB : w.heap.size ≤ B') : OwnPs T E w' B v ps := by
 have hg : w.grownBy w' none := ⟨hb.os, hb.tape, hb.output, hb.size, fun k hk _ => hb.block k (by omega)⟩
 obtain ⟨xs, h1, h2⟩ := h
 refine ⟨xs, h1.kept hg ?_, fun i hi => ?_⟩
 ·cases hv : v.ownBlock with
  | none => exact .inl rfl
  | some g => exact .inr (by simp)
 ·obtain ⟨x, hx, ho, hne⟩ := h2 i hi
  refine ⟨x, hx, ho.kept hg ?_, hne⟩
  cases hv : x.ownBlock with
  | none => exact .inl rfl
  | some g => exact .inr (by simp)
/-- one part more -/
theorem OwnPs.snoc {T E : TypeId} {w w' : World} {B g cap : Nat} {v x : Value} {ps : List (List Int)} {p : List Int} {xs : List Value}
    (h1 : w.ownsRow B T 1 v ps.length xs) (h2 : ∀ i, i < ps.length → ∃ x, xs[i]? = some x ∧ w.ownsRow B E 1 x (ps[i]?.getD []).length ((ps[i]?.getD []).map (Value.int .u8)) ∧ (x.ownBlock = none ∨ x.ownBlock ≠ v.ownBlock))
    (hx : w.ownsRow B E 1 x p.length (p.map (Value.int .u8))) (hne : x.ownBlock = none ∨ x.ownBlock ≠ v.ownBlock)
    (hown : w'.ownsRow B T 1 (.slice (some ⟨g, 0, none⟩) (ps.length + 1) cap) (ps.length + 1) (xs ++ [x])) (hg : w.grownBy w' v.ownBlock) (hH : v.ownBlock = some g ∨ g = w.heap.size) :
    OwnPs T E w' B (.slice (some ⟨g, 0, none⟩) (ps.length + 1) cap) (ps ++ [p]) := by
  have key : ∀ (y : Value) (q : List Int), w.ownsRow B E 1 y q.length (q.map (Value.int .u8)) → (y.ownBlock = none ∨ y.ownBlock ≠ v.ownBlock) →
      w'.ownsRow B E 1 y q.length (q.map (Value.int .u8)) ∧ (y.ownBlock = none ∨ y.ownBlock ≠ (Value.slice (some ⟨g, 0, none⟩) (ps.length + 1) cap).ownBlock) := by
    intro y q ho hn
    refine ⟨ho.kept hg hn, ?_⟩
    rcases hn with hn | hn
    · exact .inl hn
    · right
      show y.ownBlock ≠ some g
      rcases hH with hH | hH
      · rw [← hH]; exact hn
      · intro he
        have := (ho.lt g he).2
        omega
  refine ⟨xs ++ [x], by simpa using hown, fun i hi => ?_⟩
  have hxl : xs.length = ps.length := by have := h1.1; simpa using this
  by_cases hi2 : i < ps.length
  · obtain ⟨y, hy, ho, hn⟩ := h2 i hi2
    rw [List.getElem?_append_left (by omega), List.getElem?_append_left hi2]
    exact ⟨y, hy, (key y _ ho hn).1, (key y _ ho hn).2⟩
  · have hi3 : i = ps.length := by simp at hi; omega
    subst hi3
    refine ⟨x, by rw [List.getElem?_append_right (by omega), hxl]; simp, ?_⟩
    rw [List.getElem?_append_right (by omega), Nat.sub_self]
    exact key x p hx hne
theorem info22 : (Tryz.prog.info? 83).map (fun i => (i.zero, i.size, i.bytes)) = some (some (.slice none 0 0), 1, 24) := by kernel_rfl
theorem own_base' {w : World} {B B' e size n : Nat} {v : Value} {xs : List Value} (h : w.ownsRow B' e size v n xs) (hB : B ≤ B') : w.ownsRow B e size v n xs :=
 ⟨h.1, h.2.imp id (fun ⟨g, cap, cur, a, b, c⟩ => ⟨g, cap, cur, a, Nat.le_trans hB b, c⟩)⟩

/-- bytes that lie below a block -/
def BsB (w : World) (B : Nat) (v : Value) (l : List Int) : Prop := Bs w v l ∧ ∀ ad n c, v = .slice (some ad) n c → 0 < l.length → ad.block < B
theorem BsB.kept {w w' : World} {B : Nat} {v : Value} {l : List Int} (h : BsB w B v l) (hb : Below B w w') : BsB w' B v l := by
 refine ⟨?_, h.2⟩
 obtain ⟨a, cap, hv, hc, h1⟩ := h.1
 refine ⟨a, cap, hv, hc, fun hl => ?_⟩
 obtain ⟨b, off, ha, hbs, hcell⟩ := h1 hl
 subst ha
 have hlt := h.2 _ _ _ hv hl
 exact ⟨b, off, rfl, Nat.lt_of_lt_of_le hbs hb.size, fun i hi => (World.cell?_of_block (a := ⟨b, off + i, none⟩) (hb.block b hlt)).trans (hcell i hi)⟩
theorem und62 : Tryz.prog.underlying 83 = some (.slice (Tryz.prog.elem 83)) := by kernel_rfl
theorem size62 (u : World) : (sizeOf (Tryz.prog.elem 83)).run Tryz.prog u = .ok 1 u := by kernel_rfl
theorem sub_bs {w : World} {a : Option Addr} {n cap : Nat} {l : List Int} (h : Bs w (.slice a n cap) l) (lo hi : Nat) (h1 : lo ≤ hi) (h2 : hi ≤ l.length) : Bs w (sliced a lo hi cap 1) ((l.drop lo).take (hi - lo)) := by
 obtain ⟨a', cap', hv, hc, hx⟩ := h
 injection hv with e1 e2 e3
 subst e1 e2 e3
 have hlen : ((l.drop lo).take (hi - lo)).length = hi - lo := by rw [List.length_take, List.length_drop]; omega
 refine ⟨_, cap - lo, by unfold sliced; rw [hlen], ⟨by rw [hlen]; omega, fun e => ?_⟩, fun hl => ?_⟩
 ·by_cases hcl : cap = lo
  ·omega
  ·cases a with
   | none => have := hc.2 rfl; omega
   | some ad => simp [hcl] at e
 ·rw [hlen] at hl
  obtain ⟨b, off, rfl, hbs, hcell⟩ := hx (by omega)
  refine ⟨b, off + lo, by rw [if_neg (by omega)]; simp [Addr.add_mid], hbs, fun i hi2 => ?_⟩
  rw [hlen] at hi2
  rw [Nat.add_assoc, hcell (lo + i) (by omega)]
  congr 2
  rw [List.getElem?_take, if_pos hi2, List.getElem?_drop]
theorem slice_bsb {w : World} {B : Nat} {v : Value} {l : List Int} (h : BsB w B v l) (lo hi : Nat) (h1 : lo ≤ hi) (h2 : hi ≤ l.length) :
    ∃ a n c, (∀ u : World, (Instr.slice 83 v (some (.int .i64 (lo : Int))) (some (.int .i64 (hi : Int))) none).run Tryz.prog u = .ok (.slice a n c) u) ∧ BsB w B (.slice a n c) ((l.drop lo).take (hi - lo)) := by
  obtain ⟨a, cap, hv, hc, hx⟩ := id h.1
  subst hv
  refine ⟨_, _, _, fun u => ?_, sub_bs h.1 lo hi h1 h2, fun ad n c e hl => ?_⟩
  · rw [run_slice_lh u 83 a l.length cap und62 .i64 .i64 (lo : Int) (hi : Int) (by omega) (by omega) (by omega), size62]
    rfl
  · have hl' : 0 < hi - lo := by rw [List.length_take, List.length_drop] at hl; omega
    obtain ⟨b, off, rfl, hbs, hcell⟩ := hx (by omega)
    have := h.2 _ _ _ rfl (by omega : 0 < l.length)
    rw [if_neg (by omega)] at e
    simp [Addr.add_mid] at e
    rw [← e.1]; exact this
theorem slice_bsb_l {w : World} {B : Nat} {v : Value} {l : List Int} (h : BsB w B v l) (lo : Nat) (h1 : lo ≤ l.length) :
    ∃ a n c, (∀ u : World, (Instr.slice 83 v (some (.int .i64 (lo : Int))) none none).run Tryz.prog u = .ok (.slice a n c) u) ∧ BsB w B (.slice a n c) (l.drop lo) := by
  obtain ⟨a, cap, hv, hc, hx⟩ := id h.1
  subst hv
  have hs := sub_bs h.1 lo l.length h1 (Nat.le_refl _)
  rw [List.take_of_length_le (by rw [List.length_drop]; exact Nat.le_refl _)] at hs
  refine ⟨_, _, _, fun u => ?_, hs, fun ad n c e hl => ?_⟩
  · rw [run_slice_l u 83 a l.length cap und62 .i64 (lo : Int) (by omega) (by omega), size62]
    rfl
  · have hl' : 0 < l.length - lo := by rw [List.length_drop] at hl; omega
    obtain ⟨b, off, rfl, hbs, hcell⟩ := hx (by omega)
    have := h.2 _ _ _ rfl (by omega : 0 < l.length)
    rw [if_neg (by omega)] at e
    simp [Addr.add_mid] at e
    rw [← e.1]; exact this
/-- records as they lie in the area -/
def encs (rs : List (List Int)) : List Int := rs.flatMap fun r => be8 r.length ++ r
theorem encs_cons (r : List Int) (rs : List (List Int)) : encs (r :: rs) = be8 r.length ++ r ++ encs rs := by simp [encs]
theorem encs_snoc (rs : List (List Int)) (r : List Int) : encs (rs ++ [r]) = encs rs ++ be8 r.length ++ r := by simp [encs]
theorem encs_append (a b : List (List Int)) : encs (a ++ b) = encs a ++ encs b := by simp [encs]
theorem encs_rng {rs : List (List Int)} (h : ∀ r ∈ rs, Rng r) : Rng (encs rs) := fun x hx => by
 obtain ⟨r, hr, hx⟩ := List.mem_flatMap.1 hx
 exact rng_append (be8_rng _) (h r hr) x hx
theorem encs_head (r : List Int) (rs : List (List Int)) (h : r.length < 18446744073709551616) : 8 + r.length ≤ (encs (r :: rs)).length ∧ beI ((encs (r :: rs)).take 8) = r.length ∧ ((encs (r :: rs)).drop 8).take (8 + r.length - 8) = r ∧ (encs (r :: rs)).drop (8 + r.length) = encs rs := by
 have h8 := be8_len r.length
 rw [encs_cons, List.append_assoc]
 refine ⟨by simp [h8], ?_, ?_, ?_⟩
 ·rw [List.take_left' h8, beI_be8 _ h]
 ·rw [List.drop_left' h8, List.take_left' (by omega)]
 ·rw [← List.append_assoc, List.drop_left' (by simp [h8])]
theorem encs_many (a b : List (List Int)) : a.length + b.length ≤ (encs (a ++ b)).length := by
 induction a with
 | nil =>
  induction b with
  | nil => simp
  | cons r b ih => rw [List.nil_append] at ih ⊢; rw [encs_cons]; simp [be8_len] at ih ⊢; omega
 | cons r a ih => rw [List.cons_append, encs_cons]; simp [be8_len] at ih ⊢; omega
def lenV8 : Value → Nat
 | .slice _ n _ => n
 | _ => 0
theorem own_form {w : World} {B : Nat} {v : Value} {l : List Int} (h : Own w B v l) : ∃ a c, v = .slice a l.length c := by
 obtain ⟨a, c, h, _⟩ := h.bs
 exact ⟨a, c, h⟩
set_option maxRecDepth 100000 in
set_option maxHeartbeats 4000000 in
theorem recordsIn_any (v : Value) (rs : List (List Int)) (w : World) (hv : BsB w w.heap.size v (encs rs)) (hr : ∀ r ∈ rs, Rng r) (hl : (encs rs).length ≤ 1048576) :
    Calls Tryz.prog 72 #[v] w fun e w' => ∃ v', e = .returned (.tuple #[v', .int .i64 0]) ∧ OwnPs 83 5 w' w.heap.size v' rs ∧ Below w.heap.size w w' := by
  obtain ⟨i0, hi, hz0, hz1, hz2⟩ := info_parts info22
  have HV := hid hv
  have HR := hid hr
  have HL := hid hl
  clear hv hr hl
  go_enter Tryz.func72, Tryz.ntmps72
  go_wp2_with fail
  go_loopw [0, 4] (fun bv rv wr => ∃ j : Nat, j ≤ rs.length ∧ BsB wr w.heap.size bv (encs (rs.drop j)) ∧ OwnPs 83 5 wr w.heap.size rv (rs.take j) ∧ Below w.heap.size w wr) (fun bv _ _ => lenV8 bv)
  case atStart => exact ⟨0, Nat.zero_le _, HV.out, OwnPs.nil _ _ _ _, Below.refl _ _⟩
  case round =>
    obtain ⟨j, hj, hb, ho, hw⟩ := hrel
    have HB := hid hb
    have HO := hid ho
    have HW := hid hw
    obtain ⟨ba, bc, hbv, _⟩ := hb.1
    subst hbv
    clear hb ho hw
    by_cases hlt : j < rs.length
    · obtain ⟨r, hrj⟩ : ∃ r, rs[j]? = some r := ⟨_, List.getElem?_eq_getElem hlt⟩
      have hd : rs.drop j = r :: rs.drop (j + 1) := by
        rw [List.drop_eq_getElem_cons hlt]
        congr 1
        rw [List.getElem?_eq_getElem hlt] at hrj
        exact Option.some.inj hrj
      have htk : rs.take (j + 1) = rs.take j ++ [r] := by rw [List.take_add_one, hrj]; rfl
      have hrr : Rng r := HR.out r (List.mem_of_getElem? hrj)
      have htot : (encs (rs.drop j)).length ≤ 1048576 := by
        have := HL.out
        have h2 : encs rs = encs (rs.take j) ++ encs (rs.drop j) := by rw [← encs_append, List.take_append_drop]
        rw [h2, List.length_append] at this
        omega
      rw [hd] at HB htot ⊢
      have hr64 : r.length < 18446744073709551616 := by
        rw [encs_cons] at htot
        simp at htot
        omega
      obtain ⟨he1, he2, he3, he4⟩ := encs_head r (rs.drop (j + 1)) hr64
      obtain ⟨sa1, sn1, sc1, hsl1, hs1⟩ := slice_bsb HB.out 8 (8 + r.length) (by omega) he1
      obtain ⟨sa2, sn2, sc2, hsl2, hs2⟩ := slice_bsb_l HB.out (8 + r.length) he1
      rw [he3] at hs1
      rw [he4] at hs2
      have e1 : ((8 + r.length : Nat) : Int) = 8 + (r.length : Int) := by omega
      rw [e1] at hsl1 hsl2
      rw [show ((8 : Nat) : Int) = 8 from rfl] at hsl1
      have HNUM := hid (number_any _ _ wr HB.out.1 (encs_rng (rs := r :: rs.drop (j + 1)) (fun x hx => by
        rcases List.mem_cons.1 hx with hx | hx
        · rw [hx]; exact hrr
        · exact HR.out x (List.mem_of_mem_drop hx))) (by omega) (by omega))
      rw [he2] at HNUM
      have HS1 := hid hs1
      have HS2 := hid hs2
      have HTK := hid htk
      have HTOT := hid htot
      have HLT := hid hlt
      have HLN := hid (show (encs (rs.drop (j + 1))).length < (encs (r :: rs.drop (j + 1))).length by rw [encs_cons]; simp [be8_len]; omega)
      generalize hn : (encs (r :: rs.drop (j + 1))).length = n at *
      have hrn : (8 : Int) + (r.length : Int) ≤ (n : Int) := by omega
      have hn0 : 0 < n := by omega
      have hn8 : ¬ (n : Int) < 8 := by omega
      have hgt : ¬ ((n : Int) - 8 < (r.length : Int)) := by omega
      have hmx : (n : Int) ≤ 1048576 := by omega
      clear hs1 hs2 he1 he2 he3 he4 hd hrj htk hrr htot hlt hn e1 hr64
      generalize hR : r.length = R at *
      have HRL := hid hR
      clear hR
      go_wp2_with (first
        | (go_at_call 92; refine HNUM.out.mono ?_; rintro e w' ⟨rfl, rfl⟩)
        | (at_builtin; refine wpList_append_OwnT rfl (Operand.const (Value.slice none 0 0)) (Operand.tmp 28) rfl wr.heap.size (.slice none 0 0) [] rfl (Own.nil _ _) _ r rfl HS1.out.1 (by rw [HRL.out, List.length_nil]; omega) (Nat.le_refl _) ?_; intro v' w2 hown' hgrow hto; obtain ⟨va, vc, hvf⟩ := own_form hown'; subst hvf; have HO2 := hid hown'; have HC2 := hid (show Below wr.heap.size wr w2 from ⟨hgrow.os, hgrow.tape, hgrow.output, hgrow.size, fun k hk => hgrow.block k hk (fun e => by cases e)⟩); obtain ⟨xs, hx1, hx2⟩ := HO.out.below HC2.out (Nat.le_refl _); have X1 := hid hx1; have X2 := hid hx2; clear hown' hgrow hto hx1 hx2)
        | (at_builtin; refine wpList_append_lies _ rfl (Operand.tmp 25) (Operand.tmp 30) 72 rfl w.heap.size 83 i0 (.slice none 0 0) 1 24 Tryz.underlying72 hi hz0 hz1 hz2 rfl (by decide) _ (rs.take j).length xs rfl (X1.out.alloc _) ⟨w2.heap.size, 0, none⟩ 1 1 [.slice va _ vc] rfl rfl (cell_one_new _ _ _) (by intro u hu; simp at hu; subst hu; rfl) (by decide) (by unfold maxLen; have := HL.out; have h := encs_many (rs.take j) (rs.drop j); rw [List.take_append_drop] at h; omega) (by have := HL.out; have h := encs_many (rs.take j) (rs.drop j); rw [List.take_append_drop] at h; omega) (by have := HW.out.size; have := HC2.out.size; simp; omega) (w2.heap.size + 1) (by simp) ?_; intro g cp3 w3 hown3 hg3 hgH hgl; have HO3 := hid hown3; have HG3 := hid hg3; have HH3 := hid hgH; clear hown3 hg3 hgH hgl))
      go_roundw
      case rel =>
        have q0 := HW.out.size
        have q1 := HC2.out.size
        have hne : (Value.slice va ([] ++ r).length vc).ownBlock = none ∨ (Value.slice va ([] ++ r).length vc).ownBlock ≠ u4.ownBlock := by
          cases h1 : (Value.slice va ([] ++ r).length vc).ownBlock with
          | none => exact .inl rfl
          | some g =>
            right
            have a1 := (HO2.out.lt g h1).1
            intro he
            obtain ⟨ys, hy1, _⟩ := HO.out
            have a2 := (hy1.lt g he.symm).2
            omega
        have hsn := OwnPs.snoc (T := 83) (E := 5) (p := r) (w := w2.alloc (.cells #[.slice va ([] ++ r).length vc] 83)) (w' := w3) (v := u4) (x := .slice va ([] ++ r).length vc) (ps := rs.take j) (xs := xs) (g := g) (cap := cp3) (B := w.heap.size)
          (X1.out.alloc _) (fun i hi => by obtain ⟨x, h1, h2, h3⟩ := X2.out i hi; exact ⟨x, h1, h2.alloc _, h3⟩)
          ((own_base' HO2.out (by omega)).alloc _) hne HO3.out HG3.out (HH3.out.elim (fun h => .inl h) (fun h => .inr (by simpa using h)))
        have hlj : (rs.take j).length = j := by rw [List.length_take]; have := HLT.out; omega
        rw [hlj] at hsn
        have hbe : Below w.heap.size wr w3 := ((HC2.out.mono q0).alloc (by omega) _).grown HG3.out (by simp; omega) (fun g' hg' => by obtain ⟨ys, hy1, _⟩ := HO.out; exact (hy1.lt g' hg').1)
        refine ⟨j + 1, by have := HLT.out; omega, ?_, by rw [HTK.out]; exact hsn, ?_⟩
        · exact HS2.out.kept hbe
        · exact HW.out.trans hbe
      case measure =>
        obtain ⟨a, c, h, _⟩ := HS2.out.1
        injection h with _ h2 _
        show sn2 < n
        rw [h2]; exact HLN.out
    · obtain rfl : j = rs.length := by omega
      have e0 : encs (rs.drop rs.length) = [] := by simp [encs]
      rw [e0] at HB ⊢
      rw [List.take_of_length_le (Nat.le_refl _)] at HO
      clear hlt
      go_wp2_with fail
      go_ret2
      exact ⟨_, rfl, HO.out, HW.out⟩
end Go.Proofs.YtdkjkibdncbibaaGreat
namespace Go.Proofs.YtdkjkibdncbibaaGreat
open Go.RowKit
open Go.Lib (hid)
theorem Own.chg {w w' : World} {B : Nat} {v : Value} {l : List Int} {F : Nat → Prop} (h : Own w B v l) (hc : Chg F w w') (hF : ∀ g, v.ownBlock = some g → ¬ F g) : Own w' B v l := by
 obtain ⟨h1, h2⟩ := h
 refine ⟨h1, h2.imp id ?_⟩
 rintro ⟨g, cap, cur, hv, hb, hg, hr⟩
 exact ⟨g, cap, cur, hv, hb, (hc.block g (Array.getElem?_eq_some_iff.1 hg).1 (hF g (by rw [hv]; rfl))).trans hg, hr⟩
theorem zeros_map_drop (n m : Nat) : ((zeros n).map (Value.int .u8)).drop m = (zeros (n - m)).map (Value.int .u8) := by rw [← List.map_drop]; simp [zeros, List.drop_replicate]
theorem wrap_i64 (n : Int) (h1 : -9223372036854775808 ≤ n) (h2 : n ≤ 9223372036854775807) : IntKind.i64.wrap n = n := by
 rw [IntKind.wrap_i64]; omega
/-- a block that begins with bytes -/
def padB (l : List Int) : List Int := l.take 256 ++ zeros (256 - l.length)
theorem padB_len (l : List Int) : (padB l).length = 256 := by
 unfold padB; rw [List.length_append, List.length_take, zeros, List.length_replicate]; omega
theorem padB_rng {l : List Int} (h : Rng l) : Rng (padB l) := rng_append (h.take _) (zeros_rng _)
theorem pad_copy (l : List Int) : ((zeros 256).map (Value.int .u8)).take 0 ++ (l.take 256).map (Value.int .u8) ++ ((zeros 256).map (Value.int .u8)).drop (0 + ((l.take 256).map (Value.int .u8)).length) = (padB l).map (Value.int .u8) := by
 rw [List.take_zero, List.nil_append, zeros_map_drop, Nat.zero_add, List.length_map, List.length_take, padB, List.map_append]
 congr 3
 omega
/-- the writes that lay bytes from a block on, the last block first -/
def wl (n : Int) (all : List Int) : Nat → List (Int × List Int)
 | 0 => []
 | k + 1 => (n + k, padB (all.drop (256 * k))) :: wl n all k
theorem wsy_nil (nb rm : Int) (s : DS) : s.wsy nb rm [] = (s.sy, s.se) := rfl
theorem wsy_cons (nb rm : Int) (s : DS) (x : Int × List Int) (r : List (Int × List Int)) : s.wsy nb rm (x :: r) = if s.we nb rm x.1 = 0 then (s.wr nb rm x.1 x.2).wsy nb rm r else (s.wr nb rm x.1 x.2, s.we nb rm x.1) := by
 conv => lhs; unfold DS.wsy DS.ws
 by_cases h : s.we nb rm x.1 = 0
 ·simp only [if_pos h]; rfl
 ·simp only [if_neg h]
theorem wr_L (nb rm : Int) (s : DS) (n : Int) (b : List Int) : (s.wr nb rm n b).L.length ≤ s.L.length + 1 := by
 unfold DS.wr; simp only; split <;> simp
set_option maxRecDepth 100000 in
theorem wpList_append_any62 {ops : Array Oper} {rest : List Oper} {o : Oper} {a : Act} {w : World} {Q : Exit → Act → World → Prop} (i0 : TypeInfo) (hi : Tryz.prog.info? 5 = some i0) (hz0 : i0.zero = some (.int .u8 0)) (hz1 : i0.size = 1) (hz2 : i0.bytes = 1)
  (hgd : o.guard = none) (s x : Operand) (ho : o.op = .call { callee := .builtin .append, args := #[s, x], argTypes := #[83, 83] }) (X ins : Nat) (l : List Int) (T : TypeId) (hX : w.heap[X]? = some (.cells (ArrU8 l) T (0, 0))) (hs : a.eval s = .slice (some ⟨X, 0, none⟩) ins ins) (hin : ins ≤ l.length)
  (v2 : Value) (m : List Int) (hx : a.eval x = v2) (hbs : Bs w v2 m) (hm : 0 < m.length) (hlen : m.length ≤ 1048576)
  (h : ∀ v' w', Own w' w.heap.size v' (l.take ins ++ m) → Below w.heap.size w w' → wpList Tryz.prog ops Q rest (a.put o.dst v') w') (hl2 : l.length ≤ 256 := by omega) : wpList Tryz.prog ops Q (o :: rest) a w := by
 obtain ⟨ad, cap, rfl, hcap, hc⟩ := hbs
 obtain ⟨pb, po, rfl, hpb, hcell⟩ := hc hm
 have hlt : (l.take ins).length = ins := by rw [List.length_take]; omega
 refine wpList_append_grows w hgd s x 83 ho 5 i0 (.int .u8 0) 1 1 Tryz.underlying83 hi hz0 hz1 hz2 rfl (by decide) (some ⟨X, 0, none⟩) ins ins ((l.take ins).map (Value.int .u8)) hs (fun e => by cases e) (by rw [List.length_map, hlt]; omega) (fun b hb j u hu => by
  injection hb with hb
  subst hb
  rw [List.getElem?_map, Option.map_eq_some_iff] at hu
  obtain ⟨y, hy, rfl⟩ := hu
  have hj : j < ins := by have := (List.getElem?_eq_some_iff.1 hy).1; omega
  rw [Addr.add_mid, cell_of_row _ _ _ _ _ _ hX]
  rw [List.getElem?_take, if_pos hj] at hy
  unfold ArrU8
  simp [hy]) ⟨pb, po, none⟩ m.length cap (m.map (Value.int .u8)) hx (by simp) (fun j u hu => by
  rw [List.getElem?_map, Option.map_eq_some_iff] at hu
  obtain ⟨y, hy, rfl⟩ := hu
  have hq : j < m.length := (List.getElem?_eq_some_iff.1 hy).1
  have e4 := hcell j hq
  rw [hy] at e4
  rw [Addr.add_mid]
  exact e4) (by intro v hv; obtain ⟨x, _, rfl⟩ := List.mem_map.1 hv; rfl) (by omega) (by unfold maxLen; omega) (by omega) fun v' w' h1 h2 => h v' w' ?_ ?_
 ·unfold Own
  rw [List.length_append, hlt, List.map_append]
  exact h1
 ·exact ⟨h2.os, h2.tape, h2.output, h2.size, fun k hk => h2.block k hk (by simp)⟩
set_option maxRecDepth 100000 in
set_option maxHeartbeats 8000000 in
theorem writeArea_any (B D M : Nat) (nb rm fi sz : Int) (s : DS) (lv v2 : Value) (at_ : Nat) (rec : List Int) (w : World) (h : DkS w B D M nb rm s lv) (hdn : s.dn = false) (h1 : 0 ≤ fi) (h2 : fi + sz ≤ nb) (h3 : 3 ≤ sz) (hnb : nb ≤ 4096)
  (hv : BsB w w.heap.size v2 rec) (h0 : 0 < rec.length) (hen : ((at_ + rec.length : Nat) : Int) ≤ (sz - 2) * 256) (hL : s.L.length ≤ 268431000) :
  Calls Tryz.prog 102 #[.agg #[Value.pointer (some ⟨D, 0, none⟩), .int .i64 fi, .int .i64 sz], .int .i64 (at_ : Int), v2] w
   (LEnds B D M nb rm (s.wsy nb rm (wl (fi + (2 + (at_ / 256 : Nat))) ((s.f (fi + (2 + (at_ / 256 : Nat)))).take (at_ % 256) ++ rec) ((at_ % 256 + rec.length - 1) / 256 + 1))).1 (s.wsy nb rm (wl (fi + (2 + (at_ / 256 : Nat))) ((s.f (fi + (2 + (at_ / 256 : Nat)))).take (at_ % 256) ++ rec) ((at_ % 256 + rec.length - 1) / 256 + 1))).2 lv w) := by
 have hz35 := zero35
 have HI35 := hid (show (Tryz.prog.info? 50).map (·.size) = some 256 by kernel_rfl)
 have SZ := hid (show (ArrU8 (zeros 256)).size = 256 by rw [ArrU8_size, zeros, List.length_replicate])
 obtain ⟨fz, dn, f, L⟩ := s
 dsimp only at hdn hL ⊢
 subst hdn
 replace h : Dk w B D M nb rm fz false f L lv := h
 have hdiv : (at_ : Int).tdiv 256 = ((at_ / 256 : Nat) : Int) := by rw [Int.tdiv_eq_ediv_of_nonneg (by omega)]; omega
 have hmod : (at_ : Int).tmod 256 = ((at_ % 256 : Nat) : Int) := by rw [Int.tmod_eq_emod_of_nonneg (by omega)]; omega
 have hins : at_ % 256 < 256 := Nat.mod_lt _ (by decide)
 have hat : at_ = 256 * (at_ / 256) + at_ % 256 := (Nat.div_add_mod _ _).symm
 generalize at_ / 256 = q at *
 generalize at_ % 256 = ins at *
 obtain ⟨p, hp⟩ : ∃ p : Int, 2 + (q : Int) = p := ⟨_, rfl⟩
 rw [hp]
 have hpr : 2 ≤ p ∧ p < sz ∧ p ≤ 4096 := by omega
 have HFL := hid h.2.2.2.2.2.2.1
 have hb1 : Below w.heap.size w (w.alloc (.cells #[Value.pointer (some ⟨D, 0, none⟩), .int .i64 fi, .int .i64 sz] 103)) := (Below.refl _ _).alloc (Nat.le_refl _) _
 have HB1 := hid hb1
 have HX0 := hid (heap_alloc_new w (.cells #[Value.pointer (some ⟨D, 0, none⟩), .int .i64 fi, .int .i64 sz] 103))
 have HD1 := hid (h.chg (Chg.fresh (F := fun _ => False) hb1) (fun _ _ h => h))
 have HFT := hid (show ∀ k, Foot D M lv k → k < w.heap.size from fun k hk => (h.foot k hk).2)
 have HS1 := hid (show (w.alloc (.cells #[Value.pointer (some ⟨D, 0, none⟩), .int .i64 fi, .int .i64 sz] 103)).heap.size = w.heap.size + 1 by simp)
 have HBS := hid hv
 have HRD := fun u (h : Dk u B D M nb rm fz false f L lv) => lread_any B D M nb rm fz fi sz p false f L lv u h (by omega) (by omega)
 rw [show rdF nb (fi + p) false f = f (fi + p) by rw [rdF, if_neg (by simp), if_pos (by simp [hasB]; omega)], show readErr nb (fi + p) false = 0 by rw [readErr, if_neg (by simp), if_pos (by simp [hasB]; omega)]] at HRD
 have HRD := hid HRD
 have HF0 := hid (HFL.out (fi + p))
 generalize hl0 : f (fi + p) = l0 at *
 obtain ⟨all, hall⟩ : ∃ all, l0.take ins ++ rec = all := ⟨_, rfl⟩
 have hal : all.length = ins + rec.length := by rw [← hall, List.length_append, List.length_take, HF0.out]; omega
 rw [hall]
 have HALL := hid hall
 have HAL := hid hal
 obtain ⟨cnt, hcnt⟩ : ∃ cnt, (ins + rec.length - 1) / 256 = cnt := ⟨_, rfl⟩
 have hc1 : 256 * cnt ≤ ins + rec.length - 1 := by rw [← hcnt]; exact Nat.mul_div_le _ _
 have hc2 : ((all.length : Int) - 1).tdiv 256 = (cnt : Int) := by rw [Int.tdiv_eq_ediv_of_nonneg (by omega), hal]; omega
 rw [hcnt]
 have HC1 := hid hc1
 have HEN := hid (And.intro hen hat)
 obtain ⟨W, hW⟩ : ∃ W, DS.wsy nb rm ⟨fz, false, f, L⟩ (wl (fi + p) all (cnt + 1)) = W := ⟨_, rfl⟩
 rw [hW]
 have HW := hid hW
 have hpq := hp
 obtain ⟨va, vc, hvv⟩ : ∃ va vc, v2 = .slice va rec.length vc := by
  obtain ⟨a, c, e, _⟩ := hv.1
  exact ⟨a, c, e⟩
 subst hvv
 have hrl : ((rec.length : Nat) : Int) ≤ 1048576 := by omega
 have hrm : rec.length ≤ 1048576 := by omega
 have H0 := hid h0
 clear hb1 h hv hall hal hc1 hen hW hcnt hat hl0
 go_enter Tryz.func102, Tryz.ntmps102
 have b0 := (cell_of_row _ (w.heap.size) 0 _ _ _ HX0.out).trans (show (#[Value.pointer (some ⟨D, 0, none⟩), .int .i64 fi, .int .i64 sz] : Array Value)[0]? = some (.pointer (some ⟨D, 0, none⟩)) from rfl)
 have b1 := (cell_of_row _ (w.heap.size) 1 _ _ _ HX0.out).trans (show (#[Value.pointer (some ⟨D, 0, none⟩), .int .i64 fi, .int .i64 sz] : Array Value)[1]? = some (.int .i64 fi) from rfl)
 have b2 := (cell_of_row _ (w.heap.size) 2 _ _ _ HX0.out).trans (show (#[Value.pointer (some ⟨D, 0, none⟩), .int .i64 fi, .int .i64 sz] : Array Value)[2]? = some (.int .i64 sz) from rfl)
 go_wp2_with fail
 refine (HRD.out _ HD1.out).mono ?_
 rintro e wa ⟨rfl, hb⟩
 have XA := hid (HB1.out.trans (hb.mono HB1.out.size))
 have XA1 := hid hb
 have HXA0 := hid ((hb.block w.heap.size (by rw [HS1.out]; omega)).trans HX0.out)
 have HAS := hid (show w.heap.size < wa.heap.size by have := hb.size; have := HS1.out; omega)
 clear hb b0 b1 b2
 have SL := hid (show (ArrU8 l0).size = 256 by rw [ArrU8_size, HF0.out])
 have hsl := fun u => slice35_hm u wa.heap.size (ins : Int) ins rfl (by omega)
 have HBSA := hid (HBS.out.kept XA.out)
 obtain ⟨i0, hi, hz0, hz1, hz2⟩ := info_parts info5
 have hall1 : 1 ≤ all.length := by have := HAL.out; have := H0.out; omega
 have hcs : (cnt : Int) ≤ 1048832 := by have := HC1.out; omega
 have hall2 : all.length ≤ 1048832 := by have := HAL.out; omega
 go_wp2_with (first
  | (refine wpList_store_nwL rfl 50 (Operand.tmp 9) (Operand.tmp 24) rfl wa _ 50 rfl wa.heap.size (ArrU8 l0) rfl rfl rfl (by rw [HI35.out, SL.out]) (by rw [SZ.out, SL.out]) (ArrU8_one _) ?_; intro wb hd hb hs; have QB := hid hd; have XB := hid hb; have SB := hid hs; have HBSB := hid (HBSA.out.kept (hb.mono (by have := HAS.out; omega))); clear hd hb hs)
  | (at_builtin; refine wpList_append_any62 i0 hi hz0 hz1 hz2 rfl (Operand.tmp 31) (Operand.tmp 32) rfl wa.heap.size ins l0 _ QB.out rfl (by rw [HF0.out]; omega) _ rec rfl HBSB.out.1 H0.out (by omega) ?_ (by rw [HF0.out]; omega); intro v' w4 hown4 hg4; rw [HALL.out] at hown4; have HO4 := hid hown4; have X4 := hid hg4; obtain ⟨aa, ac, haf⟩ := own_form hown4; subst haf; clear hown4 hg4))
 have XB4 := hid (show Below w.heap.size w w4 from (XA.out.trans (XB.out.mono (by have := HAS.out; omega))).trans (X4.out.mono (by have := HAS.out; have := SB.out; omega)))
 have HX04 := hid ((X4.out.block w.heap.size (by have := HAS.out; have := SB.out; omega)).trans ((XB.out.block w.heap.size HAS.out).trans HXA0.out))
 have HG4 := hid (show ∀ g, (Value.slice aa all.length ac).ownBlock = some g → w.heap.size < g ∧ g < w4.heap.size from fun g hg => by have := HO4.out.lt g hg; have := HAS.out; have := SB.out; omega)
 have HD4 := hid (show DkS w4 B D M nb rm ⟨fz, false, f, L⟩ lv from (HD1.out.chg (Chg.fresh (F := fun _ => False) XA1.out) (fun _ _ h => h)).chg (F := fun k => w.heap.size ≤ k) ⟨((XB.out.mono (Nat.zero_le _)).trans (X4.out.mono (Nat.zero_le _))).os, ((XB.out.mono (Nat.zero_le _)).trans (X4.out.mono (Nat.zero_le _))).tape, ((XB.out.mono (Nat.zero_le _)).trans (X4.out.mono (Nat.zero_le _))).output, ((XB.out.mono (Nat.zero_le _)).trans (X4.out.mono (Nat.zero_le _))).size, fun k hk hn => by have := HAS.out; have := SB.out; exact (X4.out.block k (by omega)).trans (XB.out.block k (by omega))⟩ (fun k hk e => by have := HFT.out k hk; omega))
 have HS4 := hid (show w.heap.size < w4.heap.size by have := XB4.out.size; have := X4.out.size; have := SB.out; have := HAS.out; omega)
 clear hsl hc2
 go_wp2_with fail
 go_loopw [12] (fun iv wr => ∃ (k : Nat) (sk : DS) (lvk : Value), iv = .int .i64 ((k : Int) - 1) ∧ k ≤ cnt + 1 ∧ sk.wsy nb rm (wl (fi + p) all k) = W ∧ DkS wr B D M nb rm sk lvk ∧ sk.L.length + k ≤ L.length + cnt + 1 ∧ Chg (Foot D M lv) w4 wr ∧ (∀ g, Foot D M lvk g → Foot D M lv g ∨ w4.heap.size ≤ g)) (fun iv _ => (intOf iv + 1).toNat)
 case atStart => exact ⟨cnt + 1, ⟨fz, false, f, L⟩, lv, by congr 1; omega, Nat.le_refl _, HW.out, HD4.out, by show L.length + (cnt + 1) ≤ _; omega, Chg.refl _ _, fun _ h => .inl h⟩
 case round =>
  obtain ⟨k, sk, lvk, rfl, hk, hws, hdk, hLk, hch, hft⟩ := hrel
  have HWS := hid hws
  have HDK := hid hdk
  have HLK := hid hLk
  have HCH := hid hch
  have HFT2 := hid hft
  have HX0W := hid ((hch.block w.heap.size HS4.out (fun e => by have := HFT.out _ e; omega)).trans HX04.out)
  have HSW := hid (show w.heap.size < wr.heap.size by have := hch.size; have := HS4.out; omega)
  have HNX := hid (show ¬ Foot D M lvk w.heap.size from fun e => (hft _ e).elim (fun h => by have := HFT.out _ h; omega) (fun h => by have := HS4.out; omega))
  have b0 := (cell_of_row _ (w.heap.size) 0 _ _ _ HX0W.out).trans (show (#[Value.pointer (some ⟨D, 0, none⟩), .int .i64 fi, .int .i64 sz] : Array Value)[0]? = some (.pointer (some ⟨D, 0, none⟩)) from rfl)
  have b1 := (cell_of_row _ (w.heap.size) 1 _ _ _ HX0W.out).trans (show (#[Value.pointer (some ⟨D, 0, none⟩), .int .i64 fi, .int .i64 sz] : Array Value)[1]? = some (.int .i64 fi) from rfl)
  have b2 := (cell_of_row _ (w.heap.size) 2 _ _ _ HX0W.out).trans (show (#[Value.pointer (some ⟨D, 0, none⟩), .int .i64 fi, .int .i64 sz] : Array Value)[2]? = some (.int .i64 sz) from rfl)
  clear hws hdk hLk hch hft
  by_cases hk0 : k = 0
  ·subst hk0
   rw [show (((0 : Nat) : Int) - 1) = -1 from rfl]
   go_wp2_with fail
   refine (dsync_any B D M nb rm sk lvk wr HDK.out).mono ?_
   intro e w6 hl
   have HL6 := hid (LEnds.seq2 XB4.out HCH.out HFT2.out (Below.refl _ _) hl)
   have hl' := hl
   obtain ⟨rfl, _⟩ := hl'
   clear hl
   have HR := hid (show W = (sk.sy, sk.se) by rw [← HWS.out]; rfl)
   generalize sk.se = E6 at *
   go_wp2_with fail
   go_ret
   rw [HR.out]
   exact HL6.out
  ·obtain ⟨i, rfl⟩ : ∃ i, k = i + 1 := ⟨k - 1, by omega⟩
   rw [show (((i + 1 : Nat) : Int) - 1) = (i : Int) by omega]
   have hi0 : (0 : Int) ≤ (i : Int) := by omega
   have hic : (i : Int) ≤ 1048832 := by omega
   have him : (i : Int) * 256 ≤ 1048832 := by have := HC1.out; have := HAL.out; omega
   have hwr : IntKind.i64.wrap ((i : Int) * 256) = (i : Int) * 256 := wrap_i64 _ (by omega) (by omega)
   have hi256 : 256 * i < all.length := by have := HC1.out; have := HAL.out; have := H0.out; omega
   have hpi : p + (i : Int) ≤ 4096 := by have := HEN.out; have := HC1.out; omega
   have HOW := hid (HO4.out.chg HCH.out (fun g hg e => by have := HFT.out g e; have := HG4.out g hg; omega))
   have hbs : BsB wr wr.heap.size (.slice aa all.length ac) all := ⟨HOW.out.bs, fun ad n c e h0 => by
    have h := HOW.out.lt ad.block (by rw [e]; rfl)
    exact h.2⟩
   obtain ⟨sa, sn, sc, hsl2, hs2⟩ := slice_bsb_l hbs (256 * i) (by omega)
   rw [show ((256 * i : Nat) : Int) = (i : Int) * 256 by omega] at hsl2
   have hb5 : Below wr.heap.size wr (wr.alloc (.cells (ArrU8 (zeros 256)) 50)) := (Below.refl _ _).alloc (Nat.le_refl _) _
   have hs5 := hs2.kept hb5
   obtain ⟨ad, cap5, hv5, hcp5, hcell5⟩ := hs5.1
   injection hv5 with e1 e2 e3
   subst e1 e2 e3
   obtain ⟨pb, po, rfl, hpb, hcell5⟩ := hcell5 (by rw [List.length_drop]; omega)
   obtain ⟨dr, hdr⟩ : ∃ dr, all.drop (256 * i) = dr := ⟨_, rfl⟩
   rw [hdr] at hcell5 hsl2 hcp5
   have hwl : wl (fi + p) all (i + 1) = (fi + p + i, padB dr) :: wl (fi + p) all i := by rw [wl, hdr]
   have HWS2 := hid (show (if sk.we nb rm (fi + p + i) = 0 then (sk.wr nb rm (fi + p + i) (padB dr)).wsy nb rm (wl (fi + p) all i) else (sk.wr nb rm (fi + p + i) (padB dr), sk.we nb rm (fi + p + i))) = W from by rw [← HWS.out, hwl, wsy_cons])
   have HCELL := hid hcell5
   have HX13 := hid (heap_alloc_new wr (.cells (ArrU8 (zeros 256)) 50))
   have hall35 := fun u => slice35_all u wr.heap.size
   have HCUR := hid (show (wr.alloc (.cells (ArrU8 (zeros 256)) 50)).heap[wr.heap.size]? = some (.cells ((zeros 256).map (Value.int .u8)).toArray 50 (0, 0)) from HX13.out)
   have HUU := hid (show (Tryz.prog.info? 5).map (·.size) = some 1 by kernel_rfl)
   have HDRL := hid (show 0 < dr.length by rw [← hdr, List.length_drop]; omega)
   have HB5 := hid hb5
   clear hs2 hs5 hbs hb5 hcell5 hcp5 hdr hwl hpb
   go_wp2_with fail
   refine wp_region_held_drew (S := fun _ => True) (by kernel_rfl) (trivial) (fun hHeld => ?_)
   refine tk (i := 0) (oi := ⟨some 42, .slice 50 (.tmp 13) none none none, 83, "blocks.go:93", #[], none⟩) (v := ?_) (Or.inl ⟨by rfl, ?_⟩) ?_
   rotate_left 1
   ·(intro u hSw; go_simp; try with_reducible rfl)
   try simp only [Act.put, sA, sB, sC]
   refine tk (i := 1) (oi := ⟨some 43, .move (.tmp 11), 83, "blocks.go:93", #[], none⟩) (v := ?_) (Or.inl ⟨by rfl, ?_⟩) ?_
   rotate_left 1
   ·(intro u hSw; go_simp; try with_reducible rfl)
   try simp only [Act.put, sA, sB, sC]
   refine tk (i := 2) (oi := ⟨some 44, .move (.tmp 12), 3, "blocks.go:93", #[], none⟩) (v := ?_) (Or.inl ⟨by rfl, ?_⟩) ?_
   rotate_left 1
   ·(intro u hSw; go_simp; try with_reducible rfl)
   try simp only [Act.put, sA, sB, sC]
   refine tk (i := 3) (oi := ⟨some 45, .binOp BinOp.mul 3 (.tmp 44) (.const (Value.int IntKind.i64 256)) 3, 3, "blocks.go:93", #[⟨2, .data⟩], none⟩) (v := ?_) (Or.inl ⟨by rfl, ?_⟩) ?_
   rotate_left 1
   ·(intro u hSw; go_simp; try with_reducible rfl)
   try simp only [Act.put, sA, sB, sC]
   refine tk (i := 4) (oi := ⟨some 46, .slice 83 (.tmp 43) (some (.tmp 45)) none none, 83, "blocks.go:93", #[⟨1, .data⟩, ⟨3, .data⟩], none⟩) (v := ?_) (Or.inl ⟨by rfl, ?_⟩) ?_
   rotate_left 1
   ·(intro u hSw; go_simp; try with_reducible rfl)
   try simp only [Act.put, sA, sB, sC]
   refine wpAnyH_ready (rs := [5]) (by kernel_rfl) (by simp) ?_
   refine AllReadyH.cons (o := ⟨some 47, .call ⟨.builtin .copy, #[.tmp 42, .tmp 46], #[83, 83]⟩, 3, "blocks.go:93", #[⟨0, .data⟩, ⟨4, .data⟩], none⟩) rfl (fun K hK => ?_) AllReadyH.nil
   refine step_copy_row (by rfl) (Operand.tmp 42) (Operand.tmp 46) 83 83 (by rfl) 5 Tryz.underlying83 HUU.out wr.heap.size 0 256 256 dr.length _ ⟨pb, po, none⟩ (by rfl) (by rfl) ((zeros 256).map (Value.int .u8)) ((padB dr).map (Value.int .u8)) 50 HCUR.out ((dr.take 256).map (Value.int .u8)) (by rw [List.length_map, List.length_take]; exact Nat.min_comm _ _) (by
   intro j v hv
   rw [List.getElem?_map, Option.map_eq_some_iff] at hv
   obtain ⟨y, hy, rfl⟩ := hv
   have hj : j < 256 ∧ j < dr.length := by have := (List.getElem?_eq_some_iff.1 hy).1; rw [List.length_take] at this; omega
   rw [List.getElem?_take, if_pos hj.1] at hy
   have e4 := HCELL.out j hj.2
   rw [hy] at e4
   rw [Addr.add_mid]
   exact e4) (by rw [List.length_map, List.length_map, List.length_take, zeros, List.length_replicate]; omega) (by intro v hv; obtain ⟨x, _, rfl⟩ := List.mem_map.1 hv; rfl) (pad_copy dr) ?_
   intro w6 hd6 hg6
   have HD6 := hid hd6
   have HG6 := hid hg6
   clear hd6 hg6
   refine hK.out _ _ trivial (fun hHeld => ?_)
   clear hK K
   try simp only [Act.put, sA, sB, sC]
   refine wpAnyH_done (by kernel_rfl) ?_ _
   have HB6 := hid (show Below wr.heap.size wr w6 from by
    have hg := HG6.out
    have h5 := HB5.out.drew
    exact h5.trans ⟨hg.os, hg.tape, hg.output, hg.size, fun k hk => hg.block k (by simp; omega) (fun e => by injection e with e; omega)⟩)
   have HX06 := hid ((HB6.out.block _ HSW.out).trans HX0W.out)
   have b0 := (cell_of_row _ (w.heap.size) 0 _ _ _ HX06.out).trans (show (#[Value.pointer (some ⟨D, 0, none⟩), .int .i64 fi, .int .i64 sz] : Array Value)[0]? = some (.pointer (some ⟨D, 0, none⟩)) from rfl)
   have b1 := (cell_of_row _ (w.heap.size) 1 _ _ _ HX06.out).trans (show (#[Value.pointer (some ⟨D, 0, none⟩), .int .i64 fi, .int .i64 sz] : Array Value)[1]? = some (.int .i64 fi) from rfl)
   have b2 := (cell_of_row _ (w.heap.size) 2 _ _ _ HX06.out).trans (show (#[Value.pointer (some ⟨D, 0, none⟩), .int .i64 fi, .int .i64 sz] : Array Value)[2]? = some (.int .i64 sz) from rfl)
   have SP := hid (show (ArrU8 (padB dr)).size = 256 by rw [ArrU8_size, padB_len])
   have HD6A := hid (show w6.heap[wr.heap.size]? = some (.cells (ArrU8 (padB dr)) 50 (0, 0)) from HD6.out)
   have hLL : sk.L.length ≤ 268435456 := by have := HLK.out; have := HC1.out; omega
   clear hsl2 hall35 hwr him
   go_wp2_with (refine wpList_load_row rfl 50 (Operand.tmp 13) rfl wr.heap.size rfl 50 (ArrU8 (padB dr)) (0, 0) _ HD6A.out Tryz.underlying50 rfl (by rw [HI35.out, SP.out]) ?_)
   have HD6K := hid (HDK.out.chg (Chg.fresh (F := fun _ => False) HB6.out) (fun _ _ h => h))
   refine (dwrite_any B D M nb rm (fi + p + i) sk lvk (padB dr) w6 HD6K.out (padB_len dr) hLL fi sz (p + i) (by omega) ⟨h1, by omega⟩ ⟨by omega, hpi⟩).mono ?_
   rintro e w7 ⟨rfl, lv7, hdk, hch, hft⟩
   obtain ⟨E, hE⟩ : ∃ E, sk.we nb rm (fi + p + i) = E := ⟨_, rfl⟩
   rw [hE]
   have HW7 := hid HWS2.out
   rw [hE] at HW7
   have HDK7 := hid hdk
   have HC7 := hid (show Chg (Foot D M lv) w4 w7 from (HCH.out.trans (Chg.fresh (F := fun _ => False) HB6.out) (fun _ h => h.elim)).trans hch (fun g hg => HFT2.out g hg))
   have HF7 := hid (show ∀ g, Foot D M lv7 g → Foot D M lv g ∨ w4.heap.size ≤ g from fun g hg => (hft g hg).elim (fun h => HFT2.out g h) (fun h => .inr (by have := HCH.out.size; have := HB6.out.size; omega)))
   have HL7 := hid (wr_L nb rm sk (fi + p + i) (padB dr))
   have HX07 := hid ((hch.block _ (Array.getElem?_eq_some_iff.1 HX06.out).1 HNX.out).trans HX06.out)
   clear hdk hch hft hE b0 b1 b2
   by_cases hE0 : E = 0
   ·rw [if_pos hE0] at HW7
    go_wp2_with fail
    go_roundw
    case rel => exact ⟨i, sk.wr nb rm (fi + p + i) (padB dr), lv7, rfl, by omega, HW7.out, HDK7.out, by have := HL7.out; have := HLK.out; omega, HC7.out, HF7.out⟩
    case measure => simp [intOf]
   ·rw [if_neg hE0] at HW7
    go_wp2_with fail
    go_ret
    rw [← HW7.out]
    exact LEnds.seq2 XB4.out (Chg.refl _ _) (fun _ h => .inl h) (Below.refl _ _) ⟨rfl, lv7, HDK7.out, HC7.out, fun g hg => HF7.out g hg⟩
end Go.Proofs.YtdkjkibdncbibaaGreat
/- maps with keys of int's kind, whatever their elements: looked up, written, deleted from -/
namespace Go.Proofs.YtdkjkibdncbibaaGreat
open Go.RowKit
open Go.Lib (hid)
section
variable {α : Type}
def gl : List (Int × α) → Int → Option α
 | [], _ => none
 | p :: r, n => if n = p.1 then some p.2 else gl r n
def gp : List (Int × α) → Int → α → List (Int × α)
 | [], n, v => [(n, v)]
 | p :: r, n, v => if n = p.1 then (n, v) :: r else p :: gp r n v
def gd : List (Int × α) → Int → List (Int × α)
 | [], _ => []
 | p :: r, n => if n = p.1 then r else p :: gd r n
def gi : List (Int × α) → Int → Option Nat
 | [], _ => none
 | p :: r, n => if n = p.1 then some 0 else (gi r n).map (· + 1)
def gk (l : List (Int × α)) : List Int := l.map (·.1)
theorem gi_gl : ∀ (l : List (Int × α)) (n : Int), (∀ i, gi l n = some i → ∃ v, l[i]? = some (n, v) ∧ gl l n = some v) ∧ (gi l n = none → gl l n = none)
 | [], n => ⟨fun i h => by simp [gi] at h, fun _ => rfl⟩
 | p :: r, n => by
  have ih := gi_gl r n
  by_cases hn : n = p.1
  ·refine ⟨fun i h => ?_, fun h => ?_⟩
   ·simp only [gi, if_pos hn, Option.some.injEq] at h
    subst h
    exact ⟨p.2, by simp [hn], by simp [gl, hn]⟩
   ·simp [gi, hn] at h
  ·refine ⟨fun i h => ?_, fun h => ?_⟩
   ·simp only [gi, if_neg hn, Option.map_eq_some_iff] at h
    obtain ⟨j, hj, rfl⟩ := h
    obtain ⟨v, h1, h2⟩ := ih.1 j hj
    exact ⟨v, by simpa using h1, by simp [gl, hn, h2]⟩
   ·simp only [gi, if_neg hn, Option.map_eq_none_iff] at h
    simp [gl, hn, ih.2 h]
theorem gp_gi : ∀ (l : List (Int × α)) (n : Int) (v : α), gp l n v = match gi l n with | some i => l.set i (n, v) | none => l ++ [(n, v)]
 | [], _, _ => rfl
 | p :: r, n, v => by
  by_cases hn : n = p.1
  ·simp [gp, gi, hn]
  ·simp only [gp, gi, if_neg hn, gp_gi r n v]
   cases gi r n <;> simp
theorem gd_gi : ∀ (l : List (Int × α)) (n : Int), gd l n = match gi l n with | some i => l.eraseIdx i | none => l
 | [], _ => rfl
 | p :: r, n => by
  by_cases hn : n = p.1
  ·simp [gd, gi, hn]
  ·simp only [gd, gi, if_neg hn, gd_gi r n]
   cases gi r n <;> simp
theorem gl_gp : ∀ (l : List (Int × α)) (n m : Int) (v : α), gl (gp l n v) m = if m = n then some v else gl l m
 | [], n, m, v => by simp [gp, gl]
 | p :: r, n, m, v => by
  by_cases hn : n = p.1
  ·by_cases hm : m = n
   ·simp [gp, gl, hn, hm]
   ·have : m ≠ p.1 := fun e => hm (e.trans hn.symm)
    simp [gp, gl, hn, this]
  ·by_cases hm : m = p.1
   ·have : m ≠ n := fun e => hn (e.symm.trans hm)
    simp [gp, gl, hn, hm]
    intro e; exact absurd (e.symm) hn
   ·simp [gp, gl, hn, hm, gl_gp r n m v]
theorem gl_none : ∀ {l : List (Int × α)} {n : Int}, gl l n = none ↔ n ∉ gk l
 | [], n => by simp [gl, gk]
 | p :: r, n => by
  have ih := gl_none (l := r) (n := n)
  by_cases hn : n = p.1
  ·simp [gl, gk, hn]
  ·simp only [gk] at ih
   simp [gl, gk, hn, ih]
theorem gk_gp : ∀ (l : List (Int × α)) (n : Int) (v : α), gk (gp l n v) = if n ∈ gk l then gk l else gk l ++ [n]
 | [], n, v => by simp [gp, gk]
 | p :: r, n, v => by
  have ih := gk_gp r n v
  by_cases hn : n = p.1
  ·simp [gp, gk, hn]
  ·have h1 : gk (gp (p :: r) n v) = p.1 :: gk (gp r n v) := by simp [gp, hn, gk]
   have h2 : gk (p :: r) = p.1 :: gk r := rfl
   rw [h1, h2, ih]
   by_cases hm : n ∈ gk r
   ·rw [if_pos hm, if_pos (List.mem_cons_of_mem _ hm)]
   ·rw [if_neg hm, if_neg (fun e => (List.mem_cons.1 e).elim hn hm), List.cons_append]
theorem gk_gd : ∀ (l : List (Int × α)) (n : Int), gk (gd l n) = (gk l).erase n
 | [], n => by simp [gd, gk]
 | p :: r, n => by
  have ih := gk_gd r n
  by_cases hn : n = p.1
  ·simp [gd, gk, hn]
  ·have hb : (p.1 == n) = false := by simp; exact fun e => hn e.symm
   have h1 : gk (gd (p :: r) n) = p.1 :: gk (gd r n) := by simp [gd, hn, gk]
   have h2 : gk (p :: r) = p.1 :: gk r := rfl
   rw [h1, h2, ih, List.erase_cons_tail (by simpa using hb)]
theorem gl_gd (l : List (Int × α)) (n : Int) (h : (gk l).Nodup) : ∀ m, gl (gd l n) m = if m = n then none else gl l m := by
 induction l with
 | nil => intro m; simp [gd, gl]
 | cons p r ih =>
  intro m
  have hr : (gk r).Nodup := (List.nodup_cons.1 h).2
  have hp : p.1 ∉ gk r := (List.nodup_cons.1 h).1
  by_cases hn : n = p.1
  ·subst hn
   simp only [gd, if_true]
   by_cases hm : m = p.1
   ·subst hm
    simp [gl_none.2 hp]
   ·simp [gl, hm]
  ·simp only [gd, if_neg hn, gl, ih hr m]
   by_cases hm : m = p.1
   ·have : m ≠ n := fun e => hn (e.symm.trans hm)
    simp [hm]
    intro e; exact absurd e.symm hn
   ·simp [hm]
def KVg (enc : α → Value) (es : List MapEntry) (kvs : List (Int × α)) : Prop := es.map (fun e => (e.key, e.val)) = kvs.map fun p => (Value.int .i64 p.1, enc p.2)
def MapG (enc : α → Value) (w : World) (M : Nat) (kvs : List (Int × α)) : Prop := ∃ es clock, w.heap[M]? = some (.map es clock) ∧ KVg enc es.toList kvs ∧ MapKept.Stamped es clock
variable {enc : α → Value} {w w' : World} {M : Nat} {kvs : List (Int × α)}
theorem MapG.lt (h : MapG enc w M kvs) : M < w.heap.size := by
 obtain ⟨es, c, h1, _⟩ := h
 exact (Array.getElem?_eq_some_iff.1 h1).1
theorem MapG.of (h : MapG enc w M kvs) (he : w'.heap[M]? = w.heap[M]?) : MapG enc w' M kvs := by
 obtain ⟨es, c, h1, h2⟩ := h
 exact ⟨es, c, he.trans h1, h2⟩
theorem MapG.nodup (h : MapG enc w M kvs) : (gk kvs).Nodup := by
  obtain ⟨es, c, _, hkv, hst⟩ := h
  have h1 : es.toList.map (·.key) = kvs.map (fun p => Value.int .i64 p.1) := by
    have := congrArg (List.map Prod.fst) hkv
    simpa [List.map_map, Function.comp_def] using this
  have h2 := ((MapKept.stamped_iff es c).1 hst).2.2
  have h3 : (es.toList.map (·.key)).Pairwise (· ≠ ·) := List.pairwise_map.2 h2
  rw [h1] at h3
  have h4 : kvs.map (fun p => Value.int .i64 p.1) = (gk kvs).map (Value.int .i64) := by simp [gk, List.map_map, Function.comp_def]
  rw [h4] at h3
  exact (List.pairwise_map.1 h3).imp (fun hne e => hne (by rw [e]))
theorem MapG.len (h : MapG enc w M kvs) : ∃ es c, w.heap[M]? = some (.map es c) ∧ es.size = kvs.length := by
  obtain ⟨es, c, h1, hkv, _⟩ := h
  refine ⟨es, c, h1, ?_⟩
  have := congrArg List.length hkv
  simpa using this
theorem findNow_g (n : Int) : ∀ (es : List MapEntry) (kvs : List (Int × α)) (i : Nat), KVg enc es kvs → Instr.findNow (.int .i64) (.int .i64 n) es i = some ((gi kvs n).map fun q => (i + q, ((gl kvs n).map enc).getD undef))
 | [], [], i, _ => rfl
 | [], _ :: _, _, h => by simp [KVg] at h
 | _ :: _, [], _, h => by simp [KVg] at h
 | e :: es, p :: r, i, h => by
  simp only [KVg, List.map_cons, List.cons.injEq, Prod.mk.injEq] at h
  obtain ⟨⟨h1, h2⟩, h3⟩ := h
  have ih := findNow_g n es r (i + 1) h3
  unfold Instr.findNow
  rw [h1]
  by_cases hn : n = p.1
  ·subst hn
   simp [Instr.sameNow, gi, gl, h2]
  ·have hb : (n == p.1) = false := by simpa using hn
   simp only [Instr.sameNow, if_true, hb, ih, gi, gl, if_neg hn]
   congr 1
   cases gi r n with
   | none => rfl
   | some q => simp; omega
theorem run_findKey_g {P : Program} {T : TypeId} (hT : P.underlying T = some (.int .i64)) (n : Int) (es : List MapEntry) (h : KVg enc es kvs) :
  (Instr.findKey T (.int .i64 n) es).run P w = .ok ((gi kvs n).map fun q => (q, ((gl kvs n).map enc).getD undef)) w := by
 unfold Instr.findKey
 simp only [Sem.run_bind, run_underlying hT, Result.andThen_ok, findNow_g n es kvs 0 h, Nat.zero_add, Sem.run_pure]
theorem run_checkKey_g {P : Program} {T : TypeId} (hT : P.underlying T = some (.int .i64)) (em : Bool) (n : Int) : (Instr.checkKey em 10000 T (.int .i64 n)).run P w = .ok () w := by
 show (Instr.checkKey em (9999 + 1) T (.int .i64 n)).run P w = _
 unfold Instr.checkKey
 simp only [Sem.run_bind, run_underlying hT, Result.andThen_ok]
 rfl
theorem run_look_g {P : Program} {mT kT eT : TypeId} (hm : P.underlying mT = some (.map kT eT)) (hk : P.underlying kT = some (.int .i64)) (z : α) (hz : ∀ u, (zeroValue eT).run P u = .ok (enc z) u) (n : Int) (h : MapG enc w M kvs) :
  (Instr.lookup mT (.map (some M)) (.int .i64 n) true).run P w = .ok (.tuple #[enc ((gl kvs n).getD z), .bool (gl kvs n).isSome]) w := by
 obtain ⟨es, clock, hM, hkv, _⟩ := h
 have hg : (getObj M).run P w = .ok (.map es clock) w := by simp [getObj, Sem.run, hM]
 unfold Instr.lookup
 simp only [Sem.run_bind, run_underlying hm, Result.andThen_ok, hg, Sem.run_pure, run_checkKey_g hk, run_findKey_g hk n es.toList hkv]
 have hq := gi_gl kvs n
 cases hk' : gi kvs n with
 | none => simp [hq.2 hk', hz]
 | some q =>
  obtain ⟨v, _, hv⟩ := hq.1 q hk'
  simp [hv, Sem.run_pure]
theorem run_look1_g {P : Program} {mT kT eT : TypeId} (hm : P.underlying mT = some (.map kT eT)) (hk : P.underlying kT = some (.int .i64)) (z : α) (hz : ∀ u, (zeroValue eT).run P u = .ok (enc z) u) (n : Int) (h : MapG enc w M kvs) :
  (Instr.lookup mT (.map (some M)) (.int .i64 n) false).run P w = .ok (enc ((gl kvs n).getD z)) w := by
 obtain ⟨es, clock, hM, hkv, _⟩ := h
 have hg : (getObj M).run P w = .ok (.map es clock) w := by simp [getObj, Sem.run, hM]
 unfold Instr.lookup
 simp only [Sem.run_bind, run_underlying hm, Result.andThen_ok, hg, Sem.run_pure, run_checkKey_g hk, run_findKey_g hk n es.toList hkv]
 have hq := gi_gl kvs n
 cases hk' : gi kvs n with
 | none => simp [hq.2 hk', hz]
 | some q =>
  obtain ⟨v, _, hv⟩ := hq.1 q hk'
  simp [hv, Sem.run_pure]
theorem gi_miss (n : Int) : ∀ (es : List MapEntry) (kvs : List (Int × α)), KVg enc es kvs → gi kvs n = none → ∀ x ∈ es, x.key ≠ .int .i64 n
 | [], _, _, _ => fun x hx => by cases hx
 | _ :: _, [], h, _ => by simp [KVg] at h
 | e :: es, p :: r, h, hk => by
  simp only [KVg, List.map_cons, List.cons.injEq, Prod.mk.injEq] at h
  obtain ⟨⟨h1, _⟩, h3⟩ := h
  unfold gi at hk
  by_cases hn : n = p.1
  ·rw [if_pos hn] at hk; cases hk
  ·rw [if_neg hn, Option.map_eq_none_iff] at hk
   intro x hx
   rcases List.mem_cons.1 hx with rfl | hx
   ·rw [h1]; intro e; injection e with _ e; exact hn e.symm
   ·exact gi_miss n es r h3 hk x hx
theorem kvg_set {es : List MapEntry} (h : KVg enc es kvs) (j : Nat) (k : Int) (l : α) (f : MapEntry → MapEntry) (hf : ∀ e, (f e).key = .int .i64 k ∧ (f e).val = enc l) : KVg enc (es.modify j f) (kvs.set j (k, l)) := by
  unfold KVg at *
  apply List.ext_getElem?
  intro i
  have hi := congrArg (fun x => x[i]?) h
  simp only [List.getElem?_map] at hi ⊢
  rw [List.getElem?_modify, List.getElem?_set]
  by_cases hj : j = i
  · subst hj
    rw [if_pos rfl]
    cases he : es[j]? with
    | none =>
      rw [he] at hi
      cases hk : kvs[j]? with
      | none => have := List.getElem?_eq_none_iff.1 hk; rw [if_neg (by omega)]; rfl
      | some p => rw [hk] at hi; cases hi
    | some e =>
      rw [he] at hi
      cases hk : kvs[j]? with
      | none => rw [hk] at hi; cases hi
      | some p =>
        have := (List.getElem?_eq_some_iff.1 hk).1
        rw [if_pos this]
        simp [(hf e).1, (hf e).2]
  · rw [if_neg hj]
    simpa [hj] using hi
theorem map_erase_g {β γ : Type} (g : β → γ) : ∀ (l : List β) (i : Nat), (l.eraseIdx i).map g = (l.map g).eraseIdx i
 | [], i => by simp
 | x :: r, 0 => rfl
 | x :: r, i + 1 => by simp [map_erase_g g r i]
theorem putM_facts (hlt : M < w.heap.size) (o : Obj) : (putM w M o).heap[M]? = some o ∧ w.grownBy (putM w M o) (some M) ∧ (putM w M o).heap.size = w.heap.size :=
 ⟨by simp [putM, hlt], ⟨rfl, rfl, rfl, by simp [putM], fun k _ hk => by
  have : M ≠ k := fun e => hk (by rw [e])
  simp [putM, this]⟩, by simp [putM]⟩
theorem run_setObj_g {P : Program} {es : Array MapEntry} {c : Nat} (hM : w.heap[M]? = some (.map es c)) (o : Obj) : (setObj M o).run P w = .ok () (putM w M o) := by simp [setObj, Sem.run, putM, hM]
theorem run_update_g {P : Program} {mT kT eT : TypeId} (hm : P.underlying mT = some (.map kT eT)) (hk : P.underlying kT = some (.int .i64)) (n : Int) (l : α) (h : MapG enc w M kvs) :
  ∃ w', (Instr.mapUpdate mT (.map (some M)) (.int .i64 n) (enc l)).run P w = .ok () w' ∧ MapG enc w' M (gp kvs n l) ∧ w.grownBy w' (some M) ∧ w'.heap.size = w.heap.size := by
 have hlt := h.lt
 obtain ⟨es, clock, hM, hkv, hst0⟩ := h
 have hg : (getObj M).run P w = .ok (.map es clock) w := by simp [getObj, Sem.run, hM]
 have hst : (Instr.keyThatStays (.int .i64 n) (.int .i64 n)).run P w = .ok (.int .i64 n) w := by simp [Instr.keyThatStays, Instr.sameBits]
 unfold Instr.mapUpdate
 simp only [Sem.run_bind, run_underlying hm, Result.andThen_ok, hg, run_checkKey_g hk, run_findKey_g hk n es.toList hkv]
 rw [gp_gi]
 have hq := gi_gl kvs n
 cases hk' : gi kvs n with
 | none =>
  refine ⟨_, run_setObj_g hM _, ⟨_, _, (putM_facts hlt _).1, ?_, MapKept.stamped_push hst0 (fun x hx e => gi_miss n es.toList kvs hkv hk' x hx e)⟩, (putM_facts hlt _).2.1, (putM_facts hlt _).2.2⟩
  simp only [KVg, Array.toList_push, List.map_append, List.map_cons, List.map_nil] at hkv ⊢
  rw [hkv]
 | some q =>
  obtain ⟨v, h1, hv⟩ := hq.1 q hk'
  have h2 := congrArg (fun x => x[q]?) hkv
  simp only [List.getElem?_map, h1, Option.map_some] at h2
  have h3 : (es[q]?).map (·.key) = some (.int .i64 n) := by
   cases he : es[q]? with
   | none => simp [he] at h2
   | some e => simp [he] at h2; simp [h2.1]
  simp only [Option.map_some, h3, Option.getD_some, Sem.run_bind, hst, Result.andThen_ok]
  refine ⟨_, run_setObj_g hM _, ⟨_, _, (putM_facts hlt _).1, ?_, MapKept.stamped_modify hst0 q _ (fun e _ => rfl) (fun e _ he => ?_)⟩, (putM_facts hlt _).2.1, (putM_facts hlt _).2.2⟩
  case refine_2 => simp [he] at h3; exact h3.symm
  rw [Array.toList_modify]
  exact kvg_set hkv q n l _ (fun e => ⟨rfl, rfl⟩)
theorem run_delete_g {P : Program} {mT kT eT ty : TypeId} (hm : P.underlying mT = some (.map kT eT)) (hk : P.underlying kT = some (.int .i64)) (n : Int) (h : MapG enc w M kvs) :
  ∃ w', (Builtin.delete_ #[mT, kT] ty #[.map (some M), .int .i64 n]).run P w = .ok (.tuple #[]) w' ∧ MapG enc w' M (gd kvs n) ∧ w.grownBy w' (some M) ∧ w'.heap.size = w.heap.size := by
 have hlt := h.lt
 obtain ⟨es, clock, hM, hkv, hst0⟩ := h
 have hg : (getObj M).run P w = .ok (.map es clock) w := by simp [getObj, Sem.run, hM]
 unfold Builtin.delete_
 simp only [List.getElem?_toArray, List.getElem?_cons_zero, List.getElem?_cons_succ, Sem.run_bind, run_underlying hm, Result.andThen_ok, hg, run_checkKey_g hk, run_findKey_g hk n es.toList hkv]
 rw [gd_gi]
 cases hk' : gi kvs n with
 | none =>
  simp only [Option.map_none, Sem.run_bind, run_setObj_g hM, Result.andThen_ok, Sem.run_pure]
  exact ⟨_, rfl, ⟨_, _, (putM_facts hlt _).1, hkv, hst0⟩, (putM_facts hlt _).2.1, (putM_facts hlt _).2.2⟩
 | some q =>
  simp only [Option.map_some, Sem.run_bind, run_setObj_g hM, Result.andThen_ok, Sem.run_pure]
  refine ⟨_, rfl, ⟨_, _, (putM_facts hlt _).1, ?_, MapKept.stamped_erase hst0 q⟩, (putM_facts hlt _).2.1, (putM_facts hlt _).2.2⟩
  have hsub : (es.eraseIdxIfInBounds q).toList = es.toList.eraseIdx q := by
   unfold Array.eraseIdxIfInBounds
   split
   ·simp
   ·rename_i hh
    rw [List.eraseIdx_of_length_le (by simpa using hh)]
  unfold KVg at *
  rw [hsub, map_erase_g, map_erase_g, hkv]
end
end Go.Proofs.YtdkjkibdncbibaaGreat
