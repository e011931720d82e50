/- the law's laid -/
import Derived.Test.YtdkjkibdncbibaaGreatCm23
import Derived.Test.YtdkjkibdncbibaaGreatCm27
namespace Go.Proofs.YtdkjkibdncbibaaGreat
open Go.RowKit
open Go.Lib (hid)
theorem madeN5 (n : Nat) : madeCells (ArrU8 (zeros 256)) (n * 256) = (flatB (List.replicate n (zeros 256))).toArray := by
 have hs : (ArrU8 (zeros 256)).size = 256 := by rw [ArrU8_size, zeros_len]
 have hb : ∀ l ∈ List.replicate n (zeros 256), l.length = 256 := fun l hl => by rw [(List.mem_replicate.1 hl).2, zeros_len]
 have hl := flatB_len _ hb
 rw [List.length_replicate] at hl
 unfold madeCells
 apply Array.ext_getElem?
 intro i
 have hR : (flatB (List.replicate n (zeros 256))).toArray[i]? = (flatB (List.replicate n (zeros 256)))[i]? := List.getElem?_toArray ..
 rw [Array.getElem?_map, hR]
 by_cases hi : i < n * 256
 ·have h1 : (Array.range (n * 256))[i]? = some i := by simp [hi]
  rw [h1, hs]
  have hj : i % 256 < ((zeros 256).map (Value.int .u8)).length := by rw [List.length_map, zeros_len]; omega
  have h2 := flatB_get _ hb (i / 256) (zeros 256) (by rw [List.getElem?_replicate, if_pos (by omega)]) (i % 256) _ (List.getElem?_eq_getElem hj)
  rw [show i / 256 * 256 + i % 256 = i by omega] at h2
  rw [h2]
  simp only [Option.map_some, ArrU8, Option.some.injEq]
  have : i % 256 < ((zeros 256).map (Value.int .u8)).toArray.size := by simpa using hj
  rw [getElem!_pos ((zeros 256).map (Value.int .u8)).toArray (i % 256) this]
  simp only [List.getElem_toArray]
 ·have : (Array.range (n * 256))[i]? = none := by simp; omega
  rw [this, List.getElem?_eq_none (by omega)]; rfl
set_option maxRecDepth 100000 in
theorem run_makeN5 (u : World) (n : Nat) (hn : n ≤ 4096) : (Instr.makeSlice 25 (.int .i64 (n : Int)) (.int .i64 (n : Int))).run Tryz.prog u = .ok (.slice (some ⟨u.heap.size, 0, none⟩) n n) (u.alloc (.cells (flatB (List.replicate n (zeros 256))).toArray 50)) := by
 obtain ⟨i, hi, hz, hs, hby⟩ : ∃ i, Tryz.prog.info? 50 = some i ∧ i.zero = some (.agg (ArrU8 (zeros 256))) ∧ i.size = 256 ∧ i.bytes = 256 := by
  have h1 : (Tryz.prog.info? 50).map (fun ie => (ie.zero, ie.size, ie.bytes)) = some (some (.agg (ArrU8 (zeros 256))), 256, 256) := by kernel_rfl
  cases hie : Tryz.prog.info? 50 with
  | none => rw [hie] at h1; cases h1
  | some ie =>
   rw [hie] at h1
   simp only [Option.map_some, Option.some.injEq, Prod.mk.injEq] at h1
   exact ⟨ie, rfl, h1.1, h1.2.1, h1.2.2⟩
 have h := run_make (P := Tryz.prog) u 25 50 i _ Tryz.underlying25 hi hz .i64 .i64 n n (by omega) (by omega) (by rw [hby]; omega) (by omega)
 rw [hs, Int.toNat_natCast] at h
 have e : madeCells (Value.agg (ArrU8 (zeros 256))).cells (n * 256) = (flatB (List.replicate n (zeros 256))).toArray := madeN5 n
 rw [e] at h
 exact h
theorem bk_madeN5 (u : World) (n B : Nat) (hB : B ≤ u.heap.size) : BkC (u.alloc (.cells (flatB (List.replicate n (zeros 256))).toArray 50)) B u.heap.size (.slice (some ⟨u.heap.size, 0, none⟩) n n) (List.replicate n (zeros 256)) := by
 have hb : ∀ l ∈ List.replicate n (zeros 256), l.length = 256 := fun l hl => by rw [(List.mem_replicate.1 hl).2, zeros_len]
 have hl := flatB_len _ hb
 have hh := heap_alloc_new u (.cells (flatB (List.replicate n (zeros 256))).toArray 50)
 refine ⟨⟨n, by rw [List.length_replicate]⟩, hB, by simp, fun i l hi => ⟨hb l (List.mem_of_getElem? hi), fun j v hv => ?_⟩, fun j hj => ?_⟩
 ·rw [cell_of_row _ _ _ _ _ _ hh, List.getElem?_toArray]
  exact flatB_get _ hb i l hi j v hv
 ·refine ⟨?_, frozen_of_row _ _ _ _ _ hh⟩
  rw [cell_of_row _ _ _ _ _ _ hh, List.getElem?_toArray, List.getElem?_eq_getElem (by omega)]
  rfl
theorem wrap_u8_nn (x : Int) : 0 ≤ IntKind.u8.wrap x := by
 simp [IntKind.wrap, IntKind.bits, IntKind.signed]
 omega
/-- a disk with bytes on it, and a list that says which -/
def LdI (B D M ga : Nat) (nb i : Nat) (w : World) : Prop :=
 ∃ f L lv bs, Dk w B D M (nb : Int) (nb : Int) (-1) false f L lv ∧ L.length ≤ i ∧ (∀ n, Rng (f n)) ∧ BkC w B ga (.slice (some ⟨ga, 0, none⟩) nb nb) bs ∧ bs.length = nb ∧ (∀ m : Nat, m < nb → bs[m]? = some (f m)) ∧ (∀ g, Foot D M lv g → g ≠ ga)
section
variable {B D M ga nb i : Nat} {w w' : World}
end
set_option maxRecDepth 100000 in
set_option maxHeartbeats 2000000 in
theorem laid_any (nb : Nat) (junk : Int) (w : World) (h1 : 1 ≤ nb) (h4 : nb ≤ 4096) :
  Calls Tryz.prog 7 #[.int .i64 (nb : Int), .int .u8 junk] w fun e w' => ∃ ga, e = .returned (.tuple #[.pointer (some ⟨w.heap.size + 1, 0, none⟩), .slice (some ⟨ga, 0, none⟩) nb nb]) ∧ LdI w.heap.size (w.heap.size + 1) w.heap.size ga nb nb w' ∧ Below w.heap.size w w' := by
 have HI35 := hid (show (Tryz.prog.info? 50).map (·.size) = some 256 by kernel_rfl)
 have HND := hid (new_dk (nb : Int) w (by omega) (by omega))
 have HMK := hid (fun u => run_makeN5 u nb h4)
 have HNB := hid (And.intro h1 h4)
 clear h1
 go_enter Tryz.func7, Tryz.ntmps7
 go_wp2_with fail
 refine HND.out.mono ?_
 rintro e w1 ⟨rfl, hdk, hb⟩
 have hmk := HMK.out w1
 have hbw2 : Below w1.heap.size w1 (w1.alloc (.cells (flatB (List.replicate nb (zeros 256))).toArray 50)) := (Below.refl _ _).alloc (Nat.le_refl _) _
 have HLD := hid (show LdI w.heap.size (w.heap.size + 1) w.heap.size w1.heap.size nb 0 (w1.alloc (.cells (flatB (List.replicate nb (zeros 256))).toArray 50)) from
  ⟨fun _ => zeros 256, [], _, List.replicate nb (zeros 256), hdk.chg (Chg.fresh (F := fun _ => False) hbw2) (fun _ _ h => h), Nat.le_refl _, fun _ => rng_zeros _, bk_madeN5 w1 nb w.heap.size hb.size, List.length_replicate, fun m hm => by rw [List.getElem?_replicate, if_pos hm], fun g hg => by have := (hdk.foot g hg).2; omega⟩)
 have HBW := hid (hb.trans (hbw2.mono hb.size))
 generalize w1.alloc (.cells (flatB (List.replicate nb (zeros 256))).toArray 50) = w2 at *
 obtain ⟨ga, hga⟩ : ∃ ga, w1.heap.size = ga := ⟨_, rfl⟩
 have HG := hid (show w.heap.size ≤ ga from hga ▸ hb.size)
 clear hdk hb hbw2
 rw [hga] at hmk HLD
 clear hga
 go_wp2_with fail
 go_loopw [8] (fun iv wr => ∃ i : Nat, iv = .int .i64 (i : Int) ∧ i ≤ nb ∧ LdI w.heap.size (w.heap.size + 1) w.heap.size ga nb i wr ∧ Below w.heap.size w wr) (fun iv _ => nb - (intOf iv).toNat)
 case atStart => exact ⟨0, rfl, Nat.zero_le _, HLD.out, HBW.out⟩
 case round =>
  clear HLD HBW hmk
  obtain ⟨i, rfl, hi, hld, hbw⟩ := hrel
  have HLD := hid hld
  have HBW := hid hbw
  by_cases hlt : i < nb
  ·by_cases hj0 : junk > 0
   ·obtain ⟨f, L, lv, bs, q1, q2, q3, q4, q5, q6, q7⟩ := hld
    have hil : (i : Int) < (nb : Int) := by omega
    have HQ := hid (And.intro q1 (And.intro q2 (And.intro q3 (And.intro q4 (And.intro q5 (And.intro q6 q7))))))
    have HIN := hid hlt
    clear q1 q2 q3 q4 q5 q6 q7 hlt hbw
    go_wp2_with fail
    refine (block5_any _ _ (wrap_u8_nn _)).mono ?_
    rintro e w3 ⟨rfl, hb3⟩
    obtain ⟨q1, q2, q3, q4, q5, q6, q7⟩ := HQ.out
    generalize hbb : blk5 _ = b
    have hbl : b.length = 256 := by rw [← hbb]; exact blk5_len _
    have hbr : Rng b := by rw [← hbb]; exact blk5_rng _ (wrap_u8_nn _)
    clear hbb
    have p4 := q4.of (hb3.block ga q4.2.2.1) (Nat.lt_of_lt_of_le q4.2.2.1 hb3.size)
    have hilt : i < bs.length := by rw [q5]; exact HIN.out
    obtain ⟨l, hl⟩ : ∃ l, bs[i]? = some l := ⟨_, List.getElem?_eq_getElem hilt⟩
    have HTH := hid (bk_row p4 i l hl).2
    have SB := hid (show (ArrU8 b).size = 256 by rw [ArrU8_size, hbl])
    have hset := p4.set i hilt b hbl
    have hcs : Chg (fun q => q = ga) w3 (w3.setCells ga (i * 256) (b.map (Value.int .u8))) := Chg.setCells ga _ _ _ (Chg.refl _ w3) rfl
    have p1 := (q1.chg (Chg.fresh (F := fun _ => False) hb3) (fun _ _ h => h)).chg hcs (fun g hg e => q7 g hg e)
    have HW4 := hid (show w3.setCells ga (i * 256) (ArrU8 b).toList = w3.setCells ga (i * 256) (b.map (Value.int .u8)) from rfl)
    have HRW := hid (bk_row hset i b (by rw [List.getElem?_set, if_pos rfl, if_pos hilt])).1
    have HS := hid hset
    have HP1 := hid p1
    have hgB := HG.out
    have HB4 := hid (show Below w.heap.size w (w3.setCells ga (i * 256) (b.map (Value.int .u8))) from (HBW.out.trans (hb3.mono HBW.out.size)).trans (hcs.below (fun k hk => by rw [hk]; exact hgB) (HBW.out.trans (hb3.mono HBW.out.size)).size))
    generalize w3.setCells ga (i * 256) (b.map (Value.int .u8)) = w4 at *
    have HBL := hid (And.intro hbl hbr)
    have HIM := hid (show (Tryz.prog.info? 50).map (·.size) = some (b.map (Value.int .u8)).length by rw [List.length_map, hbl]; exact HI35.out)
    have HQ2 := hid (And.intro q2 (And.intro q3 (And.intro q5 (And.intro q6 q7))))
    clear q1 q2 q3 q4 q5 q6 q7 p4 hilt hl hset hcs p1 hbl hbr hb3 hgB
    go_wp2_with (first
     | (refine wpList_store_mid rfl 50 (Operand.tmp 32) (Operand.tmp 31) rfl ga (i * 256) (ArrU8 b) rfl rfl (by rw [SB.out]; exact HTH.out) (by rw [SB.out]; exact HI35.out) (ArrU8_one _) ?_; rw [HW4.out])
     | (refine wpList_load_mid rfl 50 (Operand.tmp 37) rfl ga (i * 256) rfl (b.map (Value.int .u8)) _ HRW.out Tryz.underlying50 rfl HIM.out ?_))
    refine (write_any _ _ _ (nb : Int) (nb : Int) (-1) (i : Int) false f L lv b w4 HP1.out HBL.out.1 (by have := HQ2.out.1; have := HNB.out.2; omega)).mono ?_
    rintro e w5 ⟨rfl, lv', hdk, hch, hft⟩
    have hin := HIN.out
    have e0 : wErr (nb : Int) (nb : Int) (-1) (i : Int) false = 0 := by simp [wErr, opOk, hasB]; omega
    rw [e0, if_pos rfl, if_pos rfl] at hdk
    have HDK := hid hdk
    have HC5 := hid (And.intro hch hft)
    rw [e0]
    clear hdk hch hft e0
    go_wp2_with fail
    go_roundw
    case rel =>
     obtain ⟨q2, q3, q5, q6, q7⟩ := HQ2.out
     obtain ⟨hch, hft⟩ := HC5.out
     have hs := HS.out
     have hnf : ¬ Foot (w.heap.size + 1) w.heap.size lv ga := fun e => q7 ga e rfl
     have hgs := hs.2.2.1
     refine ⟨i + 1, by go_num, by omega, ⟨fput f i b, _, lv', bs.set i b, HDK.out, by rw [List.length_append]; simp; omega, fun n => ?_, hs.of (hch.block ga hgs hnf) (Nat.lt_of_lt_of_le hgs hch.size), by rw [List.length_set]; exact q5, fun m hm => ?_, fun g hg e => ?_⟩, ?_⟩
     ·unfold fput
      split
      ·exact HBL.out.2
      ·exact q3 n
     ·rw [List.getElem?_set]
      by_cases hmi : i = m
      ·subst hmi
       rw [if_pos rfl, if_pos (by omega), fput_at]
      ·rw [if_neg hmi, fput_ne _ _ _ _ (by omega)]
       exact q6 m hm
     ·rcases hft g hg with e1 | e1
      ·exact q7 g e1 e
      ·omega
     ·exact HB4.out.trans (hch.below (fun k hk => (HP1.out.foot k hk).1) HB4.out.size)
    case measure => simp [intOf]; omega
   ·have hil : (i : Int) < (nb : Int) := by omega
    clear hld hbw hlt
    go_wp2_with fail
    go_ret2
    obtain ⟨f, L, lv, bs, q1, q2, q3⟩ := HLD.out
    exact ⟨ga, rfl, ⟨f, L, lv, bs, q1, by omega, q3⟩, HBW.out⟩
  ·have hil : ¬ (i : Int) < (nb : Int) := by omega
   clear hld hbw hlt
   go_wp2_with fail
   go_ret2
   obtain ⟨f, L, lv, bs, q1, q2, q3⟩ := HLD.out
   exact ⟨ga, rfl, ⟨f, L, lv, bs, q1, by omega, q3⟩, HBW.out⟩
end Go.Proofs.YtdkjkibdncbibaaGreat
/- a pager just opened, beside the document's -/
namespace Go.Proofs.YtdkjkibdncbibaaGreat
open Go.RowKit
open Go.Lib (hid)
theorem opened_two {w w' : World} {B D M : Nat} {nb rm sz hold : Int} {f : Int → List Int} {lv : Value} {a b c : Nat} {rs : List (List Int)} {e : Ending} (h : OpnEnds B D M nb rm (-1) sz hold f [] lv a b c rs w e w') (hd : LgD w B D M nb rm f lv 0 sz a b c rs) (hnb : sz < nb) (hrm : nb ≤ rm) (hrs : ∀ r ∈ rs, RecOK (nb - sz) r)
  (hu : 1 ≤ hN (hdr (stoF sz f (lgF rs [] 0) 0)) 0 ∧ (hN (hdr (stoF sz f (lgF rs [] 0) 0)) 0 : Int) ≤ nb - sz) (hcl : Cl (f (0 + ((a + 1) % 2 : Nat))) a) (W : Int → List Int) (hW : ∀ n, 0 ≤ n → n < nb - sz → stoF sz f (lgF rs [] 0) n = W n) (hWz : (W 0).length = 256 ∧ Rng (W 0)) :
  ∃ Pl P Lm C Hm, e = .returned (.tuple #[.pointer (some ⟨P, 0, none⟩), .int .i64 0]) ∧ Chg (Foot D M lv) w w' ∧ ∀ k v, k = (⟨B, D, M, Pl, P, nb, rm, sz, max hold 0⟩ : PK) → v = (⟨⟨-1, false, f, []⟩, lv, a, b, c, .slice none 0 0, [], Lm, c, C, .slice none 0 0, hdr (stoF sz f (lgF rs [] 0) 0), hdr (stoF sz f (lgF rs [] 0) 0), Hm, lgF rs [] 0, [], [], []⟩ : PV) →
   PgS k v w' ∧ PJ k v ∧ PL k v rs W ∧ PM v W ∧ Calm2 k v ∧ v.s.L = [] ∧ (∀ n, NL v W n = W n) ∧ ∀ g, PF k v g → Foot D M lv g ∨ w.heap.size ≤ g := by
 obtain ⟨Pl, P, Lm, C, Hm, rfl, hc, hk⟩ := opened_calm h hd hnb hrm hrs hu
 refine ⟨Pl, P, Lm, C, Hm, rfl, hc, fun k v hkk hvv => ?_⟩
 obtain ⟨h1, h2, h3⟩ := hk k v hkk hvv
 have hj := h2.j
 have e0 : stoF sz f (lgF rs [] 0) 0 = W 0 := hW 0 (Int.le_refl _) (by omega)
 have hfl := h1.ls.dk.2.2.2.2.2.2.1
 subst hkk hvv
 have hm : PM (⟨⟨-1, false, f, []⟩, lv, a, b, c, .slice none 0 0, [], Lm, c, C, .slice none 0 0, hdr (stoF sz f (lgF rs [] 0) 0), hdr (stoF sz f (lgF rs [] 0) 0), Hm, lgF rs [] 0, [], [], []⟩ : PV) W :=
  ⟨fun n x hx => by simp [gl] at hx, fun n x hx => by simp [gl] at hx, by show hdr (stoF sz f (lgF rs [] 0) 0) = _; rw [e0]⟩
 exact ⟨h1, hj, { dn := rfl, g := { mkf := hd.mkf, clean := hcl, area := hd.area, fits := hd.fits, rng := hd.rng, fl := hfl, rrs := hd.rrs, rpe := fun r hr => (by cases hr), h1 := hd.h1, h2 := hd.h2, h3 := hd.h3, h4 := hd.h4, ha := hd.ha, hb := hd.hb }, pe := rfl, en := rfl, lg := rfl, rk := hrs, w := hW }, hm, ⟨rfl, hrm⟩, rfl, fun n => NL_clean hm hWz rfl rfl n, h3⟩
end Go.Proofs.YtdkjkibdncbibaaGreat
/- a disk laid, formatted, opened: both pagers begin -/
namespace Go.Proofs.YtdkjkibdncbibaaGreat
open Go.RowKit
open Go.Lib (hid)
set_option maxRecDepth 100000 in
theorem hdr0_putL : hdr0 = putL (zeros 256) 0 (be8 1) := by
 unfold hdr0 ovB ovL putL
 rfl
theorem pf_home (f : Int → List Int) (sz : Int) (hs : 3 ≤ sz) : fputs (fput f sz hdr0) (fw 0) sz = hdr0 ∧ (∀ n, 1 ≤ n → fputs (fput f sz hdr0) (fw 0) (sz + n) = f (sz + n)) ∧ Cl (fputs (fput f sz hdr0) (fw 0) 0) 1 := by
 have hfar : ∀ m : Int, 2 ≤ m → fputs (fput f sz hdr0) (fw 0) m = fput f sz hdr0 m := fun m hm => fputs_far _ _ m (fun x hx => by
  unfold fw at hx
  simp at hx
  rcases hx with rfl | rfl
  ·show (1 : Int) ≠ m; omega
  ·show (0 : Int) ≠ m; omega)
 refine ⟨by rw [hfar sz (by omega), fput_at], fun n hn => by rw [hfar _ (by omega), fput_ne _ _ _ _ (by omega)], ?_⟩
 have e0 : fputs (fput f sz hdr0) (fw 0) 0 = zeros 256 := by
  unfold fw
  simp [fputs, fput]
 rw [e0]
 left
 exact Nat.zero_le 1
end Go.Proofs.YtdkjkibdncbibaaGreat
/- the law's fixed calls -/
namespace Go.Proofs.YtdkjkibdncbibaaGreat
open Go.RowKit
open Go.Lib (hid)
/-- what the fixed calls look at -/
structure FxS (v : PV) (h0 h1 : List Nat) (ca : List (Int × List Int)) (od : List Int) (ch : List (Int × List Int)) : Prop where
 h0 : v.h0 = h0
 h1 : v.h1 = h1
 ca : v.ca = ca
 od : v.od = od
 ch : v.ch = ch
 lg : v.lg = []
 dn : v.s.dn = false
 f1 : v.s.f 17 = zeros 256
 f2 : v.s.f 18 = zeros 256
def fxk (B D M Pl P : Nat) (rm : Int) : PK := ⟨B, D, M, Pl, P, 40, rm, 16, 4⟩
def fh (u h : Nat) : List Nat := u :: h :: List.replicate 16 0
section
variable {B D M Pl P : Nat} {rm : Int} {v : PV} {ca : List (Int × List Int)} {od : List Int} {ch : List (Int × List Int)}
theorem fx_cmN {n : Int} {h0 h1 : List Nat} (h : FxS v h0 h1 ca od ch) (hn : gl ca n = none) (hf : v.s.f (16 + n) = zeros 256) : cmR (fxk B D M Pl P rm) v n = (zeros 256, 0) ∧ cmV (fxk B D M Pl P rm) v n = keepP 4 ca od n (zeros 256) := by
 have hs : sto (fxk B D M Pl P rm) v n = zeros 256 := by
  unfold sto
  rw [h.lg]
  exact hf
 unfold cmR cmV
 rw [h.ca, hn, h.od]
 simp only [h.dn, hs]
 exact ⟨rfl, rfl⟩
theorem fx_cmS {n : Int} {b : List Int} {h0 h1 : List Nat} (h : FxS v h0 h1 ca od ch) (hn : gl ca n = some b) : cmR (fxk B D M Pl P rm) v n = (b, 0) ∧ cmV (fxk B D M Pl P rm) v n = (ca, od) := by
 unfold cmR cmV
 rw [h.ca, hn, h.od]
 exact ⟨rfl, rfl⟩
theorem fx_alloc1 (h : FxS v (fh 1 0) (fh 1 0) [] [] []) : ∃ v', alU (fxk B D M Pl P rm) v = (v', 1, 0) ∧ FxS v' (fh 1 0) (fh 2 0) [(1, zeros 256)] [1] [] := by
 have hx : FxS { v with h1 := v.h1.set 0 (hN v.h1 0 + 1) } (fh 1 0) (fh 2 0) [] [] [] := { h with h1 := by show v.h1.set 0 _ = _; rw [h.h1]; rfl }
 obtain ⟨e1, e2⟩ := fx_cmN (B := B) (D := D) (M := M) (Pl := Pl) (P := P) (rm := rm) (n := 1) hx rfl h.f1
 refine ⟨stU (fxk B D M Pl P rm) { v with h1 := v.h1.set 0 (hN v.h1 0 + 1) } 1 (zeros 256), ?_, ?_⟩
 ·unfold alU
  rw [h.h1]
  rfl
 ·refine { hx with ca := ?_, od := ?_, ch := ?_ }
  ·show (cmV _ _ _).1 = _; rw [e2]; rfl
  ·show (cmV _ _ _).2 = _; rw [e2]; rfl
  ·show stV _ _ _ _ = _
   unfold stV
   rw [e1, if_pos ⟨rfl, rfl⟩]
   show gd v.ch 1 = []
   rw [h.ch]
   rfl
theorem fx_alloc2 (h : FxS v (fh 1 0) (fh 2 0) [(1, zeros 256)] [1] []) : ∃ v', alU (fxk B D M Pl P rm) v = (v', 2, 0) ∧ FxS v' (fh 1 0) (fh 3 0) [(1, zeros 256), (2, zeros 256)] [1, 2] [] := by
 have hx : FxS { v with h1 := v.h1.set 0 (hN v.h1 0 + 1) } (fh 1 0) (fh 3 0) [(1, zeros 256)] [1] [] := { h with h1 := by show v.h1.set 0 _ = _; rw [h.h1]; rfl }
 obtain ⟨e1, e2⟩ := fx_cmN (B := B) (D := D) (M := M) (Pl := Pl) (P := P) (rm := rm) (n := 2) hx rfl h.f2
 refine ⟨stU (fxk B D M Pl P rm) { v with h1 := v.h1.set 0 (hN v.h1 0 + 1) } 2 (zeros 256), ?_, ?_⟩
 ·unfold alU
  rw [h.h1]
  rfl
 ·refine { hx with ca := ?_, od := ?_, ch := ?_ }
  ·show (cmV _ _ _).1 = _; rw [e2]; rfl
  ·show (cmV _ _ _).2 = _; rw [e2]; rfl
  ·show stV _ _ _ _ = _
   unfold stV
   rw [e1, if_pos ⟨rfl, rfl⟩]
   show gd v.ch 2 = []
   rw [h.ch]
   rfl
theorem fx_put1 {b1 : List Int} (hb : b1 ≠ zeros 256) (h : FxS v (fh 1 0) (fh 3 0) [(1, zeros 256), (2, zeros 256)] [1, 2] []) (o : Value) :
  inU v 1 = true ∧ FxS { v with ov := o, ca := (puV (fxk B D M Pl P rm) v 1 b1).1, od := (puV (fxk B D M Pl P rm) v 1 b1).2.1, ch := (puV (fxk B D M Pl P rm) v 1 b1).2.2 } (fh 1 0) (fh 3 0) [(1, zeros 256), (2, zeros 256)] [1, 2] [(1, b1)] := by
 have hi : inU v 1 = true := by unfold inU usedN; rw [h.h1]; rfl
 obtain ⟨e1, e2⟩ := fx_cmS (B := B) (D := D) (M := M) (Pl := Pl) (P := P) (rm := rm) (n := 1) (b := zeros 256) h rfl
 have hp : puV (fxk B D M Pl P rm) v 1 b1 = ([(1, zeros 256), (2, zeros 256)], [1, 2], [(1, b1)]) := by
  unfold puV stV
  rw [if_pos hi, e1, e2, if_neg (fun hh => hb hh.2), h.ch]
  rfl
 refine ⟨hi, { h with ca := ?_, od := ?_, ch := ?_ }⟩ <;> (show _ = _; simp only [hp])
theorem frB_0 (h : hN v.h1 1 = 0) : frB v = zeros 256 := by
 unfold frB
 rw [h]
 rfl
theorem fx_free {b1 : List Int} (h : FxS v (fh 1 0) (fh 3 0) [(1, zeros 256), (2, zeros 256)] [1, 2] [(1, b1)]) (o : Value) :
  inU v 2 = true ∧ FxS { frU (fxk B D M Pl P rm) v 2 with ov := o } (fh 1 0) (fh 3 2) [(1, zeros 256), (2, zeros 256)] [1, 2] [(1, b1)] := by
 have hi : inU v 2 = true := by unfold inU usedN; rw [h.h1]; rfl
 obtain ⟨e1, e2⟩ := fx_cmS (B := B) (D := D) (M := M) (Pl := Pl) (P := P) (rm := rm) (n := 2) (b := zeros 256) h rfl
 have hf := frB_0 (v := v) (by rw [h.h1]; rfl)
 refine ⟨hi, ?_⟩
 unfold frU
 rw [if_pos hi]
 refine { h with h1 := ?_, ca := ?_, od := ?_, ch := ?_ }
 ·show v.h1.set 1 _ = _; rw [h.h1]; rfl
 ·show (cmV _ _ _).1 = _; rw [e2]
 ·show (cmV _ _ _).2 = _; rw [e2]
 ·show stV _ _ _ _ = _
  unfold stV
  rw [e1, hf, if_pos ⟨rfl, rfl⟩, h.ch]
  rfl
theorem fx_alloc3 {b1 : List Int} (h : FxS v (fh 1 0) (fh 3 2) [(1, zeros 256), (2, zeros 256)] [1, 2] [(1, b1)]) : ∃ v', alU (fxk B D M Pl P rm) v = (v', 2, 0) ∧ FxS v' (fh 1 0) (fh 3 0) [(1, zeros 256), (2, zeros 256)] [1, 2] [(1, b1)] := by
 obtain ⟨e1, e2⟩ := fx_cmS (B := B) (D := D) (M := M) (Pl := Pl) (P := P) (rm := rm) (n := 2) (b := zeros 256) h rfl
 have e3 : cuR (fxk B D M Pl P rm) v 2 = (zeros 256, 0) := by unfold cuR; rw [h.ch]; exact e1
 have e4 : cuV (fxk B D M Pl P rm) v 2 = ([(1, zeros 256), (2, zeros 256)], [1, 2]) := by unfold cuV; rw [h.ch]; exact e2
 have hz : beI ((zeros 256).take 8) = 0 := by decide
 have hx : FxS { cuU (fxk B D M Pl P rm) v 2 with h1 := v.h1.set 1 0 } (fh 1 0) (fh 3 0) [(1, zeros 256), (2, zeros 256)] [1, 2] [(1, b1)] :=
  { h with h1 := (by show v.h1.set 1 0 = _; rw [h.h1]; rfl), ca := (by show (cuV _ _ _).1 = _; rw [e4]), od := (by show (cuV _ _ _).2 = _; rw [e4]) }
 obtain ⟨e5, e6⟩ := fx_cmS (B := B) (D := D) (M := M) (Pl := Pl) (P := P) (rm := rm) (n := 2) (b := zeros 256) hx rfl
 refine ⟨stU (fxk B D M Pl P rm) { cuU (fxk B D M Pl P rm) v 2 with h1 := v.h1.set 1 0 } 2 (zeros 256), ?_, ?_⟩
 ·have h12 : (0 < hN v.h1 1 ∧ hN v.h1 1 < hN v.h1 0) := by rw [h.h1]; decide
  have hh : ((hN v.h1 1 : Nat) : Int) = 2 := by rw [h.h1]; rfl
  unfold alU
  rw [if_pos h12, hh]
  unfold ahU
  rw [e3, if_pos rfl, hz]
 ·refine { hx with ca := ?_, od := ?_, ch := ?_ }
  ·show (cmV _ _ _).1 = _; rw [e6]
  ·show (cmV _ _ _).2 = _; rw [e6]
  ·show stV _ _ _ _ = _
   unfold stV
   rw [e5, if_pos ⟨rfl, rfl⟩]
   show gd v.ch 2 = _
   rw [h.ch]
   rfl
theorem fx_changed {b1 : List Int} (h : FxS v (fh 1 0) (fh 3 0) ca od [(1, b1)]) : chN v = 2 := by
 unfold chN
 rw [h.ch, h.h1, h.h0, if_neg (by decide)]
 rfl
end
end Go.Proofs.YtdkjkibdncbibaaGreat
/- the law's fixed calls: the second half -/
namespace Go.Proofs.YtdkjkibdncbibaaGreat
open Go.RowKit
open Go.Lib (hid)
/-- behind the Commit -/
structure FxC (v : PV) (b1 : List Int) : Prop where
 h0 : v.h0 = fh 3 0
 c1 : gl v.ca 1 = some b1
section
variable {B D M Pl P : Nat} {rm : Int} {v : PV} {b1 : List Int}
theorem srt10 : srt [1, 0] = [0, 1] := by
 simp [srt, List.mergeSort, List.MergeSort.Internal.splitInTwo]
theorem fx_chg (h : FxS v (fh 1 0) (fh 3 0) [(1, zeros 256), (2, zeros 256)] [1, 2] [(1, b1)]) : chgP (fxk B D M Pl P rm) v = [(1, b1), (0, ovB v.h1 (cmR (fxk B D M Pl P rm) v 0).1)] := by
 unfold chgP
 rw [if_neg (by rw [h.h1, h.h0]; decide), h.ch]
 rfl
theorem fx_saved (h : FxS v (fh 1 0) (fh 3 0) [(1, zeros 256), (2, zeros 256)] [1, 2] [(1, b1)]) : gl (savedC (fxk B D M Pl P rm) v).1 1 = some b1 := by
 have h0 : gl v.ca 0 = none := by rw [h.ca]; rfl
 have hcu : ((chU (fxk B D M Pl P rm) v).ca, (chU (fxk B D M Pl P rm) v).od) = keepP 4 [(1, zeros 256), (2, zeros 256)] [1, 2] 0 (sto (fxk B D M Pl P rm) v 0) := by
  unfold chU
  rw [if_neg (by rw [h.h1, h.h0]; decide)]
  show ((cmV _ v 0).1, (cmV _ v 0).2) = _
  unfold cmV
  rw [h0]
  simp only [h.dn, h.ca, h.od]
  rfl
 unfold savedC
 rw [hcu, fx_chg h]
 show gl (keepL 4 _ (srt [1, 0]) _).1 1 = _
 rw [srt10]
 rfl
theorem fx_done (h : FxS v (fh 1 0) (fh 3 0) [(1, zeros 256), (2, zeros 256)] [1, 2] [(1, b1)]) {w w' : World} {e : Ending} (hc : CmtEnds (fxk B D M Pl P rm) v w e w') :
  e = .returned (.int .i64 0) ∧ ∃ v', PE (fxk B D M Pl P rm) v w v' w' ∧ PCalm (fxk B D M Pl P rm) v' ∧ FxC v' b1 ∧ v'.h1 = fh 3 0 := by
 obtain ⟨v', hpe, hcm, -, -, ⟨h1, -, -⟩ | ⟨-, rfl, h2, h3, h4, h5⟩ | ⟨-, -, h2⟩⟩ := hc
 ·rw [fx_changed h] at h1; omega
 ·refine ⟨rfl, v', hpe, hcm, ⟨by rw [h2, h.h1], ?_⟩, by rw [h3, h.h1]⟩
  have h6 := fx_saved (B := B) (D := D) (M := M) (Pl := Pl) (P := P) (rm := rm) h
  rw [← h5] at h6
  exact h6
 ·unfold chL at h2
  rw [fx_chg h] at h2
  exact absurd (show (8 + 264 * ((2 : Nat) : Int)) ≤ (16 - 2) * 256 by decide) h2
theorem fxc_put (h : FxC v b1) (b2 : List Int) (h1 : v.h1 = fh 3 0) (o : Value) : inU v 1 = true ∧ FxC { v with ov := o, ca := (puV (fxk B D M Pl P rm) v 1 b2).1, od := (puV (fxk B D M Pl P rm) v 1 b2).2.1, ch := (puV (fxk B D M Pl P rm) v 1 b2).2.2 } b1 := by
 have hi : inU v 1 = true := by unfold inU usedN; rw [h1]; rfl
 refine ⟨hi, h.h0, ?_⟩
 show gl (puV _ _ _ _).1 1 = _
 unfold puV
 rw [if_pos hi]
 show gl (cmV _ v 1).1 1 = _
 unfold cmV
 rw [h.c1]
 exact h.c1
theorem fxc_get (h : FxC v b1) (h1 : v.h1 = fh 3 0) (hc : v.ch = []) : geR (fxk B D M Pl P rm) v 1 = (b1, 0) := by
 have hi : inU v 1 = true := by unfold inU usedN; rw [h1]; rfl
 unfold geR
 rw [if_pos hi]
 unfold cuR
 rw [hc]
 show cmR _ v 1 = _
 unfold cmR
 rw [h.c1]
theorem fxc_get0 : geR (fxk B D M Pl P rm) v 0 = (zeros 256, 2) := by
 unfold geR
 rw [if_neg (by unfold inU; simp)]
end
end Go.Proofs.YtdkjkibdncbibaaGreat
