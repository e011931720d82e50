/- the cache made; the numbers of a record's pages -/
import Derived.Test.YtdkjkibdncbibaaGreatCm13
import Derived.Test.YtdkjkibdncbibaaGreatCm17
import Derived.Laws.AppendOwn
namespace Go.Proofs.YtdkjkibdncbibaaGreat
open Go.RowKit
open Go.Lib (hid)
set_option maxRecDepth 100000 in
set_option maxHeartbeats 1000000 in
theorem newCache_any (n : Int) (w : World) :
    Calls Tryz.prog 35 #[.int .i64 n] w fun e w' => ∃ C, e = .returned (.agg #[.int .i64 (max n 0), .map (some C), .slice none 0 0]) ∧ w.heap.size ≤ C ∧ C < w'.heap.size ∧ w'.heap[C]? = some (.map #[] 0) ∧ Below w.heap.size w w' := by
  have hz : ∀ u : World, (zeroValue 79).run Tryz.prog u = .ok (.agg #[.int .i64 0, .map none, .slice none 0 0]) u := fun u => by kernel_rfl
  have hmk := run_mkmap_blk
  go_enter Tryz.func35, Tryz.ntmps35
  go_wp2_with fail
  refine bodyPost_ret (results_cell_row rfl _ _ w.heap.size 79 #[.int .i64 (max n 0), .map (some (w.heap.size + 1)), .slice none 0 0] (0, 0) _ rfl ((heap_alloc_old _ _ (by simp)).trans (heap_alloc_new _ _)) Tryz.underlying79 rfl (by kernel_rfl)) rfl ⟨w.heap.size + 1, rfl, by omega, by simp, ?_, ((Below.refl _ _).alloc (Nat.le_refl _) _).alloc (by simp) _⟩
  have := heap_alloc_new (w.alloc (.cells #[.int .i64 (max n 0), .map (some (w.heap.size + 1)), .slice none 0 0] 79)) (.map #[] 0)
  rwa [World.size_alloc] at this
/-- the numbers of a record's pages -/
def numsOf (r : List Int) : List Int := (List.range (r.length / 264)).map fun i => (beI ((r.drop (264 * i)).take 8) : Int)
theorem numsOf_len (r : List Int) : (numsOf r).length = r.length / 264 := by simp [numsOf]
def PiEnds (r : List Int) (w : World) (e : Ending) (w' : World) : Prop := ∃ nv, e = .returned (.tuple #[nv, .bool true]) ∧ KeyRow w' w.heap.size nv (numsOf r) ∧ Below w.heap.size w w'
theorem Bs.drop {w : World} {b off n c : Nat} {l : List Int} (hn : l.length = n) (hc : n ≤ c) (hb : b < w.heap.size) (h : ∀ i, i < n → w.cell? ⟨b, off + i, none⟩ = some (.int .u8 (l[i]?.getD 0))) (k : Nat) (hk : k < n) : Bs w (.slice (some ⟨b, off + k, none⟩) (n - k) (c - k)) (l.drop k) := by
 refine ⟨_, _, by rw [List.length_drop, hn], ⟨by rw [List.length_drop, hn]; omega, fun h => by cases h⟩, fun _ => ⟨b, off + k, rfl, hb, fun i hi => ?_⟩⟩
 rw [List.length_drop, hn] at hi
 rw [Nat.add_assoc, h (k + i) (by omega), List.getElem?_drop]
set_option maxRecDepth 100000 in
set_option maxHeartbeats 1000000 in
theorem pagesIn_any (rv : Value) (r : List Int) (N : Int) (w : World) (hrv : Bs w rv r) (hr : Rng r) (h0 : r.length % 264 = 0) (hN : 0 ≤ N ∧ N ≤ 4096) (hl : r.length ≤ 1048576) (hg : ∀ n ∈ numsOf r, n < N) :
  Calls Tryz.prog 36 #[rv, .int .i64 N] w (PiEnds r w) := by
 obtain ⟨a, cap, rfl, hcap, hcells⟩ := hrv
 have HC := hid hcells
 have HR := hid hr
 have HG := hid hg
 obtain ⟨m, hm⟩ : ∃ m, r.length = 264 * m := ⟨r.length / 264, by omega⟩
 have HNL := hid (show (numsOf r).length = m by rw [numsOf_len, hm]; omega)
 have HNA := hid (show ∀ i, i < m → (numsOf r)[i]? = some (beI ((r.drop (264 * i)).take 8) : Int) from fun i hi => by
  unfold numsOf
  rw [List.getElem?_map, List.getElem?_range (by omega)]
  rfl)
 have hml : m ≤ 4096 := by omega
 have HRL := hid hm
 clear hcells hr hg hl h0
 generalize hn : r.length = n at *
 have HN := hid hn
 subst hm
 clear hn
 have hmod : ((264 * m : Nat) : Int) = 264 * (m : Int) := by omega
 go_enter Tryz.func36, Tryz.ntmps36
 go_wp2_with fail
 go_loopw [6, 7] (fun nv at_ wr => ∃ i : Nat, i ≤ m ∧ at_ = .int .i64 (264 * (i : Int)) ∧ KeyRow wr w.heap.size nv ((numsOf r).take i) ∧ Below w.heap.size w wr) (fun _ at_ _ => 264 * m - (intOf at_).toNat)
 case atStart => exact ⟨0, by omega, rfl, ⟨rfl, .inl ⟨rfl, rfl⟩⟩, Below.refl _ _⟩
 case round =>
  obtain ⟨i, hi, rfl, hkr, hbw⟩ := hrel
  have HKR := hid hkr
  have HBW := hid hbw
  by_cases hlt : i < m
  ·obtain ⟨b, off, rfl, hbl, hcl⟩ := HC.out (by omega)
   have hbs := Bs.drop (w := wr) HN.out hcap.1 (by have := hbw.size; omega) (fun j hj => (hbw.cell (p := ⟨b, off + j, none⟩) hbl).trans (hcl j hj)) (264 * i) (by omega)
   have HSL := hid (fun u => sliceB b off (264 * m) cap (264 * (i : Int)) (264 * i) (by omega) (by omega) hcap.1 u)
   have HPN := hid (pnumber_any _ (r.drop (264 * i)) wr hbs (fun x hx => HR.out x (List.mem_of_mem_drop hx)) (by rw [List.length_drop, HN.out]; omega) (by rw [List.length_drop, HN.out]; omega))
   have hnx := HNA.out i hlt
   generalize hx : beI ((r.drop (264 * i)).take 8) = x at *
   have HX := hid hnx
   have hxN : (x : Int) < N := HG.out _ (List.mem_of_getElem? hnx)
   have HTL := hid (show ((numsOf r).take i).length = i by rw [List.length_take, HNL.out]; omega)
   have HT1 := hid (show (numsOf r).take (i + 1) = (numsOf r).take i ++ [(x : Int)] by rw [List.take_add_one, hnx]; rfl)
   have hsl := HSL.out
   clear hkr hbw hcl hbs hnx hx
   go_wp2_with fail
   refine HPN.out.mono ?_
   rintro e w1 ⟨rfl, rfl⟩
   have hxw : ¬ (x : Int) ≥ N := by omega
   obtain ⟨i0, ii, iz, is_, ib⟩ := infoInt_parts
   have H0 := hid (show KeyRow (wr.alloc (.cells #[.int .i64 (x : Int)] 3)) w.heap.size u6 ((numsOf r).take i) from HKR.out.alloc _)
   have HC1 := hid (show ∀ j u, [Value.int .i64 (x : Int)][j]? = some u → (wr.alloc (.cells #[.int .i64 (x : Int)] 3)).cell? ((⟨wr.heap.size, 0, none⟩ : Addr).add j) = some u from fun j u hj => by
    match j, hj with
    | 0, hj => simp only [List.getElem?_cons_zero, Option.some.injEq] at hj; subst hj; rw [Addr.add_zero']; exact (cell_of_row _ _ 0 _ _ _ (heap_alloc_new wr _)).trans rfl
    | j + 1, hj => simp at hj)
   have hwz : w.heap.size ≤ (wr.alloc (.cells #[.int .i64 (x : Int)] 3)).heap.size := by have := HBW.out.size; simp; omega
   have htl : ((numsOf r).take i).length ≤ 4096 := by rw [HTL.out]; omega
   go_wp2_with (at_builtin; refine wpList_append_own _ rfl (Operand.tmp 27) (Operand.tmp 30) 77 rfl w.heap.size 3 i0 _ 1 8 Tryz.underlying77 ii iz is_ ib rfl (by decide) _ _ _ rfl H0.out ⟨wr.heap.size, 0, none⟩ 1 1 [.int .i64 (x : Int)] rfl rfl HC1.out (by intro u hu; simp at hu; subst hu; rfl) (by unfold maxLen; omega) (by omega) hwz ?_; intro v2 w2 hown2 hg2 _; have HO2 := hid hown2; have HG2 := hid hg2; clear hown2 hg2)
   go_roundw
   case rel =>
    refine ⟨i + 1, by omega, by congr 1, ?_, ?_⟩
    ·have h2 := HO2.out
     show World.ownsRow _ _ _ _ _ _ _
     rw [HT1.out]
     simpa using h2
    ·exact (HBW.out.alloc HBW.out.size _).grown HG2.out hwz (fun g hg => (H0.out.lt g hg).1)
   case measure => simp [intOf]; omega
  ·obtain rfl : i = m := by omega
   have htk : (numsOf r).take i = numsOf r := List.take_of_length_le (by rw [HNL.out]; exact Nat.le_refl _)
   rw [htk] at hkr
   have HKR := hid hkr
   clear hkr hbw htk
   go_wp2_with fail
   go_ret2
   exact ⟨_, rfl, HKR.out, HBW.out⟩
end Go.Proofs.YtdkjkibdncbibaaGreat
namespace Go.Proofs.YtdkjkibdncbibaaGreat
open Go.RowKit
open Go.Lib (hid)
section
variable {w w' : World} {B D M : Nat} {nb rm : Int} {f : Int → List Int} {lv : Value} {P : Nat} {fi sz : Int} {a b c : Nat} {rs : List (List Int)} {av : Value} {pe : List (List Int)}
def RsEnds (B D M : Nat) (nb rm : Int) (lv : Value) (P : Nat) (fi sz : Int) (a b : Nat) (av : Value) (w : World) (e : Ending) (w' : World) : Prop :=
 e = .returned (.int .i64 0) ∧ ∃ f' lv', LgS w' B D M nb rm f' lv' P fi sz (a + 1) (b + 1) 0 [] av [] ∧ Chg (LFoot D M lv P av) w w' ∧ (∀ k, LFoot D M lv' P av k → LFoot D M lv P av k ∨ w.heap.size ≤ k)
theorem ls_restart (h : LgS w B D M nb rm f lv P fi sz a b c rs av []) (hrm : fi + 2 ≤ rm) (ha1 : a + 1 < 1099511627776) (hb1 : b + 1 < 1099511627776) :
  Calls Tryz.prog 80 #[.pointer (some ⟨P, 0, none⟩)] w (RsEnds B D M nb rm lv P fi sz a b av w) := by
 have h1 := h.h1; have h2 := h.h2; have h3 := h.h3; have h4 := h.h4
 obtain ⟨sa, sc, hav⟩ := own_form h.own
 have hbx := h.box
 rw [hav, show (encs ([] : List (List Int))).length = 0 from rfl] at hbx
 refine (restart_nil B D M nb rm P fi sz a b c sa sc ⟨-1, false, f, []⟩ lv w h.dk hbx h.nf ⟨h1, by omega⟩ h.ha h.hb (by simp)).mono ?_
 obtain ⟨g3, g4⟩ := wsy_calm (nb := nb) (rm := rm) (mw fi (a + 1) (b + 1) 0) (s := ⟨-1, false, f, []⟩) ⟨rfl, rfl⟩ (fun x hx => by
  rw [mw, List.mem_singleton] at hx
  subst hx
  show 0 ≤ fi + (((a + 1) % 2 : Nat) : Int) ∧ fi + (((a + 1) % 2 : Nat) : Int) < nb ∧ fi + (((a + 1) % 2 : Nat) : Int) < rm
  omega)
 rw [g3, g4]
 rintro e w' ⟨rfl, lv', hd, hp, hc, hf⟩
 rw [if_pos rfl, if_pos rfl, if_pos rfl] at hp
 have hp2 : LgIs w' P D fi sz (a + 1) (b + 1) 0 av := by rw [hav, show (encs ([] : List (List Int))).length = 0 from rfl]; exact hp
 have hnf : ¬ Foot D M lv' P := fun e => (hf P e).elim h.nf (fun h' => by have := h.box.lt; omega)
 refine ⟨rfl, _, lv', { dk := hd, box := hp2, own := h.own.chg hc (fun g hg e => e.elim (h.af g hg) (fun e => h.ne (by rw [hg, e]))), nf := hnf, ne := h.ne, af := fun g hg hk => (hf g hk).elim (h.af g hg) (fun h' => by have := (h.own.lt g hg).2; omega), base := h.base, mkf := h.mkf.next (b + 1) 0 (by omega) (by omega) (by decide), area := rfl, fits := (by rw [show encs ([] : List (List Int)) = [] from rfl, List.length_nil]; omega), rng := fputs_rng _ _ h.rng (fun x hx => by rw [mw, List.mem_singleton] at hx; subst hx; exact mb_rng _ _ _), rrs := (fun r hr => by cases hr), rpe := (fun r hr => by cases hr), h1 := h1, h2 := h2, h3 := h3, h4 := h4, ha := ha1, hb := hb1 }, hc.mono (fun k hk => hk.elim .inl (fun h => .inr (.inl h))), fun k hk => ?_⟩
 rcases hk with hk | hk | hk
 ·exact (hf k hk).imp .inl id
 ·exact .inl (.inr (.inl hk))
 ·exact .inl (.inr (.inr hk))
end
end Go.Proofs.YtdkjkibdncbibaaGreat
/- the log begun anew -/
namespace Go.Proofs.YtdkjkibdncbibaaGreat
open Go.RowKit
open Go.Lib (hid)
/-- a pager on a disk that does not fail, between calls -/
structure GS (k : PK) (v : PV) (rs : List (List Int)) : Prop where
 s : v.s = ⟨-1, false, v.s.f, []⟩
 rm : k.nb ≤ k.rm
 mkf : Mk v.s.f 0 v.a v.b v.c
 area : areaB v.s.f (0 + 2) v.c = encs rs
 fits : (v.c : Int) ≤ (k.sz - 2) * 256
 rrs : ∀ r ∈ rs, Rng r
 ha : v.a < 1099511627776
 hb : v.b < 1099511627776
 pe : v.pe = []
 en : v.en = (v.c : Nat)
 lgk : ∀ n ∈ gk v.lg, 0 ≤ n ∧ n < k.nb - k.sz
theorem LgS.ls {w : World} {B D M : Nat} {nb rm : Int} {f : Int → List Int} {lv : Value} {P : Nat} {fi sz : Int} {a b c : Nat} {rs : List (List Int)} {av : Value} {pe : List (List Int)} (h : LgS w B D M nb rm f lv P fi sz a b c rs av pe) : LS w B D M nb rm ⟨-1, false, f, []⟩ lv P fi sz a b c av pe :=
 { dk := h.dk, box := h.box, own := h.own, nf := h.nf, ne := h.ne, af := h.af, base := h.base }
section
variable {k : PK} {v : PV} {w : World} {rs : List (List Int)}
theorem GS.lgS (g : GS k v rs) (h : PgS k v w) (hj : PJ k v) : LgS w k.B k.D k.M k.nb k.rm v.s.f v.lv k.Pl 0 k.sz v.a v.b v.c rs v.av [] := by
  have hl := h.ls
  rw [g.s, g.pe] at hl
  exact { dk := hl.dk, box := hl.box, own := hl.own, nf := hl.nf, ne := hl.ne, af := hl.af, base := hl.base, mkf := g.mkf, area := g.area
          fits := by have := g.fits; rw [show encs ([] : List (List Int)) = [] from rfl, List.length_nil]; omega
          rng := hj.fr, rrs := g.rrs, rpe := fun r hr => by cases hr
          h1 := Int.le_refl _, h2 := hj.z1, h3 := by have := hj.z2; omega, h4 := hj.z3, ha := g.ha, hb := g.hb }
theorem PJ.disk (h : PJ k v) {s' : DS} (fl : ∀ n, (s'.f n).length = 256) (fr : ∀ n, Rng (s'.f n)) (lv' av' : Value) (a' b' c' : Nat) (pe' : List (List Int)) : PJ k { v with s := s', lv := lv', a := a', b := b', c := c', av := av', pe := pe' } :=
 { h with fl := fl, fr := fr }
theorem srt_mem (l : List Int) (x : Int) : x ∈ srt l ↔ x ∈ l := List.mem_mergeSort
theorem srt_len (l : List Int) : (srt l).length = l.length := List.length_mergeSort l
end
theorem box_rl {k : PK} {v : PV} {u : World} (hb : u.heap[k.P]? = some (.cells (PC k v) 82 (0, 0))) : u.rangeAt k.P 1 [.pointer (some ⟨k.D, 0, none⟩), .int .i64 k.sz] := fun j x hj => by
 rw [cell_of_row _ _ _ _ _ _ hb]
 match j, hj with
 | 0, hj => simp only [List.getElem?_cons_zero, Option.some.injEq] at hj; subst hj; exact PC_lo 1 (by decide)
 | 1, hj => simp only [List.getElem?_cons_succ, List.getElem?_cons_zero, Option.some.injEq] at hj; subst hj; exact PC_lo 2 (by decide)
theorem run_mkmap_int (u : World) : (Instr.makeMap 75 none).run Tryz.prog u = .ok (.map (some u.heap.size)) (u.alloc (.map #[] 0)) := by kernel_rfl
def CkEnds (k : PK) (v : PV) (w : World) (e : Ending) (w' : World) : Prop :=
 e = .returned (.int .i64 0) ∧ ∃ f' lv' av' L', PE k v w { v with s := ⟨-1, false, f', []⟩, lv := lv', a := v.a + 1, b := v.b + 1, c := 0, av := av', Lm := L', lg := [], en := 0 } w' ∧ (∀ n, Rng (f' n)) ∧ GS k { v with s := ⟨-1, false, f', []⟩, lv := lv', a := v.a + 1, b := v.b + 1, c := 0, av := av', Lm := L', lg := [], en := 0 } []
set_option maxRecDepth 100000 in
set_option maxHeartbeats 4000000 in
theorem checkpoint_any (k : PK) (v : PV) (rs : List (List Int)) (w : World) (h : PgS k v w) (hj : PJ k v) (hg : GS k v rs) (ha : v.a + 1 < 1099511627776) (hb : v.b + 1 < 1099511627776) :
    Calls Tryz.prog 50 #[.pointer (some ⟨k.P, 0, none⟩)] w (CkEnds k v w) := by
  have hz := zero35
  have HI35 := hid (show (Tryz.prog.info? 50).map (·.size) = some 256 by kernel_rfl)
  have SZ := hid (show (ArrU8 (zeros 256)).size = 256 by rw [ArrU8_size, zeros_len])
  have HIL := hid (show (Tryz.prog.info? 63).map (·.size) = some ([.pointer (some ⟨k.D, 0, none⟩), .int .i64 k.sz] : List Value).length by kernel_rfl)
  have H := hid h
  have HJ := hid hj
  have HG := hid hg
  have HAB := hid (And.intro ha hb)
  have p3 := (cell_of_row w k.P 3 _ _ _ h.box).trans (PC_lo 3 (by decide))
  have hlen : v.lg.length ≤ 4096 := by
    have h1 := nodup_len (k.nb - k.sz).toNat (gk v.lg) h.lg.nodup (fun x hx => by have := hg.lgk x hx; omega)
    have h2 : (gk v.lg).length = v.lg.length := by simp [gk]
    have := hj.z1; have := hj.z3
    omega
  have HSO := hid (sortedL_any h.lg (fun n hn => by have := hg.lgk n hn; have := hj.z3; have := hj.z1; omega) (by omega))
  have HLK := hid (fun x (hx : x ∈ srt (gk v.lg)) => hg.lgk x ((srt_mem _ x).1 hx))
  have HLN := hid (show (srt (gk v.lg)).length ≤ 4096 by rw [srt_len]; simp only [gk, List.length_map]; exact hlen)
  have HZ := hid (show 3 ≤ k.sz ∧ k.sz < k.nb ∧ k.nb ≤ 4096 from ⟨hj.z1, hj.z2, hj.z3⟩)
  clear h hj hg ha hb hlen
  go_enter Tryz.func50, Tryz.ntmps50
  go_wp2_with fail
  refine (keysL_any (some v.Lm) w).mono ?_
  rintro e wk ⟨rfl, rfl⟩
  go_wp2_with fail
  refine HSO.out.mono ?_
  rintro e w1 ⟨nv, rfl, hrow, hb1⟩
  generalize hl : srt (gk v.lg) = l at *
  have hbw : Below w.heap.size w w1 := ((Below.refl _ w).alloc (Nat.le_refl _) _).trans (hb1.mono (by simp))
  have hnum := hrow.nums
  have hnlt := hrow.lt
  have H1 := hid (H.out.fresh hbw)
  have HBW := hid hbw
  have HNL := hid (fun g hg => hnlt g hg)
  obtain ⟨na, nc, rfl, hcells⟩ := hnum
  have HNC := hid hcells
  have hll : (l.length : Int) ≤ 4096 := by have := HLN.out; omega
  clear hl hbw hrow hb1 hnlt hcells p3
  generalize hle : l.length = len at *
  have HLE := hid hle
  clear hle
  go_wp2_with fail
  go_loopw [17] (fun iv wr => ∃ (i : Nat) (f' : Int → List Int) (L' : List WR) (lv' : Value), i ≤ len ∧ iv = .int .i64 (i : Int) ∧ PE k v w1 { v with s := ⟨-1, false, f', L'⟩, lv := lv' } wr ∧ L'.length ≤ i ∧ (∀ m, m < k.sz → f' m = v.s.f m) ∧ (∀ n, Rng (f' n))) (fun iv _ => len - (intOf iv).toNat)
  case atStart => exact ⟨0, v.s.f, [], v.lv, by omega, rfl, by rw [← HG.out.s]; exact PE.same H1.out (Below.refl _ _), by simp, fun _ _ => rfl, HJ.out.fr⟩
  case round =>
    obtain ⟨i, f', L', lv', hi, rfl, hpe, hL, hsm, hrg⟩ := hrel
    have HPE := hid hpe
    have HL := hid hL
    have HSM := hid hsm
    have HRG := hid hrg
    by_cases hlt : i < len
    · have hne : l ≠ [] := by intro e; have := HLE.out; rw [e] at this; simp at this; omega
      obtain ⟨g, rfl, hgl, hgc⟩ := HNC.out.resolve_left hne
      obtain ⟨x, hxi⟩ : ∃ x, l[i]? = some x := ⟨_, List.getElem?_eq_getElem (by rw [HLE.out]; exact hlt)⟩
      have hgp : ¬ PF k v g := fun hp => by
        have h1 := (H.out.lt _ hp).2
        have h2 := (HNL.out g rfl).1
        omega
      have cx : wr.cell? ⟨g, i, none⟩ = some (.int .i64 x) := by
        have h2 := hgc i x hxi
        unfold World.cell? at h2 ⊢
        simp only at h2 ⊢
        rw [hpe.2.1.block g hgl hgp]
        exact h2
      have hxr := HLK.out x (List.mem_of_getElem? hxi)
      have hpj : PJ k { v with s := ⟨-1, false, f', L'⟩, lv := lv' } := HJ.out.disk (s' := ⟨-1, false, f', L'⟩) (hpe.1.dkl) hrg lv' v.av v.a v.b v.c v.pe
      have HST := hid (stored_any k { v with s := ⟨-1, false, f', L'⟩, lv := lv' } x wr hpe.1 hpj.pin hxr)
      have HXR := hid hxr
      have hsl := hpj.sl x
      have hsr := hpj.sr x
      clear hpe hL hsm hrg hne hgl hgc hxi hgp hpj hxr
      simp only [Bool.false_eq_true, if_false] at HST
      go_wp2_with fail
      refine HST.out.mono ?_
      rintro e wa ⟨rfl, hba⟩
      have HPA := hid (PE.post HPE.out hba)
      have hxn := heap_alloc_new wa (.cells (ArrU8 (zeros 256)) 50)
      have HXN := hid hxn
      clear hba hxn cx
      generalize sto k { v with s := ⟨-1, false, f', L'⟩, lv := lv' } x = bb at *
      have SB := hid (show (ArrU8 bb).size = 256 by rw [ArrU8_size, hsl])
      have HBL := hid hsl
      have HBR := hid hsr
      clear hsl hsr
      go_wp2_with (first | (refine wpList_store_row rfl 50 (Operand.tmp 5) (Operand.tmp 25) rfl wa.heap.size (ArrU8 bb) rfl rfl 50 (ArrU8 (zeros 256)) HXN.out (by rw [HI35.out, SB.out]) (by rw [SB.out, SZ.out]) (ArrU8_one _) ?_) | fail)
      have hpb := PE.post HPA.out (new_below (Below.refl _ wa) (.cells (ArrU8 (zeros 256)) 50) (ArrU8 bb))
      have hxb := new_at wa (ArrU8 (zeros 256)) (ArrU8 bb) 50
      have hXn : ¬ PF k { v with s := ⟨-1, false, f', L'⟩, lv := lv' } wa.heap.size := fun hp => by have := (HPA.out.1.lt _ hp).2; omega
      generalize (wa.alloc (.cells (ArrU8 (zeros 256)) 50)).setRow wa.heap.size (ArrU8 bb) = wb at *
      generalize wa.heap.size = X at *
      have HPB := hid hpb
      have HXB := hid hxb
      have HXN2 := hid hXn
      have HWE := hid (show wErr k.nb k.rm (-1) (k.sz + x) false = 0 by
        have h1 := HXR.out; have h2 := HZ.out; have h3 := HG.out.rm
        have e1 : hasB k.nb (k.sz + x) = true := by
          have a1 : 0 ≤ k.sz + x := by omega
          have a2 : k.sz + x < k.nb := by omega
          simp [hasB, a1, a2]
        have e2 : ¬ (k.rm ≤ k.sz + x) := by omega
        simp [wErr, opOk, e1, e2])
      have HS0 := hid (show wb.drew.heap[k.P]? = some (.cells (PC k v) 82 (0, 0)) ∧ wb.drew.heap[X]? = some (.cells (ArrU8 bb) 50 (0, 0)) from ⟨hpb.1.box, hxb⟩)
      clear hpb hxb hXn
      refine wp_region_held_drew (S := fun u => u.heap[k.P]? = some (.cells (PC k v) 82 (0, 0)) ∧ u.heap[X]? = some (.cells (ArrU8 bb) 50 (0, 0))) (by kernel_rfl) (HS0.out) (fun hHeld => ?_)
      refine tk (i := 0) (oi := ⟨some 30, .move (.tmp 0), 30, "commit.go:36", #[], none⟩) (v := ?_) (Or.inl ⟨by rfl, ?_⟩) ?_
      rotate_left 1
      · (intro u hSw; go_simp; try with_reducible rfl)
      try simp only [Act.put, sA, sB, sC]
      refine tk (i := 1) (oi := ⟨some 31, .nilCheck (.tmp 30), 0, "commit.go:36", #[⟨0, .data⟩], none⟩) (v := ?_) (Or.inl ⟨by rfl, ?_⟩) ?_
      rotate_left 1
      · (intro u hSw; go_simp; try with_reducible rfl)
      try simp only [Act.put, sA, sB, sC]
      refine tk (i := 2) (oi := ⟨some 32, .fieldAddr 82 (.tmp 31) 1, 0, "commit.go:36", #[⟨1, .data⟩], none⟩) (v := ?_) (Or.inl ⟨by rfl, ?_⟩) ?_
      rotate_left 1
      · (intro u hSw; go_simp; try with_reducible rfl)
      try simp only [Act.put, sA, sB, sC]
      refine tk (i := 3) (oi := ⟨some 33, .load 63 (.tmp 32), 63, "commit.go:36", #[⟨2, .data⟩], none⟩) (v := ?_) (Or.inl ⟨by rfl, ?_⟩) ?_
      rotate_left 1
      · intro u hSw
        refine exec_load_mid 63 (Operand.tmp 32) ?_ k.P 1 ?_ _ _ (box_rl hSw.1) Tryz.underlying63 rfl HIL.out <;> rfl
      try simp only [Act.put, sA, sB, sC]
      refine tk (i := 4) (oi := ⟨some 34, .move (.tmp 4), 3, "commit.go:36", #[], none⟩) (v := ?_) (Or.inl ⟨by rfl, ?_⟩) ?_
      rotate_left 1
      · (intro u hSw; go_simp; try with_reducible rfl)
      try simp only [Act.put, sA, sB, sC]
      refine tk (i := 5) (oi := ⟨some 35, .load 50 (.tmp 5), 50, "commit.go:36", #[], none⟩) (v := ?_) (Or.inl ⟨by rfl, ?_⟩) ?_
      rotate_left 1
      · intro u hSw
        refine exec_load_row 50 (Operand.tmp 5) ?_ u X ?_ (ArrU8 bb) 50 (0, 0) _ hSw.2 Tryz.underlying50 rfl (by rw [HI35.out, SB.out]) <;> rfl
      try simp only [Act.put, sA, sB, sC]
      refine wpAnyH_ready (rs := [6]) (by kernel_rfl) (by simp) ?_
      refine (AllReadyH.cons (o := ⟨some 36, .call ⟨.value (.func 31), #[.tmp 33, .tmp 34, .tmp 35], #[63, 3, 50]⟩, 28, "commit.go:36", #[⟨3, .data⟩, ⟨4, .data⟩, ⟨5, .data⟩], none⟩) rfl (fun K hK => ?_) AllReadyH.nil)
      go_simp
      go_at_call 31
      have hd0 := HPB.out.1.fresh ((Below.refl _ wb).drew)
      refine (writeHome_any k.B k.D k.M k.nb k.rm (-1) k.sz x false f' L' lv' bb wb.drew hd0.ls.dk HBL.out (by have := HL.out; omega) (by have := HZ.out; omega) (by have := HXR.out; have := HZ.out; omega)).mono ?_
      rintro e wd ⟨rfl, lv2, hdk, hch, hft⟩
      rw [HWE.out] at hdk ⊢
      rw [if_pos rfl, if_pos rfl] at hdk
      have hp2 := hd0.redisk (s' := ⟨-1, false, fput f' (k.sz + x) bb, L' ++ [(k.sz + x, f' (k.sz + x), bb)]⟩) (lv' := lv2) hdk hch hft
      have HP2 := hid (PE.trans (PE.post HPB.out ((Below.refl _ wb).drew)) hp2)
      have HS1 := hid (show wd.heap[k.P]? = some (.cells (PC k v) 82 (0, 0)) ∧ wd.heap[X]? = some (.cells (ArrU8 bb) 50 (0, 0)) from ⟨hp2.1.box, (hp2.2.1.block X (Array.getElem?_eq_some_iff.1 HS0.out.2).1 HXN2.out).trans HS0.out.2⟩)
      clear hd0 hdk hch hft hp2
      go_wp2_with fail
      refine hK.out _ _ HS1.out (fun hHeld => ?_)
      clear hK K
      try simp only [Act.put, sA, sB, sC]
      refine tk (i := 7) (oi := ⟨some 7, .assign (.tmp 36), 28, "commit.go:36", #[⟨6, .data⟩, ⟨6, .chain⟩, ⟨0, .phase⟩, ⟨1, .phase⟩, ⟨2, .phase⟩, ⟨3, .phase⟩, ⟨4, .phase⟩, ⟨5, .phase⟩, ⟨6, .phase⟩], none⟩) (v := ?_) (Or.inl ⟨by rfl, ?_⟩) ?_
      rotate_left 1
      · (intro u hSw; go_simp; try with_reducible rfl)
      try simp only [Act.put, sA, sB, sC]
      refine wpAnyH_done (by kernel_rfl) ?_ _
      go_wp2_with fail
      go_roundw
      case rel =>
        refine ⟨i + 1, fput f' (k.sz + x) bb, L' ++ [(k.sz + x, f' (k.sz + x), bb)], lv2, by omega, by go_num, HP2.out, by simp; exact HL.out, fun m hm => ?_, fun n => ?_⟩
        · rw [fput_ne _ _ _ _ (by have := HXR.out; omega)]; exact HSM.out m hm
        · unfold fput; split
          · exact HBR.out
          · exact HRG.out n
      case measure => simp [intOf]; omega
    · obtain rfl : i = len := by omega
      have hd := hpe.1
      have p1 := (cell_of_row wr k.P 1 _ _ _ hd.box).trans (PC_lo 1 (by decide))
      have HDS := hid (dsync_any k.B k.D k.M k.nb k.rm ⟨-1, false, f', L'⟩ lv' wr hd.ls.dk)
      have HD := hid hd
      clear hpe hL hsm hrg hd
      go_wp2_with fail
      refine HDS.out.mono ?_
      rintro e ws ⟨rfl, lv2, hdk, hch, hft⟩
      have hp2 := HD.out.redisk (s' := ⟨-1, false, f', []⟩) (lv' := lv2) hdk hch hft
      have hp3 := PE.trans HPE.out hp2
      have hj2 : PJ k { v with s := ⟨-1, false, f', []⟩, lv := lv2 } := HJ.out.disk (s' := ⟨-1, false, f', []⟩) hp3.1.dkl HRG.out lv2 v.av v.a v.b v.c v.pe
      have hg2 : GS k { v with s := ⟨-1, false, f', []⟩, lv := lv2 } rs := by
        have g := HG.out
        have z := HZ.out
        have hfit := g.fits
        refine { g with s := rfl, mkf := g.mkf.away (HSM.out 0 (by omega)) (HSM.out (0 + 1) (by omega)), area := ?_ }
        show areaB f' (0 + 2) v.c = encs rs
        rw [← g.area, ← areaB_eq f' (0 + 2) hp3.1.dkl ((k.sz - 2).toNat) v.c (by omega), ← areaB_eq v.s.f (0 + 2) HJ.out.fl ((k.sz - 2).toNat) v.c (by omega), arB_same f' v.s.f (0 + 2) _ (fun q hq => HSM.out _ (by omega))]
      have hls := hg2.lgS hp3.1 hj2
      have HRS := hid (ls_restart hls (by have := HG.out.rm; have := HZ.out; omega) HAB.out.1 HAB.out.2)
      have HP3 := hid hp3
      have HG2 := hid hg2
      have p0 := (cell_of_row ws k.P 0 _ _ _ hp3.1.box).trans (PC_lo 0 (by decide))
      clear hdk hch hft hp2 hp3 hj2 hg2 hls p1 HDS
      go_wp2_with fail
      refine HRS.out.mono ?_
      rintro e wz ⟨rfl, f3, lv3, hlg, hch, hft⟩
      have hp4 := PE.trans HP3.out (HP3.out.1.relog (s' := ⟨-1, false, f3, []⟩) (lv' := lv3) (a' := v.a + 1) (b' := v.b + 1) (c' := 0) (av' := v.av) (pe' := v.pe) (by rw [HG.out.pe]; exact hlg.ls) hch hft)
      have hb4 := hp4.1.box
      have h5 : (wz.alloc (.map #[] 0)).heap[k.P]? = some (.cells (PC k v) 82 (0, 0)) := (heap_alloc_old _ _ hp4.1.ltP).trans hb4
      have hb6 := heap_setCell_same _ k.P 3 _ 82 (.map (some wz.heap.size)) h5
      rw [PC_set3] at hb6
      have hb7 := heap_setCell_same _ k.P 4 _ 82 (.int .i64 0) hb6
      rw [PC_set4] at hb7
      have hm7 : MapG (Value.int .i64) (((wz.alloc (.map #[] 0)).setCell ⟨k.P, 3, none⟩ (.map (some wz.heap.size))).setCell ⟨k.P, 4, none⟩ (.int .i64 0)) wz.heap.size [] := by
        have hlt := hp4.1.ltP
        refine (MapG.empty (Value.int .i64) wz).of ?_
        exact (heap_setCell_other _ _ _ _ (by simp; omega)).trans (heap_setCell_other _ _ _ _ (by simp; omega))
      have hp7 := hp4.1.rebox (h0' := v.h0) (h1' := v.h1) (en' := 0) (Lm' := wz.heap.size) (lg' := []) (Hm' := v.Hm) (ch' := v.ch) ((((Chg.refl (fun g => g = k.P) wz).alloc _).setCell ⟨k.P, 3, none⟩ _ (.inl rfl)).setCell ⟨k.P, 4, none⟩ _ (.inl rfl)) hb7 H.out.l0 H.out.l1 (.inr ⟨Nat.le_refl _, hm7⟩) (.inl ⟨rfl, rfl⟩) (by have e := hp4.1.ch.lt; have e2 : v.Hm < wz.heap.size := e; omega)
      have HP7 := hid (PE.pre HBW.out (PE.trans hp4 hp7))
      have c3 := (cell_of_row _ k.P 3 _ _ _ h5).trans (PC_lo 3 (by decide))
      have f3' := frozen_of_row _ k.P 3 _ _ h5
      have c4 := (cell_of_row _ k.P 4 _ _ _ hb6).trans (PC_lo 4 (by decide))
      have f4' := frozen_of_row _ k.P 4 _ _ hb6
      have HLG := hid hlg
      have hmk := run_mkmap_int
      clear hch hft hp4 hb4 h5 hb6 hb7 hm7 hp7 hlg p0 HRS
      go_wp2_with fail
      go_ret
      refine ⟨rfl, f3, lv3, v.av, wz.heap.size, HP7.out, HLG.out.rng, ?_⟩
      exact { s := rfl, rm := HG.out.rm, mkf := HLG.out.mkf, area := HLG.out.area, fits := by have := HLG.out.fits; rw [show encs ([] : List (List Int)) = [] from rfl, List.length_nil] at this; simpa using this, rrs := HLG.out.rrs, ha := HLG.out.ha, hb := HLG.out.hb, pe := HG.out.pe, en := rfl, lgk := fun n hn => by simp [gk] at hn }
end Go.Proofs.YtdkjkibdncbibaaGreat
/- a record appended; changes saved -/
namespace Go.Proofs.YtdkjkibdncbibaaGreat
open Go.RowKit
open Go.Lib (hid)
/-- behind a record's append -/
def ApE (k : PK) (v : PV) (m : List Int) (w w' : World) : Prop :=
 ∃ f' lv' av' a' b' c' L' lg' en' rs', PE k v w { v with s := ⟨-1, false, f', []⟩, lv := lv', a := a', b := b', c := c', av := av', Lm := L', lg := lg', en := en', pe := [m] } w' ∧ (∀ n, Rng (f' n)) ∧
  GS k { v with s := ⟨-1, false, f', []⟩, lv := lv', a := a', b := b', c := c', av := v.av, Lm := L', lg := lg', en := en' } rs' ∧ ((c' + (8 + m.length) : Nat) : Int) ≤ (k.sz - 2) * 256 ∧ a' ≤ v.a + 1 ∧ b' ≤ v.b + 1 ∧ ∀ n x, gl lg' n = some x → 0 ≤ x ∧ x + 256 ≤ (k.sz - 2) * 256
def ArEnds (k : PK) (v : PV) (m : List Int) (w : World) (e : Ending) (w' : World) : Prop :=
 (e = .returned (.int .i64 0) ∧ ApE k v m w w') ∨
 (e = .returned (.int .i64 42) ∧ ∃ f' lv' av' L', PE k v w { v with s := ⟨-1, false, f', []⟩, lv := lv', a := v.a + 1, b := v.b + 1, c := 0, av := av', Lm := L', lg := [], en := 0 } w' ∧ (∀ n, Rng (f' n)) ∧ GS k { v with s := ⟨-1, false, f', []⟩, lv := lv', a := v.a + 1, b := v.b + 1, c := 0, av := av', Lm := L', lg := [], en := 0 } [] ∧ ¬ (8 + (m.length : Int) ≤ (k.sz - 2) * 256))
section
variable {k : PK} {v : PV} {w : World} {rs : List (List Int)}
theorem enc1 (m : List Int) : encs [m] = be8 m.length ++ m := by rw [encs_cons]; simp [encs]
/-- the log's Append, told by the pager's state -/
theorem append_page (h : PgS k v w) (hj : PJ k v) (hg : GS k v rs) (rv : Value) (m : List Int) (hbs : Bs w rv m) (hap : ∀ ad n c, rv = .slice (some ad) n c → ¬ PF k v ad.block) (hm : m.length ≤ 16777216) :
  Calls Tryz.prog 100 #[.pointer (some ⟨k.Pl, 0, none⟩), rv] w fun e w' =>
   (8 + (m.length : Int) ≤ (k.sz - 2) * 256 - v.c ∧ e = .returned (.int .i64 0) ∧ ∃ lv' av', PE k v w { v with lv := lv', av := av', pe := [m] } w') ∨
   (¬ (8 + (m.length : Int) ≤ (k.sz - 2) * 256 - v.c) ∧ e = .returned (.int .i64 42) ∧ ∃ lv' av', PE k v w { v with lv := lv', av := av' } w') := by
 have hl := h.ls
 rw [hg.pe] at hl
 have hfit := hg.fits
 have hz3 := hj.z3
 have hz2 := hj.z2
 refine (hl.append rv m hbs (fun ad n c e _ hav => hap ad n c e (.inl (.inr (.inr hav)))) hj.z1 (by omega) (by omega) (by simp [encs]) hm).mono ?_
 have hfe : fitsL k.sz v.c (encs ([] : List (List Int))).length m.length = decide (8 + (m.length : Int) ≤ (k.sz - 2) * 256 - v.c) := by
  unfold fitsL
  simp [encs]
 rw [hfe]
 by_cases hf : 8 + (m.length : Int) ≤ (k.sz - 2) * 256 - v.c
 ·rw [if_pos (decide_eq_true hf), if_pos (decide_eq_true hf)]
  rintro e w' ⟨rfl, lv', av', hls, hc, hft⟩
  exact .inl ⟨hf, rfl, lv', av', h.relog (s' := v.s) (lv' := lv') (a' := v.a) (b' := v.b) (c' := v.c) (av' := av') (pe' := [m]) hls hc hft⟩
 ·rw [if_neg (by simpa using hf), if_neg (by simpa using hf)]
  rintro e w' ⟨rfl, lv', av', hls, hc, hft⟩
  refine .inr ⟨hf, rfl, lv', av', ?_⟩
  exact h.relog (s' := v.s) (lv' := lv') (a' := v.a) (b' := v.b) (c' := v.c) (av' := av') (pe' := v.pe) (by rw [hg.pe]; exact hls) hc hft
end
theorem GS.same {k : PK} {v v' : PV} {rs : List (List Int)} (g : GS k v rs) (h1 : v'.s = v.s) (h2 : v'.a = v.a) (h3 : v'.b = v.b) (h4 : v'.c = v.c) (h5 : v'.pe = v.pe) (h6 : v'.en = v.en) (h7 : v'.lg = v.lg) : GS k v' rs :=
 { s := by rw [h1]; exact g.s, rm := g.rm, mkf := by rw [h1, h2, h3, h4]; exact g.mkf, area := by rw [h1, h4]; exact g.area, fits := by rw [h4]; exact g.fits, rrs := g.rrs, ha := by rw [h2]; exact g.ha, hb := by rw [h3]; exact g.hb, pe := by rw [h5]; exact g.pe, en := by rw [h6, h4]; exact g.en, lgk := by rw [h7]; exact g.lgk }
set_option maxRecDepth 100000 in
set_option maxHeartbeats 4000000 in
theorem appendRec_page (k : PK) (v : PV) (rs : List (List Int)) (rv : Value) (m : List Int) (w : World) (h : PgS k v w) (hj : PJ k v) (hg : GS k v rs) (ha : v.a + 1 < 1099511627776) (hb : v.b + 1 < 1099511627776) (hbs : Bs w rv m) (hap : ∀ ad n c, rv = .slice (some ad) n c → ¬ PF k v ad.block) (hm : m.length ≤ 16777216) (hm0 : 0 < m.length) :
  Calls Tryz.prog 84 #[.pointer (some ⟨k.P, 0, none⟩), rv] w (ArEnds k v m w) := by
 have H := hid h
 have HJ := hid hj
 have HG := hid hg
 have HAB := hid (And.intro ha hb)
 have HBS := hid hbs
 have HAP := hid hap
 have HM := hid hm
 have p0 := (cell_of_row w k.P 0 _ _ _ h.box).trans (PC_lo 0 (by decide))
 have HA1 := hid (append_page h hj hg rv m hbs hap hm)
 obtain ⟨ra, rc, hrv⟩ : ∃ ra rc, rv = .slice ra m.length rc := by
  obtain ⟨a, c, e, _⟩ := hbs
  exact ⟨a, c, e⟩
 clear h hj hg ha hb hbs hap hm
 subst hrv
 go_enter Tryz.func84, Tryz.ntmps84
 go_wp2_with fail
 refine HA1.out.mono ?_
 rintro e w1 (⟨hf, rfl, lv1, av1, hpe⟩ | ⟨hf, rfl, lv1, av1, hpe⟩)
 ·have HPE := hid hpe
  have HF := hid hf
  clear hpe hf
  go_wp2_with fail
  go_ret
  refine .inl ⟨rfl, v.s.f, lv1, av1, v.a, v.b, v.c, v.Lm, v.lg, v.en, rs, ?_, HJ.out.fr, HG.out.same HG.out.s.symm rfl rfl rfl rfl rfl rfl, by have := HF.out; omega, by omega, by omega, HJ.out.lgr⟩
  have hp := HPE.out
  rw [← HG.out.s]
  exact hp
 ·have h1 := hpe.1
  have hj1 : PJ k { v with lv := lv1, av := av1 } := HJ.out.disk (s' := v.s) HJ.out.fl HJ.out.fr lv1 av1 v.a v.b v.c v.pe
  have hg1 : GS k { v with lv := lv1, av := av1 } rs := HG.out.same rfl rfl rfl rfl rfl rfl rfl
  have HCK := hid (checkpoint_any k _ rs w1 h1 hj1 hg1 HAB.out.1 HAB.out.2)
  have HPE := hid hpe
  have HF := hid hf
  clear hpe hf h1 hj1 hg1
  go_wp2_with fail
  refine HCK.out.mono ?_
  rintro e w2 ⟨rfl, f2, lv2, av2, L2, hpe2, hrg2, hgs2⟩
  have hp2 := PE.trans HPE.out hpe2
  have hj2 : PJ k { v with s := ⟨-1, false, f2, []⟩, lv := lv2, a := v.a + 1, b := v.b + 1, c := 0, av := av2, Lm := L2, lg := [], en := 0 } :=
   { (HJ.out.disk (s' := ⟨-1, false, f2, []⟩) hp2.1.dkl hrg2 lv2 av2 (v.a + 1) (v.b + 1) 0 v.pe) with lgr := fun n x hx => by simp [gl] at hx }
  have hbs2 : Bs w2 (.slice ra m.length rc) m := HBS.out.chg hp2.2.1 (fun ad n c e _ => HAP.out ad n c e)
  have hap2 : ∀ ad n c, (Value.slice ra m.length rc) = .slice (some ad) n c → ¬ PF k { v with s := ⟨-1, false, f2, []⟩, lv := lv2, a := v.a + 1, b := v.b + 1, c := 0, av := av2, Lm := L2, lg := [], en := 0 } ad.block := by
   intro ad n c e hp
   rcases hp2.2.2 _ hp with h3 | h3
   ·exact HAP.out ad n c e h3
   ·obtain ⟨a0, c0, e0, hc0, hx0⟩ := HBS.out
    rw [e] at e0
    injection e0 with e1 e2 e3
    obtain ⟨b0, o0, e4, hlt, _⟩ := hx0 hm0
    rw [← e1] at e4
    injection e4 with e4
    rw [e4] at h3
    have h3' : w.heap.size ≤ b0 := h3
    omega
  have HP2 := hid hp2
  have HG2 := hid hgs2
  have HR2 := hid hrg2
  have HA2 := hid (append_page hp2.1 hj2 hgs2 (.slice ra m.length rc) m hbs2 hap2 HM.out)
  have p0' := (cell_of_row w2 k.P 0 _ _ _ hp2.1.box).trans (PC_lo 0 (by decide))
  clear hpe2 hrg2 hgs2 hp2 hj2 hbs2 hap2 HCK
  go_wp2_with fail
  refine HA2.out.mono ?_
  rintro e w3 (⟨hf, rfl, lv3, av3, hpe⟩ | ⟨hf, rfl, lv3, av3, hpe⟩)
  ·have HP3 := hid (PE.trans HP2.out hpe)
   have HF := hid hf
   clear hpe hf
   go_wp2_with fail
   go_ret
   exact .inl ⟨rfl, f2, lv3, av3, v.a + 1, v.b + 1, 0, L2, [], 0, [], HP3.out, HR2.out, HG2.out.same rfl rfl rfl rfl rfl rfl rfl, by have h9 : 8 + (m.length : Int) ≤ (k.sz - 2) * 256 - ((0 : Nat) : Int) := HF.out; omega, by omega, by omega, fun n x hx => by simp [gl] at hx⟩
  ·have HP3 := hid (PE.trans HP2.out hpe)
   have HF := hid (show (k.sz - 2) * 256 < 8 + (m.length : Int) by first | (have h9 : (k.sz - 2) * 256 - ((0 : Nat) : Int) < 8 + (m.length : Int) := hf; omega) | (have h9 : ¬ (8 + (m.length : Int) ≤ (k.sz - 2) * 256 - ((0 : Nat) : Int)) := hf; omega))
   clear hpe hf
   go_wp2_with fail
   go_ret
   exact .inr ⟨rfl, f2, lv3, av3, L2, HP3.out, HR2.out, HG2.out.same rfl rfl rfl rfl rfl rfl rfl, by have := HF.out; omega⟩
end Go.Proofs.YtdkjkibdncbibaaGreat
