import Derived.Test.YthomfdnkkpdjkaaDiskL
import Derived.WalkKit
import Derived.ProofKit
import Derived.BigQuiet
import Derived.Deep.QuietTactic
import Derived.WalkSpells
import Derived.WalkLawsBesides
import Derived.Lib.Hide
import Derived.Deep.MidRow
import Derived.Deep.RegionLaw
import Derived.BigRegion
import Derived.Laws.AppendOwnNone
import Derived.Deep.DeepMust
import Derived.Deep.AppendLies
import Derived.RegionTactic
import Derived.Deep.WholeRow
import Derived.BigFrame
import Derived.Deep.RegionWith
import Derived.Deep.RegionHeld3
import Derived.Maps.RangeWalk
import Derived.Laws.CopyOwn
import Derived.StillTailTactics
namespace Go.Proofs.Ythomfdnkkpdjkaa
open Go.RowKit
def R8 (f : Int → List Int) : List (List Int) := (List.range 8).map fun i : Nat => f (i : Int)
theorem R8_len (f : Int → List Int) : (R8 f).length = 8 := by simp [R8]
theorem R8_get (f : Int → List Int) (i : Nat) (h : i < 8) : (R8 f)[i]? = some (f (i : Int)) := by simp [R8, h]
theorem R8_put (f : Int → List Int) (m : Nat) (b : List Int) (h : m < 8) : (R8 f).set m b = R8 (fput f (m : Int) b) := by
  apply List.ext_getElem?
  intro i
  rw [List.getElem?_set]
  by_cases hi : i < 8
  · rw [R8_get f i hi, R8_get (fput f (m : Int) b) i hi]
    by_cases hm : m = i
    · subst hm; rw [if_pos rfl, if_pos (by rw [R8_len]; exact h), fput, if_pos rfl]
    · rw [if_neg hm, fput, if_neg (by omega)]
  · rw [List.getElem?_eq_none (by rw [R8_len]; omega), List.getElem?_eq_none (by rw [R8_len]; omega)]
    split
    · split
      · omega
      · rfl
    · rfl
theorem R8_zero : List.replicate 8 (zeros 256) = R8 F0 := rfl
/-- what holds at the head of the first loop -/
def Firm (w0 : Nat) (W w : World) (xs : List ST) (i : Nat) (D M gn : Nat) (f : Int → List Int) (L : List WR) (lv : Value) (gs : Nat) (sv : Value) : Prop :=
  L.length ≤ i ∧ Dk w w0 D M 8 8 (-1) false f L lv ∧ BkC w w0 gs sv (R8 (undoF f L)) ∧ BkC w w0 gn (.slice (some ⟨gn, 0, none⟩) 8 8) (R8 f) ∧ f = putsF (undoF f L) L ∧
  (∀ n : Int, 0 ≤ n → n < 8 → wroteF (xs.take i) n = decide (∃ x ∈ L, x.1 = n)) ∧ gs ≠ gn ∧ ¬ Foot D M lv gs ∧ ¬ Foot D M lv gn ∧ Below w0 W w
theorem shapeBk {w : World} {B g : Nat} {v : Value} {f : Int → List Int} (h : BkC w B g v (R8 f)) : ∃ cap, v = .slice (some ⟨g, 0, none⟩) 8 cap := by
  obtain ⟨⟨cap, h⟩, _⟩ := h
  rw [R8_len] at h
  exact ⟨cap, h⟩
theorem BkC.chg {w w' : World} {B g : Nat} {v : Value} {bs : List (List Int)} {F : Nat → Prop} (h : BkC w B g v bs) (hc : Chg F w w') (hF : ¬ F g) : BkC w' B g v bs :=
  h.of (hc.block g h.2.2.1 hF) (Nat.lt_of_lt_of_le h.2.2.1 hc.size)
/-- a round that changes nothing -/
theorem Firm.idle {w0 : Nat} {W w : World} {xs : List ST} {i : Nat} {D M gn : Nat} {f : Int → List Int} {L : List WR} {lv : Value} {gs : Nat} {sv : Value} (h : Firm w0 W w xs i D M gn f L lv gs sv) (x : ST) (hx : xs[i]? = some x) (hs : ∀ n : Int, 0 ≤ n → n < 8 → ∀ o, stepOut n o x = o) :
    Firm w0 W w xs (i + 1) D M gn f L lv gs sv := by
  obtain ⟨h1, h2, h3, h4, h5, h6, h7⟩ := h
  exact ⟨by omega, h2, h3, h4, h5, fun n a b => by rw [wroteF_snoc xs i x hx, hs n a b]; exact h6 n a b, h7⟩
theorem Firm.write {w0 : Nat} {W w w6 w7 : World} {xs : List ST} {i : Nat} {D M gn : Nat} {f : Int → List Int} {L : List WR} {lv lv' : Value} {gs : Nat} {sv : Value} (h : Firm w0 W w xs i D M gn f L lv gs sv) (hw0 : w0 ≤ W.heap.size) (x : ST) (hx : xs[i]? = some x) (m : Nat) (hm : m < 8) (hk : (x.k.tmod 3 == 0) = true) (hn : x.n = (m : Int)) (b : List Int) (hb : b.length = 256)
    (w5 : World) (h5 : Below w.heap.size w w5) (hdk : Dk w6 w0 D M 8 8 (-1) false (fput f (m : Int) b) (L ++ [((m : Int), f (m : Int), b)]) lv') (hch : Chg (Foot D M lv) w5 w6) (hft : ∀ k, Foot D M lv' k → Foot D M lv k ∨ w5.heap.size ≤ k) (h7 : Below w6.heap.size w6 w7) :
    Firm w0 W (w7.setCells gn (m * 256) (b.map (Value.int .u8))) xs (i + 1) D M gn (fput f (m : Int) b) (L ++ [((m : Int), f (m : Int), b)]) lv' gs sv := by
  obtain ⟨a1, a2, a3, a4, a5, a6, a7, a8, a9, a10⟩ := h
  have hu := undoF_write f L (m : Int) b
  have e5 : Chg (fun _ => False) w w5 := Chg.fresh h5
  have e7 : Chg (fun _ => False) w6 w7 := Chg.fresh h7
  have e8 : Chg (fun k => k = gn) w7 (w7.setCells gn (m * 256) (b.map (Value.int .u8))) := Chg.grown (setCells_grown _ _ _ _) (fun k hk => by injection hk with hk; exact hk.symm)
  have hgs := a3.2.2.1
  have hgn := a4.2.2.1
  have hs5 := h5.size
  have n1 : ¬ Foot D M lv' gs := fun e => (hft gs e).elim a8 (fun h => by omega)
  have n2 : ¬ Foot D M lv' gn := fun e => (hft gn e).elim a9 (fun h => by omega)
  have b5 := a4.chg e5 (fun h => h)
  have b6 := b5.chg hch a9
  have b7 := b6.chg e7 (fun h => h)
  have s7 := (((a3.chg e5 (fun h => h)).chg hch a8).chg e7 (fun h => h)).chg e8 (fun e => a7 e)
  have b8 := b7.set m (by rw [R8_len]; exact hm) b hb
  rw [R8_put f m b hm] at b8
  refine ⟨by simp; omega, (hdk.chg e7 (fun _ _ h => h)).chg e8 (fun k hk e => n2 (by subst e; exact hk)), by rw [hu]; exact s7, b8, ?_, fun n h0 h8 => ?_, a7, n1, n2, ?_⟩
  · rw [hu, putsF_snoc, ← a5]
  · rw [wroteF_snoc xs i x hx, stepOut, hk, hn, a6 n h0 h8]
    have hk2 : (x.k.tmod 3 == 2) = false := by
      have : x.k.tmod 3 = 0 := by simpa using hk
      rw [this]; rfl
    rw [hk2, if_neg (by simp : ¬ (false = true))]
    by_cases hmn : (m : Int) = n
    · rw [if_pos (by simp [hmn])]
      symm
      simp [hmn]
    · rw [if_neg (by simp [hmn])]
      congr 1
      simp [hmn]
  · have q5 : Below w0 w w5 := h5.mono (by have := a10.size; omega)
    have q6 : Below w0 w5 w6 := hch.below (fun k hk => (a2.foot k hk).1) (by have := a10.size; omega)
    have q7 : Below w0 w6 w7 := h7.mono (by have := a10.size; have := hch.size; omega)
    have q8 : Below w0 w7 (w7.setCells gn (m * 256) (b.map (Value.int .u8))) := e8.below (fun k hk => by subst hk; exact a4.2.1) (by have := a10.size; have := hch.size; have := h7.size; omega)
    exact (((a10.trans q5).trans q6).trans q7).trans q8
theorem Firm.sync {w0 : Nat} {W w w6 w8 : World} {xs : List ST} {i : Nat} {D M gn : Nat} {f : Int → List Int} {L : List WR} {lv lv' : Value} {gs gs' : Nat} {sv sv' : Value} (h : Firm w0 W w xs i D M gn f L lv gs sv) (hw0 : w0 ≤ W.heap.size) (x : ST) (hx : xs[i]? = some x) (hk : (x.k.tmod 3 == 2) = true)
    (hdk : Dk w6 w0 D M 8 8 (-1) false f [] lv') (hch : Chg (fun k => k = D) w w6) (hlv : lv' = lv ∨ lv' = .slice none 0 0)
    (hbs : BkC w8 w0 gs' sv' (R8 f)) (hg8 : (w6.alloc (.cells #[] 35)).grownBy w8 (some w6.heap.size)) (hge : w6.heap.size ≤ gs') :
    Firm w0 W w8 xs (i + 1) D M gn f [] lv' gs' sv' := by
  obtain ⟨a1, a2, a3, a4, a5, a6, a7, a8, a9, a10⟩ := h
  have hgn := a4.2.2.1
  have hs6 := hch.size
  have e8 : Chg (fun k => w6.heap.size ≤ k) w6 w8 := ((Chg.refl _ w6).alloc _).trans (Chg.grown (F := fun k => k = w6.heap.size) hg8 (fun k hk => by injection hk with hk; exact hk.symm)) (fun i hi => .inl (by omega))
  have hf : ∀ k, Foot D M lv' k → Foot D M lv k := fun k hk => by
    rcases hlv with rfl | rfl
    · exact hk
    · rcases hk with hk | hk | hk
      · exact .inl hk
      · exact .inr (.inl hk)
      · cases hk
  have hfo := hdk.foot
  refine ⟨by simp, hdk.chg e8 (fun k hk e => by have := (hfo k hk).2; omega), hbs, (a4.chg hch (fun e => a9 (.inl e))).chg e8 (fun e => by omega), rfl, fun n h0 h8 => ?_, fun e => by omega, fun e => by have := (hfo _ e).2; omega, fun e => a9 (hf _ e), ?_⟩
  · have hk0 : (x.k.tmod 3 == 0) = false := by
      have : x.k.tmod 3 = 2 := by simpa using hk
      rw [this]; rfl
    rw [wroteF_snoc xs i x hx, stepOut, hk, hk0]
    simp
  · have q6 : Below w0 w w6 := hch.below (fun k hk => by subst hk; exact (a2.foot k (.inl rfl)).1) (by have := a10.size; omega)
    exact (a10.trans q6).trans (e8.below (fun k hk => by have := a10.size; omega) (by have := a10.size; omega))
theorem run_makeB (u : World) (n : Nat) (hn : n ≤ 1048576) : ∃ cur : Array Value, cur.size = n ∧ (Instr.makeSlice 28 (.int .i64 (n : Int)) (.int .i64 (n : Int))).run Try.prog u = .ok (.slice (some ⟨u.heap.size, 0, none⟩) n n) (u.alloc (.cells cur 4)) := by
  obtain ⟨i, z, hi, hz, hs, hby⟩ : ∃ i z, Try.prog.info? 4 = some i ∧ i.zero = some z ∧ i.size = 1 ∧ i.bytes = 1 := by
    have h1 : (Try.prog.info? 4).map (fun ie => (ie.zero.isSome, ie.size, ie.bytes)) = some (true, 1, 1) := by kernel_rfl
    cases hie : Try.prog.info? 4 with
    | none => rw [hie] at h1; cases h1
    | some ie =>
      rw [hie] at h1
      simp only [Option.map_some, Option.some.injEq, Prod.mk.injEq] at h1
      obtain ⟨z, hz⟩ := Option.isSome_iff_exists.1 h1.1
      exact ⟨ie, z, rfl, hz, h1.2.1, h1.2.2⟩
  have h := run_make (P := Try.prog) u 28 4 i z Try.underlying28 hi hz .i64 .i64 n n (by omega) (by omega) (by rw [hby]; omega) (by omega)
  rw [Int.toNat_natCast, hs, Nat.mul_one] at h
  exact ⟨_, size_madeCells _ _, h⟩
theorem YieldsIf.guarded {P : Program} {ops : Array Oper} {S : World → Prop} {o : Oper} {v : Value} {a : Act} (g : Bool) (hw : Region.wanted o (yielded ops a.tmps) = g) (h : g = true → ∀ w, S w → (execOp a.eval o).run P w = .ok (.value v) w) : YieldsIf P ops S o (cond g v undef) a := by
  cases g
  · exact Or.inr ⟨hw, rfl⟩
  · exact Or.inl ⟨hw, h rfl⟩
theorem step_call_if {P : Program} {ops : Array Oper} {o : Oper} {a : Act} {w : World} {v : Value} {K : Act → World → Prop} {Q : Exit → Act → World → Prop} (g : Bool) (hw : Region.wanted o (yielded ops a.tmps) = g) (f : FuncId) (args : Array Value) (hop : g = true → (execOp a.eval o).run P w = .ok (.enter f args) w)
    (hc : g = true → Calls P f args w (fun e w' => w = w' ∧ e = .returned v)) (hK : K (a.put o.dst (cond g v undef)) w) : if Region.wanted o (yielded ops a.tmps) = true then Oper.wp P o a w K Q else K (a.put o.dst undef) w := by
  rw [hw]
  cases g
  · exact hK
  · rw [if_pos rfl]
    unfold Oper.wp
    rw [hop rfl]
    simp only [Oper.upon]
    refine Calls.mono (hc rfl) (fun e w' h => ?_)
    obtain ⟨h1, h2⟩ := h
    subst h1 h2
    exact hK
theorem Bools.chg {w w' : World} {v : Value} {ks : List Bool} {F : Nat → Prop} (h : Bools w v ks) (hc : Chg F w w') (hF : ∀ b o n c, v = .slice (some ⟨b, o, none⟩) n c → b < w.heap.size → ¬ F b) : Bools w' v ks := by
  obtain ⟨a, cap, h1, h2⟩ := h
  refine ⟨a, cap, h1, fun h0 => ?_⟩
  obtain ⟨b, off, h3, h4, h5⟩ := h2 h0
  subst h3
  exact ⟨b, off, rfl, Nat.lt_of_lt_of_le h4 hc.size, fun i hi => (World.cell?_of_block (a := ⟨b, off + i, none⟩) (hc.block b h4 (hF b off _ _ h1 h4))).trans (h5 i hi)⟩
set_option maxRecDepth 100000 in
set_option maxHeartbeats 16000000 in
theorem firm_walk (v kv : Value) (xs : List ST) (ks : List Bool) (torn : Int) (w : World) (hv : StepsIs w v xs) (hl : xs.length ≤ 1048576) (hkb : Bools w kv ks) (hkl : ks.length ≤ 1048576) :
    Calls Try.prog 4 #[v, kv, .int .i64 torn] w fun e w' => e = .returned (.bool true) ∧ Below w.heap.size w w' := by
  have HV := Lib.hid hv
  have HKB := Lib.hid hkb
  obtain ⟨sa, sc, hv1, hv2⟩ := hv
  subst hv1
  have HV2 := Lib.hid hv2
  clear hv2 hkb
  go_enter Try.func4, Try.ntmps4
  go_wp2_with fail
  refine (fixed_any w).mono ?_
  rintro e w1 ⟨rfl, hb⟩
  have B1 := Lib.hid hb
  clear hb
  go_wp2_with fail
  refine (new_dk 8 w1 (by decide) (by decide)).mono ?_
  rintro e w2 ⟨rfl, hdk, hb⟩
  have hft0 : ∀ k, Foot (w1.heap.size + 1) w1.heap.size (.slice none 0 0) k → k < w2.heap.size := fun k hk => (hdk.foot k hk).2
  have h2 := hdk.lower B1.out.size
  have b2 := B1.out.trans (hb.mono B1.out.size)
  have hs2 := hb.size
  have hF : Firm w.heap.size w ((w2.alloc (.cells Z8 35)).alloc (.cells Z8 35)) xs 0 (w1.heap.size + 1) w1.heap.size (w2.heap.size + 1) F0 [] (.slice none 0 0) w2.heap.size (.slice (some ⟨w2.heap.size, 0, none⟩) 8 8) := by
    have f1 : Chg (fun _ => False) w2 (w2.alloc (.cells Z8 35)) := (Chg.refl _ _).alloc _
    have f2 : Chg (fun _ => False) (w2.alloc (.cells Z8 35)) ((w2.alloc (.cells Z8 35)).alloc (.cells Z8 35)) := (Chg.refl _ _).alloc _
    have m1 := bk_made w2 w.heap.size b2.size
    have m2 := bk_made (w2.alloc (.cells Z8 35)) w.heap.size (by have := b2.size; simp; omega)
    rw [World.size_alloc] at m2
    refine ⟨Nat.le_refl _, (h2.chg f1 (fun _ _ h => h)).chg f2 (fun _ _ h => h), m1.chg f2 (fun h => h), m2, rfl, fun n _ _ => by simp [wroteF], by omega, fun e => by have := hft0 _ e; omega, fun e => by have := hft0 _ e; omega, (b2.alloc b2.size _).alloc (by have := b2.size; simp; omega) _⟩
  have HF := Lib.hid hF
  clear hdk hft0 h2 hs2 hF hb
  have hmk := run_make8
  go_wp2_with fail
  clear hmk
  generalize (w2.alloc (.cells Z8 35)).alloc (.cells Z8 35) = w4 at *
  clear b2
  generalize w1.heap.size + 1 = D at *
  generalize w1.heap.size = M at *
  generalize w2.heap.size + 1 = gn at *
  generalize w2.heap.size = gs0 at *
  go_loopw [8, 10] (fun sv iv wr => ∃ (i : Nat) (f : Int → List Int) (L : List WR) (lv : Value) (gs : Nat), i ≤ xs.length ∧ iv = .int .i64 (i : Int) ∧ Firm w.heap.size w wr xs i D M gn f L lv gs sv) (fun _ iv _ => xs.length - (intOf iv).toNat)
  case atStart => exact ⟨0, F0, [], .slice none 0 0, gs0, Nat.zero_le _, rfl, HF.out⟩
  case round =>
    obtain ⟨i, f, L, lv, gs, hi, rfl, hfm⟩ := hrel
    have HFM := Lib.hid hfm
    obtain ⟨scap, hsv⟩ := shapeBk hfm.2.2.1
    subst hsv
    clear hfm
    by_cases hil : i < xs.length
    · obtain ⟨bl, off, rfl, hblt, hcs⟩ := HV2.out (by omega)
      have hx : xs[i]? = some (xs[i]'hil) := List.getElem?_eq_getElem hil
      obtain ⟨c0, c1, c2, c3, hks, hok⟩ := hcs i (xs[i]'hil) hx
      generalize xs[i]'hil = x at c0 c1 c2 c3 hks hok hx
      have HX := Lib.hid hx
      have hbw := HFM.out.2.2.2.2.2.2.2.2.2
      have c0 := (hbw.cell (p := ⟨bl, off + i * 4, none⟩) hblt).trans c0
      have c1 := (hbw.cell (p := ⟨bl, off + i * 4 + 1, none⟩) hblt).trans c1
      have c2 := (hbw.cell (p := ⟨bl, off + i * 4 + 2, none⟩) hblt).trans c2
      have hx1 := hok.2.1
      clear hcs hks hok hx c3 hbw
      cases h0 : (x.k.tmod 3 == 0)
      · cases h2 : (x.k.tmod 3 == 2)
        · have HID := Lib.hid (HFM.out.idle x HX.out (fun n _ _ o => by simp [stepOut, h0, h2]))
          go_wp2_with fail
          go_roundw
          case rel => exact ⟨i + 1, f, L, lv, gs, by omega, by go_num, HID.out⟩
          case measure => simp [intOf]; omega
        · have H2 := Lib.hid h2
          have HN := Lib.hid HFM.out.2.2.2.1
          go_wp2_with fail
          refine (sync_dk _ _ _ 8 8 (-1) false _ _ _ _ HFM.out.2.1).mono ?_
          rintro e w6 ⟨he, lv', hdk, hch, hlv⟩
          rw [o3, if_pos rfl] at he hdk
          subst he
          rw [o1, o2] at hdk
          have hn6 := HN.out.chg hch (fun e => HFM.out.2.2.2.2.2.2.2.2.1 (.inl e))
          have hn7 : BkC (w6.alloc (.cells #[] 35)) w.heap.size gn _ _ := hn6.chg ((Chg.refl (fun _ => False) w6).alloc (.cells #[] 35)) (fun h => h)
          obtain ⟨v', g', w8, happ, hb8, hg8, hge⟩ := run_append_blocks (w6.alloc (.cells #[] 35)) 41 w.heap.size gn _ _ hn7 (by rw [R8_len]; omega) (by rw [R8_len]; omega) w6.heap.size (heap_alloc_new _ _) w.heap.size (by have := HFM.out.2.2.2.2.2.2.2.2.2.size; have := hch.size; omega)
          obtain ⟨cap8, hv8⟩ := shapeBk hb8
          subst hv8
          have HSY := Lib.hid (HFM.out.sync (Nat.le_refl _) x HX.out H2.out hdk hch hlv hb8 hg8 hge)
          have HAPP := Lib.hid happ
          clear hdk hch hlv hn6 hn7 hb8 hg8 hge happ c0 c1 c2
          go_wp2_with (first
            | (refine wpList_of_run rfl (exec_bslice 41 0 #[] rfl #[] rfl _ (run_empty_blocks _)) ?_)
            | (at_builtin; refine wpList_of_run rfl (exec_append (Operand.tmp 85) (Operand.tmp 86) 41 rfl _ _ rfl rfl HAPP.out) ?_))
          go_roundw
          case rel => exact ⟨i + 1, f, [], lv', g', by omega, by go_num, HSY.out⟩
          case measure => simp [intOf]; omega
      · have h2 : (x.k.tmod 3 == 2) = false := by
          have : x.k.tmod 3 = 0 := by simpa using h0
          rw [this]; rfl
        by_cases hn0 : 0 ≤ x.n
        · by_cases hn8 : x.n < 8
          · obtain ⟨m, hm⟩ : ∃ m : Nat, x.n = (m : Int) := ⟨x.n.toNat, by omega⟩
            have HM := Lib.hid hm
            have H0 := Lib.hid h0
            rw [hm] at c1 hn0 hn8
            have hm8 : m < 8 := by omega
            have hER := Lib.hid (show wErr 8 8 (-1) (m : Int) false = 0 from by simp [wErr, opOk, hasB]; omega)
            have hLL : L.length ≤ 268435456 := by have := HFM.out.1; omega
            have HI35 := Lib.hid (show (Try.prog.info? 35).map (·.size) = some 256 by kernel_rfl)
            clear hm hx1
            generalize x.b = xb at *
            go_wp2_with fail
            refine (block_any xb _).mono ?_
            rintro e w5 ⟨rfl, hb5⟩
            have HB5 := Lib.hid hb5
            clear hb5
            have hk5 := HFM.out.2.1.chg (Chg.fresh (F := fun _ => False) HB5.out) (fun _ _ h => h)
            go_wp2_with fail
            refine (write_any _ _ _ 8 8 (-1) (m : Int) false _ _ _ (blkOf xb) w5 hk5 (blk_len xb) hLL).mono ?_
            rintro e w6 ⟨he, lv', hdk, hch, hft⟩
            rw [hER.out] at he hdk
            subst he
            rw [if_pos rfl, if_pos rfl, o1, o2] at hdk
            have HDK := Lib.hid hdk
            have HCH := Lib.hid hch
            have HFT := Lib.hid hft
            have hq : Below w.heap.size w5 w6 := hch.below (fun k hk => (HFM.out.2.1.foot k hk).1) (by have := HFM.out.2.2.2.2.2.2.2.2.2.size; have := HB5.out.size; omega)
            have c0 := (hq.cell (p := ⟨bl, off + i * 4, none⟩) hblt).trans ((HB5.out.cell (p := ⟨bl, off + i * 4, none⟩) (by have := HFM.out.2.2.2.2.2.2.2.2.2.size; show bl < _; omega)).trans c0)
            have c2 := (hq.cell (p := ⟨bl, off + i * 4 + 2, none⟩) hblt).trans ((HB5.out.cell (p := ⟨bl, off + i * 4 + 2, none⟩) (by have := HFM.out.2.2.2.2.2.2.2.2.2.size; show bl < _; omega)).trans c2)
            have HQ := Lib.hid hq
            clear hdk hch hft hk5 hq c1
            go_wp2_with fail
            refine (block_any xb _).mono ?_
            rintro e w7 ⟨rfl, hb7⟩
            have HB7 := Lib.hid hb7
            have HWR := Lib.hid (HFM.out.write (Nat.le_refl _) x HX.out m hm8 H0.out HM.out (blkOf xb) (blk_len xb) w5 HB5.out HDK.out HCH.out HFT.out hb7)
            have hth : w7.there gn (m * 256) (ArrU8 (blkOf xb)).size := by
              have h4 := (HFM.out.2.2.2.1.chg (Chg.fresh (F := fun _ => False) HB5.out) (fun h => h)).chg HCH.out HFM.out.2.2.2.2.2.2.2.2.1
              have h5 := (h4.chg (Chg.fresh (F := fun _ => False) hb7) (fun h => h)).2.2.2.2
              rw [R8_len] at h5
              intro j hj
              rw [ArrU8_size, blk_len] at hj
              have := h5 (m * 256 + j) (by omega)
              rwa [Nat.zero_add] at this
            have HTH := Lib.hid hth
            have SB := Lib.hid (show (ArrU8 (blkOf xb)).size = 256 by rw [ArrU8_size, blk_len])
            have hb8 : Below w.heap.size w7 (w7.setCells gn (m * 256) (ArrU8 (blkOf xb)).toList) := (Chg.grown (F := fun k => k = gn) (setCells_grown _ _ _ _) (fun k hk => by injection hk with hk; exact hk.symm)).below (fun k hk => by subst hk; exact HFM.out.2.2.2.1.2.1) (by have := HFM.out.2.2.2.2.2.2.2.2.2.size; have := HB5.out.size; have := HCH.out.size; have := hb7.size; omega)
            have c0 := (hb8.cell (p := ⟨bl, off + i * 4, none⟩) hblt).trans ((hb7.cell (p := ⟨bl, off + i * 4, none⟩) (by have := HFM.out.2.2.2.2.2.2.2.2.2.size; have := HB5.out.size; have := HCH.out.size; show bl < _; omega)).trans c0)
            have C0 := Lib.hid c0
            clear hb7 hth hb8 c2 c0
            generalize blkOf xb = bx at *
            go_wp2_with (refine wpList_store_mid rfl 35 (Operand.tmp 74) (Operand.tmp 73) rfl gn (m * 256) (ArrU8 bx) rfl rfl HTH.out (by rw [HI35.out, SB.out]) (ArrU8_one _) ?_; have c0 := C0.out)
            go_roundw
            case rel => exact ⟨i + 1, _, _, lv', gs, by omega, by go_num, HWR.out⟩
            case measure => simp [intOf]; omega
          · have HID := Lib.hid (HFM.out.idle x HX.out (fun n _ h8 o => by
              have : (x.n == n) = false := by simp; omega
              simp [stepOut, h2, this]))
            go_wp2_with fail
            go_roundw
            case rel => exact ⟨i + 1, f, L, lv, gs, by omega, by go_num, HID.out⟩
            case measure => simp [intOf]; omega
        · have HID := Lib.hid (HFM.out.idle x HX.out (fun n h0 _ o => by
            have : (x.n == n) = false := by simp; omega
            simp [stepOut, h2, this]))
          go_wp2_with fail
          go_roundw
          case rel => exact ⟨i + 1, f, L, lv, gs, by omega, by go_num, HID.out⟩
          case measure => simp [intOf]; omega
    · have hix : i = xs.length := by omega
      subst hix
      clear hil hi
      obtain ⟨hLi, hk, hbs, hbn, hputs, hwr, hne, hns, hnn, hbw⟩ := HFM.out
      rw [List.take_length] at hwr
      have K0 := Lib.hid hk
      have S0 := Lib.hid hbs
      have N0 := Lib.hid hbn
      have HPU := Lib.hid hputs
      have HWR := Lib.hid hwr
      have B0 := Lib.hid hbw
      have NS := Lib.hid hns
      have NN := Lib.hid hnn
      have hLL : L.length ≤ 1048576 := by omega
      have HLL := Lib.hid (show L.length ≤ 268435456 by omega)
      clear hk hbs hbn hputs hwr hbw hns hnn HFM hLi
      go_wp2_with fail
      refine (loose_dk _ _ _ _ _ _ _ _ _ _ _ K0.out).mono ?_
      rintro e w' ⟨rfl, rfl⟩
      obtain ⟨cur0, hcur0, hmkb⟩ := run_makeB wr L.length hLL
      have HC0 := Lib.hid hcur0
      have e5 : Chg (fun _ => False) wr (wr.alloc (.cells cur0 4)) := (Chg.refl _ _).alloc _
      have E5 := Lib.hid e5
      have hA5 := Lib.hid (heap_alloc_new wr (.cells cur0 4))
      generalize hn : L.length = n at *
      have HN := Lib.hid hn
      clear hcur0 e5 hn
      go_wp2_with fail
      clear hmkb
      have HZ5 := Lib.hid (show (wr.alloc (.cells cur0 4)).heap.size = wr.heap.size + 1 by simp)
      generalize wr.alloc (.cells cur0 4) = w5 at *
      generalize hga : wr.heap.size = ga at *
      have HGA := Lib.hid hga
      clear hga
      go_loopw [13] (fun iv wy => ∃ (j : Nat) (cur : Array Value), j ≤ n ∧ iv = .int .i64 (j : Int) ∧ wy.heap[ga]? = some (.cells cur 4 (0, 0)) ∧ cur.size = n ∧ (∀ k, k < j → cur[k]? = some (.bool true)) ∧ Chg (fun k => k = ga) w5 wy) (fun iv _ => n - (intOf iv).toNat)
      case atStart => exact ⟨0, cur0, Nat.zero_le _, rfl, hA5.out, HC0.out, fun k hk => by omega, Chg.refl _ _⟩
      case round =>
        obtain ⟨j, cur, hj, rfl, hh, hcs, hall, hch⟩ := hrel
        have HH := Lib.hid hh
        have HAL := Lib.hid hall
        have HCH := Lib.hid hch
        clear hall hch
        by_cases hjl : j < n
        · have hc := (cell_of_row _ ga j _ _ _ hh).trans (Array.getElem?_eq_getElem (by omega))
          have hf := frozen_of_row _ ga j _ 4 hh
          clear hh
          go_wp2_with fail
          go_roundw
          case rel =>
            refine ⟨j + 1, cur.setIfInBounds j (.bool true), by omega, by go_num, heap_setCell_same _ ga j _ _ _ HH.out, by simpa using hcs, fun k hk => ?_, HCH.out.setCell ⟨ga, j, none⟩ _ (.inl rfl)⟩
            by_cases hkj : j = k
            · subst hkj; simp [hcs, hjl]
            · rw [Array.getElem?_setIfInBounds_ne hkj]; exact HAL.out k (by omega)
          case measure => simp [intOf]; omega
        · have hjn : j = n := by omega
          subst hjn
          clear hh
          have HLE := Lib.hid (show L.length ≤ 268435456 from by rw [HN.out]; exact HLL.out)
          have KB := Lib.hid (show Bools wr (.slice (some ⟨ga, 0, none⟩) j j) (List.replicate j true) from ⟨some ⟨ga, 0, none⟩, j, by rw [List.length_replicate], fun h0 => ⟨ga, 0, rfl, (Array.getElem?_eq_some_iff.1 HH.out).1, fun i hi => by
            rw [List.length_replicate] at hi
            rw [Nat.zero_add, cell_of_row _ ga i _ _ _ HH.out, HAL.out i hi, List.getElem?_replicate, if_pos hi]
            rfl⟩⟩)
          have KX := Lib.hid (show ∀ k, k < ga → ¬ (k = ga) from fun k h e => by omega)
          have G0 := Lib.hid (show ∀ k, Foot D M lv k → k < ga from fun k hk => by rw [← HGA.out]; exact (K0.out.foot k hk).2)
          have gs1 := S0.out.2.2.1
          have gn1 := N0.out.2.2.1
          rw [HGA.out] at gs1 gn1
          have K1 := Lib.hid ((K0.out.chg E5.out (fun _ _ h => h)).chg HCH.out (fun k hk => KX.out k (G0.out k hk)))
          have S1 := Lib.hid ((S0.out.chg E5.out (fun h => h)).chg HCH.out (KX.out _ gs1))
          have N1 := Lib.hid ((N0.out.chg E5.out (fun h => h)).chg HCH.out (KX.out _ gn1))
          have hwga : w.heap.size ≤ ga := by rw [← HGA.out]; exact B0.out.size
          have B1' := Lib.hid ((B0.out.trans (E5.out.below (fun k h => h.elim) B0.out.size)).trans (HCH.out.below (fun k hk => by subst hk; exact hwga) (by rw [HZ5.out]; omega)))
          have GL := Lib.hid (Array.getElem?_eq_some_iff.1 HH.out).1
          clear hjl hj hcs
          go_wp2_with fail
          refine (copy_any _ _ _ 8 8 (-1) false f L lv _ K1.out HLE.out).mono ?_
          rintro e w6 ⟨Da, Ma, lva, rfl, hdk, hb⟩
          have A6 := Lib.hid hdk
          have X6 := Lib.hid hb
          have K6 := Lib.hid (K1.out.chg (Chg.fresh (F := fun _ => False) hb) (fun _ _ h => h))
          clear hdk hb
          go_wp2_with fail
          refine (copy_any _ _ _ 8 8 (-1) false f L lv w6 K6.out HLE.out).mono ?_
          rintro e w7 ⟨Db, Mb, lvb, rfl, hdk, hb⟩
          have C7 := Lib.hid hdk
          have X7 := Lib.hid hb
          have K7 := Lib.hid (K6.out.chg (Chg.fresh (F := fun _ => False) hb) (fun _ _ h => h))
          have A7 := Lib.hid (A6.out.chg (Chg.fresh (F := fun _ => False) hb) (fun _ _ h => h))
          have X17 := Lib.hid (X6.out.trans (hb.mono X6.out.size))
          have S7 := Lib.hid (S1.out.chg (Chg.fresh (F := fun _ => False) X17.out) (fun h => h))
          have N7 := Lib.hid (N1.out.chg (Chg.fresh (F := fun _ => False) X17.out) (fun h => h))
          have B7 := Lib.hid (B1'.out.trans (X17.out.mono B1'.out.size))
          have KB7 := Lib.hid (KB.out.below X17.out)
          have FA := Lib.hid (show ∀ k, Foot Da Ma lva k → wr.heap.size ≤ k ∧ k < w6.heap.size from A6.out.foot)
          have FB := Lib.hid (show ∀ k, Foot Db Mb lvb k → w6.heap.size ≤ k ∧ k < w7.heap.size from C7.out.foot)
          have FD := Lib.hid (show ∀ k, Foot D M lv k → k < wr.heap.size from fun k hk => (K1.out.foot k hk).2)
          have X6S := Lib.hid X6.out.size
          clear hdk hb
          go_wp2_with fail
          refine (up_any _ _ _ 8 8 (-1) torn false f L lva (.slice none 0 0) [] w7 A7.out ⟨none, 0, rfl, fun h => by simp at h⟩ (fun b o n c e _ => by cases e) HLE.out (by decide)).mono ?_
          rintro e w8 ⟨rfl, hdk, hch⟩
          rw [upF_none _ _ _ _ (survL_nil L)] at hdk
          have A8 := Lib.hid hdk
          have K8 := Lib.hid (K7.out.chg hch (fun k hk e => by have h1 := FD.out k hk; have h2 := FA.out Da (.inl rfl); have h3 := FA.out Ma (.inr (.inl rfl)); omega))
          have C8 := Lib.hid (C7.out.chg hch (fun k hk e => by have h1 := FB.out k hk; have h2 := FA.out Da (.inl rfl); have h3 := FA.out Ma (.inr (.inl rfl)); omega))
          have hFa : ∀ g, g < wr.heap.size → ¬ (g = Da ∨ g = Ma) := fun g hg e => by have h2 := FA.out Da (.inl rfl); have h3 := FA.out Ma (.inr (.inl rfl)); omega
          have S8 := Lib.hid (S7.out.chg hch (hFa _ S1.out.2.2.1))
          have N8 := Lib.hid (N7.out.chg hch (hFa _ N1.out.2.2.1))
          have KB8 := Lib.hid (KB7.out.chg hch (fun b o n c e _ => by injection e with e _ _; injection e with e; injection e with e _ _; subst e; exact hFa _ GL.out))
          have q8 : Below w.heap.size w7 w8 := hch.below (fun k hk => by have h2 := FA.out Da (.inl rfl); have h3 := FA.out Ma (.inr (.inl rfl)); have := B1'.out.size; omega) B7.out.size
          have B8 := Lib.hid (B7.out.trans q8)
          clear hdk hch hFa q8
          go_wp2_with fail
          refine (up_any _ _ _ 8 8 (-1) (-1) false f L lvb _ (List.replicate j true) w8 C8.out KB8.out (fun b o n c e _ => by injection e with e _ _; injection e with e; injection e with e _ _; subst e; have h1 := GL.out; have h3 := FB.out Mb (.inr (.inl rfl)); have := X6S.out; omega) HLE.out (by rw [List.length_replicate]; omega)).mono ?_
          rintro e w9 ⟨rfl, hdk, hch⟩
          rw [show upF f L (List.replicate j true) (-1) = f from by rw [← HN.out, upF_all]; exact HPU.out.symm] at hdk
          have C9 := Lib.hid hdk
          have K9 := Lib.hid (K8.out.chg hch (fun k hk e => by have h1 := FD.out k hk; have h2 := FB.out Db (.inl rfl); have h3 := FB.out Mb (.inr (.inl rfl)); have := X6S.out; omega))
          have A9 := Lib.hid (A8.out.chg hch (fun k hk e => by
            have h1 : k < w6.heap.size := (hk.elim (fun h => FA.out k (.inl h)) (fun h => h.elim (fun h => FA.out k (.inr (.inl h))) (fun h => by cases h))).2
            have h2 := FB.out Db (.inl rfl); have h3 := FB.out Mb (.inr (.inl rfl)); omega))
          have hFb : ∀ g, g < wr.heap.size → ¬ (g = Db ∨ g = Mb) := fun g hg e => by have h2 := FB.out Db (.inl rfl); have h3 := FB.out Mb (.inr (.inl rfl)); have := X6S.out; omega
          have S9 := Lib.hid (S8.out.chg hch (hFb _ S1.out.2.2.1))
          have N9 := Lib.hid (N8.out.chg hch (hFb _ N1.out.2.2.1))
          have q9 : Below w.heap.size w8 w9 := hch.below (fun k hk => by have h2 := FB.out Db (.inl rfl); have h3 := FB.out Mb (.inr (.inl rfl)); have := B1'.out.size; have := X6S.out; omega) B8.out.size
          have B9 := Lib.hid (B8.out.trans q9)
          clear hdk hch hFb q9
          have hkv9 : Bools w9 kv ks := HKB.out.below B9.out
          have HKV9 := Lib.hid hkv9
          have HKD := Lib.hid (show ∀ b o n c, kv = .slice (some ⟨b, o, none⟩) n c → ks.length = 0 ∨ b < w.heap.size from fun b o n c e => by
            obtain ⟨a, cap, h1, h2⟩ := HKB.out
            rcases Nat.eq_zero_or_pos ks.length with h | h
            · exact .inl h
            · obtain ⟨b', o', h3, h4, _⟩ := h2 h
              rw [e, h3] at h1
              injection h1 with h1 _ _
              injection h1 with h1
              injection h1 with h1 _ _
              exact .inr (by omega))
          clear hkv9
          go_wp2_with fail

          refine (up_any _ _ _ 8 8 (-1) torn false f L lv kv ks w9 K9.out HKV9.out (fun b o n c e h0 => by have h1 := HKD.out b o n c e; have h2 := (K9.out.foot M (.inr (.inl rfl))).1; omega) HLE.out (by omega)).mono ?_
          rintro e wa ⟨rfl, hdk, hch⟩
          have Z10 := Lib.hid hdk
          have A10 := Lib.hid (A9.out.chg hch (fun k hk e => by
            have h1 : wr.heap.size ≤ k := (hk.elim (fun h => FA.out k (.inl h)) (fun h => h.elim (fun h => FA.out k (.inr (.inl h))) (fun h => by cases h))).1
            have h2 := FD.out D (.inl rfl); have h3 := FD.out M (.inr (.inl rfl)); omega))
          have C10 := Lib.hid (C9.out.chg hch (fun k hk e => by
            have h1 : w6.heap.size ≤ k := (hk.elim (fun h => FB.out k (.inl h)) (fun h => h.elim (fun h => FB.out k (.inr (.inl h))) (fun h => by cases h))).1
            have h2 := FD.out D (.inl rfl); have h3 := FD.out M (.inr (.inl rfl)); have := X6S.out; omega))
          have S10 := Lib.hid (S9.out.chg hch (fun e => NS.out (e.elim .inl (fun h => .inr (.inl h)))))
          have N10 := Lib.hid (N9.out.chg hch (fun e => NN.out (e.elim .inl (fun h => .inr (.inl h)))))
          have q10 : Below w.heap.size w9 wa := hch.below (fun k hk => (hk.elim (fun h => K9.out.foot k (.inl h)) (fun h => K9.out.foot k (.inr (.inl h)))).1) B9.out.size
          have B10 := Lib.hid (B9.out.trans q10)
          have hkva : Bools wa kv ks := HKB.out.below (B9.out.trans q10)
          have HV10 := Lib.hid (HV.out.below (B9.out.trans q10))
          obtain ⟨ka, kc, hkv, hkc⟩ := hkva
          have HKC := Lib.hid hkc
          subst hkv
          have hUx := undoF_len (K0.out.2.2.2.2.2.2.1) L K0.out.2.2.2.2.2.2.2
          have HUX := Lib.hid hUx
          have HFX := Lib.hid (C10.out.2.2.2.2.2.2.1)
          have HZX := Lib.hid (Z10.out.2.2.2.2.2.2.1)
          have HOFF := Lib.hid (show ∀ n : Int, 0 ≤ n → n < 8 → wroteF xs n = false → upF f L ks torn n = undoF f L n from fun n h0 h8 hw => upF_off f L ks torn n (fun x hx e => by
            have h1 := HWR.out n h0 h8
            rw [hw] at h1
            have h2 : ¬ ∃ x ∈ L, x.1 = n := of_decide_eq_false h1.symm
            exact h2 ⟨x, hx, e⟩))
          have HNO := Lib.hid (show survL L ks = [] → ∀ n, upF f L ks torn n = undoF f L n from fun h n => by rw [upF_none _ _ _ _ h])
          generalize upF f L ks torn = fz at *
          generalize undoF f L = fs at *
          clear hdk hch q10 hkc hUx
          go_wp2_with fail
          go_loop [16, 17] (fun sv iv => ∃ (q : Nat) (sm : Bool), q ≤ ks.length ∧ iv = .int .i64 (q : Int) ∧ sv = .bool sm ∧ (sm = false → ∀ k, k < q → ks[k]?.getD false = false)) (fun _ iv => ks.length - (intOf iv).toNat)
          case atStart => exact ⟨0, false, Nat.zero_le _, rfl, rfl, fun _ k hk => by omega⟩
          case round =>
            obtain ⟨q, sm, hq, rfl, rfl, hsm⟩ := hrel
            have HSM := Lib.hid hsm
            clear hsm
            by_cases hqk : q < ks.length ∧ q < j
            · obtain ⟨hq1, hq2⟩ := hqk
              obtain ⟨b, off, rfl, hblt, hcs⟩ := HKC.out (by omega)
              have hc := hcs q hq1
              have hkq : ks[q]? = some (ks[q]'hq1) := List.getElem?_eq_getElem hq1
              rw [hkq] at hc
              have HKQ := Lib.hid hkq
              generalize ks[q]'hq1 = kb at *
              simp only [Option.getD_some] at hc
              clear hcs hkq
              cases sm
              · go_wp2_with fail
                go_round
                case rel => exact ⟨q + 1, kb, by omega, by go_num, rfl, fun h k hk => by
                  by_cases hkq : k = q
                  · subst hkq; rw [HKQ.out]; exact h
                  · exact HSM.out rfl k (by omega)⟩
                case measure => simp [intOf]; omega
              · clear hc
                go_wp2_with fail
                go_round
                case rel => exact ⟨q + 1, true, by omega, by go_num, rfl, fun h => (by cases h)⟩
                case measure => simp [intOf]; omega
            · have HSV := Lib.hid (show sm = false → ∀ n, fz n = fs n from fun h => HNO.out (survL_none L ks (fun i h1 h2 => HSM.out h i (by rw [HN.out] at h2; omega))))
              have hz := zero35
              have HI35 := Lib.hid (show (Try.prog.info? 35).map (·.size) = some 256 by kernel_rfl)
              have SZ := Lib.hid (show (ArrU8 (zeros 256)).size = 256 by rw [ArrU8_size, zeros, List.length_replicate])
              obtain ⟨hq3, hq4⟩ | ⟨hq3, hq4⟩ : (q < ks.length ∧ j ≤ q) ∨ (ks.length ≤ q ∧ True) := by
                by_cases h : q < ks.length
                · exact .inl ⟨h, by omega⟩
                · exact .inr ⟨by omega, trivial⟩
              all_goals
                clear hqk
                go_wp2_with fail
                go_loopw [18] (fun iv wy => ∃ p : Nat, p ≤ 8 ∧ iv = .int .i64 (p : Int) ∧ Below wa.heap.size wa wy) (fun iv _ => 8 - (intOf iv).toNat)
                case atStart => exact ⟨0, by omega, rfl, Below.refl _ _⟩
                case round =>
                  obtain ⟨p, hp, rfl, hb⟩ := hrel
                  have BY := Lib.hid hb
                  clear hb
                  by_cases hpl : p < 8
                  · have hpl2 : (p : Int) < 8 := by omega
                    have HR1 := Lib.hid (show ∀ g : Int → List Int, rdF 8 (p : Int) false g = g p from fun g => by rw [rdF, if_neg (by simp), if_pos (by simp [hasB]; omega)])
                    have HRE := Lib.hid (show readErr 8 (p : Int) false = 0 from by rw [readErr, if_neg (by simp), if_pos (by simp [hasB]; omega)])
                    have AY := Lib.hid (A10.out.chg (Chg.fresh (F := fun _ => False) BY.out) (fun _ _ h => h))
                    have CY := Lib.hid (C10.out.chg (Chg.fresh (F := fun _ => False) BY.out) (fun _ _ h => h))
                    have ZY := Lib.hid (Z10.out.chg (Chg.fresh (F := fun _ => False) BY.out) (fun _ _ h => h))
                    have HXS := Lib.hid (HUX.out p)
                    have HXF := Lib.hid (HFX.out p)
                    have HXZ := Lib.hid (HZX.out p)
                    have HSV2 := Lib.hid (show sm = false → fz p = fs p from fun h => HSV.out h p)
                    have HOF2 := Lib.hid (show wroteF xs p = false → fz p = fs p from fun h => HOFF.out p (by omega) hpl2 h)
                    have SS := Lib.hid (show (ArrU8 (fs p)).size = 256 by rw [ArrU8_size, HXS.out])
                    have SF := Lib.hid (show (ArrU8 (f p)).size = 256 by rw [ArrU8_size, HXF.out])
                    have SZZ := Lib.hid (show (ArrU8 (fz p)).size = 256 by rw [ArrU8_size, HXZ.out])
                    go_wp2_with fail
                    refine (read_dk _ _ _ 8 8 (-1) (p : Int) false _ _ _ _ AY.out).mono ?_
                    rintro e wb ⟨he, hb⟩
                    rw [HR1.out, HRE.out] at he
                    subst he
                    have XB := Lib.hid hb
                    clear hb
                    go_wp2_with (refine wpList_store_nw rfl 35 (Operand.tmp 19) (Operand.tmp 141) rfl wb _ 35 rfl wb.heap.size (ArrU8 (fs p)) rfl rfl rfl (by rw [HI35.out, SS.out]) (by rw [SZ.out, SS.out]) (ArrU8_one _) ?_; intro wc hd hb hs; have QC := Lib.hid hd; have XC := Lib.hid hb; have ZC := Lib.hid hs; clear hd hb hs)
                    have CC := Lib.hid ((CY.out.chg (Chg.fresh (F := fun _ => False) XB.out) (fun _ _ h => h)).chg (Chg.fresh (F := fun _ => False) XC.out) (fun _ _ h => h))
                    have ZZC := Lib.hid ((ZY.out.chg (Chg.fresh (F := fun _ => False) XB.out) (fun _ _ h => h)).chg (Chg.fresh (F := fun _ => False) XC.out) (fun _ _ h => h))
                    refine (read_dk _ _ _ 8 8 (-1) (p : Int) false _ _ _ wc CC.out).mono ?_
                    rintro e wd ⟨he, hb⟩
                    rw [HR1.out, HRE.out] at he
                    subst he
                    have XD := Lib.hid hb
                    clear hb
                    go_wp2_with (refine wpList_store_nw rfl 35 (Operand.tmp 21) (Operand.tmp 147) rfl wd _ 35 rfl wd.heap.size (ArrU8 (f p)) rfl rfl rfl (by rw [HI35.out, SF.out]) (by rw [SZ.out, SF.out]) (ArrU8_one _) ?_; intro we hd hb hs; have QE := Lib.hid hd; have XE := Lib.hid hb; have ZE := Lib.hid hs; clear hd hb hs)
                    have ZZE := Lib.hid ((ZZC.out.chg (Chg.fresh (F := fun _ => False) XD.out) (fun _ _ h => h)).chg (Chg.fresh (F := fun _ => False) XE.out) (fun _ _ h => h))
                    refine (read_dk _ _ _ 8 8 (-1) (p : Int) false _ _ _ we ZZE.out).mono ?_
                    rintro e wf ⟨he, hb⟩
                    rw [HR1.out, HRE.out] at he
                    subst he
                    have XF := Lib.hid hb
                    clear hb
                    go_wp2_with (refine wpList_store_nw rfl 35 (Operand.tmp 23) (Operand.tmp 153) rfl wf _ 35 rfl wf.heap.size (ArrU8 (fz p)) rfl rfl rfl (by rw [HI35.out, SZZ.out]) (by rw [SZ.out, SZZ.out]) (ArrU8_one _) ?_; intro wg hd hb hs; have QG := Lib.hid hd; have XG := Lib.hid hb; have ZG := Lib.hid hs; clear hd hb hs)
                    have s1 := XB.out.size; have s2 := ZC.out; have s3 := XD.out.size; have s4 := ZE.out; have s5 := XF.out.size; have s6 := ZG.out
                    have X0G := Lib.hid (show Below wa.heap.size wa wg from (((((BY.out.trans (XB.out.mono BY.out.size)).trans (XC.out.mono (by have := BY.out.size; omega))).trans (XD.out.mono (by have := BY.out.size; omega))).trans (XE.out.mono (by have := BY.out.size; omega))).trans (XF.out.mono (by have := BY.out.size; omega))).trans (XG.out.mono (by have := BY.out.size; omega)))
                    have QC2 := Lib.hid ((XG.out.block wb.heap.size (by omega)).trans ((XF.out.block wb.heap.size (by omega)).trans ((XE.out.block wb.heap.size (by omega)).trans ((XD.out.block wb.heap.size (by omega)).trans QC.out))))
                    have QE2 := Lib.hid ((XG.out.block wd.heap.size (by omega)).trans ((XF.out.block wd.heap.size (by omega)).trans QE.out))
                    have SG := Lib.hid (S10.out.chg (Chg.fresh (F := fun _ => False) X0G.out) (fun h => h))
                    have NG := Lib.hid (N10.out.chg (Chg.fresh (F := fun _ => False) X0G.out) (fun h => h))
                    have HVG := Lib.hid (HV10.out.below X0G.out)
                    have L19 := Lib.hid (show wb.heap.size < wg.heap.size by omega)
                    have L21 := Lib.hid (show wd.heap.size < wg.heap.size by omega)
                    have L23 := Lib.hid (show wf.heap.size < wg.heap.size by omega)
                    clear s1 s2 s3 s4 s5 s6
                    have RS := Lib.hid (show ∀ u, Below wg.heap.size wg u → u.rangeAt gs (p * 256) ((fs p).map (Value.int .u8)) from fun u hu => (((SG.out.chg (Chg.fresh (F := fun _ => False) hu) (fun h => h)).2.2.2.1 p _ (R8_get fs p hpl)).2))
                    have RN := Lib.hid (show ∀ u, Below wg.heap.size wg u → u.rangeAt gn (p * 256) ((f p).map (Value.int .u8)) from fun u hu => (((NG.out.chg (Chg.fresh (F := fun _ => False) hu) (fun h => h)).2.2.2.1 p _ (R8_get f p hpl)).2))
                    have R19 := Lib.hid (show ∀ u, Below wg.heap.size wg u → u.heap[wb.heap.size]? = some (.cells (ArrU8 (fs p)) 35 (0, 0)) from fun u hu => (hu.block _ L19.out).trans QC2.out)
                    have R21 := Lib.hid (show ∀ u, Below wg.heap.size wg u → u.heap[wd.heap.size]? = some (.cells (ArrU8 (f p)) 35 (0, 0)) from fun u hu => (hu.block _ L21.out).trans QE2.out)
                    have R23 := Lib.hid (show ∀ u, Below wg.heap.size wg u → u.heap[wf.heap.size]? = some (.cells (ArrU8 (fz p)) 35 (0, 0)) from fun u hu => (hu.block _ L23.out).trans QG.out)
                    have HM1 := Lib.hid (show (Try.prog.info? 35).map (·.size) = some ((fs p).map (Value.int .u8)).length by rw [HI35.out, List.length_map, HXS.out])
                    have HM2 := Lib.hid (show (Try.prog.info? 35).map (·.size) = some ((f p).map (Value.int .u8)).length by rw [HI35.out, List.length_map, HXF.out])
                    obtain ⟨eqb, heqb⟩ : ∃ eqb : Bool, decide (fs p = f p) = eqb := ⟨_, rfl⟩
                    have HEQ := Lib.hid heqb
                    obtain ⟨g4, hg4⟩ : ∃ g4 : Bool, g4 = (eqb && decide (torn < 0)) := ⟨_, rfl⟩
                    have HG4 := Lib.hid hg4
                    obtain ⟨wt, hwt⟩ : ∃ wt : Bool, wroteF xs p = wt := ⟨_, rfl⟩
                    have HWT := Lib.hid hwt
                    have HWC := Lib.hid (show ∀ u, Below wg.heap.size wg u → Calls Try.prog 21 #[(.slice sa xs.length sc), .int .i64 (p : Int)] u fun e w' => u = w' ∧ e = .returned (.bool wt) from fun u hu => by rw [← hwt]; exact wrote_any _ xs p u (HVG.out.below hu) hl)
                    obtain ⟨g5, hg5⟩ : ∃ g5 : Bool, g5 = (g4 && !wt) := ⟨_, rfl⟩
                    have HG5 := Lib.hid hg5
                    have HZS := Lib.hid (show g5 = true → fz p = fs p from fun h => by
                      subst hg5
                      have h1 : wt = false := by cases wt; rfl; simp at h
                      exact HOF2.out (hwt.trans h1))
                    clear heqb hg4 hwt hg5
                    refine wp_region_held_drew (S := fun u => Below wg.heap.size wg u) (by kernel_rfl) ((Below.refl _ _).drew) (fun hHeld => ?_)
                    refine wpAnyH_take (i := 0) (oi := ({ dst := some 155, op := Op.load 35 (Operand.tmp 19), type := 35, pos := "law.go:152", after := #[], guard := none } : Oper)) (v := ?_) rfl (by kernel_rfl) (by kernel_rfl) (by kernel_rfl) (fun _ _ _ h => h) (Or.inl ⟨by rfl, ?_⟩) (by assumption) ?_
                    rotate_left 1
                    · intro u hSw
                      refine exec_load_row 35 (Operand.tmp 19) ?_ u wb.heap.size ?_ (ArrU8 (fs p)) 35 (0, 0) _ (R19.out u hSw) Try.underlying35 rfl (by rw [HI35.out, SS.out]) <;> rfl
                    try simp only [Act.put, List.setIfInBounds_toArray, List.set_cons_zero, List.set_cons_succ]
                    refine wpAnyH_take (i := 1) (oi := ({ dst := some 156, op := Op.move (Operand.tmp 8), type := 41, pos := "law.go:152", after := #[], guard := none } : Oper)) (v := ?_) rfl (by kernel_rfl) (by kernel_rfl) (by kernel_rfl) (fun _ _ _ h => h) (Or.inl ⟨by rfl, ?_⟩) (by assumption) ?_
                    rotate_left 1
                    · (intro u hSw; go_simp; try with_reducible rfl)
                    try simp only [Act.put, List.setIfInBounds_toArray, List.set_cons_zero, List.set_cons_succ]
                    refine wpAnyH_take (i := 2) (oi := ({ dst := some 157, op := Op.move (Operand.tmp 18), type := 3, pos := "law.go:152", after := #[], guard := none } : Oper)) (v := ?_) rfl (by kernel_rfl) (by kernel_rfl) (by kernel_rfl) (fun _ _ _ h => h) (Or.inl ⟨by rfl, ?_⟩) (by assumption) ?_
                    rotate_left 1
                    · (intro u hSw; go_simp; try with_reducible rfl)
                    try simp only [Act.put, List.setIfInBounds_toArray, List.set_cons_zero, List.set_cons_succ]
                    refine wpAnyH_take (i := 3) (oi := ({ dst := some 158, op := Op.indexAddr 41 (Operand.tmp 156) (Operand.tmp 157), type := 0, pos := "law.go:152", after := #[{ on := 1, ground := Ground.data }, { on := 2, ground := Ground.data }], guard := none } : Oper)) (v := ?_) rfl (by kernel_rfl) (by kernel_rfl) (by kernel_rfl) (fun _ _ _ h => h) (Or.inl ⟨by rfl, ?_⟩) (by assumption) ?_
                    rotate_left 1
                    · (intro u hSw; go_simp; try with_reducible rfl)
                    try simp only [Act.put, List.setIfInBounds_toArray, List.set_cons_zero, List.set_cons_succ]
                    refine wpAnyH_take (i := 4) (oi := ({ dst := some 159, op := Op.load 35 (Operand.tmp 158), type := 35, pos := "law.go:152", after := #[{ on := 3, ground := Ground.data }], guard := none } : Oper)) (v := .agg (ArrU8 (fs p))) rfl (by kernel_rfl) (by kernel_rfl) (by kernel_rfl) (fun _ _ _ h => h) (Or.inl ⟨by rfl, ?_⟩) (by assumption) ?_
                    · intro u hSw
                      exact exec_load_mid 35 (Operand.tmp 158) rfl gs (p * 256) rfl ((fs p).map (Value.int .u8)) _ (RS.out u hSw) Try.underlying35 rfl HM1.out
                    try simp only [Act.put, List.setIfInBounds_toArray, List.set_cons_zero, List.set_cons_succ]
                    refine wpAnyH_take (i := 5) (oi := ({ dst := some 160, op := Op.binOp BinOp.neq 35 (Operand.tmp 155) (Operand.tmp 159) 35, type := 4, pos := "law.go:152", after := #[{ on := 0, ground := Ground.data }, { on := 4, ground := Ground.data }], guard := none } : Oper)) (v := .bool false) rfl (by kernel_rfl) (by kernel_rfl) (by kernel_rfl) (fun _ _ _ h => h) (Or.inl ⟨by rfl, ?_⟩) (by assumption) ?_
                    · intro u hSw
                      exact exec_neq_blk (Operand.tmp 155) (Operand.tmp 159) 35 rfl (fs p) (fs p) rfl rfl HXS.out HXS.out false (by simp)
                    try simp only [Act.put, List.setIfInBounds_toArray, List.set_cons_zero, List.set_cons_succ]
                    refine wpAnyH_take (i := 6) (oi := ({ dst := some 161, op := Op.move (Operand.tmp 160), type := 4, pos := "law.go:152", after := #[{ on := 5, ground := Ground.data }], guard := none } : Oper)) (v := ?_) rfl (by kernel_rfl) (by kernel_rfl) (by kernel_rfl) (fun _ _ _ h => h) (Or.inl ⟨by rfl, ?_⟩) (by assumption) ?_
                    rotate_left 1
                    · (intro u hSw; go_simp; try with_reducible rfl)
                    try simp only [Act.put, List.setIfInBounds_toArray, List.set_cons_zero, List.set_cons_succ]
                    refine wpAnyH_take (i := 7) (oi := ({ dst := some 162, op := Op.load 35 (Operand.tmp 21), type := 35, pos := "law.go:152", after := #[{ on := 6, ground := Ground.guard }], guard := some (6, false) } : Oper)) (v := ?_) rfl (by kernel_rfl) (by kernel_rfl) (by kernel_rfl) (fun _ _ _ h => h) (Or.inl ⟨by rfl, ?_⟩) (by assumption) ?_
                    rotate_left 1
                    · intro u hSw
                      refine exec_load_row 35 (Operand.tmp 21) ?_ u wd.heap.size ?_ (ArrU8 (f p)) 35 (0, 0) _ (R21.out u hSw) Try.underlying35 rfl (by rw [HI35.out, SF.out]) <;> rfl
                    try simp only [Act.put, List.setIfInBounds_toArray, List.set_cons_zero, List.set_cons_succ]
                    refine wpAnyH_take (i := 8) (oi := ({ dst := some 163, op := Op.move (Operand.tmp 9), type := 41, pos := "law.go:152", after := #[{ on := 6, ground := Ground.guard }], guard := some (6, false) } : Oper)) (v := ?_) rfl (by kernel_rfl) (by kernel_rfl) (by kernel_rfl) (fun _ _ _ h => h) (Or.inl ⟨by rfl, ?_⟩) (by assumption) ?_
                    rotate_left 1
                    · (intro u hSw; go_simp; try with_reducible rfl)
                    try simp only [Act.put, List.setIfInBounds_toArray, List.set_cons_zero, List.set_cons_succ]
                    refine wpAnyH_take (i := 9) (oi := ({ dst := some 164, op := Op.move (Operand.tmp 18), type := 3, pos := "law.go:152", after := #[{ on := 6, ground := Ground.guard }], guard := some (6, false) } : Oper)) (v := ?_) rfl (by kernel_rfl) (by kernel_rfl) (by kernel_rfl) (fun _ _ _ h => h) (Or.inl ⟨by rfl, ?_⟩) (by assumption) ?_
                    rotate_left 1
                    · (intro u hSw; go_simp; try with_reducible rfl)
                    try simp only [Act.put, List.setIfInBounds_toArray, List.set_cons_zero, List.set_cons_succ]
                    refine wpAnyH_take (i := 10) (oi := ({ dst := some 165, op := Op.indexAddr 41 (Operand.tmp 163) (Operand.tmp 164), type := 0, pos := "law.go:152", after := #[{ on := 8, ground := Ground.data }, { on := 9, ground := Ground.data }, { on := 6, ground := Ground.guard }], guard := some (6, false) } : Oper)) (v := ?_) rfl (by kernel_rfl) (by kernel_rfl) (by kernel_rfl) (fun _ _ _ h => h) (Or.inl ⟨by rfl, ?_⟩) (by assumption) ?_
                    rotate_left 1
                    · (intro u hSw; go_simp; try with_reducible rfl)
                    try simp only [Act.put, List.setIfInBounds_toArray, List.set_cons_zero, List.set_cons_succ]
                    refine wpAnyH_take (i := 11) (oi := ({ dst := some 166, op := Op.load 35 (Operand.tmp 165), type := 35, pos := "law.go:152", after := #[{ on := 10, ground := Ground.data }, { on := 6, ground := Ground.guard }], guard := some (6, false) } : Oper)) (v := .agg (ArrU8 (f p))) rfl (by kernel_rfl) (by kernel_rfl) (by kernel_rfl) (fun _ _ _ h => h) (Or.inl ⟨by rfl, ?_⟩) (by assumption) ?_
                    · intro u hSw
                      exact exec_load_mid 35 (Operand.tmp 165) rfl gn (p * 256) rfl ((f p).map (Value.int .u8)) _ (RN.out u hSw) Try.underlying35 rfl HM2.out
                    try simp only [Act.put, List.setIfInBounds_toArray, List.set_cons_zero, List.set_cons_succ]
                    refine wpAnyH_take (i := 12) (oi := ({ dst := some 167, op := Op.binOp BinOp.neq 35 (Operand.tmp 162) (Operand.tmp 166) 35, type := 4, pos := "law.go:152", after := #[{ on := 7, ground := Ground.data }, { on := 11, ground := Ground.data }, { on := 6, ground := Ground.guard }], guard := some (6, false) } : Oper)) (v := .bool false) rfl (by kernel_rfl) (by kernel_rfl) (by kernel_rfl) (fun _ _ _ h => h) (Or.inl ⟨by rfl, ?_⟩) (by assumption) ?_
                    · intro u hSw
                      exact exec_neq_blk (Operand.tmp 162) (Operand.tmp 166) 35 rfl (f p) (f p) rfl rfl HXF.out HXF.out false (by simp)
                    try simp only [Act.put, List.setIfInBounds_toArray, List.set_cons_zero, List.set_cons_succ]
                    refine wpAnyH_take (i := 13) (oi := ({ dst := some 168, op := Op.pick (Operand.tmp 161) (Operand.const (Value.bool true)) (Operand.tmp 167), type := 4, pos := "law.go:152", after := #[{ on := 6, ground := Ground.data }, { on := 12, ground := Ground.data }], guard := none } : Oper)) (v := ?_) rfl (by kernel_rfl) (by kernel_rfl) (by kernel_rfl) (fun _ _ _ h => h) (Or.inl ⟨by rfl, ?_⟩) (by assumption) ?_
                    rotate_left 1
                    · (intro u hSw; go_simp; try with_reducible rfl)
                    try simp only [Act.put, List.setIfInBounds_toArray, List.set_cons_zero, List.set_cons_succ]
                    refine wpAnyH_take (i := 14) (oi := ({ dst := some 169, op := Op.move (Operand.tmp 168), type := 4, pos := "law.go:152", after := #[{ on := 13, ground := Ground.data }, { on := 6, ground := Ground.chain }], guard := none } : Oper)) (v := ?_) rfl (by kernel_rfl) (by kernel_rfl) (by kernel_rfl) (fun _ _ _ h => h) (Or.inl ⟨by rfl, ?_⟩) (by assumption) ?_
                    rotate_left 1
                    · (intro u hSw; go_simp; try with_reducible rfl)
                    try simp only [Act.put, List.setIfInBounds_toArray, List.set_cons_zero, List.set_cons_succ]
                    refine wpAnyH_take (i := 15) (oi := ({ dst := some 170, op := Op.move (Operand.tmp 16), type := 4, pos := "law.go:152", after := #[{ on := 14, ground := Ground.guard }], guard := some (14, false) } : Oper)) (v := ?_) rfl (by kernel_rfl) (by kernel_rfl) (by kernel_rfl) (fun _ _ _ h => h) (Or.inl ⟨by rfl, ?_⟩) (by assumption) ?_
                    rotate_left 1
                    · (intro u hSw; go_simp; try with_reducible rfl)
                    try simp only [Act.put, List.setIfInBounds_toArray, List.set_cons_zero, List.set_cons_succ]
                    refine wpAnyH_take (i := 16) (oi := ({ dst := some 171, op := Op.unOp UnOp.not 4 (Operand.tmp 170), type := 4, pos := "law.go:152", after := #[{ on := 15, ground := Ground.data }, { on := 14, ground := Ground.guard }], guard := some (14, false) } : Oper)) (v := ?_) rfl (by kernel_rfl) (by kernel_rfl) (by kernel_rfl) (fun _ _ _ h => h) (Or.inl ⟨by rfl, ?_⟩) (by assumption) ?_
                    rotate_left 1
                    · (intro u hSw; go_simp; try with_reducible rfl)
                    try simp only [Act.put, List.setIfInBounds_toArray, List.set_cons_zero, List.set_cons_succ]
                    refine wpAnyH_take (i := 17) (oi := ({ dst := some 172, op := Op.move (Operand.tmp 171), type := 4, pos := "law.go:152", after := #[{ on := 16, ground := Ground.data }, { on := 14, ground := Ground.chain }, { on := 14, ground := Ground.guard }], guard := some (14, false) } : Oper)) (v := ?_) rfl (by kernel_rfl) (by kernel_rfl) (by kernel_rfl) (fun _ _ _ h => h) (Or.inl ⟨by rfl, ?_⟩) (by assumption) ?_
                    rotate_left 1
                    · (intro u hSw; go_simp; try with_reducible rfl)
                    try simp only [Act.put, List.setIfInBounds_toArray, List.set_cons_zero, List.set_cons_succ]
                    refine wpAnyH_take (i := 18) (oi := ({ dst := some 173, op := Op.load 35 (Operand.tmp 23), type := 35, pos := "law.go:152", after := #[{ on := 17, ground := Ground.guard }], guard := some (17, true) } : Oper)) (v := (cond (!sm) (.agg (ArrU8 (fz p))) undef)) rfl (by kernel_rfl) (by kernel_rfl) (by kernel_rfl) (fun _ _ _ h => h) (by refine YieldsIf.guarded (!sm) (by cases sm <;> rfl) (fun hg u hSw => ?_); (exact exec_load_row 35 (Operand.tmp 23) rfl u wf.heap.size rfl (ArrU8 (fz p)) 35 (0, 0) _ (R23.out u hSw) Try.underlying35 rfl (by rw [HI35.out, SZZ.out]))) (by assumption) ?_
                    try simp only [Act.put, List.setIfInBounds_toArray, List.set_cons_zero, List.set_cons_succ]
                    refine wpAnyH_take (i := 19) (oi := ({ dst := some 174, op := Op.move (Operand.tmp 8), type := 41, pos := "law.go:152", after := #[{ on := 17, ground := Ground.guard }], guard := some (17, true) } : Oper)) (v := (cond (!sm) (.slice (some ⟨gs, 0, none⟩) 8 scap) undef)) rfl (by kernel_rfl) (by kernel_rfl) (by kernel_rfl) (fun _ _ _ h => h) (by refine YieldsIf.guarded (!sm) (by cases sm <;> rfl) (fun hg u hSw => ?_); (go_simp; try with_reducible rfl)) (by assumption) ?_
                    try simp only [Act.put, List.setIfInBounds_toArray, List.set_cons_zero, List.set_cons_succ]
                    refine wpAnyH_take (i := 20) (oi := ({ dst := some 175, op := Op.move (Operand.tmp 18), type := 3, pos := "law.go:152", after := #[{ on := 17, ground := Ground.guard }], guard := some (17, true) } : Oper)) (v := (cond (!sm) (.int .i64 (p : Int)) undef)) rfl (by kernel_rfl) (by kernel_rfl) (by kernel_rfl) (fun _ _ _ h => h) (by refine YieldsIf.guarded (!sm) (by cases sm <;> rfl) (fun hg u hSw => ?_); (go_simp; try with_reducible rfl)) (by assumption) ?_
                    try simp only [Act.put, List.setIfInBounds_toArray, List.set_cons_zero, List.set_cons_succ]
                    refine wpAnyH_take (i := 21) (oi := ({ dst := some 176, op := Op.indexAddr 41 (Operand.tmp 174) (Operand.tmp 175), type := 0, pos := "law.go:152", after := #[{ on := 19, ground := Ground.data }, { on := 20, ground := Ground.data }, { on := 17, ground := Ground.guard }], guard := some (17, true) } : Oper)) (v := (cond (!sm) (.pointer (some ⟨gs, p * 256, none⟩)) undef)) rfl (by kernel_rfl) (by kernel_rfl) (by kernel_rfl) (fun _ _ _ h => h) (by refine YieldsIf.guarded (!sm) (by cases sm <;> rfl) (fun hg u hSw => ?_); (cases sm; (simp only [Bool.not_false, cond_true]; go_simp; try with_reducible rfl); cases hg)) (by assumption) ?_
                    try simp only [Act.put, List.setIfInBounds_toArray, List.set_cons_zero, List.set_cons_succ]
                    refine wpAnyH_take (i := 22) (oi := ({ dst := some 177, op := Op.load 35 (Operand.tmp 176), type := 35, pos := "law.go:152", after := #[{ on := 21, ground := Ground.data }, { on := 17, ground := Ground.guard }], guard := some (17, true) } : Oper)) (v := (cond (!sm) (.agg (ArrU8 (fs p))) undef)) rfl (by kernel_rfl) (by kernel_rfl) (by kernel_rfl) (fun _ _ _ h => h) (by refine YieldsIf.guarded (!sm) (by cases sm <;> rfl) (fun hg u hSw => ?_); (cases sm; (exact exec_load_mid 35 (Operand.tmp 176) rfl gs (p * 256) rfl ((fs p).map (Value.int .u8)) _ (RS.out u hSw) Try.underlying35 rfl HM1.out); cases hg)) (by assumption) ?_
                    try simp only [Act.put, List.setIfInBounds_toArray, List.set_cons_zero, List.set_cons_succ]
                    refine wpAnyH_take (i := 23) (oi := ({ dst := some 178, op := Op.binOp BinOp.neq 35 (Operand.tmp 173) (Operand.tmp 177) 35, type := 4, pos := "law.go:152", after := #[{ on := 18, ground := Ground.data }, { on := 22, ground := Ground.data }, { on := 17, ground := Ground.guard }], guard := some (17, true) } : Oper)) (v := (cond (!sm) (.bool false) undef)) rfl (by kernel_rfl) (by kernel_rfl) (by kernel_rfl) (fun _ _ _ h => h) (by refine YieldsIf.guarded (!sm) (by cases sm <;> rfl) (fun hg u hSw => ?_); (cases sm; (exact exec_neq_blk (Operand.tmp 173) (Operand.tmp 177) 35 rfl (fz p) (fs p) rfl rfl HXZ.out HXS.out false (by rw [HSV2.out rfl]; simp)); cases hg)) (by assumption) ?_
                    try simp only [Act.put, List.setIfInBounds_toArray, List.set_cons_zero, List.set_cons_succ]
                    refine wpAnyH_take (i := 24) (oi := ({ dst := some 179, op := Op.pick (Operand.tmp 172) (Operand.tmp 178) (Operand.const (Value.bool false)), type := 4, pos := "law.go:152", after := #[{ on := 17, ground := Ground.data }, { on := 23, ground := Ground.data }, { on := 14, ground := Ground.guard }], guard := some (14, false) } : Oper)) (v := .bool false) rfl (by kernel_rfl) (by kernel_rfl) (by kernel_rfl) (fun _ _ _ h => h) (by cases sm <;> exact Or.inl ⟨by rfl, fun u hSw => by (try simp only [Bool.not_false, Bool.not_true, cond_true, cond_false]); go_simp; try with_reducible rfl⟩) (by assumption) ?_
                    try simp only [Act.put, List.setIfInBounds_toArray, List.set_cons_zero, List.set_cons_succ]
                    refine wpAnyH_take (i := 25) (oi := ({ dst := some 180, op := Op.pick (Operand.tmp 169) (Operand.const (Value.bool true)) (Operand.tmp 179), type := 4, pos := "law.go:152", after := #[{ on := 14, ground := Ground.data }, { on := 24, ground := Ground.data }], guard := none } : Oper)) (v := ?_) rfl (by kernel_rfl) (by kernel_rfl) (by kernel_rfl) (fun _ _ _ h => h) (Or.inl ⟨by rfl, ?_⟩) (by assumption) ?_
                    rotate_left 1
                    · (intro u hSw; go_simp; try with_reducible rfl)
                    try simp only [Act.put, List.setIfInBounds_toArray, List.set_cons_zero, List.set_cons_succ]
                    refine wpAnyH_take (i := 26) (oi := ({ dst := some 181, op := Op.move (Operand.tmp 180), type := 4, pos := "law.go:152", after := #[{ on := 25, ground := Ground.data }, { on := 17, ground := Ground.chain }], guard := none } : Oper)) (v := ?_) rfl (by kernel_rfl) (by kernel_rfl) (by kernel_rfl) (fun _ _ _ h => h) (Or.inl ⟨by rfl, ?_⟩) (by assumption) ?_
                    rotate_left 1
                    · (intro u hSw; go_simp; try with_reducible rfl)
                    try simp only [Act.put, List.setIfInBounds_toArray, List.set_cons_zero, List.set_cons_succ]
                    refine wpAnyH_take (i := 27) (oi := ({ dst := some 182, op := Op.move (Operand.tmp 8), type := 41, pos := "law.go:152", after := #[{ on := 26, ground := Ground.guard }], guard := some (26, false) } : Oper)) (v := ?_) rfl (by kernel_rfl) (by kernel_rfl) (by kernel_rfl) (fun _ _ _ h => h) (Or.inl ⟨by rfl, ?_⟩) (by assumption) ?_
                    rotate_left 1
                    · (intro u hSw; go_simp; try with_reducible rfl)
                    try simp only [Act.put, List.setIfInBounds_toArray, List.set_cons_zero, List.set_cons_succ]
                    refine wpAnyH_take (i := 28) (oi := ({ dst := some 183, op := Op.move (Operand.tmp 18), type := 3, pos := "law.go:152", after := #[{ on := 26, ground := Ground.guard }], guard := some (26, false) } : Oper)) (v := ?_) rfl (by kernel_rfl) (by kernel_rfl) (by kernel_rfl) (fun _ _ _ h => h) (Or.inl ⟨by rfl, ?_⟩) (by assumption) ?_
                    rotate_left 1
                    · (intro u hSw; go_simp; try with_reducible rfl)
                    try simp only [Act.put, List.setIfInBounds_toArray, List.set_cons_zero, List.set_cons_succ]
                    refine wpAnyH_take (i := 29) (oi := ({ dst := some 184, op := Op.indexAddr 41 (Operand.tmp 182) (Operand.tmp 183), type := 0, pos := "law.go:152", after := #[{ on := 27, ground := Ground.data }, { on := 28, ground := Ground.data }, { on := 26, ground := Ground.guard }], guard := some (26, false) } : Oper)) (v := ?_) rfl (by kernel_rfl) (by kernel_rfl) (by kernel_rfl) (fun _ _ _ h => h) (Or.inl ⟨by rfl, ?_⟩) (by assumption) ?_
                    rotate_left 1
                    · (intro u hSw; go_simp; try with_reducible rfl)
                    try simp only [Act.put, List.setIfInBounds_toArray, List.set_cons_zero, List.set_cons_succ]
                    refine wpAnyH_take (i := 30) (oi := ({ dst := some 185, op := Op.load 35 (Operand.tmp 184), type := 35, pos := "law.go:152", after := #[{ on := 29, ground := Ground.data }, { on := 26, ground := Ground.guard }], guard := some (26, false) } : Oper)) (v := .agg (ArrU8 (fs p))) rfl (by kernel_rfl) (by kernel_rfl) (by kernel_rfl) (fun _ _ _ h => h) (Or.inl ⟨by rfl, ?_⟩) (by assumption) ?_
                    · intro u hSw
                      exact exec_load_mid 35 (Operand.tmp 184) rfl gs (p * 256) rfl ((fs p).map (Value.int .u8)) _ (RS.out u hSw) Try.underlying35 rfl HM1.out
                    try simp only [Act.put, List.setIfInBounds_toArray, List.set_cons_zero, List.set_cons_succ]
                    refine wpAnyH_take (i := 31) (oi := ({ dst := some 186, op := Op.move (Operand.tmp 9), type := 41, pos := "law.go:152", after := #[{ on := 26, ground := Ground.guard }], guard := some (26, false) } : Oper)) (v := ?_) rfl (by kernel_rfl) (by kernel_rfl) (by kernel_rfl) (fun _ _ _ h => h) (Or.inl ⟨by rfl, ?_⟩) (by assumption) ?_
                    rotate_left 1
                    · (intro u hSw; go_simp; try with_reducible rfl)
                    try simp only [Act.put, List.setIfInBounds_toArray, List.set_cons_zero, List.set_cons_succ]
                    refine wpAnyH_take (i := 32) (oi := ({ dst := some 187, op := Op.move (Operand.tmp 18), type := 3, pos := "law.go:152", after := #[{ on := 26, ground := Ground.guard }], guard := some (26, false) } : Oper)) (v := ?_) rfl (by kernel_rfl) (by kernel_rfl) (by kernel_rfl) (fun _ _ _ h => h) (Or.inl ⟨by rfl, ?_⟩) (by assumption) ?_
                    rotate_left 1
                    · (intro u hSw; go_simp; try with_reducible rfl)
                    try simp only [Act.put, List.setIfInBounds_toArray, List.set_cons_zero, List.set_cons_succ]
                    refine wpAnyH_take (i := 33) (oi := ({ dst := some 188, op := Op.indexAddr 41 (Operand.tmp 186) (Operand.tmp 187), type := 0, pos := "law.go:152", after := #[{ on := 31, ground := Ground.data }, { on := 32, ground := Ground.data }, { on := 26, ground := Ground.guard }], guard := some (26, false) } : Oper)) (v := ?_) rfl (by kernel_rfl) (by kernel_rfl) (by kernel_rfl) (fun _ _ _ h => h) (Or.inl ⟨by rfl, ?_⟩) (by assumption) ?_
                    rotate_left 1
                    · (intro u hSw; go_simp; try with_reducible rfl)
                    try simp only [Act.put, List.setIfInBounds_toArray, List.set_cons_zero, List.set_cons_succ]
                    refine wpAnyH_take (i := 34) (oi := ({ dst := some 189, op := Op.load 35 (Operand.tmp 188), type := 35, pos := "law.go:152", after := #[{ on := 33, ground := Ground.data }, { on := 26, ground := Ground.guard }], guard := some (26, false) } : Oper)) (v := .agg (ArrU8 (f p))) rfl (by kernel_rfl) (by kernel_rfl) (by kernel_rfl) (fun _ _ _ h => h) (Or.inl ⟨by rfl, ?_⟩) (by assumption) ?_
                    · intro u hSw
                      exact exec_load_mid 35 (Operand.tmp 188) rfl gn (p * 256) rfl ((f p).map (Value.int .u8)) _ (RN.out u hSw) Try.underlying35 rfl HM2.out
                    try simp only [Act.put, List.setIfInBounds_toArray, List.set_cons_zero, List.set_cons_succ]
                    refine wpAnyH_take (i := 35) (oi := ({ dst := some 190, op := Op.binOp BinOp.eql 35 (Operand.tmp 185) (Operand.tmp 189) 35, type := 4, pos := "law.go:152", after := #[{ on := 30, ground := Ground.data }, { on := 34, ground := Ground.data }, { on := 26, ground := Ground.guard }], guard := some (26, false) } : Oper)) (v := .bool eqb) rfl (by kernel_rfl) (by kernel_rfl) (by kernel_rfl) (fun _ _ _ h => h) (Or.inl ⟨by rfl, ?_⟩) (by assumption) ?_
                    · intro u hSw
                      exact exec_eql_blk (Operand.tmp 185) (Operand.tmp 189) 35 rfl (fs p) (f p) rfl rfl HXS.out HXF.out eqb HEQ.out
                    try simp only [Act.put, List.setIfInBounds_toArray, List.set_cons_zero, List.set_cons_succ]
                    refine wpAnyH_take (i := 36) (oi := ({ dst := some 191, op := Op.move (Operand.tmp 190), type := 4, pos := "law.go:152", after := #[{ on := 35, ground := Ground.data }, { on := 26, ground := Ground.chain }, { on := 26, ground := Ground.guard }], guard := some (26, false) } : Oper)) (v := ?_) rfl (by kernel_rfl) (by kernel_rfl) (by kernel_rfl) (fun _ _ _ h => h) (Or.inl ⟨by rfl, ?_⟩) (by assumption) ?_
                    rotate_left 1
                    · (intro u hSw; go_simp; try with_reducible rfl)
                    try simp only [Act.put, List.setIfInBounds_toArray, List.set_cons_zero, List.set_cons_succ]
                    refine wpAnyH_take (i := 37) (oi := ({ dst := some 192, op := Op.move (Operand.tmp 2), type := 3, pos := "law.go:152", after := #[{ on := 36, ground := Ground.guard }], guard := some (36, true) } : Oper)) (v := (cond eqb (.int .i64 torn) undef)) rfl (by kernel_rfl) (by kernel_rfl) (by kernel_rfl) (fun _ _ _ h => h) (by refine YieldsIf.guarded eqb (by cases eqb <;> rfl) (fun hg u hSw => ?_); (go_simp; try with_reducible rfl)) (by assumption) ?_
                    try simp only [Act.put, List.setIfInBounds_toArray, List.set_cons_zero, List.set_cons_succ]
                    refine wpAnyH_take (i := 38) (oi := ({ dst := some 193, op := Op.binOp BinOp.lss 3 (Operand.tmp 192) (Operand.const (Value.int IntKind.i64 0)) 3, type := 4, pos := "law.go:152", after := #[{ on := 37, ground := Ground.data }, { on := 36, ground := Ground.guard }], guard := some (36, true) } : Oper)) (v := (cond eqb (.bool (decide (torn < 0))) undef)) rfl (by kernel_rfl) (by kernel_rfl) (by kernel_rfl) (fun _ _ _ h => h) (by refine YieldsIf.guarded eqb (by cases eqb <;> rfl) (fun hg u hSw => ?_); (subst hg; (try simp only [cond_true]); go_simp; try with_reducible rfl)) (by assumption) ?_
                    try simp only [Act.put, List.setIfInBounds_toArray, List.set_cons_zero, List.set_cons_succ]
                    refine wpAnyH_take (i := 39) (oi := ({ dst := some 194, op := Op.pick (Operand.tmp 191) (Operand.tmp 193) (Operand.const (Value.bool false)), type := 4, pos := "law.go:152", after := #[{ on := 36, ground := Ground.data }, { on := 38, ground := Ground.data }, { on := 26, ground := Ground.guard }], guard := some (26, false) } : Oper)) (v := .bool g4) rfl (by kernel_rfl) (by kernel_rfl) (by kernel_rfl) (fun _ _ _ h => h) (by refine Or.inl ⟨by rfl, fun u hSw => ?_⟩; rw [HG4.out]; cases eqb <;> (try simp only [cond_true, cond_false, Bool.true_and, Bool.false_and]) <;> go_simp <;> try with_reducible rfl) (by assumption) ?_
                    try simp only [Act.put, List.setIfInBounds_toArray, List.set_cons_zero, List.set_cons_succ]
                    refine wpAnyH_take (i := 40) (oi := ({ dst := some 195, op := Op.move (Operand.tmp 194), type := 4, pos := "law.go:152", after := #[{ on := 39, ground := Ground.data }, { on := 36, ground := Ground.chain }, { on := 26, ground := Ground.guard }], guard := some (26, false) } : Oper)) (v := ?_) rfl (by kernel_rfl) (by kernel_rfl) (by kernel_rfl) (fun _ _ _ h => h) (Or.inl ⟨by rfl, ?_⟩) (by assumption) ?_
                    rotate_left 1
                    · (intro u hSw; go_simp; try with_reducible rfl)
                    try simp only [Act.put, List.setIfInBounds_toArray, List.set_cons_zero, List.set_cons_succ]
                    refine wpAnyH_take (i := 41) (oi := ({ dst := some 196, op := Op.move (Operand.tmp 0), type := 22, pos := "law.go:152", after := #[{ on := 40, ground := Ground.guard }], guard := some (40, true) } : Oper)) (v := (cond g4 ((.slice sa xs.length sc)) undef)) rfl (by kernel_rfl) (by kernel_rfl) (by kernel_rfl) (fun _ _ _ h => h) (by refine YieldsIf.guarded g4 (by cases g4 <;> rfl) (fun hg u hSw => ?_); (go_simp; try with_reducible rfl)) (by assumption) ?_
                    try simp only [Act.put, List.setIfInBounds_toArray, List.set_cons_zero, List.set_cons_succ]
                    refine wpAnyH_take (i := 42) (oi := ({ dst := some 197, op := Op.move (Operand.tmp 18), type := 3, pos := "law.go:152", after := #[{ on := 40, ground := Ground.guard }], guard := some (40, true) } : Oper)) (v := (cond g4 (.int .i64 (p : Int)) undef)) rfl (by kernel_rfl) (by kernel_rfl) (by kernel_rfl) (fun _ _ _ h => h) (by refine YieldsIf.guarded g4 (by cases g4 <;> rfl) (fun hg u hSw => ?_); (go_simp; try with_reducible rfl)) (by assumption) ?_
                    try simp only [Act.put, List.setIfInBounds_toArray, List.set_cons_zero, List.set_cons_succ]
                    refine wpAnyH_ready (rs := [43]) (by kernel_rfl) (by simp) ?_
                    refine AllReadyH.cons (o := ({ dst := some 198, op := Op.call { callee := Callee.value (Operand.func 21), args := #[Operand.tmp 196, Operand.tmp 197], argTypes := #[22, 3] }, type := 4, pos := "law.go:152", after := #[{ on := 41, ground := Ground.data }, { on := 42, ground := Ground.data }, { on := 40, ground := Ground.chain }, { on := 40, ground := Ground.guard }], guard := some (40, true) } : Oper)) rfl (fun K hK => ?_) AllReadyH.nil
                    refine step_call_if (v := .bool wt) g4 (by cases g4 <;> rfl) 21 #[(.slice sa xs.length sc), .int .i64 (p : Int)] (fun hg => by subst hg; first | rfl | (go_simp; done)) (fun _ => HWC.out _ hHeld) ?_
                    refine hK.out _ _ (by assumption) (fun hHeld => ?_)
                    clear hK K
                    try simp only [Act.put, List.setIfInBounds_toArray, List.set_cons_zero, List.set_cons_succ]
                    refine wpAnyH_take (i := 44) (oi := ({ dst := some 199, op := Op.unOp UnOp.not 4 (Operand.tmp 198), type := 4, pos := "law.go:152", after := #[{ on := 43, ground := Ground.data }, { on := 40, ground := Ground.guard }], guard := some (40, true) } : Oper)) (v := (cond g4 (.bool (!wt)) undef)) rfl (by kernel_rfl) (by kernel_rfl) (by kernel_rfl) (fun _ _ _ h => h) (by refine YieldsIf.guarded g4 (by cases g4 <;> rfl) (fun hg u hSw => ?_); (subst hg; (try simp only [cond_true]); go_simp; try with_reducible rfl)) (by assumption) ?_
                    try simp only [Act.put, List.setIfInBounds_toArray, List.set_cons_zero, List.set_cons_succ]
                    refine wpAnyH_take (i := 45) (oi := ({ dst := some 200, op := Op.pick (Operand.tmp 195) (Operand.tmp 199) (Operand.const (Value.bool false)), type := 4, pos := "law.go:152", after := #[{ on := 40, ground := Ground.data }, { on := 44, ground := Ground.data }, { on := 26, ground := Ground.guard }], guard := some (26, false) } : Oper)) (v := .bool g5) rfl (by kernel_rfl) (by kernel_rfl) (by kernel_rfl) (fun _ _ _ h => h) (by refine Or.inl ⟨by rfl, fun u hSw => ?_⟩; rw [HG5.out]; cases g4 <;> (try simp only [cond_true, cond_false, Bool.true_and, Bool.false_and]) <;> go_simp <;> try with_reducible rfl) (by assumption) ?_
                    try simp only [Act.put, List.setIfInBounds_toArray, List.set_cons_zero, List.set_cons_succ]
                    refine wpAnyH_take (i := 46) (oi := ({ dst := some 201, op := Op.move (Operand.tmp 200), type := 4, pos := "law.go:152", after := #[{ on := 45, ground := Ground.data }, { on := 43, ground := Ground.chain }, { on := 26, ground := Ground.guard }], guard := some (26, false) } : Oper)) (v := ?_) rfl (by kernel_rfl) (by kernel_rfl) (by kernel_rfl) (fun _ _ _ h => h) (Or.inl ⟨by rfl, ?_⟩) (by assumption) ?_
                    rotate_left 1
                    · (intro u hSw; go_simp; try with_reducible rfl)
                    try simp only [Act.put, List.setIfInBounds_toArray, List.set_cons_zero, List.set_cons_succ]
                    refine wpAnyH_take (i := 47) (oi := ({ dst := some 202, op := Op.load 35 (Operand.tmp 23), type := 35, pos := "law.go:152", after := #[{ on := 46, ground := Ground.guard }], guard := some (46, true) } : Oper)) (v := (cond g5 (.agg (ArrU8 (fz p))) undef)) rfl (by kernel_rfl) (by kernel_rfl) (by kernel_rfl) (fun _ _ _ h => h) (by refine YieldsIf.guarded g5 (by cases g5 <;> rfl) (fun hg u hSw => ?_); (exact exec_load_row 35 (Operand.tmp 23) rfl u wf.heap.size rfl (ArrU8 (fz p)) 35 (0, 0) _ (R23.out u hSw) Try.underlying35 rfl (by rw [HI35.out, SZZ.out]))) (by assumption) ?_
                    try simp only [Act.put, List.setIfInBounds_toArray, List.set_cons_zero, List.set_cons_succ]
                    refine wpAnyH_take (i := 48) (oi := ({ dst := some 203, op := Op.move (Operand.tmp 8), type := 41, pos := "law.go:152", after := #[{ on := 46, ground := Ground.guard }], guard := some (46, true) } : Oper)) (v := (cond g5 (.slice (some ⟨gs, 0, none⟩) 8 scap) undef)) rfl (by kernel_rfl) (by kernel_rfl) (by kernel_rfl) (fun _ _ _ h => h) (by refine YieldsIf.guarded g5 (by cases g5 <;> rfl) (fun hg u hSw => ?_); (go_simp; try with_reducible rfl)) (by assumption) ?_
                    try simp only [Act.put, List.setIfInBounds_toArray, List.set_cons_zero, List.set_cons_succ]
                    refine wpAnyH_take (i := 49) (oi := ({ dst := some 204, op := Op.move (Operand.tmp 18), type := 3, pos := "law.go:152", after := #[{ on := 46, ground := Ground.guard }], guard := some (46, true) } : Oper)) (v := (cond g5 (.int .i64 (p : Int)) undef)) rfl (by kernel_rfl) (by kernel_rfl) (by kernel_rfl) (fun _ _ _ h => h) (by refine YieldsIf.guarded g5 (by cases g5 <;> rfl) (fun hg u hSw => ?_); (go_simp; try with_reducible rfl)) (by assumption) ?_
                    try simp only [Act.put, List.setIfInBounds_toArray, List.set_cons_zero, List.set_cons_succ]
                    refine wpAnyH_take (i := 50) (oi := ({ dst := some 205, op := Op.indexAddr 41 (Operand.tmp 203) (Operand.tmp 204), type := 0, pos := "law.go:152", after := #[{ on := 48, ground := Ground.data }, { on := 49, ground := Ground.data }, { on := 46, ground := Ground.guard }], guard := some (46, true) } : Oper)) (v := (cond g5 (.pointer (some ⟨gs, p * 256, none⟩)) undef)) rfl (by kernel_rfl) (by kernel_rfl) (by kernel_rfl) (fun _ _ _ h => h) (by refine YieldsIf.guarded g5 (by cases g5 <;> rfl) (fun hg u hSw => ?_); (subst hg; (try simp only [cond_true]); go_simp; try with_reducible rfl)) (by assumption) ?_
                    try simp only [Act.put, List.setIfInBounds_toArray, List.set_cons_zero, List.set_cons_succ]
                    refine wpAnyH_take (i := 51) (oi := ({ dst := some 206, op := Op.load 35 (Operand.tmp 205), type := 35, pos := "law.go:152", after := #[{ on := 50, ground := Ground.data }, { on := 46, ground := Ground.guard }], guard := some (46, true) } : Oper)) (v := (cond g5 (.agg (ArrU8 (fs p))) undef)) rfl (by kernel_rfl) (by kernel_rfl) (by kernel_rfl) (fun _ _ _ h => h) (by refine YieldsIf.guarded g5 (by cases g5 <;> rfl) (fun hg u hSw => ?_); (subst hg; (exact exec_load_mid 35 (Operand.tmp 205) rfl gs (p * 256) rfl ((fs p).map (Value.int .u8)) _ (RS.out u hSw) Try.underlying35 rfl HM1.out))) (by assumption) ?_
                    try simp only [Act.put, List.setIfInBounds_toArray, List.set_cons_zero, List.set_cons_succ]
                    refine wpAnyH_take (i := 52) (oi := ({ dst := some 207, op := Op.binOp BinOp.neq 35 (Operand.tmp 202) (Operand.tmp 206) 35, type := 4, pos := "law.go:152", after := #[{ on := 47, ground := Ground.data }, { on := 51, ground := Ground.data }, { on := 46, ground := Ground.guard }], guard := some (46, true) } : Oper)) (v := (cond g5 (.bool false) undef)) rfl (by kernel_rfl) (by kernel_rfl) (by kernel_rfl) (fun _ _ _ h => h) (by refine YieldsIf.guarded g5 (by cases g5 <;> rfl) (fun hg u hSw => ?_); (exact (by have h2 := HZS.out hg; subst hg; exact exec_neq_blk (Operand.tmp 202) (Operand.tmp 206) 35 rfl (fz p) (fs p) rfl rfl HXZ.out HXS.out false (by rw [h2]; simp)))) (by assumption) ?_
                    try simp only [Act.put, List.setIfInBounds_toArray, List.set_cons_zero, List.set_cons_succ]
                    refine wpAnyH_take (i := 53) (oi := ({ dst := some 208, op := Op.pick (Operand.tmp 201) (Operand.tmp 207) (Operand.const (Value.bool false)), type := 4, pos := "law.go:152", after := #[{ on := 46, ground := Ground.data }, { on := 52, ground := Ground.data }, { on := 26, ground := Ground.guard }], guard := some (26, false) } : Oper)) (v := .bool false) rfl (by kernel_rfl) (by kernel_rfl) (by kernel_rfl) (fun _ _ _ h => h) (by cases g5 <;> exact Or.inl ⟨by rfl, fun u hSw => by (try simp only [cond_true, cond_false]); go_simp; try with_reducible rfl⟩) (by assumption) ?_
                    try simp only [Act.put, List.setIfInBounds_toArray, List.set_cons_zero, List.set_cons_succ]
                    refine wpAnyH_take (i := 54) (oi := ({ dst := some 209, op := Op.pick (Operand.tmp 181) (Operand.const (Value.bool true)) (Operand.tmp 208), type := 4, pos := "law.go:152", after := #[{ on := 26, ground := Ground.data }, { on := 53, ground := Ground.data }], guard := none } : Oper)) (v := ?_) rfl (by kernel_rfl) (by kernel_rfl) (by kernel_rfl) (fun _ _ _ h => h) (Or.inl ⟨by rfl, ?_⟩) (by assumption) ?_
                    rotate_left 1
                    · (intro u hSw; go_simp; try with_reducible rfl)
                    try simp only [Act.put, List.setIfInBounds_toArray, List.set_cons_zero, List.set_cons_succ]
                    refine wpAnyH_done (by kernel_rfl) ?_ _
                    go_wp2_with fail
                    go_roundw
                    case rel => exact ⟨p + 1, by omega, by go_num, X0G.out.drew⟩
                    case measure => simp [intOf]; omega

                  · obtain rfl : p = 8 := by omega
                    clear hpl
                    go_wp2_with (first
                      | (go_at_call 20; refine (loose_any Da 8 8 (-1) false _ none 0 0 _ ((BY.out.block Da A10.out.1.lt).trans A10.out.1)).mono ?_; rintro e w' ⟨rfl, rfl⟩)
                      | (go_at_call 20; refine (loose_any Db 8 8 (-1) false _ none 0 0 _ ((BY.out.block Db C10.out.1.lt).trans C10.out.1)).mono ?_; rintro e w' ⟨rfl, rfl⟩)
                      | (go_at_call 20; refine (loose_any D 8 8 (-1) false _ none 0 0 _ ((BY.out.block D Z10.out.1.lt).trans Z10.out.1)).mono ?_; rintro e w' ⟨rfl, rfl⟩))
                    go_ret
                    exact ⟨rfl, B10.out.trans (BY.out.mono B10.out.size)⟩
end Go.Proofs.Ythomfdnkkpdjkaa
