import Derived.Test.YtaklkjjoplfokaaDiskG
import Derived.WalkKit
import Derived.ProofKit
import Derived.BigQuiet
import Derived.Deep.QuietTactic
import Derived.WalkSpells
import Derived.WalkLawsBesides
import Derived.Lib.Hide
import Derived.Deep.MidRow
import Derived.Deep.RegionLaw
import Derived.BigRegion
import Derived.Laws.AppendOwnNone
import Derived.Deep.DeepMust
import Derived.Deep.AppendLies
import Derived.RegionTactic
import Derived.Deep.WholeRow
import Derived.BigFrame
import Derived.Deep.RegionWith
import Derived.Deep.RegionHeld3
import Derived.Maps.RangeWalk
import Derived.Laws.CopyOwn
import Derived.StillTailTactics
namespace Go.Proofs.Ytaklkjjoplfokaa
open Go.RowKit
/-- a step of a law: its kind, number, byte, and the survivors -/
structure ST where
  k : Int
  n : Int
  b : Int
  kv : Value
  ks : List Bool
def ST.OK (x : ST) : Prop := (-9223372036854775808 ≤ x.k ∧ x.k ≤ 9223372036854775807) ∧ (-9223372036854775808 ≤ x.n ∧ x.n ≤ 9223372036854775807) ∧ (0 ≤ x.b ∧ x.b ≤ 255) ∧ x.ks.length ≤ 1048576
def StepsIs (w : World) (v : Value) (xs : List ST) : Prop := ∃ a cap, v = .slice a xs.length cap ∧ (0 < xs.length → ∃ bl off, a = some ⟨bl, off, none⟩ ∧ bl < w.heap.size ∧ ∀ i x, xs[i]? = some x →
  w.cell? ⟨bl, off + i * 4, none⟩ = some (.int .i64 x.k) ∧ w.cell? ⟨bl, off + i * 4 + 1, none⟩ = some (.int .i64 x.n) ∧ w.cell? ⟨bl, off + i * 4 + 2, none⟩ = some (.int .u8 x.b) ∧ w.cell? ⟨bl, off + i * 4 + 3, none⟩ = some x.kv ∧ Bools w x.kv x.ks ∧ x.OK)
theorem StepsIs.below {w w' : World} {v : Value} {xs : List ST} (h : StepsIs w v xs) (hb : Below w.heap.size w w') : StepsIs w' v xs := by
  obtain ⟨a, cap, h1, h2⟩ := h
  refine ⟨a, cap, h1, fun h0 => ?_⟩
  obtain ⟨bl, off, h3, h4, h5⟩ := h2 h0
  refine ⟨bl, off, h3, Nat.lt_of_lt_of_le h4 hb.size, fun i x hx => ?_⟩
  obtain ⟨c0, c1, c2, c3, c4, c5⟩ := h5 i x hx
  exact ⟨(hb.cell (p := ⟨bl, off + i * 4, none⟩) h4).trans c0, (hb.cell (p := ⟨bl, off + i * 4 + 1, none⟩) h4).trans c1, (hb.cell (p := ⟨bl, off + i * 4 + 2, none⟩) h4).trans c2, (hb.cell (p := ⟨bl, off + i * 4 + 3, none⟩) h4).trans c3, c4.below hb, c5⟩
theorem Dk.lower {w : World} {B D M : Nat} {nb rm fz : Int} {dn : Bool} {f : Int → List Int} {L : List WR} {lv : Value} (h : Dk w B D M nb rm fz dn f L lv) {B' : Nat} (hB : B' ≤ B) : Dk w B' D M nb rm fz dn f L lv := by
  obtain ⟨h1, h2, h3, h4, h5, h6⟩ := h
  refine ⟨h1, h2, ⟨h3.1, ?_⟩, by omega, by omega, h6⟩
  rcases h3.2 with h | ⟨g, cap, cur, e, hb, hr⟩
  · exact .inl h
  · exact .inr ⟨g, cap, cur, e, by omega, hr⟩
/-- where the fuse stands -/
def FuseAt (q left fz : Int) (dn : Bool) : Prop := (q < 0 ∧ fz = -1 ∧ dn = false ∧ left ≤ q) ∨ (0 ≤ q ∧ 0 ≤ left ∧ fz = left ∧ dn = false) ∨ (0 ≤ q ∧ left = 0 ∧ fz = -1 ∧ dn = true)
theorem wpList_store_nw {P : Program} {ops : Array Oper} {rest : List Oper} {o : Oper} {a : Act} {w : World} {Q : Exit → Act → World → Prop} (hgd : o.guard = none) (ty : TypeId) (x y : Operand) (ho : o.op = .store ty x y) (w0 : World) (old : Array Value) (T : TypeId) (hw : w = w0.alloc (.cells old T))
    (H : Nat) (cells : Array Value) (hx : a.eval x = .pointer (some ⟨H, 0, none⟩)) (hy : a.eval y = .agg cells) (hH : w0.heap.size = H) (hi : (P.info? ty).map (·.size) = some cells.size) (hold : old.size = cells.size) (h1 : cells.all (·.oneCell') = true)
    (h : ∀ w', w'.heap[H]? = some (.cells cells T (0, 0)) → Below H w0 w' → w'.heap.size = H + 1 → wpList P ops Q rest (a.put o.dst undef) w') : wpList P ops Q (o :: rest) a w := by
  subst hw
  exact wpList_store_new hgd ty x y ho H cells hx hy hH old T hi hold h1 h
theorem survL_no (L : List WR) : survL L [false, false, false] = [] := by
  match L with
  | [] => rfl
  | [_] => rfl
  | [_, _] => rfl
  | _ :: _ :: _ :: r => exact survL_nil r
theorem upF_none (f : Int → List Int) (L : List WR) (ks : List Bool) (t : Int) (h : survL L ks = []) : upF f L ks t = undoF f L := by rw [upF, h]; rfl
set_option maxRecDepth 100000 in
set_option maxHeartbeats 8000000 in
theorem fuse_walk (v : Value) (xs : List ST) (fuse : Int) (w : World) (hv : StepsIs w v xs) (hl : xs.length ≤ 1048576) :
    Calls Try.prog 5 #[v, .int .i64 fuse] w fun e w' => e = .returned (.bool true) ∧ Below w.heap.size w w' := by
  have HV := Lib.hid hv
  obtain ⟨sa, sc, hv1, hv2⟩ := hv
  subst hv1
  have HV2 := Lib.hid hv2
  clear hv2
  obtain ⟨q, hq⟩ : ∃ q : Int, q = fuse.tmod 60 := ⟨_, rfl⟩
  have hq1 : -60 < q ∧ q < 60 := by rw [hq]; exact ⟨by have := Int.lt_tmod_of_pos fuse (show (0:Int) < 60 by decide); omega, Int.tmod_lt_of_pos fuse (by decide)⟩
  have HQ := Lib.hid hq
  clear hq
  go_enter Try.func5, Try.ntmps5
  go_wp2_with fail
  refine (fixed_any w).mono ?_
  rintro e w1 ⟨rfl, hb⟩
  have B1 := Lib.hid hb
  clear hb
  go_wp2_with fail
  refine (new_dk 8 w1 (by decide) (by decide)).mono ?_
  rintro e w2 ⟨rfl, hdk, hb⟩
  have K2 := Lib.hid (hdk.lower B1.out.size)
  have B2 := Lib.hid (B1.out.trans (hb.mono B1.out.size))
  have D2 := Lib.hid (fun k hk => (hdk.foot k hk))
  clear hdk hb
  go_wp2_with fail
  refine (new_dk 8 w2 (by decide) (by decide)).mono ?_
  rintro e w3 ⟨rfl, hdk, hb⟩
  have R3 := Lib.hid (hdk.lower B2.out.size)
  have K3 := Lib.hid (K2.out.chg (Chg.fresh (F := fun _ => False) hb) (fun _ _ h => h))
  have B3 := Lib.hid (B2.out.trans (hb.mono B2.out.size))
  have A3 := Lib.hid (show ∀ k, Foot (w1.heap.size + 1) w1.heap.size (.slice none 0 0) k → ¬ Foot (w2.heap.size + 1) w2.heap.size (.slice none 0 0) k from fun k hk hr => by have h1 := (D2.out k hk).2; have h2 := (hdk.foot k hr).1; omega)
  clear hdk hb
  go_wp2_with fail
  rw [← HQ.out]
  refine (arm_dk _ _ _ 8 8 (-1) q false _ _ _ w3 K3.out (by omega)).mono ?_
  rintro e w4 ⟨rfl, hdk, hch⟩
  have R4 := Lib.hid (R3.out.chg hch (fun k hk e => A3.out _ (.inl e) hk))
  have K4 := Lib.hid hdk
  have B4 := Lib.hid (B3.out.trans (hch.below (fun k hk => by have := B1.out.size; omega) B3.out.size))
  clear hdk hch
  have hlt := Lib.hid (And.intro B1.out.size (And.intro (K4.out.foot _ (.inl rfl)) (R4.out.foot _ (.inl rfl))))
  generalize w1.heap.size + 1 = D1 at *
  generalize w2.heap.size + 1 = D2' at *
  generalize w1.heap.size = M1 at *
  generalize w2.heap.size = M2 at *
  have hfu : FuseAt q q (if 0 ≤ q then q else -1) false := by
    by_cases h : 0 ≤ q
    · rw [if_pos h]; exact .inr (.inl ⟨h, h, rfl, rfl⟩)
    · rw [if_neg h]; exact .inl ⟨by omega, rfl, rfl, by omega⟩
  generalize (if 0 ≤ q then q else -1) = fz0 at *
  have HFU := Lib.hid hfu
  clear hfu
  go_wp2_with fail
  go_loopw [7, 8] (fun lf iv wr => ∃ (i : Nat) (left fz : Int) (dn : Bool) (f : Int → List Int) (L : List WR) (lv1 lv2 : Value), i ≤ xs.length ∧ iv = .int .i64 (i : Int) ∧ lf = .int .i64 left ∧ FuseAt q left fz dn ∧ -60 - (i : Int) ≤ left ∧ left ≤ 60 ∧ L.length ≤ i ∧
      Dk wr w.heap.size D1 M1 8 8 fz dn f L lv1 ∧ Dk wr w.heap.size D2' M2 8 8 (-1) false f L lv2 ∧ (∀ k, Foot D1 M1 lv1 k → ¬ Foot D2' M2 lv2 k) ∧ Below w.heap.size w wr) (fun _ iv _ => xs.length - (intOf iv).toNat)
  case atStart => exact ⟨0, q, fz0, false, _, [], _, _, Nat.zero_le _, rfl, rfl, HFU.out, by omega, by omega, by simp, K4.out, R4.out, A3.out, B4.out⟩
  case round =>
    obtain ⟨i, left, fz, dn, f, L, lv1, lv2, hi, rfl, rfl, hfu, hlf, hlf2, hLi, hk, hr, ha, hb⟩ := hrel
    have HFU := Lib.hid hfu
    have HK := Lib.hid hk
    have HR := Lib.hid hr
    have HA := Lib.hid ha
    have HB := Lib.hid hb
    clear hfu hk hr ha hb
    by_cases hil : i < xs.length
    · obtain ⟨bl, off, rfl, hblt, hcs⟩ := HV2.out (by omega)
      obtain ⟨c0, c1, c2, c3, hks, hok⟩ := hcs i (xs[i]'hil) (List.getElem?_eq_getElem hil)
      generalize xs[i]'hil = x at c0 c1 c2 c3 hks hok
      have c0 := (HB.out.cell (p := ⟨bl, off + i * 4, none⟩) hblt).trans c0
      have c1 := (HB.out.cell (p := ⟨bl, off + i * 4 + 1, none⟩) hblt).trans c1
      have c2 := (HB.out.cell (p := ⟨bl, off + i * 4 + 2, none⟩) hblt).trans c2
      have c3 := (HB.out.cell (p := ⟨bl, off + i * 4 + 3, none⟩) hblt).trans c3
      obtain ⟨ka, kc, hkv, _⟩ := hks
      obtain ⟨⟨hk1, hk2⟩, ⟨hn1, hn2⟩, ⟨hb1, hb2⟩, _⟩ := hok
      generalize x.ks.length = kl at hkv
      rw [hkv] at c3
      generalize x.k = xk at *
      generalize x.n = xn at *
      generalize x.b = xb at *
      clear hkv hcs
      obtain ⟨par, hpar⟩ : ∃ par : Bool, (xk.tmod 2 == 0) = par := ⟨_, rfl⟩
      by_cases hdown : 0 ≤ q ∧ left ≤ 0
      · have hd2 := hdown.1
        have hd3 := hdown.2
        have HNX := Lib.hid (show FuseAt q left (-1) true from by rcases HFU.out with h | h | h <;> exact .inr (.inr ⟨hd2, by omega, rfl, rfl⟩))
        have HFZ1 := Lib.hid (show opFz fz dn = -1 ∧ opDn fz dn = true from by
          rcases HFU.out with ⟨h, _⟩ | ⟨_, h1, h2, h3⟩ | ⟨_, _, h2, h3⟩
          · omega
          · have : fz = 0 := by omega
            subst this h3; exact ⟨rfl, rfl⟩
          · subst h2 h3; exact ⟨rfl, rfl⟩)
        have HOP1 := Lib.hid (show opOk fz dn = false from by
          rcases HFU.out with ⟨h, _⟩ | ⟨_, h1, h2, h3⟩ | ⟨_, _, h2, h3⟩
          · omega
          · have : fz = 0 := by omega
            subst this h3; rfl
          · subst h2 h3; rfl)
        have HER1 := Lib.hid (show wErr 8 8 fz xn dn = 44 from by rw [wErr, HOP1.out]; rfl)
        clear hdown
        cases par
        · go_wp2_with fail

          have hb6 : Below wr.heap.size wr (wr.alloc (.cells #[.int .i64 xk, .int .i64 xn, .int .u8 xb, .slice ka kl kc] 30)) := (Below.refl _ _).alloc (Nat.le_refl _) _
          have hx6 : (wr.alloc (.cells #[.int .i64 xk, .int .i64 xn, .int .u8 xb, .slice ka kl kc] 30)).heap[wr.heap.size]? = some (.cells #[.int .i64 xk, .int .i64 xn, .int .u8 xb, .slice ka kl kc] 30 (0, 0)) := heap_alloc_new _ _
          have Kw6 := Lib.hid (HK.out.chg (Chg.fresh (F := fun _ => False) hb6) (fun _ _ h => h))
          have Rw6 := Lib.hid (HR.out.chg (Chg.fresh (F := fun _ => False) hb6) (fun _ _ h => h))
          have Bw6 := Lib.hid (HB.out.trans (hb6.mono HB.out.size))
          have Aw6 := HA
          have HXw6 := Lib.hid (And.intro ((cell_of_row _ wr.heap.size 0 _ _ _ hx6).trans (show (#[Value.int .i64 xk, .int .i64 xn, .int .u8 xb, .slice ka kl kc] : Array Value)[0]? = some (.int .i64 xk) from rfl)) (And.intro ((cell_of_row _ wr.heap.size 1 _ _ _ hx6).trans (show (#[Value.int .i64 xk, .int .i64 xn, .int .u8 xb, .slice ka kl kc] : Array Value)[1]? = some (.int .i64 xn) from rfl)) ((cell_of_row _ wr.heap.size 2 _ _ _ hx6).trans (show (#[Value.int .i64 xk, .int .i64 xn, .int .u8 xb, .slice ka kl kc] : Array Value)[2]? = some (.int .u8 xb) from rfl))))
          have HLw6 := Lib.hid (show wr.heap.size < (wr.alloc (.cells #[.int .i64 xk, .int .i64 xn, .int .u8 xb, .slice ka kl kc] 30)).heap.size by simp)
          have NBK := Lib.hid (show ¬ Foot D1 M1 lv1 wr.heap.size from fun e => by have := (HK.out.foot _ e).2; omega)
          have NBR := Lib.hid (show ¬ Foot D2' M2 lv2 wr.heap.size from fun e => by have := (HR.out.foot _ e).2; omega)
          have HLL := Lib.hid (show L.length ≤ 268435456 by omega)
          clear hb6 hx6
          generalize wr.alloc (.cells #[.int .i64 xk, .int .i64 xn, .int .u8 xb, .slice ka kl kc] 30) = w6 at *

          refine (sync_dk _ _ _ 8 8 _ _ _ _ _ w6 Kw6.out).mono ?_
          rintro e w7 ⟨he, lv1n, hdk, hch, hlv⟩
          rw [HOP1.out, if_neg (by decide)] at he hdk
          subst he
          rw [HFZ1.out.1, HFZ1.out.2] at hdk
          have Kw7 := Lib.hid (show Dk w7 w.heap.size D1 M1 8 8 (-1) true f L lv1n from hdk)
          have Rw7 := Lib.hid (Rw6.out.chg hch (fun k hr hk => Aw6.out k (.inl hk) hr))
          have Aw7 := Lib.hid (show ∀ k, Foot D1 M1 lv1n k → ¬ Foot D2' M2 lv2 k from fun k hk hr => hlv.elim (fun h => Aw6.out k (by rw [← h]; exact hk) hr) (fun h => Aw6.out k (by subst h; exact hk.elim .inl (fun h => h.elim (fun h => .inr (.inl h)) (fun h => by cases h))) hr))
          have Bw7 := Lib.hid (Bw6.out.trans (hch.below (fun k hk => (Kw6.out.foot k (.inl hk)).1) Bw6.out.size))
          have hbox : w7.heap[wr.heap.size]? = w6.heap[wr.heap.size]? := hch.block _ HLw6.out (fun e => NBK.out (.inl e))
          have HXw7 := Lib.hid (And.intro ((World.cell?_of_block (a := ⟨wr.heap.size, 0, none⟩) hbox).trans HXw6.out.1) (And.intro ((World.cell?_of_block (a := ⟨wr.heap.size, 1, none⟩) hbox).trans HXw6.out.2.1) ((World.cell?_of_block (a := ⟨wr.heap.size, 2, none⟩) hbox).trans HXw6.out.2.2)))
          have HLw7 := Lib.hid (show wr.heap.size < w7.heap.size by have := hch.size; have := HLw6.out; omega)
          clear hdk hch hlv hbox

          go_wp2_with (go_at_call 28; refine (down_any D1 8 8 _ true _ _ _ Kw7.out.1).mono ?_; rintro e w' ⟨rfl, rfl⟩)
          go_roundw
          case rel => exact ⟨i + 1, left, -1, true, f, L, lv1n, lv2, by omega, by go_num, rfl, HNX.out, by omega, by omega, by omega, Kw7.out, Rw7.out, Aw7.out, Bw7.out⟩
          case measure => simp [intOf]; omega
        · go_wp2_with fail

          have hb6 : Below wr.heap.size wr (wr.alloc (.cells #[.int .i64 xk, .int .i64 xn, .int .u8 xb, .slice ka kl kc] 30)) := (Below.refl _ _).alloc (Nat.le_refl _) _
          have hx6 : (wr.alloc (.cells #[.int .i64 xk, .int .i64 xn, .int .u8 xb, .slice ka kl kc] 30)).heap[wr.heap.size]? = some (.cells #[.int .i64 xk, .int .i64 xn, .int .u8 xb, .slice ka kl kc] 30 (0, 0)) := heap_alloc_new _ _
          have Kw6 := Lib.hid (HK.out.chg (Chg.fresh (F := fun _ => False) hb6) (fun _ _ h => h))
          have Rw6 := Lib.hid (HR.out.chg (Chg.fresh (F := fun _ => False) hb6) (fun _ _ h => h))
          have Bw6 := Lib.hid (HB.out.trans (hb6.mono HB.out.size))
          have Aw6 := HA
          have HXw6 := Lib.hid (And.intro ((cell_of_row _ wr.heap.size 0 _ _ _ hx6).trans (show (#[Value.int .i64 xk, .int .i64 xn, .int .u8 xb, .slice ka kl kc] : Array Value)[0]? = some (.int .i64 xk) from rfl)) (And.intro ((cell_of_row _ wr.heap.size 1 _ _ _ hx6).trans (show (#[Value.int .i64 xk, .int .i64 xn, .int .u8 xb, .slice ka kl kc] : Array Value)[1]? = some (.int .i64 xn) from rfl)) ((cell_of_row _ wr.heap.size 2 _ _ _ hx6).trans (show (#[Value.int .i64 xk, .int .i64 xn, .int .u8 xb, .slice ka kl kc] : Array Value)[2]? = some (.int .u8 xb) from rfl))))
          have HLw6 := Lib.hid (show wr.heap.size < (wr.alloc (.cells #[.int .i64 xk, .int .i64 xn, .int .u8 xb, .slice ka kl kc] 30)).heap.size by simp)
          have NBK := Lib.hid (show ¬ Foot D1 M1 lv1 wr.heap.size from fun e => by have := (HK.out.foot _ e).2; omega)
          have NBR := Lib.hid (show ¬ Foot D2' M2 lv2 wr.heap.size from fun e => by have := (HR.out.foot _ e).2; omega)
          have HLL := Lib.hid (show L.length ≤ 268435456 by omega)
          clear hb6 hx6
          generalize wr.alloc (.cells #[.int .i64 xk, .int .i64 xn, .int .u8 xb, .slice ka kl kc] 30) = w6 at *

          have HBDw6 := Lib.hid (show w6.drew.cell? ⟨wr.heap.size, 1, none⟩ = some (.int .i64 xn) ∧ w6.drew.cell? ⟨wr.heap.size, 2, none⟩ = some (.int .u8 xb) from ⟨(HXw6.out).2.1, (HXw6.out).2.2⟩)
          refine wp_region_held_drew (S := fun u => u.cell? ⟨wr.heap.size, 1, none⟩ = some (.int .i64 xn) ∧ u.cell? ⟨wr.heap.size, 2, none⟩ = some (.int .u8 xb)) (by kernel_rfl) (HBDw6.out) (fun hHeld => ?_)
          refine wpAnyH_take (i := 0) (oi := ({ dst := some 41, op := Op.move (Operand.tmp 5), type := 24, pos := "law.go:188", after := #[], guard := none } : Oper)) (v := ?_) rfl (by kernel_rfl) (by kernel_rfl) (by kernel_rfl) (fun _ _ _ h => h) (Or.inl ⟨by rfl, ?_⟩) (by assumption) ?_
          rotate_left 1
          · (intro u hSw; go_simp; try with_reducible rfl)
          try simp only [Act.put, List.setIfInBounds_toArray, List.set_cons_zero, List.set_cons_succ]
          refine wpAnyH_take (i := 1) (oi := ({ dst := some 42, op := Op.fieldAddr 30 (Operand.tmp 9) 1, type := 0, pos := "law.go:188", after := #[], guard := none } : Oper)) (v := ?_) rfl (by kernel_rfl) (by kernel_rfl) (by kernel_rfl) (fun _ _ _ h => h) (Or.inl ⟨by rfl, ?_⟩) (by assumption) ?_
          rotate_left 1
          · (intro u hSw; go_simp; try with_reducible rfl)
          try simp only [Act.put, List.setIfInBounds_toArray, List.set_cons_zero, List.set_cons_succ]
          refine wpAnyH_take (i := 2) (oi := ({ dst := some 43, op := Op.load 3 (Operand.tmp 42), type := 3, pos := "law.go:188", after := #[{ on := 1, ground := Ground.data }], guard := none } : Oper)) (v := ?_) rfl (by kernel_rfl) (by kernel_rfl) (by kernel_rfl) (fun _ _ _ h => h) (Or.inl ⟨by rfl, ?_⟩) (by assumption) ?_
          rotate_left 1
          · intro u hSw
            have h := hSw.1
            go_simp
            try with_reducible rfl
          try simp only [Act.put, List.setIfInBounds_toArray, List.set_cons_zero, List.set_cons_succ]
          refine wpAnyH_take (i := 3) (oi := ({ dst := some 44, op := Op.fieldAddr 30 (Operand.tmp 9) 2, type := 0, pos := "law.go:188", after := #[], guard := none } : Oper)) (v := ?_) rfl (by kernel_rfl) (by kernel_rfl) (by kernel_rfl) (fun _ _ _ h => h) (Or.inl ⟨by rfl, ?_⟩) (by assumption) ?_
          rotate_left 1
          · (intro u hSw; go_simp; try with_reducible rfl)
          try simp only [Act.put, List.setIfInBounds_toArray, List.set_cons_zero, List.set_cons_succ]
          refine wpAnyH_take (i := 4) (oi := ({ dst := some 45, op := Op.load 5 (Operand.tmp 44), type := 5, pos := "law.go:188", after := #[{ on := 3, ground := Ground.data }], guard := none } : Oper)) (v := ?_) rfl (by kernel_rfl) (by kernel_rfl) (by kernel_rfl) (fun _ _ _ h => h) (Or.inl ⟨by rfl, ?_⟩) (by assumption) ?_
          rotate_left 1
          · intro u hSw
            have h := hSw.2
            go_simp
            try with_reducible rfl
          try simp only [Act.put, List.setIfInBounds_toArray, List.set_cons_zero, List.set_cons_succ]
          refine wpAnyH_ready (rs := [5]) (by kernel_rfl) (by simp) ?_
          refine AllReadyH.cons (o := ({ dst := some 46, op := Op.call { callee := Callee.value (Operand.func 17), args := #[Operand.tmp 45], argTypes := #[5] }, type := 35, pos := "law.go:188", after := #[{ on := 4, ground := Ground.data }], guard := none } : Oper)) rfl (fun K hK => ?_) AllReadyH.nil
          go_simp
          go_at_call 17
          refine (block_any xb _).mono ?_
          rintro e w6b ⟨rfl, hb5⟩
          have Xw6b := Lib.hid (show Below w6.heap.size w6 w6b from ((Below.refl _ _).drew).trans hb5)
          have Kw6b := Lib.hid (Kw6.out.chg (Chg.fresh (F := fun _ => False) Xw6b.out) (fun _ _ h => h))
          have Rw6b := Lib.hid (Rw6.out.chg (Chg.fresh (F := fun _ => False) Xw6b.out) (fun _ _ h => h))
          have Bw6b := Lib.hid (Bw6.out.trans (Xw6b.out.mono Bw6.out.size))
          have HXw6b := Lib.hid (And.intro ((Xw6b.out.cell (p := ⟨wr.heap.size, 0, none⟩) HLw6.out).trans HXw6.out.1) (And.intro ((Xw6b.out.cell (p := ⟨wr.heap.size, 1, none⟩) HLw6.out).trans HXw6.out.2.1) ((Xw6b.out.cell (p := ⟨wr.heap.size, 2, none⟩) HLw6.out).trans HXw6.out.2.2)))
          clear hb5
          go_wp2_with fail
          refine hK.out _ _ HXw6b.out.2 (fun hHeld => ?_)
          clear hK K
          try simp only [Act.put, List.setIfInBounds_toArray, List.set_cons_zero, List.set_cons_succ]
          refine wpAnyH_ready (rs := [6]) (by kernel_rfl) (by simp) ?_
          refine AllReadyH.cons (o := ({ dst := some 47, op := Op.call { callee := Callee.value (Operand.func 16), args := #[Operand.tmp 41, Operand.tmp 43, Operand.tmp 46], argTypes := #[24, 3, 35] }, type := 33, pos := "law.go:188", after := #[{ on := 0, ground := Ground.data }, { on := 2, ground := Ground.data }, { on := 5, ground := Ground.data }, { on := 5, ground := Ground.chain }], guard := none } : Oper)) rfl (fun K hK => ?_) AllReadyH.nil
          go_simp
          go_at_call 16
          refine (write_any _ _ _ 8 8 _ xn _ _ _ _ (blkOf xb) w6b Kw6b.out (blk_len xb) HLL.out).mono ?_
          rintro e w7 ⟨he, lv1n, hdk, hch, hft⟩
          rw [HER1.out] at he hdk
          subst he
          have Kw7 := Lib.hid (show Dk w7 w.heap.size D1 M1 8 8 (-1) true f L lv1n from by rw [HFZ1.out.1, HFZ1.out.2, if_neg (by decide), if_neg (by decide)] at hdk; exact hdk)
          have Rw7 := Lib.hid (Rw6b.out.chg hch (fun k hr hk => Aw6.out k hk hr))
          have Aw7 := Lib.hid (show ∀ k, Foot D1 M1 lv1n k → ¬ Foot D2' M2 lv2 k from fun k hk hr => (hft k hk).elim (fun h => Aw6.out k h hr) (fun h => by have := (Rw6b.out.foot k hr).2; omega))
          have Bw7 := Lib.hid (Bw6b.out.trans (hch.below (fun k hk => (Kw6b.out.foot k hk).1) Bw6b.out.size))
          have hbox : w7.heap[wr.heap.size]? = w6b.heap[wr.heap.size]? := hch.block _ (by have := Xw6b.out.size; have := HLw6.out; omega) (NBK.out)
          have HXw7 := Lib.hid (And.intro ((World.cell?_of_block (a := ⟨wr.heap.size, 0, none⟩) hbox).trans HXw6b.out.1) (And.intro ((World.cell?_of_block (a := ⟨wr.heap.size, 1, none⟩) hbox).trans HXw6b.out.2.1) ((World.cell?_of_block (a := ⟨wr.heap.size, 2, none⟩) hbox).trans HXw6b.out.2.2)))
          have HLw7 := Lib.hid (show wr.heap.size < w7.heap.size by have := hch.size; have := Xw6b.out.size; have := HLw6.out; omega)
          have FTw7 := Lib.hid hft
          clear hdk hch hft hbox
          go_wp2_with fail
          refine hK.out _ _ HXw7.out.2 (fun hHeld => ?_)
          clear hK K
          try simp only [Act.put, List.setIfInBounds_toArray, List.set_cons_zero, List.set_cons_succ]
          refine wpAnyH_take (i := 7) (oi := ({ dst := some 10, op := Op.assign (Operand.tmp 47), type := 33, pos := "law.go:188", after := #[{ on := 6, ground := Ground.data }, { on := 6, ground := Ground.chain }, { on := 0, ground := Ground.phase }, { on := 1, ground := Ground.phase }, { on := 2, ground := Ground.phase }, { on := 3, ground := Ground.phase }, { on := 4, ground := Ground.phase }, { on := 5, ground := Ground.phase }, { on := 6, ground := Ground.phase }], guard := none } : Oper)) (v := ?_) rfl (by kernel_rfl) (by kernel_rfl) (by kernel_rfl) (fun _ _ _ h => h) (Or.inl ⟨by rfl, ?_⟩) (by assumption) ?_
          rotate_left 1
          · (intro u hSw; go_simp; try with_reducible rfl)
          try simp only [Act.put, List.setIfInBounds_toArray, List.set_cons_zero, List.set_cons_succ]
          refine wpAnyH_done (by kernel_rfl) ?_ _

          go_wp2_with (go_at_call 28; refine (down_any D1 8 8 _ true _ _ _ Kw7.out.1).mono ?_; rintro e w' ⟨rfl, rfl⟩)
          go_roundw
          case rel => exact ⟨i + 1, left, -1, true, f, L, lv1n, lv2, by omega, by go_num, rfl, HNX.out, by omega, by omega, by omega, Kw7.out, Rw7.out, Aw7.out, Bw7.out⟩
          case measure => simp [intOf]; omega
      · obtain ⟨fz1, hfz1, hnx⟩ : ∃ fz1, (opFz fz dn = fz1 ∧ opDn fz dn = false ∧ opOk fz dn = true) ∧ FuseAt q (left - 1) fz1 false := by
          rcases HFU.out with ⟨h, h2, h3, h4⟩ | ⟨h, h1, h2, h3⟩ | ⟨h, h1, h2, h3⟩
          · subst h2 h3; exact ⟨-1, ⟨rfl, rfl, rfl⟩, .inl ⟨h, rfl, rfl, by omega⟩⟩
          · subst h2 h3
            have h0 : 0 < fz := by omega
            refine ⟨fz - 1, ⟨?_, ?_, ?_⟩, .inr (.inl ⟨h, by omega, rfl, rfl⟩)⟩
            · rw [opFz, if_neg (by simp), if_neg (by omega), if_pos h0]
            · simp [opDn]; omega
            · simp [opOk]; omega
          · omega
        have HNX := Lib.hid hnx
        have HFZ1 := Lib.hid (And.intro hfz1.1 hfz1.2.1)
        have HOP1 := Lib.hid hfz1.2.2
        obtain ⟨E, hE⟩ : ∃ E, wErr 8 8 (-1) xn false = E := ⟨_, rfl⟩
        have HER2 := Lib.hid hE
        have HER1 := Lib.hid (show wErr 8 8 fz xn dn = E from by rw [← hE, wErr, wErr, HOP1.out]; rfl)
        clear hfz1 hnx hE
        have hq3 : q < 0 ∨ (0 ≤ q ∧ 0 < left) := by omega
        have hlow : -9223372036854775807 ≤ left := by omega
        cases par
        · go_wp2_with fail

          have hb6 : Below wr.heap.size wr (wr.alloc (.cells #[.int .i64 xk, .int .i64 xn, .int .u8 xb, .slice ka kl kc] 30)) := (Below.refl _ _).alloc (Nat.le_refl _) _
          have hx6 : (wr.alloc (.cells #[.int .i64 xk, .int .i64 xn, .int .u8 xb, .slice ka kl kc] 30)).heap[wr.heap.size]? = some (.cells #[.int .i64 xk, .int .i64 xn, .int .u8 xb, .slice ka kl kc] 30 (0, 0)) := heap_alloc_new _ _
          have Kw6 := Lib.hid (HK.out.chg (Chg.fresh (F := fun _ => False) hb6) (fun _ _ h => h))
          have Rw6 := Lib.hid (HR.out.chg (Chg.fresh (F := fun _ => False) hb6) (fun _ _ h => h))
          have Bw6 := Lib.hid (HB.out.trans (hb6.mono HB.out.size))
          have Aw6 := HA
          have HXw6 := Lib.hid (And.intro ((cell_of_row _ wr.heap.size 0 _ _ _ hx6).trans (show (#[Value.int .i64 xk, .int .i64 xn, .int .u8 xb, .slice ka kl kc] : Array Value)[0]? = some (.int .i64 xk) from rfl)) (And.intro ((cell_of_row _ wr.heap.size 1 _ _ _ hx6).trans (show (#[Value.int .i64 xk, .int .i64 xn, .int .u8 xb, .slice ka kl kc] : Array Value)[1]? = some (.int .i64 xn) from rfl)) ((cell_of_row _ wr.heap.size 2 _ _ _ hx6).trans (show (#[Value.int .i64 xk, .int .i64 xn, .int .u8 xb, .slice ka kl kc] : Array Value)[2]? = some (.int .u8 xb) from rfl))))
          have HLw6 := Lib.hid (show wr.heap.size < (wr.alloc (.cells #[.int .i64 xk, .int .i64 xn, .int .u8 xb, .slice ka kl kc] 30)).heap.size by simp)
          have NBK := Lib.hid (show ¬ Foot D1 M1 lv1 wr.heap.size from fun e => by have := (HK.out.foot _ e).2; omega)
          have NBR := Lib.hid (show ¬ Foot D2' M2 lv2 wr.heap.size from fun e => by have := (HR.out.foot _ e).2; omega)
          have HLL := Lib.hid (show L.length ≤ 268435456 by omega)
          clear hb6 hx6
          generalize wr.alloc (.cells #[.int .i64 xk, .int .i64 xn, .int .u8 xb, .slice ka kl kc] 30) = w6 at *

          refine (sync_dk _ _ _ 8 8 _ _ _ _ _ w6 Kw6.out).mono ?_
          rintro e w7 ⟨he, lv1n, hdk, hch, hlv⟩
          rw [HOP1.out, if_pos rfl] at he hdk
          subst he
          rw [HFZ1.out.1, HFZ1.out.2] at hdk
          have Kw7 := Lib.hid (show Dk w7 w.heap.size D1 M1 8 8 fz1 false f [] lv1n from hdk)
          have Rw7 := Lib.hid (Rw6.out.chg hch (fun k hr hk => Aw6.out k (.inl hk) hr))
          have Aw7 := Lib.hid (show ∀ k, Foot D1 M1 lv1n k → ¬ Foot D2' M2 lv2 k from fun k hk hr => hlv.elim (fun h => Aw6.out k (by rw [← h]; exact hk) hr) (fun h => Aw6.out k (by subst h; exact hk.elim .inl (fun h => h.elim (fun h => .inr (.inl h)) (fun h => by cases h))) hr))
          have Bw7 := Lib.hid (Bw6.out.trans (hch.below (fun k hk => (Kw6.out.foot k (.inl hk)).1) Bw6.out.size))
          have hbox : w7.heap[wr.heap.size]? = w6.heap[wr.heap.size]? := hch.block _ HLw6.out (fun e => NBK.out (.inl e))
          have HXw7 := Lib.hid (And.intro ((World.cell?_of_block (a := ⟨wr.heap.size, 0, none⟩) hbox).trans HXw6.out.1) (And.intro ((World.cell?_of_block (a := ⟨wr.heap.size, 1, none⟩) hbox).trans HXw6.out.2.1) ((World.cell?_of_block (a := ⟨wr.heap.size, 2, none⟩) hbox).trans HXw6.out.2.2)))
          have HLw7 := Lib.hid (show wr.heap.size < w7.heap.size by have := hch.size; have := HLw6.out; omega)
          clear hdk hch hlv hbox
          rcases hq3 with hq3 | ⟨hq3, hq4⟩
          all_goals
            have hx7 := HXw7.out.1
            go_wp2_with fail
            clear hx7

            refine (sync_dk _ _ _ 8 8 _ _ _ _ _ w7 Rw7.out).mono ?_
            rintro e w8 ⟨he, lv2n, hdk, hch, hlv⟩
            rw [o3, if_pos rfl] at he hdk
            subst he
            rw [o1, o2] at hdk
            have Rw8 := Lib.hid (show Dk w8 w.heap.size D2' M2 8 8 (-1) false f [] lv2n from hdk)
            have Kw8 := Lib.hid (Kw7.out.chg hch (fun k hk hr => Aw7.out k hk (.inl hr)))
            have Aw8 := Lib.hid (show ∀ k, Foot D1 M1 lv1n k → ¬ Foot D2' M2 lv2n k from fun k hk hr => hlv.elim (fun h => Aw7.out k hk (by rw [← h]; exact hr)) (fun h => Aw7.out k hk (by subst h; exact hr.elim .inl (fun h => h.elim (fun h => .inr (.inl h)) (fun h => by cases h)))))
            have Bw8 := Lib.hid (Bw7.out.trans (hch.below (fun k hk => (Rw7.out.foot k (.inl hk)).1) Bw7.out.size))
            have hbox : w8.heap[wr.heap.size]? = w7.heap[wr.heap.size]? := hch.block _ HLw7.out (fun e => NBR.out (.inl e))
            have HXw8 := Lib.hid (And.intro ((World.cell?_of_block (a := ⟨wr.heap.size, 0, none⟩) hbox).trans HXw7.out.1) (And.intro ((World.cell?_of_block (a := ⟨wr.heap.size, 1, none⟩) hbox).trans HXw7.out.2.1) ((World.cell?_of_block (a := ⟨wr.heap.size, 2, none⟩) hbox).trans HXw7.out.2.2)))
            have HLw8 := Lib.hid (show wr.heap.size < w8.heap.size by have := hch.size; have := HLw7.out; omega)
            clear hdk hch hlv hbox

            go_wp2_with (go_at_call 28; refine (down_any D1 8 8 _ false _ _ _ Kw8.out.1).mono ?_; rintro e w' ⟨rfl, rfl⟩)
            go_roundw
            case rel => exact ⟨i + 1, left - 1, fz1, false, f, [], lv1n, lv2n, by omega, by go_num, by go_num, HNX.out, by omega, by omega, by simp, Kw8.out, Rw8.out, Aw8.out, Bw8.out⟩
            case measure => simp [intOf]; omega
        · go_wp2_with fail

          have hb6 : Below wr.heap.size wr (wr.alloc (.cells #[.int .i64 xk, .int .i64 xn, .int .u8 xb, .slice ka kl kc] 30)) := (Below.refl _ _).alloc (Nat.le_refl _) _
          have hx6 : (wr.alloc (.cells #[.int .i64 xk, .int .i64 xn, .int .u8 xb, .slice ka kl kc] 30)).heap[wr.heap.size]? = some (.cells #[.int .i64 xk, .int .i64 xn, .int .u8 xb, .slice ka kl kc] 30 (0, 0)) := heap_alloc_new _ _
          have Kw6 := Lib.hid (HK.out.chg (Chg.fresh (F := fun _ => False) hb6) (fun _ _ h => h))
          have Rw6 := Lib.hid (HR.out.chg (Chg.fresh (F := fun _ => False) hb6) (fun _ _ h => h))
          have Bw6 := Lib.hid (HB.out.trans (hb6.mono HB.out.size))
          have Aw6 := HA
          have HXw6 := Lib.hid (And.intro ((cell_of_row _ wr.heap.size 0 _ _ _ hx6).trans (show (#[Value.int .i64 xk, .int .i64 xn, .int .u8 xb, .slice ka kl kc] : Array Value)[0]? = some (.int .i64 xk) from rfl)) (And.intro ((cell_of_row _ wr.heap.size 1 _ _ _ hx6).trans (show (#[Value.int .i64 xk, .int .i64 xn, .int .u8 xb, .slice ka kl kc] : Array Value)[1]? = some (.int .i64 xn) from rfl)) ((cell_of_row _ wr.heap.size 2 _ _ _ hx6).trans (show (#[Value.int .i64 xk, .int .i64 xn, .int .u8 xb, .slice ka kl kc] : Array Value)[2]? = some (.int .u8 xb) from rfl))))
          have HLw6 := Lib.hid (show wr.heap.size < (wr.alloc (.cells #[.int .i64 xk, .int .i64 xn, .int .u8 xb, .slice ka kl kc] 30)).heap.size by simp)
          have NBK := Lib.hid (show ¬ Foot D1 M1 lv1 wr.heap.size from fun e => by have := (HK.out.foot _ e).2; omega)
          have NBR := Lib.hid (show ¬ Foot D2' M2 lv2 wr.heap.size from fun e => by have := (HR.out.foot _ e).2; omega)
          have HLL := Lib.hid (show L.length ≤ 268435456 by omega)
          clear hb6 hx6
          generalize wr.alloc (.cells #[.int .i64 xk, .int .i64 xn, .int .u8 xb, .slice ka kl kc] 30) = w6 at *

          have HBDw6 := Lib.hid (show w6.drew.cell? ⟨wr.heap.size, 1, none⟩ = some (.int .i64 xn) ∧ w6.drew.cell? ⟨wr.heap.size, 2, none⟩ = some (.int .u8 xb) from ⟨(HXw6.out).2.1, (HXw6.out).2.2⟩)
          refine wp_region_held_drew (S := fun u => u.cell? ⟨wr.heap.size, 1, none⟩ = some (.int .i64 xn) ∧ u.cell? ⟨wr.heap.size, 2, none⟩ = some (.int .u8 xb)) (by kernel_rfl) (HBDw6.out) (fun hHeld => ?_)
          refine wpAnyH_take (i := 0) (oi := ({ dst := some 41, op := Op.move (Operand.tmp 5), type := 24, pos := "law.go:188", after := #[], guard := none } : Oper)) (v := ?_) rfl (by kernel_rfl) (by kernel_rfl) (by kernel_rfl) (fun _ _ _ h => h) (Or.inl ⟨by rfl, ?_⟩) (by assumption) ?_
          rotate_left 1
          · (intro u hSw; go_simp; try with_reducible rfl)
          try simp only [Act.put, List.setIfInBounds_toArray, List.set_cons_zero, List.set_cons_succ]
          refine wpAnyH_take (i := 1) (oi := ({ dst := some 42, op := Op.fieldAddr 30 (Operand.tmp 9) 1, type := 0, pos := "law.go:188", after := #[], guard := none } : Oper)) (v := ?_) rfl (by kernel_rfl) (by kernel_rfl) (by kernel_rfl) (fun _ _ _ h => h) (Or.inl ⟨by rfl, ?_⟩) (by assumption) ?_
          rotate_left 1
          · (intro u hSw; go_simp; try with_reducible rfl)
          try simp only [Act.put, List.setIfInBounds_toArray, List.set_cons_zero, List.set_cons_succ]
          refine wpAnyH_take (i := 2) (oi := ({ dst := some 43, op := Op.load 3 (Operand.tmp 42), type := 3, pos := "law.go:188", after := #[{ on := 1, ground := Ground.data }], guard := none } : Oper)) (v := ?_) rfl (by kernel_rfl) (by kernel_rfl) (by kernel_rfl) (fun _ _ _ h => h) (Or.inl ⟨by rfl, ?_⟩) (by assumption) ?_
          rotate_left 1
          · intro u hSw
            have h := hSw.1
            go_simp
            try with_reducible rfl
          try simp only [Act.put, List.setIfInBounds_toArray, List.set_cons_zero, List.set_cons_succ]
          refine wpAnyH_take (i := 3) (oi := ({ dst := some 44, op := Op.fieldAddr 30 (Operand.tmp 9) 2, type := 0, pos := "law.go:188", after := #[], guard := none } : Oper)) (v := ?_) rfl (by kernel_rfl) (by kernel_rfl) (by kernel_rfl) (fun _ _ _ h => h) (Or.inl ⟨by rfl, ?_⟩) (by assumption) ?_
          rotate_left 1
          · (intro u hSw; go_simp; try with_reducible rfl)
          try simp only [Act.put, List.setIfInBounds_toArray, List.set_cons_zero, List.set_cons_succ]
          refine wpAnyH_take (i := 4) (oi := ({ dst := some 45, op := Op.load 5 (Operand.tmp 44), type := 5, pos := "law.go:188", after := #[{ on := 3, ground := Ground.data }], guard := none } : Oper)) (v := ?_) rfl (by kernel_rfl) (by kernel_rfl) (by kernel_rfl) (fun _ _ _ h => h) (Or.inl ⟨by rfl, ?_⟩) (by assumption) ?_
          rotate_left 1
          · intro u hSw
            have h := hSw.2
            go_simp
            try with_reducible rfl
          try simp only [Act.put, List.setIfInBounds_toArray, List.set_cons_zero, List.set_cons_succ]
          refine wpAnyH_ready (rs := [5]) (by kernel_rfl) (by simp) ?_
          refine AllReadyH.cons (o := ({ dst := some 46, op := Op.call { callee := Callee.value (Operand.func 17), args := #[Operand.tmp 45], argTypes := #[5] }, type := 35, pos := "law.go:188", after := #[{ on := 4, ground := Ground.data }], guard := none } : Oper)) rfl (fun K hK => ?_) AllReadyH.nil
          go_simp
          go_at_call 17
          refine (block_any xb _).mono ?_
          rintro e w6b ⟨rfl, hb5⟩
          have Xw6b := Lib.hid (show Below w6.heap.size w6 w6b from ((Below.refl _ _).drew).trans hb5)
          have Kw6b := Lib.hid (Kw6.out.chg (Chg.fresh (F := fun _ => False) Xw6b.out) (fun _ _ h => h))
          have Rw6b := Lib.hid (Rw6.out.chg (Chg.fresh (F := fun _ => False) Xw6b.out) (fun _ _ h => h))
          have Bw6b := Lib.hid (Bw6.out.trans (Xw6b.out.mono Bw6.out.size))
          have HXw6b := Lib.hid (And.intro ((Xw6b.out.cell (p := ⟨wr.heap.size, 0, none⟩) HLw6.out).trans HXw6.out.1) (And.intro ((Xw6b.out.cell (p := ⟨wr.heap.size, 1, none⟩) HLw6.out).trans HXw6.out.2.1) ((Xw6b.out.cell (p := ⟨wr.heap.size, 2, none⟩) HLw6.out).trans HXw6.out.2.2)))
          clear hb5
          go_wp2_with fail
          refine hK.out _ _ HXw6b.out.2 (fun hHeld => ?_)
          clear hK K
          try simp only [Act.put, List.setIfInBounds_toArray, List.set_cons_zero, List.set_cons_succ]
          refine wpAnyH_ready (rs := [6]) (by kernel_rfl) (by simp) ?_
          refine AllReadyH.cons (o := ({ dst := some 47, op := Op.call { callee := Callee.value (Operand.func 16), args := #[Operand.tmp 41, Operand.tmp 43, Operand.tmp 46], argTypes := #[24, 3, 35] }, type := 33, pos := "law.go:188", after := #[{ on := 0, ground := Ground.data }, { on := 2, ground := Ground.data }, { on := 5, ground := Ground.data }, { on := 5, ground := Ground.chain }], guard := none } : Oper)) rfl (fun K hK => ?_) AllReadyH.nil
          go_simp
          go_at_call 16
          refine (write_any _ _ _ 8 8 _ xn _ _ _ _ (blkOf xb) w6b Kw6b.out (blk_len xb) HLL.out).mono ?_
          rintro e w7 ⟨he, lv1n, hdk, hch, hft⟩
          rw [HER1.out] at he hdk
          subst he
          have Kw7 := Lib.hid (show Dk w7 w.heap.size D1 M1 8 8 fz1 false (if E = 0 then fput f xn (blkOf xb) else f) (if E = 0 then L ++ [(xn, f xn, blkOf xb)] else L) lv1n from by rw [HFZ1.out.1, HFZ1.out.2] at hdk; exact hdk)
          have Rw7 := Lib.hid (Rw6b.out.chg hch (fun k hr hk => Aw6.out k hk hr))
          have Aw7 := Lib.hid (show ∀ k, Foot D1 M1 lv1n k → ¬ Foot D2' M2 lv2 k from fun k hk hr => (hft k hk).elim (fun h => Aw6.out k h hr) (fun h => by have := (Rw6b.out.foot k hr).2; omega))
          have Bw7 := Lib.hid (Bw6b.out.trans (hch.below (fun k hk => (Kw6b.out.foot k hk).1) Bw6b.out.size))
          have hbox : w7.heap[wr.heap.size]? = w6b.heap[wr.heap.size]? := hch.block _ (by have := Xw6b.out.size; have := HLw6.out; omega) (NBK.out)
          have HXw7 := Lib.hid (And.intro ((World.cell?_of_block (a := ⟨wr.heap.size, 0, none⟩) hbox).trans HXw6b.out.1) (And.intro ((World.cell?_of_block (a := ⟨wr.heap.size, 1, none⟩) hbox).trans HXw6b.out.2.1) ((World.cell?_of_block (a := ⟨wr.heap.size, 2, none⟩) hbox).trans HXw6b.out.2.2)))
          have HLw7 := Lib.hid (show wr.heap.size < w7.heap.size by have := hch.size; have := Xw6b.out.size; have := HLw6.out; omega)
          have FTw7 := Lib.hid hft
          clear hdk hch hft hbox
          go_wp2_with fail
          refine hK.out _ _ HXw7.out.2 (fun hHeld => ?_)
          clear hK K
          try simp only [Act.put, List.setIfInBounds_toArray, List.set_cons_zero, List.set_cons_succ]
          refine wpAnyH_take (i := 7) (oi := ({ dst := some 10, op := Op.assign (Operand.tmp 47), type := 33, pos := "law.go:188", after := #[{ on := 6, ground := Ground.data }, { on := 6, ground := Ground.chain }, { on := 0, ground := Ground.phase }, { on := 1, ground := Ground.phase }, { on := 2, ground := Ground.phase }, { on := 3, ground := Ground.phase }, { on := 4, ground := Ground.phase }, { on := 5, ground := Ground.phase }, { on := 6, ground := Ground.phase }], guard := none } : Oper)) (v := ?_) rfl (by kernel_rfl) (by kernel_rfl) (by kernel_rfl) (fun _ _ _ h => h) (Or.inl ⟨by rfl, ?_⟩) (by assumption) ?_
          rotate_left 1
          · (intro u hSw; go_simp; try with_reducible rfl)
          try simp only [Act.put, List.setIfInBounds_toArray, List.set_cons_zero, List.set_cons_succ]
          refine wpAnyH_done (by kernel_rfl) ?_ _
          rcases hq3 with hq3 | ⟨hq3, hq4⟩
          all_goals
            have hx7 := HXw7.out.1
            go_wp2_with fail
            clear hx7

            have HBDw7 := Lib.hid (show w7.drew.cell? ⟨wr.heap.size, 1, none⟩ = some (.int .i64 xn) ∧ w7.drew.cell? ⟨wr.heap.size, 2, none⟩ = some (.int .u8 xb) from ⟨(HXw7.out).2.1, (HXw7.out).2.2⟩)
            refine wp_region_held_drew (S := fun u => u.cell? ⟨wr.heap.size, 1, none⟩ = some (.int .i64 xn) ∧ u.cell? ⟨wr.heap.size, 2, none⟩ = some (.int .u8 xb)) (by kernel_rfl) (HBDw7.out) (fun hHeld => ?_)
            refine wpAnyH_take (i := 0) (oi := ({ dst := some 69, op := Op.move (Operand.tmp 6), type := 24, pos := "law.go:200", after := #[], guard := none } : Oper)) (v := ?_) rfl (by kernel_rfl) (by kernel_rfl) (by kernel_rfl) (fun _ _ _ h => h) (Or.inl ⟨by rfl, ?_⟩) (by assumption) ?_
            rotate_left 1
            · (intro u hSw; go_simp; try with_reducible rfl)
            try simp only [Act.put, List.setIfInBounds_toArray, List.set_cons_zero, List.set_cons_succ]
            refine wpAnyH_take (i := 1) (oi := ({ dst := some 70, op := Op.fieldAddr 30 (Operand.tmp 9) 1, type := 0, pos := "law.go:200", after := #[], guard := none } : Oper)) (v := ?_) rfl (by kernel_rfl) (by kernel_rfl) (by kernel_rfl) (fun _ _ _ h => h) (Or.inl ⟨by rfl, ?_⟩) (by assumption) ?_
            rotate_left 1
            · (intro u hSw; go_simp; try with_reducible rfl)
            try simp only [Act.put, List.setIfInBounds_toArray, List.set_cons_zero, List.set_cons_succ]
            refine wpAnyH_take (i := 2) (oi := ({ dst := some 71, op := Op.load 3 (Operand.tmp 70), type := 3, pos := "law.go:200", after := #[{ on := 1, ground := Ground.data }], guard := none } : Oper)) (v := ?_) rfl (by kernel_rfl) (by kernel_rfl) (by kernel_rfl) (fun _ _ _ h => h) (Or.inl ⟨by rfl, ?_⟩) (by assumption) ?_
            rotate_left 1
            · intro u hSw
              have h := hSw.1
              go_simp
              try with_reducible rfl
            try simp only [Act.put, List.setIfInBounds_toArray, List.set_cons_zero, List.set_cons_succ]
            refine wpAnyH_take (i := 3) (oi := ({ dst := some 72, op := Op.fieldAddr 30 (Operand.tmp 9) 2, type := 0, pos := "law.go:200", after := #[], guard := none } : Oper)) (v := ?_) rfl (by kernel_rfl) (by kernel_rfl) (by kernel_rfl) (fun _ _ _ h => h) (Or.inl ⟨by rfl, ?_⟩) (by assumption) ?_
            rotate_left 1
            · (intro u hSw; go_simp; try with_reducible rfl)
            try simp only [Act.put, List.setIfInBounds_toArray, List.set_cons_zero, List.set_cons_succ]
            refine wpAnyH_take (i := 4) (oi := ({ dst := some 73, op := Op.load 5 (Operand.tmp 72), type := 5, pos := "law.go:200", after := #[{ on := 3, ground := Ground.data }], guard := none } : Oper)) (v := ?_) rfl (by kernel_rfl) (by kernel_rfl) (by kernel_rfl) (fun _ _ _ h => h) (Or.inl ⟨by rfl, ?_⟩) (by assumption) ?_
            rotate_left 1
            · intro u hSw
              have h := hSw.2
              go_simp
              try with_reducible rfl
            try simp only [Act.put, List.setIfInBounds_toArray, List.set_cons_zero, List.set_cons_succ]
            refine wpAnyH_ready (rs := [5]) (by kernel_rfl) (by simp) ?_
            refine AllReadyH.cons (o := ({ dst := some 74, op := Op.call { callee := Callee.value (Operand.func 17), args := #[Operand.tmp 73], argTypes := #[5] }, type := 35, pos := "law.go:200", after := #[{ on := 4, ground := Ground.data }], guard := none } : Oper)) rfl (fun K hK => ?_) AllReadyH.nil
            go_simp
            go_at_call 17
            refine (block_any xb _).mono ?_
            rintro e w7b ⟨rfl, hb5⟩
            have Xw7b := Lib.hid (show Below w7.heap.size w7 w7b from ((Below.refl _ _).drew).trans hb5)
            have Kw7b := Lib.hid (Kw7.out.chg (Chg.fresh (F := fun _ => False) Xw7b.out) (fun _ _ h => h))
            have Rw7b := Lib.hid (Rw7.out.chg (Chg.fresh (F := fun _ => False) Xw7b.out) (fun _ _ h => h))
            have Bw7b := Lib.hid (Bw7.out.trans (Xw7b.out.mono Bw7.out.size))
            have HXw7b := Lib.hid (And.intro ((Xw7b.out.cell (p := ⟨wr.heap.size, 0, none⟩) HLw7.out).trans HXw7.out.1) (And.intro ((Xw7b.out.cell (p := ⟨wr.heap.size, 1, none⟩) HLw7.out).trans HXw7.out.2.1) ((Xw7b.out.cell (p := ⟨wr.heap.size, 2, none⟩) HLw7.out).trans HXw7.out.2.2)))
            clear hb5
            go_wp2_with fail
            refine hK.out _ _ HXw7b.out.2 (fun hHeld => ?_)
            clear hK K
            try simp only [Act.put, List.setIfInBounds_toArray, List.set_cons_zero, List.set_cons_succ]
            refine wpAnyH_ready (rs := [6]) (by kernel_rfl) (by simp) ?_
            refine AllReadyH.cons (o := ({ dst := some 75, op := Op.call { callee := Callee.value (Operand.func 16), args := #[Operand.tmp 69, Operand.tmp 71, Operand.tmp 74], argTypes := #[24, 3, 35] }, type := 33, pos := "law.go:200", after := #[{ on := 0, ground := Ground.data }, { on := 2, ground := Ground.data }, { on := 5, ground := Ground.data }, { on := 5, ground := Ground.chain }], guard := none } : Oper)) rfl (fun K hK => ?_) AllReadyH.nil
            go_simp
            go_at_call 16
            refine (write_any _ _ _ 8 8 _ xn _ _ _ _ (blkOf xb) w7b Rw7b.out (blk_len xb) HLL.out).mono ?_
            rintro e w8 ⟨he, lv2n, hdk, hch, hft⟩
            rw [HER2.out] at he hdk
            subst he
            have Rw8 := Lib.hid (show Dk w8 w.heap.size D2' M2 8 8 (-1) false (if E = 0 then fput f xn (blkOf xb) else f) (if E = 0 then L ++ [(xn, f xn, blkOf xb)] else L) lv2n from by rw [o1, o2] at hdk; exact hdk)
            have Kw8 := Lib.hid (Kw7b.out.chg hch (fun k hk hr => Aw7.out k hk hr))
            have Aw8 := Lib.hid (show ∀ k, Foot D1 M1 lv1n k → ¬ Foot D2' M2 lv2n k from fun k hk hr => (hft k hr).elim (fun h => Aw7.out k hk h) (fun h => by have := (Kw7b.out.foot k hk).2; omega))
            have Bw8 := Lib.hid (Bw7b.out.trans (hch.below (fun k hk => (Rw7b.out.foot k hk).1) Bw7b.out.size))
            have hbox : w8.heap[wr.heap.size]? = w7b.heap[wr.heap.size]? := hch.block _ (by have := Xw7b.out.size; have := HLw7.out; omega) (NBR.out)
            have HXw8 := Lib.hid (And.intro ((World.cell?_of_block (a := ⟨wr.heap.size, 0, none⟩) hbox).trans HXw7b.out.1) (And.intro ((World.cell?_of_block (a := ⟨wr.heap.size, 1, none⟩) hbox).trans HXw7b.out.2.1) ((World.cell?_of_block (a := ⟨wr.heap.size, 2, none⟩) hbox).trans HXw7b.out.2.2)))
            have HLw8 := Lib.hid (show wr.heap.size < w8.heap.size by have := hch.size; have := Xw7b.out.size; have := HLw7.out; omega)
            have FTw8 := Lib.hid hft
            clear hdk hch hft hbox
            go_wp2_with fail
            refine hK.out _ _ HXw8.out.2 (fun hHeld => ?_)
            clear hK K
            try simp only [Act.put, List.setIfInBounds_toArray, List.set_cons_zero, List.set_cons_succ]
            refine wpAnyH_take (i := 7) (oi := ({ dst := some 11, op := Op.assign (Operand.tmp 75), type := 33, pos := "law.go:200", after := #[{ on := 6, ground := Ground.data }, { on := 6, ground := Ground.chain }, { on := 0, ground := Ground.phase }, { on := 1, ground := Ground.phase }, { on := 2, ground := Ground.phase }, { on := 3, ground := Ground.phase }, { on := 4, ground := Ground.phase }, { on := 5, ground := Ground.phase }, { on := 6, ground := Ground.phase }], guard := none } : Oper)) (v := ?_) rfl (by kernel_rfl) (by kernel_rfl) (by kernel_rfl) (fun _ _ _ h => h) (Or.inl ⟨by rfl, ?_⟩) (by assumption) ?_
            rotate_left 1
            · (intro u hSw; go_simp; try with_reducible rfl)
            try simp only [Act.put, List.setIfInBounds_toArray, List.set_cons_zero, List.set_cons_succ]
            refine wpAnyH_done (by kernel_rfl) ?_ _

            go_wp2_with (go_at_call 28; refine (down_any D1 8 8 _ false _ _ _ Kw8.out.1).mono ?_; rintro e w' ⟨rfl, rfl⟩)
            go_roundw
            case rel => exact ⟨i + 1, left - 1, fz1, false, _, _, lv1n, lv2n, by omega, by go_num, by go_num, HNX.out, by omega, by omega, by split <;> first | omega | (simp; omega), Kw8.out, Rw8.out, Aw8.out, Bw8.out⟩
            case measure => simp [intOf]; omega
    · have hix : i = xs.length := by omega
      subst hix
      have HLL := Lib.hid (show L.length ≤ 268435456 by omega)
      clear hil hlf hlf2
      go_wp2_with fail
      refine (loose_dk _ _ _ _ _ _ _ _ _ _ _ HK.out).mono ?_
      rintro e w' ⟨rfl, rfl⟩
      go_wp2_with fail
      refine (loose_dk _ _ _ _ _ _ _ _ _ _ _ HR.out).mono ?_
      rintro e w' ⟨rfl, rfl⟩
      have hb5 : Below wr.heap.size wr (wr.alloc (.cells #[.bool false, .bool false, .bool false] 4)) := (Below.refl _ _).alloc (Nat.le_refl _) _
      have hkb : Bools (wr.alloc (.cells #[.bool false, .bool false, .bool false] 4)) (.slice (some ⟨wr.heap.size, 0, none⟩) 3 3) [false, false, false] := ⟨_, _, rfl, fun _ => ⟨_, _, rfl, by simp, fun i hi => by
        rw [cell_of_row _ _ _ _ _ _ (heap_alloc_new wr _), Nat.zero_add]
        match i, hi with
        | 0, _ => rfl
        | 1, _ => rfl
        | 2, _ => rfl⟩⟩
      have HKB := Lib.hid hkb
      have K5 := Lib.hid (HK.out.chg (Chg.fresh (F := fun _ => False) hb5) (fun _ _ h => h))
      have R5 := Lib.hid (HR.out.chg (Chg.fresh (F := fun _ => False) hb5) (fun _ _ h => h))
      have B5 := Lib.hid (HB.out.trans (hb5.mono HB.out.size))
      have NM := Lib.hid (HK.out.foot M1 (.inr (.inl rfl))).2
      clear hb5 hkb
      have hmk : ∀ u : World, (Instr.makeSlice 28 (.int .i64 3) (.int .i64 3)).run Try.prog u = .ok (.slice (some ⟨u.heap.size, 0, none⟩) 3 3) (u.alloc (.cells #[.bool false, .bool false, .bool false] 4)) := fun _ => by kernel_rfl
      go_wp2_with fail
      clear hmk
      refine (up_any _ _ _ 8 8 fz 5 dn f L _ _ [false, false, false] _ K5.out HKB.out (fun b o n c e _ => by injection e with e _ _; injection e with e; injection e with e _ _; have := NM.out; omega) HLL.out (by decide)).mono ?_
      rintro e w6 ⟨rfl, hdk, hch⟩
      rw [upF_none _ _ _ _ (survL_no L)] at hdk
      have K6 := Lib.hid hdk
      have R6 := Lib.hid (R5.out.chg hch (fun k hr hk => HA.out k (hk.elim .inl (fun h => .inr (.inl h))) hr))
      have B6 := Lib.hid (B5.out.trans (hch.below (fun k hk => (hk.elim (fun h => (K5.out.foot k (.inl h)).1) (fun h => (K5.out.foot k (.inr (.inl h))).1))) B5.out.size))
      clear hdk hch
      go_wp2_with fail
      refine (up_any _ _ _ 8 8 (-1) (-1) false f L _ (.slice none 0 0) [] _ R6.out ⟨none, 0, rfl, fun h => by simp at h⟩ (fun b o n c e _ => by cases e) HLL.out (by decide)).mono ?_
      rintro e w7 ⟨rfl, hdk, hch⟩
      rw [upF_none _ _ _ _ (survL_nil L)] at hdk
      have R7 := Lib.hid hdk
      have K7 := Lib.hid (K6.out.chg hch (fun k hk hr => HA.out k (hk.elim .inl (fun h => h.elim (fun h => .inr (.inl h)) (fun h => by cases h))) (hr.elim .inl (fun h => .inr (.inl h)))))
      have B7 := Lib.hid (B6.out.trans (hch.below (fun k hk => (hk.elim (fun h => (R6.out.foot k (.inl h)).1) (fun h => (R6.out.foot k (.inr (.inl h))).1))) B6.out.size))
      clear hdk hch
      generalize undoF f L = g at *
      have hz := zero35
      have HI35 := Lib.hid (show (Try.prog.info? 35).map (·.size) = some 256 by kernel_rfl)
      have SZ := Lib.hid (show (ArrU8 (zeros 256)).size = 256 by rw [ArrU8_size, zeros, List.length_replicate])
      go_wp2_with fail
      go_loopw [12] (fun iv wy => ∃ j : Nat, j ≤ 8 ∧ iv = .int .i64 (j : Int) ∧ Dk wy w.heap.size D1 M1 8 8 (-1) false g [] (.slice none 0 0) ∧ Dk wy w.heap.size D2' M2 8 8 (-1) false g [] (.slice none 0 0) ∧ Below w.heap.size w wy) (fun iv _ => 8 - (intOf iv).toNat)
      case atStart => exact ⟨0, by omega, rfl, K7.out, R7.out, B7.out⟩
      case round =>
        obtain ⟨j, hj, rfl, hk, hr, hb⟩ := hrel
        have KY := Lib.hid hk
        have RY := Lib.hid hr
        have BY := Lib.hid hb
        clear hk hr hb
        by_cases hjl : j < 8
        · have hjl2 : (j : Int) < 8 := by omega
          have HRD := Lib.hid (show rdF 8 (j : Int) false g = g j from by rw [rdF, if_neg (by simp), if_pos (by simp [hasB]; omega)])
          have HRE := Lib.hid (show readErr 8 (j : Int) false = 0 from by rw [readErr, if_neg (by simp), if_pos (by simp [hasB]; omega)])
          have hgl := KY.out.2.2.2.2.2.2.1 j
          have HGL := Lib.hid hgl
          have SG := Lib.hid (show (ArrU8 (g j)).size = 256 by rw [ArrU8_size, hgl])
          clear hgl
          go_wp2_with fail
          refine (read_dk _ _ _ 8 8 (-1) (j : Int) false _ _ _ _ KY.out).mono ?_
          rintro e wa ⟨he, hb⟩
          rw [HRD.out, HRE.out] at he
          subst he
          have XA := Lib.hid hb
          clear hb
          go_wp2_with (refine wpList_store_nw rfl 35 (Operand.tmp 13) (Operand.tmp 103) rfl wa _ 35 rfl wa.heap.size (ArrU8 (g j)) rfl rfl rfl (by rw [HI35.out, SG.out]) (by rw [SZ.out, SG.out]) (ArrU8_one _) ?_; intro wb hd hb hs; have QB := Lib.hid hd; have XB := Lib.hid hb; have SB := Lib.hid hs; clear hd hb hs)
          refine (read_dk _ _ _ 8 8 (-1) (j : Int) false _ _ _ _ ((RY.out.chg (Chg.fresh (F := fun _ => False) XA.out) (fun _ _ h => h)).chg (Chg.fresh (F := fun _ => False) XB.out) (fun _ _ h => h))).mono ?_
          rintro e wc ⟨he, hb⟩
          rw [HRD.out, HRE.out] at he
          subst he
          have XC := Lib.hid hb
          clear hb
          go_wp2_with (first
            | (refine wpList_store_nw rfl 35 (Operand.tmp 15) (Operand.tmp 109) rfl wc _ 35 rfl wc.heap.size (ArrU8 (g j)) rfl rfl rfl (by rw [HI35.out, SG.out]) (by rw [SZ.out, SG.out]) (ArrU8_one _) ?_; intro wd hd hb hs; have QD := Lib.hid hd; have XD := Lib.hid hb; have SD := Lib.hid hs; clear hd hb hs)
            | (refine wpList_load_row rfl 35 (Operand.tmp 13) rfl wa.heap.size rfl 35 (ArrU8 (g j)) (0, 0) _ ((XD.out.block wa.heap.size (by have := XC.out.size; have := SB.out; omega)).trans ((XC.out.block wa.heap.size (by have := SB.out; omega)).trans QB.out)) Try.underlying35 rfl (by rw [HI35.out, SG.out]) ?_)
            | (refine wpList_load_row rfl 35 (Operand.tmp 15) rfl wc.heap.size rfl 35 (ArrU8 (g j)) (0, 0) _ QD.out Try.underlying35 rfl (by rw [HI35.out, SG.out]) ?_)
            | (refine wpList_of_run rfl (exec_neq_blk (Operand.tmp 111) (Operand.tmp 112) 35 rfl (g j) (g j) rfl rfl HGL.out HGL.out false (by simp)) ?_))
          go_roundw
          case rel =>
            have hy : Below wr.heap.size wr wd := ((XA.out.trans (XB.out.mono XA.out.size)).trans (XC.out.mono (by have := XA.out.size; have := XB.out.size; omega))).trans (XD.out.mono (by have := XA.out.size; have := XB.out.size; have := XC.out.size; omega))
            exact ⟨j + 1, by omega, by go_num, KY.out.chg (Chg.fresh (F := fun _ => False) hy) (fun _ _ h => h), RY.out.chg (Chg.fresh (F := fun _ => False) hy) (fun _ _ h => h), BY.out.trans (hy.mono BY.out.size)⟩
          case measure => simp [intOf]; omega
        · obtain rfl : j = 8 := by omega
          go_wp2_with fail
          go_ret
          exact ⟨rfl, BY.out⟩
end Go.Proofs.Ytaklkjjoplfokaa
