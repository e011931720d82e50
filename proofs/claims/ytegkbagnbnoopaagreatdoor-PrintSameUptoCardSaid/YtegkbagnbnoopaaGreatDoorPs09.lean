/- the reference's Same, whole -/
import Derived.Test.YtegkbagnbnoopaaGreatDoorPs01
import Derived.Test.YtegkbagnbnoopaaGreatDoorPs05
import Derived.Test.YtegkbagnbnoopaaGreatDoorPs07
import Derived.Test.YtegkbagnbnoopaaGreatDoorPs08
import Derived.Test.YtegkbagnbnoopaaGreatDoorProg
import Derived.Shelf.Strings.Builder1
import Derived.Shelf.Strconv.Itoa0
import Derived.Shelf.Strconv.Itoa1
import Derived.Shelf.LaysM
import Derived.Shelf.Strconv.Itoa2
import Derived.Shelf.Strconv.Itoa3
import Derived.Shelf.Strconv.Itoa4
import Derived.Shelf.Strings.Search1
import Derived.Shelf.Strings.Search2
import Derived.Shelf.Strings.Search3
import Derived.Shelf.Strings.Count
import Derived.Shelf.Strings.Replace
namespace Go.Proofs.YtegkbagnbnoopaaGreatDoor
open Go.ChangeShapes Go.WideShapes Go.ChangeAt Go.RowKit Go.Deep
open Go.Lib (hid)
theorem size_dS (l : List Int) : Da.size (dS l) = (str l).size + 1 := rfl
theorem ex_args_lt2 (x : Ex) : Da.sizeK (exsDa x.args) + 1 < Da.sizeR x.da := by
 obtain ⟨_, _, _, _, _, _⟩ := x
 simp only [Ex.da, Ex.args, sizeR_cons, size_sl, sizeR_nil, size_dS]
 omega
theorem ex_qs_lt2 (x : Ex) : Da.sizeK (qusDa x.qs) + 1 < Da.sizeR x.da := by
 obtain ⟨_, _, _, _, _, _⟩ := x
 simp only [Ex.da, Ex.qs, sizeR_cons, size_sl, sizeR_nil, size_dS]
 omega
theorem qu_parts_lt2 (x : Qu) : Da.sizeK (qusDa x.parts) + 1 < Da.sizeR x.da := by
 obtain ⟨_, _, ⟨_, _, _, _, _, _⟩, _, _, _⟩ := x
 simp only [Qu.da, Se.da, Qu.parts, List.cons_append, List.nil_append, sizeR_cons, size_sl, sizeR_nil, size_dB]
 omega
theorem qu_sel_items_lt2 (x : Qu) : Da.sizeK (itsDa x.sel.items) + 1 < Da.sizeR x.da := by
 obtain ⟨_, _, ⟨_, _, _, _, _, _⟩, _, _, _⟩ := x
 simp only [Qu.da, Se.da, Qu.sel, Se.items, List.cons_append, List.nil_append, sizeR_cons, size_sl, sizeR_nil, size_dB]
 omega
theorem qu_sel_fro_lt2 (x : Qu) : Da.sizeK (sosDa x.sel.fro) + 1 < Da.sizeR x.da := by
 obtain ⟨_, _, ⟨_, _, _, _, _, _⟩, _, _, _⟩ := x
 simp only [Qu.da, Se.da, Qu.sel, Se.fro, List.cons_append, List.nil_append, sizeR_cons, size_sl, sizeR_nil, size_dB]
 omega
theorem qu_sel_wh_lt2 (x : Qu) : Da.sizeK (exsDa x.sel.wh) + 1 < Da.sizeR x.da := by
 obtain ⟨_, _, ⟨_, _, _, _, _, _⟩, _, _, _⟩ := x
 simp only [Qu.da, Se.da, Qu.sel, Se.wh, List.cons_append, List.nil_append, sizeR_cons, size_sl, sizeR_nil, size_dB]
 omega
theorem qu_sel_gr_lt2 (x : Qu) : Da.sizeK (exsDa x.sel.gr) + 1 < Da.sizeR x.da := by
 obtain ⟨_, _, ⟨_, _, _, _, _, _⟩, _, _, _⟩ := x
 simp only [Qu.da, Se.da, Qu.sel, Se.gr, List.cons_append, List.nil_append, sizeR_cons, size_sl, sizeR_nil, size_dB]
 omega
theorem qu_sel_hv_lt2 (x : Qu) : Da.sizeK (exsDa x.sel.hv) + 1 < Da.sizeR x.da := by
 obtain ⟨_, _, ⟨_, _, _, _, _, _⟩, _, _, _⟩ := x
 simp only [Qu.da, Se.da, Qu.sel, Se.hv, List.cons_append, List.nil_append, sizeR_cons, size_sl, sizeR_nil, size_dB]
 omega
theorem qu_ord_lt2 (x : Qu) : Da.sizeK (obsDa x.ord) + 1 < Da.sizeR x.da := by
 obtain ⟨_, _, ⟨_, _, _, _, _, _⟩, _, _, _⟩ := x
 simp only [Qu.da, Se.da, Qu.ord, List.cons_append, List.nil_append, sizeR_cons, size_sl, sizeR_nil, size_dB]
 omega
theorem so_q_lt2 (x : So) : Da.sizeK (qusDa x.q) + 1 < Da.sizeR x.da := by
 obtain ⟨_, _, _, _, _⟩ := x
 simp only [So.da, So.q, sizeR_cons, size_sl, sizeR_nil, size_dS]
 omega
theorem so_on_lt2 (x : So) : Da.sizeK (exsDa x.on) + 1 < Da.sizeR x.da := by
 obtain ⟨_, _, _, _, _⟩ := x
 simp only [So.da, So.on, sizeR_cons, size_sl, sizeR_nil, size_dS]
 omega
theorem sizeK_one (x : Ex) : Da.sizeK (exsDa [x]) = Da.sizeR x.da := rfl
theorem exsOK_one {x : Ex} (h : x.OK) : exsOK [x] := ⟨h, trivial⟩
theorem rsame_all : ∀ n : Nat, (∀ (r s : List Ex) (w : World) (va vb : Value), Da.sizeK (exsDa r) + 1 < n → Da.sizeK (exsDa r) ≤ 1073741824 → Da.sizeK (exsDa s) ≤ 1073741824 → exsOK r → exsOK s → DIs w va (.sl (exsDa r)) → DIs w vb (.sl (exsDa s)) → Calls Tryz.prog 16 #[va, vb] w (EQ w (r = s))) ∧ (∀ (r s : List Qu) (w : World) (va vb : Value), Da.sizeK (qusDa r) + 1 < n → Da.sizeK (qusDa r) ≤ 1073741824 → Da.sizeK (qusDa s) ≤ 1073741824 → qusOK r → qusOK s → DIs w va (.sl (qusDa r)) → DIs w vb (.sl (qusDa s)) → Calls Tryz.prog 17 #[va, vb] w (EQ w (r = s))) ∧ (∀ (r s : List So) (w : World) (va vb : Value), Da.sizeK (sosDa r) + 1 < n → Da.sizeK (sosDa r) ≤ 1073741824 → Da.sizeK (sosDa s) ≤ 1073741824 → sosOK r → sosOK s → DIs w va (.sl (sosDa r)) → DIs w vb (.sl (sosDa s)) → Calls Tryz.prog 33 #[va, vb] w (EQ w (r = s))) ∧ (∀ (x y : Qu) (w : World) (va vb : Value), Da.sizeR x.da < n → Da.sizeR x.da ≤ 1073741824 → Da.sizeR y.da ≤ 1073741824 → x.OK → y.OK → QuV w va x → QuV w vb y → Calls Tryz.prog 7 #[va, vb] w (EQ w (x = y))) := by
 intro n
 induction n with
 | zero => exact ⟨fun _ _ _ _ _ h => absurd h (Nat.not_lt_zero _), fun _ _ _ _ _ h => absurd h (Nat.not_lt_zero _), fun _ _ _ _ _ h => absurd h (Nat.not_lt_zero _), fun _ _ _ _ _ h => absurd h (Nat.not_lt_zero _)⟩
 | succ n ih =>
  obtain ⟨iE, iQ, iS, iM⟩ := ih
  refine ⟨fun r s w va vb hn hr hs okr oks h1 h2 => ?_, fun r s w va vb hn hr hs okr oks h1 h2 => ?_, fun r s w va vb hn hr hs okr oks h1 h2 => ?_, fun x y w va vb hn hx hy ox oy h1 h2 => ?_⟩
  ·refine rexprs_step va vb r s w h1 h2 (exs_len hr) (exs_len hs) okr oks (fun x hx y hy u a b _ ha hb => ?_) (fun x hx y hy u a b _ ha hb => ?_)
   ·have k1 := exs_mem hx
    have k2 := exs_mem hy
    have k3 := ex_args_lt2 x
    have k4 := ex_args_lt2 y
    exact iE _ _ u a b (by omega) (by omega) (by omega) (ex_args_ok (exsOK_mem okr x hx)) (ex_args_ok (exsOK_mem oks y hy)) ha hb
   ·have k1 := exs_mem hx
    have k2 := exs_mem hy
    have k3 := ex_qs_lt2 x
    have k4 := ex_qs_lt2 y
    exact iQ _ _ u a b (by omega) (by omega) (by omega) (ex_qs_ok (exsOK_mem okr x hx)) (ex_qs_ok (exsOK_mem oks y hy)) ha hb
  ·refine rqueries_step va vb r s w h1 h2 (qus_len hr) (qus_len hs) (fun x hx y hy u a b _ ha hb => ?_)
   have k1 := qus_mem hx
   have k2 := qus_mem hy
   exact iM x y u a b (by omega) (by omega) (by omega) (qusOK_mem okr x hx) (qusOK_mem oks y hy) ha hb
  ·refine rsources_step va vb r s w h1 h2 (sos_len hr) (sos_len hs) okr oks (fun x hx y hy u a b _ ha hb => ?_) (fun x hx y hy u a b _ ha hb => ?_)
   ·have k1 := sos_mem hx
    have k2 := sos_mem hy
    have k3 := so_q_lt2 x
    have k4 := so_q_lt2 y
    exact iQ _ _ u a b (by omega) (by omega) (by omega) (so_q_ok (sosOK_mem okr x hx)) (so_q_ok (sosOK_mem oks y hy)) ha hb
   ·have k1 := sos_mem hx
    have k2 := sos_mem hy
    have k3 := so_on_lt2 x
    have k4 := so_on_lt2 y
    exact iE _ _ u a b (by omega) (by omega) (by omega) (so_on_ok (sosOK_mem okr x hx)) (so_on_ok (sosOK_mem oks y hy)) ha hb
  ·have zx := qu_ord_lt2 x
   have zy := qu_ord_lt2 y
   refine rsame_step x y w va vb h1 h2 (obs_len (by omega)) (obs_len (by omega)) (fun x' hx' y' hy' u a b _ ha hb => ?_) (fun u a b _ ha hb => ?_) (fun u a b _ ha hb => ?_)
   ·have k1 := obs_mem hx'
    have k2 := obs_mem hy'
    have k3 := ob_x_lt x'
    have k4 := ob_x_lt y'
    have k5 := sizeK_one x'.x
    have k6 := sizeK_one y'.x
    exact iE _ _ u a b (by omega) (by omega) (by omega) (exsOK_one (ob_x_ok (obsOK_mem (qu_ord_ok ox) x' hx'))) (exsOK_one (ob_x_ok (obsOK_mem (qu_ord_ok oy) y' hy'))) ha hb
   ·have k3 := qu_parts_lt2 x
    have k4 := qu_parts_lt2 y
    exact iQ _ _ u a b (by omega) (by omega) (by omega) (qu_parts_ok ox) (qu_parts_ok oy) ha hb
   ·have zi := qu_sel_items_lt2 x
    have zj := qu_sel_items_lt2 y
    refine rselects_step x.sel y.sel u a b ha hb (se_items_ok (qu_sel_ok ox)) (se_items_ok (qu_sel_ok oy)) (its_len (by omega)) (its_len (by omega)) (fun x' hx' y' hy' u a b _ ha hb => ?_) (fun u a b _ ha hb => ?_) (fun u a b _ ha hb => ?_) (fun u a b _ ha hb => ?_) (fun u a b _ ha hb => ?_)
    ·have k1 := its_mem hx'
     have k2 := its_mem hy'
     have k3 := it_x_lt x'
     have k4 := it_x_lt y'
     have k5 := sizeK_one x'.x
     have k6 := sizeK_one y'.x
     exact iE _ _ u a b (by omega) (by omega) (by omega) (exsOK_one (it_x_ok (itsOK_mem (se_items_ok (qu_sel_ok ox)) x' hx'))) (exsOK_one (it_x_ok (itsOK_mem (se_items_ok (qu_sel_ok oy)) y' hy'))) ha hb
    ·have k3 := qu_sel_fro_lt2 x
     have k4 := qu_sel_fro_lt2 y
     exact iS _ _ u a b (by omega) (by omega) (by omega) (se_fro_ok (qu_sel_ok ox)) (se_fro_ok (qu_sel_ok oy)) ha hb
    ·have k3 := qu_sel_wh_lt2 x
     have k4 := qu_sel_wh_lt2 y
     exact iE _ _ u a b (by omega) (by omega) (by omega) (se_wh_ok (qu_sel_ok ox)) (se_wh_ok (qu_sel_ok oy)) ha hb
    ·have k3 := qu_sel_gr_lt2 x
     have k4 := qu_sel_gr_lt2 y
     exact iE _ _ u a b (by omega) (by omega) (by omega) (se_gr_ok (qu_sel_ok ox)) (se_gr_ok (qu_sel_ok oy)) ha hb
    ·have k3 := qu_sel_hv_lt2 x
     have k4 := qu_sel_hv_lt2 y
     exact iE _ _ u a b (by omega) (by omega) (by omega) (se_hv_ok (qu_sel_ok ox)) (se_hv_ok (qu_sel_ok oy)) ha hb
/-- the reference's Same: whether two queries are the same tree -/
theorem rsame_any (x y : Qu) (w : World) (va vb : Value) (hx : Da.sizeR x.da ≤ 1073741824) (hy : Da.sizeR y.da ≤ 1073741824) (ox : x.OK) (oy : y.OK) (h1 : QuV w va x) (h2 : QuV w vb y) : Calls Tryz.prog 7 #[va, vb] w (EQ w (x = y)) :=
 (rsame_all _).2.2.2 x y w va vb (Nat.lt_succ_self _) hx hy ox oy h1 h2
end Go.Proofs.YtegkbagnbnoopaaGreatDoor
/- what the library is at this program: strings.Builder, strconv.FormatInt, strings.ReplaceAll -/
namespace Go.Proofs
open Go.Shelf
open Go.Lib (hid)
def Tryz.lays170_ren : Go.Shelf.Ren := ⟨fun | 170 => 36 | n => n, fun | 70 => 83 | 3 => 3 | 0 => 0 | 72 => 86 | 37 => 84 | 5 => 5 | n => n, fun | n => n⟩
theorem Tryz.lays170 : Go.Proofs.Lays.n170 Tryz.prog Tryz.lays170_ren := {
  mixed := by kernel_rfl
  f170 := Tryz.func36.trans (congrArg some (by kernel_rfl))
  t0 := Tryz.underlying0
  a0 := Tryz.isAgg0
  z0 := Tryz.sizeOf0
  v0 := Tryz.zeroValue0
  t3 := Tryz.underlying3
  a3 := Tryz.isAgg3
  z3 := Tryz.sizeOf3
  v3 := Tryz.zeroValue3
  t37 := Tryz.underlying84
  a37 := Tryz.isAgg84
  z37 := Tryz.sizeOf84
  v37 := Tryz.zeroValue84
  t70 := Tryz.underlying83
  a70 := Tryz.isAgg83
  z70 := Tryz.sizeOf83
  v70 := Tryz.zeroValue83
  t72 := Tryz.underlying86
  a72 := Tryz.isAgg86
  z72 := Tryz.sizeOf86
  v72 := Tryz.zeroValue86 }
open Go.RowKit in
theorem Tryz.Builder_Len (B b : Nat) (bs : List Value) (w : World) (h : Lib.IsBuilder 86 5 B b bs w) :
  Calls Tryz.prog 36 #[.pointer (some ⟨b, 0, none⟩)] w fun e w' => e = .returned (.int .i64 bs.length) ∧ w' = w := Any.Builder_Len Tryz.lays170 B b bs w h
def Tryz.lays169_ren : Go.Shelf.Ren := ⟨fun | 169 => 37 | n => n, fun | 70 => 83 | 9 => 9 | 0 => 0 | 72 => 86 | 37 => 84 | 127 => 118 | 3 => 3 | 5 => 5 | n => n, fun | n => n⟩
theorem Tryz.lays169 : Go.Proofs.Lays.n169 Tryz.prog Tryz.lays169_ren := {
  mixed := by kernel_rfl
  f169 := Tryz.func37.trans (congrArg some (by kernel_rfl))
  t0 := Tryz.underlying0
  a0 := Tryz.isAgg0
  z0 := Tryz.sizeOf0
  v0 := Tryz.zeroValue0
  t3 := Tryz.underlying3
  a3 := Tryz.isAgg3
  z3 := Tryz.sizeOf3
  v3 := Tryz.zeroValue3
  t9 := Tryz.underlying9
  a9 := Tryz.isAgg9
  z9 := Tryz.sizeOf9
  v9 := Tryz.zeroValue9
  t37 := Tryz.underlying84
  a37 := Tryz.isAgg84
  z37 := Tryz.sizeOf84
  v37 := Tryz.zeroValue84
  t70 := Tryz.underlying83
  a70 := Tryz.isAgg83
  z70 := Tryz.sizeOf83
  v70 := Tryz.zeroValue83
  t72 := Tryz.underlying86
  a72 := Tryz.isAgg86
  z72 := Tryz.sizeOf86
  v72 := Tryz.zeroValue86
  t127 := Tryz.underlying118
  a127 := Tryz.isAgg118
  z127 := Tryz.sizeOf118
  v127 := Tryz.zeroValue118 }
theorem Tryz.Builder_Extra_169 : Builder.Extra Tryz.prog Tryz.lays169_ren := {
  sizeBuilder := by kernel_rfl
  liesBuilder := by kernel_rfl
  t5 := Tryz.underlying5
  a5 := Tryz.isAgg5
  z5 := Tryz.sizeOf5
  v5 := Tryz.zeroValue5
  infoByte := by kernel_rfl
  cellsByte := by kernel_rfl
  sizeByte := by kernel_rfl
  neB5 := by decide }
open Go.RowKit in
theorem Tryz.Builder_String_any (B b : Nat) (l : List UInt8) (w : World) (h : Lib.IsBuilder 86 5 B b (Lib.byteCells l) w) (hBw : B ≤ w.heap.size) :
  Calls Tryz.prog 37 #[.pointer (some ⟨b, 0, none⟩)] w fun e w' => e = .returned (.string ⟨l.toArray⟩) ∧ Below B w w' := Any.Builder_String_any Tryz.lays169 Tryz.Builder_Extra_169 B b l w h hBw
def Tryz.laysM173_ren : Go.Shelf.Ren := ⟨fun | 173 => 50 | 246 => 75 | 283 => 96 | 284 => 97 | 285 => 98 | 286 => 99 | 129 => 112 | 317 => 111 | 318 => 113 | 319 => 114 | 320 => 115 | 337 => 125 | 338 => 126 | n => n, fun | 2 => 2 | 3 => 3 | 9 => 9 | 4 => 4 | 171 => 143 | 0 => 0 | 53 => 144 | 37 => 84 | 5 => 5 | 173 => 147 | 212 => 160 | 51 => 161 | 20 => 20 | 213 => 162 | 46 => 164 | 232 => 173 | 233 => 174 | n => n, fun | 17 => 5 | 18 => 6 | 19 => 7 | n => n⟩
theorem Tryz.laysM173 : Go.Proofs.LaysM.n173 Tryz.prog Tryz.laysM173_ren := {
  mixed := by kernel_rfl
  f129 := Tryz.func112.trans (congrArg some (by kernel_rfl))
  f173 := Tryz.func50.trans (congrArg some (by kernel_rfl))
  f246 := Tryz.func75.trans (congrArg some (by kernel_rfl))
  f283 := Tryz.func96.trans (congrArg some (by kernel_rfl))
  f284 := Tryz.func97.trans (congrArg some (by kernel_rfl))
  f285 := Tryz.func98.trans (congrArg some (by kernel_rfl))
  f286 := Tryz.func99.trans (congrArg some (by kernel_rfl))
  f317 := Tryz.func111.trans (congrArg some (by kernel_rfl))
  f318 := Tryz.func113.trans (congrArg some (by kernel_rfl))
  f319 := Tryz.func114.trans (congrArg some (by kernel_rfl))
  f320 := Tryz.func115.trans (congrArg some (by kernel_rfl))
  f337 := Tryz.func125.trans (congrArg some (by kernel_rfl))
  f338 := Tryz.func126.trans (congrArg some (by kernel_rfl))
  t0 := Tryz.underlying0
  a0 := Tryz.isAgg0
  z0 := Tryz.sizeOf0
  v0 := Tryz.zeroValue0
  t2 := Tryz.underlying2
  a2 := Tryz.isAgg2
  z2 := Tryz.sizeOf2
  v2 := Tryz.zeroValue2
  t3 := Tryz.underlying3
  a3 := Tryz.isAgg3
  z3 := Tryz.sizeOf3
  v3 := Tryz.zeroValue3
  t4 := Tryz.underlying4
  a4 := Tryz.isAgg4
  z4 := Tryz.sizeOf4
  v4 := Tryz.zeroValue4
  t5 := Tryz.underlying5
  a5 := Tryz.isAgg5
  z5 := Tryz.sizeOf5
  v5 := Tryz.zeroValue5
  t9 := Tryz.underlying9
  a9 := Tryz.isAgg9
  z9 := Tryz.sizeOf9
  v9 := Tryz.zeroValue9
  t20 := Tryz.underlying20
  a20 := Tryz.isAgg20
  z20 := Tryz.sizeOf20
  v20 := Tryz.zeroValue20
  t37 := Tryz.underlying84
  a37 := Tryz.isAgg84
  z37 := Tryz.sizeOf84
  v37 := Tryz.zeroValue84
  t46 := Tryz.underlying164
  a46 := Tryz.isAgg164
  z46 := Tryz.sizeOf164
  v46 := Tryz.zeroValue164
  t51 := Tryz.underlying161
  a51 := Tryz.isAgg161
  z51 := Tryz.sizeOf161
  v51 := Tryz.zeroValue161
  t53 := Tryz.underlying144
  a53 := Tryz.isAgg144
  z53 := Tryz.sizeOf144
  v53 := Tryz.zeroValue144
  t171 := Tryz.underlying143
  a171 := Tryz.isAgg143
  z171 := Tryz.sizeOf143
  v171 := Tryz.zeroValue143
  t173 := Tryz.underlying147
  a173 := Tryz.isAgg147
  z173 := Tryz.sizeOf147
  v173 := Tryz.zeroValue147
  t212 := Tryz.underlying160
  a212 := Tryz.isAgg160
  z212 := Tryz.sizeOf160
  v212 := Tryz.zeroValue160
  t213 := Tryz.underlying162
  a213 := Tryz.isAgg162
  z213 := Tryz.sizeOf162
  t232 := Tryz.underlying173
  a232 := Tryz.isAgg173
  z232 := Tryz.sizeOf173
  v232 := Tryz.zeroValue173
  t233 := Tryz.underlying174
  a233 := Tryz.isAgg174
  z233 := Tryz.sizeOf174
  v233 := Tryz.zeroValue174
  g17 := by kernel_rfl
  g18 := by kernel_rfl
  g19 := by kernel_rfl
  i0 := by kernel_rfl
  i2 := by kernel_rfl
  i3 := by kernel_rfl
  i4 := by kernel_rfl
  i5 := by kernel_rfl
  i9 := by kernel_rfl
  i20 := by kernel_rfl
  i37 := by kernel_rfl
  i46 := by kernel_rfl
  i51 := by kernel_rfl
  i53 := by kernel_rfl
  i171 := by kernel_rfl
  i173 := by kernel_rfl
  i212 := by kernel_rfl
  i232 := by kernel_rfl
  i233 := by kernel_rfl
  m17 := by kernel_rfl
  m18 := by kernel_rfl
  m19 := by kernel_rfl }
open Go.RowKit Go.Sort Go.Lib in
theorem Tryz.strconv_FormatInt_10 (n : Int) (h0 : -9223372036854775808 ≤ n) (h1 : n ≤ 9223372036854775807) (w : World) (htab : Lib.TabIs Tryz.prog w "internal/strconv.uint64pow10" .u64 Lib.pow10Tab) :
  Calls Tryz.prog 50 #[.int .i64 n, .int .i64 10] w fun e w' => e = .returned (.string ⟨(Lib.itoa n).toArray⟩) ∧ ∃ k os, w' = grow (w.drewN k) os := Any.strconv_FormatInt_10 Tryz.laysM173 n h0 h1 w htab
def Tryz.lays155_ren : Go.Shelf.Ren := ⟨fun | 155 => 127 | 154 => 129 | 138 => 131 | 165 => 132 | 143 => 133 | 166 => 35 | 197 => 134 | 169 => 37 | 195 => 135 | 218 => 136 | 240 => 65 | 241 => 137 | 219 => 138 | 260 => 139 | 276 => 86 | 277 => 140 | 217 => 141 | 225 => 142 | 224 => 143 | 267 => 144 | 266 => 145 | 314 => 146 | n => n, fun | 9 => 9 | 3 => 3 | 4 => 4 | 72 => 86 | 0 => 0 | 76 => 127 | 105 => 178 | 21 => 21 | 5 => 5 | 70 => 83 | 20 => 20 | 37 => 84 | 75 => 117 | 127 => 118 | 164 => 136 | 46 => 164 | 119 => 183 | 139 => 186 | 138 => 185 | 146 => 187 | 51 => 161 | 80 => 91 | n => n, fun | 1 => 8 | 3 => 9 | 4 => 10 | n => n⟩
theorem Tryz.lays155 : Go.Proofs.Lays.n155 Tryz.prog Tryz.lays155_ren := {
  mixed := by kernel_rfl
  f138 := Tryz.func131.trans (congrArg some (by kernel_rfl))
  f143 := Tryz.func133.trans (congrArg some (by kernel_rfl))
  f154 := Tryz.func129.trans (congrArg some (by kernel_rfl))
  f155 := Tryz.func127.trans (congrArg some (by kernel_rfl))
  f165 := Tryz.func132.trans (congrArg some (by kernel_rfl))
  f166 := Tryz.func35.trans (congrArg some (by kernel_rfl))
  f169 := Tryz.func37.trans (congrArg some (by kernel_rfl))
  f195 := Tryz.func135.trans (congrArg some (by kernel_rfl))
  f197 := Tryz.func134.trans (congrArg some (by kernel_rfl))
  f217 := Tryz.func141.trans (congrArg some (by kernel_rfl))
  f218 := Tryz.func136.trans (congrArg some (by kernel_rfl))
  f219 := Tryz.func138.trans (congrArg some (by kernel_rfl))
  f224 := Tryz.func143.trans (congrArg some (by kernel_rfl))
  f225 := Tryz.func142.trans (congrArg some (by kernel_rfl))
  f240 := Tryz.func65.trans (congrArg some (by kernel_rfl))
  f241 := Tryz.func137.trans (congrArg some (by kernel_rfl))
  f260 := Tryz.func139.trans (congrArg some (by kernel_rfl))
  f266 := Tryz.func145.trans (congrArg some (by kernel_rfl))
  f267 := Tryz.func144.trans (congrArg some (by kernel_rfl))
  f276 := Tryz.func86.trans (congrArg some (by kernel_rfl))
  f277 := Tryz.func140.trans (congrArg some (by kernel_rfl))
  f314 := Tryz.func146.trans (congrArg some (by kernel_rfl))
  t0 := Tryz.underlying0
  a0 := Tryz.isAgg0
  z0 := Tryz.sizeOf0
  v0 := Tryz.zeroValue0
  t3 := Tryz.underlying3
  a3 := Tryz.isAgg3
  z3 := Tryz.sizeOf3
  v3 := Tryz.zeroValue3
  t4 := Tryz.underlying4
  a4 := Tryz.isAgg4
  z4 := Tryz.sizeOf4
  v4 := Tryz.zeroValue4
  t5 := Tryz.underlying5
  a5 := Tryz.isAgg5
  z5 := Tryz.sizeOf5
  v5 := Tryz.zeroValue5
  t9 := Tryz.underlying9
  a9 := Tryz.isAgg9
  z9 := Tryz.sizeOf9
  v9 := Tryz.zeroValue9
  t20 := Tryz.underlying20
  a20 := Tryz.isAgg20
  z20 := Tryz.sizeOf20
  v20 := Tryz.zeroValue20
  t21 := Tryz.underlying21
  a21 := Tryz.isAgg21
  z21 := Tryz.sizeOf21
  v21 := Tryz.zeroValue21
  t37 := Tryz.underlying84
  a37 := Tryz.isAgg84
  z37 := Tryz.sizeOf84
  v37 := Tryz.zeroValue84
  t46 := Tryz.underlying164
  a46 := Tryz.isAgg164
  z46 := Tryz.sizeOf164
  v46 := Tryz.zeroValue164
  t51 := Tryz.underlying161
  a51 := Tryz.isAgg161
  z51 := Tryz.sizeOf161
  v51 := Tryz.zeroValue161
  t70 := Tryz.underlying83
  a70 := Tryz.isAgg83
  z70 := Tryz.sizeOf83
  v70 := Tryz.zeroValue83
  t72 := Tryz.underlying86
  a72 := Tryz.isAgg86
  z72 := Tryz.sizeOf86
  v72 := Tryz.zeroValue86
  t75 := Tryz.underlying117
  a75 := Tryz.isAgg117
  z75 := Tryz.sizeOf117
  v75 := Tryz.zeroValue117
  t76 := Tryz.underlying127
  a76 := Tryz.isAgg127
  z76 := Tryz.sizeOf127
  v76 := Tryz.zeroValue127
  t105 := Tryz.underlying178
  a105 := Tryz.isAgg178
  z105 := Tryz.sizeOf178
  v105 := Tryz.zeroValue178
  t119 := Tryz.underlying183
  a119 := Tryz.isAgg183
  z119 := Tryz.sizeOf183
  t127 := Tryz.underlying118
  a127 := Tryz.isAgg118
  z127 := Tryz.sizeOf118
  v127 := Tryz.zeroValue118
  t138 := Tryz.underlying185
  a138 := Tryz.isAgg185
  z138 := Tryz.sizeOf185
  v138 := Tryz.zeroValue185
  t139 := Tryz.underlying186
  a139 := Tryz.isAgg186
  z139 := Tryz.sizeOf186
  v139 := Tryz.zeroValue186
  t146 := Tryz.underlying187
  a146 := Tryz.isAgg187
  z146 := Tryz.sizeOf187
  v146 := Tryz.zeroValue187
  t164 := Tryz.underlying136
  a164 := Tryz.isAgg136
  z164 := Tryz.sizeOf136
  v164 := Tryz.zeroValue136
  g1 := by kernel_rfl
  g3 := by kernel_rfl
  g4 := by kernel_rfl }
theorem Tryz.Builder_Extra_155 : Builder.Extra Tryz.prog Tryz.lays155_ren := {
  sizeBuilder := by kernel_rfl
  liesBuilder := by kernel_rfl
  t5 := Tryz.underlying5
  a5 := Tryz.isAgg5
  z5 := Tryz.sizeOf5
  v5 := Tryz.zeroValue5
  infoByte := by kernel_rfl
  cellsByte := by kernel_rfl
  sizeByte := by kernel_rfl
  neB5 := by decide }
open Go.RowKit Go.Lib in
theorem Tryz.strings_ReplaceAll (s old new : ByteArray) (m : Int) (w : World) (hs : s.size < 4294967281) (hm : w.cell? ⟨8, 0, none⟩ = some (.int .i64 m)) (h1 : 1 ≤ old.size) (hlen : s.size + Lib.countB s old * new.size ≤ 140737488355328) :
  Calls Tryz.prog 127 #[.string s, .string old, .string new] w fun e w' =>
   e = .returned (.string ⟨(Lib.replaceAll s.data.toList old.data.toList new.data.toList).toArray⟩) ∧ Below w.heap.size w w' := Any.strings_ReplaceAll Tryz.lays155 Tryz.Builder_Extra_155 s old new m w hs hm h1 hlen
end Go.Proofs
/- the checker of print, as a plain function -/
namespace Go.Proofs.YtegkbagnbnoopaaGreatDoor
def lett (c : Int) : Bool := decide (97 ≤ c) && decide (c ≤ 122)
def digt (c : Int) : Bool := decide (48 ≤ c) && decide (c ≤ 57)
def wordsL : List (List Int) := [[115, 101, 108, 101, 99, 116], [100, 105, 115, 116, 105, 110, 99, 116], [102, 114, 111, 109], [106, 111, 105, 110], [108, 101, 102, 116], [111, 110], [119, 104, 101, 114, 101], [103, 114, 111, 117, 112], [98, 121], [104, 97, 118, 105, 110, 103], [111, 114, 100, 101, 114], [100, 101, 115, 99], [108, 105, 109, 105, 116], [117, 110, 105, 111, 110], [97, 108, 108], [101, 120, 99, 101, 112, 116], [97, 115], [97, 110, 100], [111, 114], [110, 111, 116], [110, 117, 108, 108], [116, 114, 117, 101], [102, 97, 108, 115, 101], [105, 115], [105, 110], [101, 120, 105, 115, 116, 115], [99, 111, 117, 110, 116], [115, 117, 109], [109, 105, 110], [109, 97, 120], [99, 114, 101, 97, 116, 101], [116, 97, 98, 108, 101], [118, 105, 101, 119], [105, 110, 116], [116, 101, 120, 116], [98, 111, 111, 108], [112, 114, 105, 109, 97, 114, 121], [107, 101, 121], [105, 110, 115, 101, 114, 116], [105, 110, 116, 111], [118, 97, 108, 117, 101, 115], [100, 101, 108, 101, 116, 101], [117, 112, 100, 97, 116, 101], [115, 101, 116], [99, 111, 109, 109, 105, 116], [97, 98, 111, 114, 116]]
def isWord (l : List Int) : Bool := wordsL.any (fun x => decide (l = x))
theorem rngB {l : List Int} (h : l.all (fun x => decide (0 ≤ x) && decide (x < 256)) = true) : Rng l := fun x hx => by have := List.all_eq_true.1 h x hx; simpa using this
def isName (l : List Int) : Bool := match l with
 | [] => false
 | c :: r => decide (r.length ≤ 15) && (lett c && ((c :: r).all (fun c => lett c || digt c) && !isWord (c :: r)))
/-- a checker's state -/
structure Ck where
 op : Int
 nd : Int
 dp : Bool
 ml : Bool
 ms : Bool
 iv : Bool
def Ck.req (s : Ck) (b : Bool) : Ck := ⟨s.op, s.nd, s.dp, s.ml || !b, s.ms, s.iv⟩
def Ck.nam (s : Ck) (l : List Int) : Ck := ⟨s.op, s.nd, s.dp, s.ml, s.ms || !isName l, s.iv⟩
def Ck.opt (s : Ck) (l : List Int) : Ck := if l = [] then s else s.nam l
def Ck.inv (s : Ck) (b : Bool) : Ck := ⟨s.op, s.nd, s.dp, s.ml, s.ms, s.iv || !b⟩
def Ck.more (s : Ck) : Ck := ⟨s.op, s.nd + 1, s.dp, s.ml, s.ms, s.iv⟩
def Ck.enter (s : Ck) : Ck := ⟨s.op + 1, s.nd + 1, s.dp || decide (24 < s.op + 1), s.ml, s.ms, s.iv⟩
def Ck.leave (s : Ck) : Ck := ⟨s.op - 1, s.nd, s.dp, s.ml, s.ms, s.iv⟩
/-- how many arguments and queries an expression has -/
def partsF (op : Int) : Int × Int × Bool :=
 if op = 1 ∨ op = 2 ∨ op = 21 then (0, 0, true)
 else if op = 4 ∨ op = 16 ∨ op = 19 ∨ op = 20 ∨ op = 22 ∨ op = 23 ∨ op = 24 ∨ op = 25 then (1, 0, true)
 else if op = 5 ∨ op = 6 ∨ op = 7 ∨ op = 8 ∨ op = 9 ∨ op = 10 ∨ op = 11 ∨ op = 12 ∨ op = 13 ∨ op = 14 ∨ op = 15 ∨ op = 17 ∨ op = 18 then (2, 0, true)
 else if op = 26 ∨ op = 27 then (0, 1, true)
 else if op = 28 ∨ op = 29 then (1, 1, true)
 else (0, 0, false)
def vZ : Val := ⟨0, 0, []⟩
def hasF (op : Int) (tb nm : List Int) (v : Val) (na nq : Nat) : Bool :=
 (partsF op).2.2 && (decide ((na : Int) = (partsF op).1) && (decide ((nq : Int) = (partsF op).2.1) && ((decide (op = 1) || decide (v = vZ)) && (decide (op = 2) || (decide (tb = []) && decide (nm = []))))))
def zE : Ex := .mk 0 [] [] vZ [] []
def zS : Se := .mk false [] [] [] [] []
def Ex.isZ : Ex → Bool
 | .mk op tb nm v args qs => decide (op = 0) && (decide (tb = []) && (decide (nm = []) && (decide (v = vZ) && (args.isEmpty && qs.isEmpty))))
def Se.isZ : Se → Bool
 | .mk d i f w g h => !d && (i.isEmpty && (f.isEmpty && (w.isEmpty && (g.isEmpty && h.isEmpty))))
def joinsOK (first : Bool) (kind : Int) (non : Nat) : Bool :=
 if first then decide (kind = 0) && decide (non = 0) else (decide (kind = 1) || decide (kind = 2)) && decide (non = 1)
mutual
def Ex.ck : Ex → Ck → Ck
 | .mk op tb nm v args qs, s =>
  (if s.enter.dp = true then s.enter else
   qusCk qs (exsCk args (if op = 1 then (s.enter.req (hasF op tb nm v args.length qs.length)).inv (mayV v) else if op = 2 then ((s.enter.req (hasF op tb nm v args.length qs.length)).opt tb).nam nm else s.enter.req (hasF op tb nm v args.length qs.length)))).leave
def exsCk : List Ex → Ck → Ck
 | [], s => s
 | x :: l, s => exsCk l (x.ck s)
def Qu.ck : Qu → Ck → Ck
 | .mk op parts sel ord lim n, s =>
  (if s.enter.dp = true then s.enter else
   obsCk ord (sel.ck (qusCk parts ((s.enter.req (decide (n = 0) || (lim && decide (0 < n)))).req
    (if op = 1 then parts.isEmpty && (!sel.items.isEmpty && !sel.fro.isEmpty) else if op = 2 ∨ op = 3 then decide (parts.length = 2) && sel.isZ else false))))).leave
def qusCk : List Qu → Ck → Ck
 | [], s => s
 | x :: l, s => qusCk l (x.ck (s.req (x.ord.isEmpty && !x.lim)))
def Se.ck : Se → Ck → Ck
 | .mk _ items fro wh gr hv, s => exsCk hv ((exsCk gr (exsCk wh ((sosCk true fro (itsCk items s)).req (decide (wh.length ≤ 1))))).req (decide (hv.length ≤ 1)))
def It.ck : It → Ck → Ck
 | .mk star x nm, s => if star = true ∧ x.isZ = true then (s.more.opt nm).req (decide (nm = [])) else x.ck ((s.more.opt nm).req (!star))
def itsCk : List It → Ck → Ck
 | [], s => s
 | x :: l, s => itsCk l (x.ck s)
def So.ck : So → Ck → Ck
 | .mk _ tb q al on, s => exsCk on (qusCk q ((if q = [] then s.more.nam tb else s.more.req (decide (tb = []) && (decide (q.length = 1) && decide (al ≠ [])))).opt al))
def sosCk : Bool → List So → Ck → Ck
 | _, [], s => s
 | f, x :: l, s => sosCk false l (x.ck (s.req (joinsOK f x.kind x.on.length)))
def Ob.ck : Ob → Ck → Ck
 | .mk x _, s => x.ck s.more
def obsCk : List Ob → Ck → Ck
 | [], s => s
 | x :: l, s => obsCk l (x.ck s)
end
/-- the first error -/
def Ck.first (s : Ck) : Int := if s.dp = true then 13 else if 512 < s.nd then 3 else if s.ml = true then 5 else if s.ms = true then 20 else if s.iv = true then 22 else 0
def ck0 : Ck := ⟨0, 0, false, false, false, false⟩
end Go.Proofs.YtegkbagnbnoopaaGreatDoor
