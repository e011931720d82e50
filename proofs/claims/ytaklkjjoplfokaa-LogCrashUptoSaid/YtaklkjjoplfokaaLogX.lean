import Derived.Test.YtaklkjjoplfokaaLogW
import Derived.WalkKit
import Derived.ProofKit
import Derived.BigQuiet
import Derived.Deep.QuietTactic
import Derived.WalkSpells
import Derived.WalkLawsBesides
import Derived.Lib.Hide
import Derived.Deep.MidRow
import Derived.Deep.RegionLaw
import Derived.BigRegion
import Derived.Laws.AppendOwnNone
import Derived.Deep.DeepMust
import Derived.Deep.AppendLies
import Derived.RegionTactic
import Derived.Deep.WholeRow
import Derived.BigFrame
import Derived.Deep.RegionWith
import Derived.Deep.RegionHeld3
import Derived.Maps.RangeWalk
import Derived.Laws.CopyOwn
import Derived.StillTailTactics

namespace Go.Proofs.Ytaklkjjoplfokaa
open Go.RowKit
theorem wpList_append_liesG {P : Program} {w : World} {ops : Array Oper} {rest : List Oper} {o : Oper} {a : Act} {Q : Exit → Act → World → Prop} (hw : Region.wanted o (yielded ops a.tmps) = true) (s x : Operand) (t : TypeId)
    (ho : o.op = .call { callee := .builtin .append, args := #[s, x], argTypes := #[t, t] })
    (base : Nat) (e : TypeId) (i : TypeInfo) (z : Value) (size bytes : Nat) (ht : P.underlying t = some (.slice e)) (hi : P.info? e = some i) (hz : i.zero = some z)
    (hsize : i.size = size) (hby : i.bytes = bytes) (hzs : z.cells.size = size) (hsz : 0 < size)
    (v : Value) (n : Nat) (xs : List Value) (hs : a.eval s = v) (hown : w.ownsRow base e size v n xs)
    (ad : Addr) (m c : Nat) (news : List Value) (hx : a.eval x = .slice (some ad) m c) (hl : news.length = m * size) (hnews : ∀ j u, news[j]? = some u → w.cell? (ad.add j) = some u) (h1 : ∀ u ∈ news, u.oneCell' = true)
    (hm : 0 < m) (h63 : n + m ≤ maxLen) (hbytes : (n + m) * bytes ≤ 140737488355328) (hbase : base ≤ w.heap.size) (H : Nat) (hH : w.heap.size = H)
    (h : ∀ g cap w', w'.ownsRow base e size (.slice (some ⟨g, 0, none⟩) (n + m) cap) (n + m) (xs ++ news) → w.grownBy w' v.ownBlock → (v.ownBlock = some g ∨ g = H) → g < w'.heap.size → wpList P ops Q rest (a.put o.dst (.slice (some ⟨g, 0, none⟩) (n + m) cap)) w') : wpList P ops Q (o :: rest) a w :=
  wpList_step fun K hK => by
    rw [if_pos hw]
    exact wp_append_lies w s x t ho base e i z size bytes ht hi hz hsize hby hzs hsz v n xs hs hown ad m c news hx hl hnews h1 hm h63 hbytes hbase H hH fun g cap w' h2 h3 h4 h5 => hK _ _ (h g cap w' h2 h3 h4 h5)
set_option maxRecDepth 20000 in
/-- append([]T{}, l...): a copy of a list of slices, in a block of its own -/
theorem wpList_copyW {ops : Array Oper} {rest : List Oper} {o : Oper} {a : Act} {Q : Exit → Act → World → Prop} (hgd : o.guard = none) (s x : Operand)
    (ho : o.op = .call { callee := .builtin .append, args := #[s, x], argTypes := #[67, 67] }) (B : Nat) (w : World) (fv : Value) (rs : List (List Int))
    (hs : a.eval s = .slice (some ⟨w.heap.size, 0, none⟩) 0 0) (hx : a.eval x = fv) (how : OwnW w B fv rs) (hl : rs.length ≤ 1048576) (hB : B ≤ w.heap.size)
    (h : ∀ v' w', OwnW w' B v' rs → (∀ g, v'.ownBlock = some g → w.heap.size ≤ g) → Below w.heap.size w w' → wpList Try.prog ops Q rest (a.put o.dst v') w') :
    wpList Try.prog ops Q (o :: rest) a (w.alloc (.cells #[] 62)) := by
  obtain ⟨i0, hinf, hz0, hz1, hz2⟩ := info_parts info62
  have hb0 : Below w.heap.size w (w.alloc (.cells #[] 62)) := (Below.refl _ _).alloc (Nat.le_refl _) _
  have hlit := World.ownsRow_lit (e := 62) (size := 1) w #[] 0 (Nat.le_refl _) (Nat.zero_le _) (by simp)
  have how2 := how.chg (Chg.fresh (F := fun _ => False) hb0) (fun _ _ h => h) (hb0.mono hB)
  obtain ⟨xs, h1, h2⟩ := how2
  rcases h1.2 with ⟨rfl, h0⟩ | ⟨g, cap, cur, rfl, hg, hh, hle, _, _, _⟩
  · have hr : rs = [] := List.eq_nil_of_length_eq_zero h0
    subst hr
    refine wpList_append_own_none hgd s x 67 ho w.heap.size 62 i0 1 Try.underlying67 hinf _ 0 _ hs hlit hx ?_
    exact h _ _ ⟨[], own_base' hlit hB, fun i hi => by simp at hi⟩ (fun g e => Nat.le_of_eq (Option.some.inj (show some w.heap.size = some g from e))) hb0
  · refine wpList_append_own _ hgd s x 67 ho w.heap.size 62 i0 (.slice none 0 0) 1 24 Try.underlying67 hinf hz0 hz1 hz2 rfl (by decide) _ 0 _ hs hlit ⟨g, 0, none⟩ rs.length cap xs hx h1.1
      (h1.cells (g := g) rfl) (fun u hu => ?_) (by unfold maxLen; omega) (by omega) (by simp) ?_
    · obtain ⟨j, hj, rfl⟩ := List.mem_iff_getElem.1 hu
      have hxl : xs.length = rs.length := by have := h1.1; simpa using this
      obtain ⟨y, hy, ⟨ya, yc, hyv, _⟩, _⟩ := h2 j (by omega)
      rw [List.getElem?_eq_getElem hj] at hy
      injection hy with hy
      rw [hy, hyv]; rfl
    · intro v' w' hown hg _
      rw [Nat.zero_add] at hown
      have hc2 : Chg (fun k => k = w.heap.size) (w.alloc (.cells #[] 62)) w' := Chg.grown hg (fun k hk => by injection hk with hk; exact hk.symm)
      have hc3 : Chg (fun _ => False) w w' := (Chg.fresh (F := fun _ => False) hb0).trans hc2 (fun k hk => .inr (by omega))
      have hb : Below w.heap.size w w' := hc3.below (fun _ h => h.elim) (Nat.le_refl _)
      refine h _ _ ⟨xs, ?_, fun i hi => ?_⟩ (fun g2 e => (hown.lt g2 e).1) hb
      · have := own_base' hown hB
        simpa using this
      · obtain ⟨y, hy, hbs⟩ := h2 i hi
        have hb4 : Below B (w.alloc (.cells #[] 62)) w' := hc2.below (fun k hk => by omega) (by simp; omega)
        exact ⟨y, hy, hbs.under hb4⟩
section
variable {w w' : World} {B D M : Nat} {nb fz : Int} {f : Int → List Int} {lv : Value} {P : Nat} {fi sz : Int} {a b c : Nat} {rs : List (List Int)} {av : Value} {pe : List (List Int)}
def S2Ends (B D M : Nat) (nb : Int) (lv : Value) (P : Nat) (fi sz : Int) (a b c : Nat) (rs : List (List Int)) (av : Value) (pe : List (List Int)) (w : World) (e : Ending) (w' : World) : Prop :=
  ∃ (E : Int) (lv' av' : Value), e = .returned (.int .i64 E) ∧ Chg (LFoot D M lv P av) w w' ∧ (∀ k, LFoot D M lv' P av' k → LFoot D M lv P av k ∨ w.heap.size ≤ k) ∧
    ((E = 0 ∧ ∃ fz' f' a' c', LgF w' B D M nb fz' f' lv' P fi sz a' b c' (rs ++ pe) av' [] ∧ a' ≤ a + 1) ∨ (E ≠ 0 ∧ Fallen w' B D M nb fi a b c rs b (c + (encs pe).length) (rs ++ pe) lv'))
theorem lf_sync2 (h : LgF w B D M nb fz f lv P fi sz a b c rs av pe) (ha1 : a + 1 < 1099511627776) :
    Calls Try.prog 37 #[.pointer (some ⟨P, 0, none⟩)] w (S2Ends B D M nb lv P fi sz a b c rs av pe w) := by
  by_cases hpe : pe = []
  · subst hpe
    obtain ⟨sa, sc, hav⟩ := own_form h.own
    have hb := h.box
    rw [hav, show (encs ([] : List (List Int))).length = 0 from rfl] at hb
    refine (sync_nil P D fi sz a b c sa sc w hb).mono ?_
    rintro e w' ⟨rfl, rfl⟩
    exact ⟨0, lv, av, rfl, Chg.refl _ _, fun k hk => .inl hk, .inl ⟨rfl, fz, f, a, c, by rw [List.append_nil]; exact h, by omega⟩⟩
  · refine (lf_sync h hpe ha1).mono ?_
    rintro e w' ⟨E, lv', rfl, hc, hf, hcase⟩
    refine ⟨E, lv', .slice none 0 0, rfl, hc, hf, hcase.imp ?_ id⟩
    rintro ⟨h0, fz', f', hl⟩
    exact ⟨h0, fz', f', a + 1, _, hl, Nat.le_refl _⟩
theorem LgF.lenc (h : LgF w B D M nb fz f lv P fi sz a b c rs av pe) : rs.length ≤ 1048576 ∧ pe.length ≤ 1048576 := by
  have h1 := areaB_len f (fi + 2) h.dk.2.2.2.2.2.2.1 c
  rw [h.area] at h1
  have h2 := encs_ge rs
  have h3 := encs_ge pe
  have h4 := h.small
  omega
theorem LgS.lenc {rm : Int} (h : LgS w B D M nb rm f lv P fi sz a b c rs av pe) : rs.length ≤ 1048576 := by
  have h1 := areaB_len f (fi + 2) h.dk.2.2.2.2.2.2.1 c
  rw [h.area] at h1
  have h2 := encs_ge rs
  have h4 := h.small
  omega
theorem Fallen.dk {b' c' : Nat} {rs' : List (List Int)} (h : Fallen w B D M nb fi a b c rs b' c' rs' lv) : ∃ fz f L, Dk w B D M nb nb fz true f L lv := by
  obtain ⟨fz, f, L, h, _⟩ := h
  exact ⟨fz, f, L, h⟩
end
set_option maxRecDepth 100000 in
set_option maxHeartbeats 16000000 in
theorem crash_walk (v0 kv : Value) (G : List (List (List Int))) (fuse restart torn : Int) (ks : List Bool) (w : World) (h0 : Gss w w.heap.size v0 G) (hG : ∀ g ∈ G, g.length ≤ 1048576 ∧ ∀ r ∈ g, Rng r ∧ r.length ≤ 16777216) (hGl : G.length ≤ 1048576)
    (hfu : fuse ≤ 9223372036854775807) (hkb : Bools w kv ks) (hkl : ks.length ≤ 1048576) :
    Calls Try.prog 7 #[v0, .int .i64 fuse, .int .i64 restart, kv, .int .i64 torn] w fun e w' => e = .returned (.bool true) ∧ Below w.heap.size w w' := by
  obtain ⟨i0, hinf, hz0, hz1, hz2⟩ := info_parts info62
  have R0 := Lib.hid h0
  have HGG := Lib.hid hG
  have KB := Lib.hid hkb
  have KD := Lib.hid (show ∀ b o n c, kv = .slice (some ⟨b, o, none⟩) n c → 0 < ks.length → b < w.heap.size from fun b o n c e hk => by
    obtain ⟨a', cap, h1, h2⟩ := hkb
    obtain ⟨b2, o2, h3, h4, _⟩ := h2 hk
    rw [e] at h1
    injection h1 with h1
    rw [h3] at h1
    injection h1 with h1
    injection h1 with h1
    omega)
  have HFU := Lib.hid hfu
  obtain ⟨ga, gc, hga, _⟩ := h0
  subst hga
  clear hG hkb hfu
  go_enter Try.func7, Try.ntmps7
  go_wp2_with fail
  refine (lfixed_any w).mono ?_
  rintro e w1 ⟨rfl, hb⟩
  have X1 := Lib.hid hb
  clear hb
  go_wp2_with fail
  refine (new_dk 40 w1 (by decide) (by decide)).mono ?_
  rintro e w2 ⟨rfl, hdk, hb⟩
  have DK2 := Lib.hid (dk_lower hdk X1.out.size)
  have X2 := Lib.hid (X1.out.trans (hb.mono X1.out.size))
  have HDM := Lib.hid (show w.heap.size ≤ w1.heap.size + 1 ∧ w.heap.size ≤ w1.heap.size by have := X1.out.size; omega)
  clear hdk hb
  generalize w1.heap.size + 1 = D at *
  generalize w1.heap.size = M at *
  go_wp2_with fail
  refine (lf_format DK2.out (fun _ => zeros_rng 256) (fi := 3) (sz := 30) (by decide) (by decide) (by decide) (by decide)).mono ?_
  rintro e w3 ⟨rfl, f3, lv3, hld, hx1, hx2, hc, hf⟩
  have LD3 := Lib.hid hld
  have HX1 := Lib.hid hx1
  have HX2 := Lib.hid hx2
  have X3 := Lib.hid (X2.out.trans (hc.below (fun k hk => (DK2.out.foot k hk).1) X2.out.size))
  clear hld hx1 hx2 hc hf
  go_wp2_with fail
  refine (ld_open LD3.out).mono ?_
  rintro e w4 ⟨P, v4, rfl, hls, hrc, hP, hb⟩
  have LF4 := Lib.hid (hls.toF HX1.out ⟨0, 0, 0, HX2.out, by decide⟩)
  have X4 := Lib.hid (X3.out.trans (hb.mono X3.out.size))
  obtain ⟨ra4, rc4, hv4, _⟩ := hrc
  subst hv4
  clear hls hP hb HX1 HX2
  go_wp2_with fail
  refine (lf_arm LF4.out fuse HFU.out).mono ?_
  rintro e w5 ⟨rfl, hlf, hc⟩
  have LF5 := Lib.hid hlf
  have X5 := Lib.hid (X4.out.trans (hc.below (fun k hk => by rw [hk]; exact HDM.out.1) X4.out.size))
  clear hlf hc
  have hb6 : Below w5.heap.size w5 (w5.alloc (.cells #[] 62)) := (Below.refl _ _).alloc (Nat.le_refl _) _
  have hb7 : Below w5.heap.size w5 ((w5.alloc (.cells #[] 62)).alloc (.cells #[] 62)) := hb6.alloc (by simp) _
  have LF7 := Lib.hid (LF5.out.fresh hb7)
  have X7 := Lib.hid (X5.out.trans (hb7.mono X5.out.size))
  have OW7 := Lib.hid (OwnW.chg (w' := (w5.alloc (.cells #[] 62)).alloc (.cells #[] 62)) (F := fun _ => False) (show OwnW (w5.alloc (.cells #[] 62)) w.heap.size (.slice (some ⟨w5.heap.size, 0, none⟩) 0 0) [] from ⟨[], own_base' (World.ownsRow_lit w5 #[] 0 (Nat.le_refl _) (Nat.zero_le _) (by simp)) X5.out.size, fun i hi => by simp at hi⟩) ((Chg.refl _ _).alloc _) (fun _ _ h => h) ((Below.refl _ _).alloc (by have := X5.out.size; simp; omega) _))
  have NW7 := Lib.hid (show ∀ k, LFoot D M lv3 P (.slice none 0 0) k → (Value.slice (some ⟨w5.heap.size, 0, none⟩) 0 0).ownBlock ≠ some k from fun k hk e => by
    injection e with e
    have := (LF5.out.lt k hk).2
    have e' : w5.heap.size = k := e
    omega)
  clear hb6 hb7
  go_wp2_with fail
  generalize (w5.alloc (.cells #[] 62)).alloc (.cells #[] 62) = w7 at *
  generalize (if 0 ≤ fuse then fuse else -1) = FZ at *
  go_loopw [15, 16, 17] (fun fv nv iv wr => ∃ i : Nat, i ≤ G.length ∧ iv = .int .i64 (i : Int) ∧ Below w.heap.size w wr ∧ (CrI w.heap.size D M P fv nv i wr ∨ CrF w.heap.size D M fv nv wr)) (fun _ _ iv _ => G.length - (intOf iv).toNat)
  case atStart => exact ⟨0, Nat.zero_le _, rfl, X7.out, .inl ⟨_, _, _, _, _, _, _, _, LF7.out, OW7.out, NW7.out, by decide, by decide⟩⟩
  case round =>
    obtain ⟨i, hi, rfl, hbw, hst⟩ := hrel
    have BW := Lib.hid hbw
    have HST := Lib.hid hst
    clear hbw hst
    by_cases hil : i < G.length
    · rcases HST.out with hst | hst
      · clear HST
        obtain ⟨fz, f, lv, a, b, c, rs, av, hl, ho, hn, ha, hb⟩ := hst
        have LF := Lib.hid hl
        have OWF := Lib.hid ho
        have NWF := Lib.hid hn
        have HAB := Lib.hid (And.intro ha hb)
        clear hl ho hn ha hb
        go_wp2_with fail
        refine (down_any D 40 40 fz false _ lv wr LF.out.dk.1).mono ?_
        rintro e w' ⟨rfl, rfl⟩
        go_wp2_with (at_builtin; refine wpList_copyW rfl (Operand.tmp 60) (Operand.tmp 61) rfl w.heap.size wr u15 rs rfl rfl OWF.out LF.out.lenc.1 BW.out.size ?_; intro nv8 w8 how hge hb; have OWN8 := Lib.hid how; have NGE := Lib.hid hge; have XB8 := Lib.hid hb; clear how hge hb)
        have LF8 := Lib.hid (LF.out.fresh XB8.out)
        have BW8 := Lib.hid (BW.out.trans (XB8.out.mono BW.out.size))
        have OWF8 := Lib.hid (OWF.out.chg (Chg.fresh (F := fun _ => False) XB8.out) (fun _ _ h => h) (XB8.out.mono BW.out.size))
        have NN8 := Lib.hid (show ∀ k, LFoot D M lv P av k → nv8.ownBlock ≠ some k ∧ u15.ownBlock ≠ some k from fun k hk => ⟨fun e => by have := NGE.out k e; have := (LF.out.lt k hk).2; omega, NWF.out k hk⟩)
        have NF8 := Lib.hid (show ∀ g, nv8.ownBlock = some g → u15.ownBlock ≠ some g from fun g e e2 => by
          have := NGE.out g e
          obtain ⟨xs, h1, _⟩ := OWF.out
          have := (h1.lt g e2).2
          omega)
        clear OWF NWF NGE LF
        obtain ⟨g, hg⟩ : ∃ g, G[i]?.getD [] = g := ⟨_, rfl⟩
        have hgm := HGG.out (G[i]?.getD []) (by rw [List.getElem?_eq_getElem hil]; exact List.getElem_mem hil)
        rw [hg] at hgm
        have HGM := Lib.hid hgm
        have HGE := Lib.hid hg
        clear hgm hg
        go_loopw [16, 18] (fun nv jv wy => ∃ (k : Nat) (pe nx : List (List Int)) (av : Value), k ≤ g.length ∧ jv = .int .i64 (k : Int) ∧ LgF wy w.heap.size D M 40 fz f lv P 3 30 a b c rs av pe ∧ Below w.heap.size w wy ∧ OwnW wy w.heap.size nv nx ∧ nx = rs ++ pe ∧ OwnW wy w.heap.size u15 rs ∧ (∀ k, LFoot D M lv P av k → nv.ownBlock ≠ some k ∧ u15.ownBlock ≠ some k) ∧ (∀ h, nv.ownBlock = some h → u15.ownBlock ≠ some h)) (fun _ jv _ => g.length - (intOf jv).toNat)
        case atStart => exact ⟨0, [], rs, av, Nat.zero_le _, rfl, LF8.out, BW8.out, OWN8.out, (List.append_nil _).symm, OWF8.out, NN8.out, NF8.out⟩
        case round =>
          obtain ⟨k, pe, nx, av2, hk, rfl, hl, hbw, hon, hnx, hof, hnn, hnf⟩ := hrel
          have HNX := Lib.hid hnx
          have hgl := HGM.out.1
          clear hnx
          have LF := Lib.hid hl
          have BT := Lib.hid hbw
          have OWN := Lib.hid hon
          have OWF := Lib.hid hof
          have NN := Lib.hid hnn
          have NF := Lib.hid hnf
          clear hl hbw hon hof hnn hnf
          obtain ⟨na, nc, hnv⟩ : ∃ na nc, u16 = .slice na nx.length nc := by
            obtain ⟨a', c', h', _⟩ := OWN.out.pss
            exact ⟨a', c', h'⟩
          subst hnv
          obtain ⟨a0, c0, hv0, hc0⟩ := R0.out.under BT.out
          injection hv0 with e1 e2 e3
          subst e1 e3
          obtain ⟨bl, off, rfl, hbl, hcell⟩ := hc0 (by omega)
          obtain ⟨x, hx, hrc⟩ := hcell i hil
          rw [HGE.out] at hrc
          obtain ⟨xa, xc, hxv, hxc⟩ := hrc
          subst hxv
          have HXC := Lib.hid hxc
          clear hc0 hcell hxc e2
          by_cases hkl2 : k < g.length
          · obtain ⟨b2, off2, rfl, hb2, _, hlt2, hcell2⟩ := HXC.out (by omega)
            obtain ⟨y, hy, hbs, hblk⟩ := hcell2 k hkl2
            have hri := HGM.out.2 (g[k]?.getD []) (by rw [List.getElem?_eq_getElem hkl2]; exact List.getElem_mem hkl2)
            obtain ⟨m, hmm⟩ : ∃ m, g[k]?.getD [] = m := ⟨_, rfl⟩
            rw [hmm] at hbs hblk hri
            clear hmm
            have HBS := Lib.hid hbs
            have HBI := Lib.hid (show BsI _ 0 w.heap.size y m from ⟨hbs, hblk⟩)
            have HNB := Lib.hid (show ∀ ad n c, y = .slice (some ad) n c → 0 < m.length → av2.ownBlock ≠ some ad.block from fun ad n c e h0 e2 => by
              have h3 := (hblk ad n c e h0).2
              have h4 := (LF.out.own.lt ad.block e2).1
              omega)
            have HRI := Lib.hid hri
            have HLT := Lib.hid hbl
            have HLT2 := Lib.hid hlt2
            obtain ⟨ya, yc, hyv, _⟩ := hbs
            subst hyv
            clear hcell2 hblk hri hbl hb2 hlt2
            go_wp2_with fail
            refine (lf_append LF.out _ _ HBS.out HNB.out HRI.out.2 HRI.out.1).mono ?_
            rintro e w9 ⟨he, av9, hl, hc, hf⟩
            have hbel : Below w.heap.size _ w9 := hc.below (fun k hk => (LF.out.lt k hk).1) BT.out.size
            have BW9 := Lib.hid (BT.out.trans hbel)
            have OWN9 := Lib.hid (OWN.out.chg hc (fun g hg e => (NN.out g e).1 hg) hbel)
            have OWF9 := Lib.hid (OWF.out.chg hc (fun g hg e => (NN.out g e).2 hg) hbel)
            have hnlt : ∀ g, (Value.slice na nx.length nc).ownBlock = some g ∨ u15.ownBlock = some g → g < wr.heap.size := fun g e => by
              rcases e with e | e
              · obtain ⟨xs, h1, _⟩ := OWN.out
                exact (h1.lt g e).2
              · obtain ⟨xs, h1, _⟩ := OWF.out
                exact (h1.lt g e).2
            have NN9 := Lib.hid (show ∀ k, LFoot D M lv P av9 k → (Value.slice na nx.length nc).ownBlock ≠ some k ∧ u15.ownBlock ≠ some k from fun k hk => (hf k hk).elim (fun h => NN.out k h) (fun h => ⟨fun e => by have := hnlt k (.inl e); omega, fun e => by have := hnlt k (.inr e); omega⟩))
            have hx9 := (hbel.cell (p := ⟨bl, off + i, none⟩) HLT.out).trans hx
            have hy9 := (hbel.cell (p := ⟨b2, off2 + k, none⟩) HLT2.out).trans hy
            have HBI9 := Lib.hid (HBI.out.under hbel)
            by_cases hfit : fitsL 30 c (encs pe).length m.length = true
            · rw [if_pos hfit] at he hl
              subst he
              have LF9 := Lib.hid hl
              obtain ⟨xs, ho1, ho2⟩ := OWN9.out
              have HO1 := Lib.hid ho1
              have HO2 := Lib.hid ho2
              have hp9 : nx.length ≤ 2097152 := by have := LF.out.lenc; rw [HNX.out, List.length_append]; omega
              clear hl hc hf hx hy hfit hbel ho1 ho2 hnlt
              go_wp2_with (at_builtin; refine wpList_append_lies _ rfl (Operand.tmp 82) (Operand.tmp 90) 67 rfl w.heap.size 62 i0 (.slice none 0 0) 1 24 Try.underlying67 hinf hz0 hz1 hz2 rfl (by decide) _ nx.length xs rfl (HO1.out.alloc _) ⟨w9.heap.size, 0, none⟩ 1 1 [.slice ya m.length yc] rfl rfl (cell_one_new _ _ _) (by intro u hu; simp at hu; subst hu; rfl) (by decide) (by unfold maxLen; omega) (by omega) (by have := BW9.out.size; simp; omega) (w9.heap.size + 1) (by simp) ?_; intro g3 cp3 w10 hown3 hg3 hgH hgl; have HO3 := Lib.hid hown3; have HG3 := Lib.hid hg3; have HH3 := Lib.hid hgH; clear hown3 hg3 hgH hgl)
              go_roundw
              case rel =>
                have hch : Chg (fun k => (Value.slice na nx.length nc).ownBlock = some k) w9 w10 := ((Chg.refl (fun k => (Value.slice na nx.length nc).ownBlock = some k) w9).alloc (.cells #[.slice ya m.length yc] 62)).trans (Chg.grown (F := fun k => (Value.slice na nx.length nc).ownBlock = some k) HG3.out (fun k hk => hk)) (fun k hk => .inl hk)
                have hbe : Below w.heap.size w9 w10 := hch.below (fun k hk => (HO1.out.lt k hk).1) BW9.out.size
                refine ⟨k + 1, pe ++ [m], nx ++ [m], av9, by omega, by go_num, LF9.out.chg hch (fun k hk e => (NN9.out k hk).1 e), BW9.out.trans hbe, ?_, by rw [HNX.out, List.append_assoc], OWF9.out.chg hch (fun g hg e => NF.out g e hg) hbe, ?_, ?_⟩
                · exact OwnW.snoc HO2.out (by have := HO1.out.1; simpa using this) HBI9.out HO3.out hbe
                · intro k hk
                  refine ⟨fun e => ?_, (NN9.out k hk).2⟩
                  have e' : g3 = k := by injection e
                  subst e'
                  rcases HH3.out with h | h
                  · exact (NN9.out g3 hk).1 h
                  · have := (LF9.out.lt g3 hk).2
                    omega
                · intro h3 e e2
                  have e' : g3 = h3 := by injection e
                  subst e'
                  rcases HH3.out with h | h
                  · exact NF.out g3 h e2
                  · obtain ⟨ys, h1, _⟩ := OWF9.out
                    have := (h1.lt g3 e2).2
                    omega
              case measure => simp [intOf]; omega
            · rw [if_neg hfit] at he hl
              subst he
              have LF9 := Lib.hid hl
              clear hl hc hf hx hy hfit hbel hnlt
              go_wp2_with fail
              go_roundw
              case rel => exact ⟨k + 1, pe, nx, av9, by omega, by go_num, LF9.out, BW9.out, OWN9.out, HNX.out, OWF9.out, NN9.out, NF.out⟩
              case measure => simp [intOf]; omega
          · have HIL := Lib.hid hil
            go_wp2_with fail
            refine (lf_sync2 LF.out (by have := HAB.out; omega)).mono ?_
            rintro e w11 ⟨E, lv11, av11, rfl, hc, hf, hcase⟩
            have hbel : Below w.heap.size _ w11 := hc.below (fun k hk => (LF.out.lt k hk).1) BT.out.size
            have BW11 := Lib.hid (BT.out.trans hbel)
            have OWN11 := Lib.hid (OWN.out.chg hc (fun g hg e => (NN.out g e).1 hg) hbel)
            have OWF11 := Lib.hid (OWF.out.chg hc (fun g hg e => (NN.out g e).2 hg) hbel)
            have hnlt : ∀ g, (Value.slice na nx.length nc).ownBlock = some g ∨ u15.ownBlock = some g → g < wr.heap.size := fun g e => by
              rcases e with e | e
              · obtain ⟨xs, h1, _⟩ := OWN.out
                exact (h1.lt g e).2
              · obtain ⟨xs, h1, _⟩ := OWF.out
                exact (h1.lt g e).2
            have NN11 := Lib.hid (show ∀ k, LFoot D M lv11 P av11 k → (Value.slice na nx.length nc).ownBlock ≠ some k ∧ u15.ownBlock ≠ some k from fun k hk => (hf k hk).elim (fun h => NN.out k h) (fun h => ⟨fun e => by have := hnlt k (.inl e); omega, fun e => by have := hnlt k (.inr e); omega⟩))
            have HLR := Lib.hid (And.intro LF.out.rrs LF.out.rpe)
            have HFI := Lib.hid (LF.out.fits)
            have HFL := Lib.hid (show ∀ k, LFoot D M lv11 P av11 k → w.heap.size ≤ k from fun k hk => (hf k hk).elim (fun h => (LF.out.lt k h).1) (fun h => by have := BT.out.size; omega))
            clear hc hf hbel hnlt hx
            rw [← HNX.out] at hcase
            rcases hcase with ⟨rfl, fz2, f2, a2, c2, hl, ha2⟩ | ⟨hE, hfal⟩
            · have LF11 := Lib.hid hl
              have HA2 := Lib.hid ha2
              clear hl ha2
              by_cases hir : (i : Int) = restart
              · go_wp2_with fail
                refine (down_any D 40 40 fz2 false _ lv11 w11 LF11.out.dk.1).mono ?_
                rintro e w' ⟨rfl, rfl⟩
                go_wp2_with fail
                refine (lf_restart LF11.out (by have := HAB.out; have := HA2.out; omega) (by have := HAB.out; omega)).mono ?_
                rintro e w12 ⟨E2, lv12, rfl, hc, hf, hcase⟩
                have hbel : Below w.heap.size _ w12 := hc.below (fun k hk => (LF11.out.lt k hk).1) BW11.out.size
                have BW12 := Lib.hid (BW11.out.trans hbel)
                rcases hcase with ⟨rfl, fz3, f3', hl⟩ | ⟨hE2, hfal⟩
                · have LF12 := Lib.hid hl
                  clear hl hc hf hbel
                  go_wp2_with fail
                  go_roundw
                  case rel => exact ⟨i + 1, by omega, by go_num, BW12.out, .inl ⟨_, _, _, _, _, _, _, _, LF12.out, ⟨[], World.ownsRow_nil _ _ _ _, fun i hi => by simp at hi⟩, fun k _ e => (by cases e), by have := HAB.out; have := HA2.out; omega, by have := HAB.out; omega⟩⟩
                  case measure => simp [intOf]; omega
                · have HFA := Lib.hid hfal
                  have OWN12 := Lib.hid (OWN11.out.chg hc (fun g hg e => (NN11.out g e).1 hg) hbel)
                  have hx12 : ∀ k, Foot D M lv12 k → w.heap.size ≤ k ∧ (Value.slice na nx.length nc).ownBlock ≠ some k := fun k hk => (hf k (.inl hk)).elim (fun h => ⟨HFL.out k h, (NN11.out k h).1⟩) (fun h => ⟨by have := BW11.out.size; omega, fun e => by
                    obtain ⟨xs, h1, _⟩ := OWN11.out
                    have := (h1.lt k e).2
                    omega⟩)
                  have HX12 := Lib.hid hx12
                  clear hc hf hbel hfal hx12
                  go_wp2_with fail
                  go_roundw
                  case rel => exact ⟨i + 1, by omega, by go_num, BW12.out, .inr ⟨_, _, _, _, _, _, _, _, HFA.out, OWN12.out, ⟨[], World.ownsRow_nil _ _ _ _, fun i hi => by simp at hi⟩, fun k hk => ⟨(HX12.out k hk).1, (HX12.out k hk).2, fun e => (by cases e)⟩, by have := LF11.out.fits; omega, by decide, by have := HAB.out; have := HA2.out; omega, by have := HAB.out; omega, by have := HAB.out; omega, LF11.out.rrs, fun r hr => by cases hr⟩⟩
                  case measure => simp [intOf]; omega
              · go_wp2_with fail
                go_roundw
                case rel => exact ⟨i + 1, by omega, by go_num, BW11.out, .inl ⟨_, _, _, _, _, _, _, _, LF11.out, OWN11.out, fun k hk => (NN11.out k hk).1, by have := HAB.out; have := HA2.out; omega, by have := HAB.out; omega⟩⟩
                case measure => simp [intOf]; omega
            · have HFA := Lib.hid hfal
              obtain ⟨fz2, f2, L2, hdk⟩ := hfal.dk
              have HDK := Lib.hid hdk
              clear hfal hdk
              by_cases hir : (i : Int) = restart
              · go_wp2_with fail
                refine (down_any D 40 40 fz2 true _ lv11 w11 HDK.out.1).mono ?_
                rintro e w' ⟨rfl, rfl⟩
                go_wp2_with fail
                go_roundw
                case rel => exact ⟨i + 1, by omega, by go_num, BW11.out, .inr ⟨_, _, _, _, _, _, _, _, HFA.out, OWF11.out, OWN11.out, fun k hk => ⟨HFL.out k (.inl hk), (NN11.out k (.inl hk)).2, (NN11.out k (.inl hk)).1⟩, by have := HFI.out; omega, by have := HFI.out; omega, by have := HAB.out; omega, by have := HAB.out; omega, by have := HAB.out; omega, HLR.out.1, fun r hr => by rw [HNX.out] at hr; exact (List.mem_append.1 hr).elim (HLR.out.1 r) (HLR.out.2 r)⟩⟩
                case measure => simp [intOf]; omega
              · go_wp2_with fail
                go_roundw
                case rel => exact ⟨i + 1, by omega, by go_num, BW11.out, .inr ⟨_, _, _, _, _, _, _, _, HFA.out, OWF11.out, OWN11.out, fun k hk => ⟨HFL.out k (.inl hk), (NN11.out k (.inl hk)).2, (NN11.out k (.inl hk)).1⟩, by have := HFI.out; omega, by have := HFI.out; omega, by have := HAB.out; omega, by have := HAB.out; omega, by have := HAB.out; omega, HLR.out.1, fun r hr => by rw [HNX.out] at hr; exact (List.mem_append.1 hr).elim (HLR.out.1 r) (HLR.out.2 r)⟩⟩
                case measure => simp [intOf]; omega
      · go_wp2_with fail
        have hdk : ∃ lv fz f L, Dk wr w.heap.size D M 40 40 fz true f L lv := by
          obtain ⟨lv, a, b, c, rs, b', c', rs', hf, _⟩ := hst
          obtain ⟨fz, f, L, h⟩ := hf.dk
          exact ⟨lv, fz, f, L, h⟩
        obtain ⟨lv, fz, f, L, hdk⟩ := hdk
        refine (down_any D 40 40 fz true _ lv wr hdk.1).mono ?_
        rintro e w' ⟨rfl, rfl⟩
        clear hdk hst
        go_wp2_with fail
        refine (crash_up HST.out (by omega) BW.out.size (KB.out.below BW.out) (fun b o n c e hk => by have := KD.out b o n c e hk; have := HDM.out.2; omega) hkl).mono ?_
        rintro e w20 ⟨rfl, hc, g20, a20, b20, c20, rs2, qs, hld, ha2, how, hor, hqr⟩
        have LD20 := Lib.hid hld
        have OW20 := Lib.hid how
        have OR20 := Lib.hid hor
        have HQR := Lib.hid hqr
        have HA20 := Lib.hid ha2
        have BW20 := Lib.hid (BW.out.trans (hc.below (fun k hk => by have := HDM.out; omega) BW.out.size))
        clear hc hld how hor hqr ha2
        go_wp2_with fail
        refine (ld_open2 LD20.out).mono ?_
        rintro e w21 ⟨P2, v21, rfl, hls, hrc, hoi, hP2, hb⟩
        have LS21 := Lib.hid hls
        have RC21 := Lib.hid hrc
        have OB21 := Lib.hid hoi.bt
        have HP2 := Lib.hid (show w20.heap.size ≤ P2 ∧ P2 < w21.heap.size from ⟨hP2, hls.box.lt⟩)
        have BW21 := Lib.hid (BW20.out.trans (hb.mono BW20.out.size))
        have OW21 := Lib.hid (OW20.out.chg (Chg.fresh (F := fun _ => False) hb) (fun _ _ h => h) (hb.mono BW20.out.size))
        have OR21 := Lib.hid (OR20.out.imp id (fun h => (h.chg (Chg.fresh (F := fun _ => False) hb) (fun _ _ h => h) (hb.mono BW20.out.size)).pss))
        obtain ⟨ra21, rc21, hv21, _⟩ := hrc
        subst hv21
        clear hls hoi hP2 hb
        go_wp2_with fail
        refine (either_any _ _ _ rs2 qs w21 RC21.out.pss OW21.out.pss LS21.out.rrs HQR.out (by have := LS21.out.lenc; omega) OR21.out).mono ?_
        rintro e w22 ⟨rfl, hb⟩
        have LS22 := Lib.hid (LS21.out.fresh hb)
        have OB22 := Lib.hid (OB21.out.chg (Chg.fresh (F := fun _ => False) hb) (by have := HP2.out; omega) (fun _ _ _ h => h))
        have RC22 := Lib.hid (RC21.out.chg (Chg.fresh (F := fun _ => False) hb) (fun _ _ _ h => h))
        have BW22 := Lib.hid (BW21.out.trans (hb.mono BW21.out.size))
        have HP22 := Lib.hid (show P2 < w22.heap.size by have := HP2.out; have := hb.size; omega)
        clear hb OW20 OR20 OW21 OR21 RC21 LS21 OB21
        have hcv : (convert 62 62 (.slice (some ⟨w22.heap.size, 0, none⟩) 4 4)).run Try.prog (w22.alloc (.cells #[.int .u8 108, .int .u8 97, .int .u8 115, .int .u8 116] 5)) = .ok (.slice (some ⟨w22.heap.size, 0, none⟩) 4 4) (w22.alloc (.cells #[.int .u8 108, .int .u8 97, .int .u8 115, .int .u8 116] 5 (4, 5))) := Lib.run_convert_bytes_const (P := Try.prog) w22 62 5 #[.int .u8 108, .int .u8 97, .int .u8 115, .int .u8 116] 4 4 Try.underlying62 Try.underlying5
        go_wp2_with fail
        clear hcv
        have hb6 : Below w22.heap.size w22 (w22.alloc (.cells #[.int .u8 108, .int .u8 97, .int .u8 115, .int .u8 116] 5 (4, 5))) := (Below.refl _ _).alloc (Nat.le_refl _) _
        have LS23 := Lib.hid (LS22.out.fresh hb6)
        have OB23 := Lib.hid (OB22.out.chg (Chg.fresh (F := fun _ => False) hb6) (by have := HP22.out; omega) (fun _ _ _ h => h))
        have RC23 := Lib.hid (RC22.out.chg (Chg.fresh (F := fun _ => False) hb6) (fun _ _ _ h => h))
        have BW23 := Lib.hid (BW22.out.trans (hb6.mono BW22.out.size))
        have HP23 := Lib.hid (show P2 < (w22.alloc (.cells #[.int .u8 108, .int .u8 97, .int .u8 115, .int .u8 116] 5 (4, 5))).heap.size by have := HP22.out; simp; omega)
        clear hb6 LS22 OB22 RC22
        refine (ls_append LS23.out (.slice (some ⟨w22.heap.size, 0, none⟩) 4 4) [108, 97, 115, 116] (lit_bs w22 _ [108, 97, 115, 116] _ 4 4 rfl (Nat.le_refl 4)) (fun _ _ _ _ _ e => by cases e) (by decide) (fun x hx => by simp at hx; omega)).mono ?_
        rintro e w24 ⟨he, av24, hls, hc, hf⟩
        have HDB := Lib.hid (show D < w20.heap.size ∧ M < w20.heap.size from ⟨(LD20.out.dk.foot D (.inl rfl)).2, (LD20.out.dk.foot M (.inr (.inl rfl))).2⟩)
        have HF24 := Lib.hid (show ∀ k, LFoot D M (.slice none 0 0) P2 av24 k → k = D ∨ k = M ∨ P2 ≤ k from fun k hk => by
          rcases hf k hk with h | h
          · rcases h with h | h | h
            · rcases h with h | h | h
              · exact .inl h
              · exact .inr (.inl h)
              · cases h
            · exact .inr (.inr (by omega))
            · cases h
          · exact .inr (.inr (by have := HP23.out; omega)))
        have hnf : ∀ k, w20.heap.size ≤ k → k < P2 → ¬ LFoot D M (.slice none 0 0) P2 (.slice none 0 0) k := fun k h1 h2 hk => by
          have := HDB.out
          rcases hk with h | h | h
          · rcases h with h | h | h
            · omega
            · omega
            · cases h
          · omega
          · cases h
        have OB24 := Lib.hid (OB23.out.chg hc (by have := HP23.out; omega) hnf)
        have RC24 := Lib.hid (RC23.out.chg hc hnf)
        have hbel : Below w.heap.size _ w24 := LS23.out.below hc
        have BW24 := Lib.hid (BW23.out.trans hbel)
        have HP24 := Lib.hid (show P2 < w24.heap.size by have := HP23.out; have := hc.size; omega)
        by_cases hfit : fitsL 30 c20 0 4 = true
        · rw [show fitsL 30 c20 (encs ([] : List (List Int))).length ([108, 97, 115, 116] : List Int).length = true from hfit, if_pos rfl] at hls
          rw [show fitsL 30 c20 (encs ([] : List (List Int))).length ([108, 97, 115, 116] : List Int).length = true from hfit, if_pos rfl] at he
          subst he
          have LS24 := Lib.hid hls
          clear hls hc hf hnf hbel LS23 OB23 RC23
          go_wp2_with fail
          refine (ls_sync LS24.out (by have := HA20.out; omega)).mono ?_
          rintro e w25 ⟨f25, lv25, a25, c25, rs25, av25, hls, hc, hf, hcase⟩
          have hcase2 : e = .returned (.int .i64 0) ∧ rs25 = rs2 ++ ([] ++ [[108, 97, 115, 116]]) := by
            rcases hcase with ⟨h1, h2, _⟩ | ⟨_, _, _, h, _⟩
            · exact ⟨h1, h2⟩
            · exact absurd h (by decide)
          obtain ⟨he, hrs⟩ := hcase2
          subst he
          have HRS := Lib.hid hrs
          have hnf : ∀ k, w20.heap.size ≤ k → k < P2 → ¬ LFoot D M (.slice none 0 0) P2 av24 k := fun k h1 h2 hk => by
            have := HDB.out
            rcases HF24.out k hk with h | h | h <;> omega
          have OB25 := Lib.hid (OB24.out.chg hc (by have := HP24.out; omega) hnf)
          have RC25 := Lib.hid (RC24.out.chg hc hnf)
          have LS25 := Lib.hid hls
          have BW25 := Lib.hid (BW24.out.trans (LS24.out.below hc))
          have HP25 := Lib.hid (show P2 < w25.heap.size by have := HP24.out; have := hc.size; omega)
          clear hls hc hf hcase hnf LS24 OB24 RC24 hrs
          go_wp2_with fail
          refine (ld_open LS25.out.disk).mono ?_
          rintro e w26 ⟨P3, v26, rfl, hls, hrc, hP3, hb⟩
          have LS26 := Lib.hid hls
          have RC26 := Lib.hid hrc
          have OB26 := Lib.hid (OB25.out.chg (Chg.fresh (F := fun _ => False) hb) (by have := HP25.out; omega) (fun _ _ _ h => h))
          have RD26 := Lib.hid (RC25.out.chg (Chg.fresh (F := fun _ => False) hb) (fun _ _ _ h => h))
          have BW26 := Lib.hid (BW25.out.trans (hb.mono BW25.out.size))
          have HP26 := Lib.hid (show P2 < w26.heap.size by have := HP25.out; have := hb.size; omega)
          obtain ⟨ra26, rc26, hv26, _⟩ := hrc
          subst hv26
          clear hls hP3 hb LS25 OB25 RC25
          have hcv2 : (convert 62 62 (.slice (some ⟨w26.heap.size, 0, none⟩) 4 4)).run Try.prog (w26.alloc (.cells #[.int .u8 108, .int .u8 97, .int .u8 115, .int .u8 116] 5)) = .ok (.slice (some ⟨w26.heap.size, 0, none⟩) 4 4) (w26.alloc (.cells #[.int .u8 108, .int .u8 97, .int .u8 115, .int .u8 116] 5 (4, 5))) := Lib.run_convert_bytes_const (P := Try.prog) w26 62 5 #[.int .u8 108, .int .u8 97, .int .u8 115, .int .u8 116] 4 4 Try.underlying62 Try.underlying5
          have hb27 : Below w26.heap.size w26 ((w26.alloc (.cells #[.int .u8 108, .int .u8 97, .int .u8 115, .int .u8 116] 5 (4, 5))).alloc (.cells #[.slice (some ⟨w26.heap.size, 0, none⟩) 4 4] 62)) := ((Below.refl _ _).alloc (Nat.le_refl _) _).alloc (by simp) _
          obtain ⟨⟨xs, ho1, ho2⟩, hog⟩ := (OB26.out.chg (Chg.fresh (F := fun _ => False) hb27) (by have := HP26.out; omega) (fun _ _ _ h => h)).own
          have HO1 := Lib.hid ho1
          have HO2 := Lib.hid ho2
          have HOG := Lib.hid hog
          have HB27 := Lib.hid hb27
          have HLN := Lib.hid (show rs2.length ≤ 1048576 by have := LS26.out.lenc; rw [HRS.out] at this; simp at this; omega)
          have HBL := Lib.hid ((lit_bs w26 5 [108, 97, 115, 116] (4, 5) 4 4 rfl (Nat.le_refl 4)).below ((Below.refl _ _).alloc (Nat.le_refl _) (.cells #[.slice (some ⟨w26.heap.size, 0, none⟩) 4 4] 62)))
          have hle := HLN.out
          clear ho1 ho2 hog hb27
          go_wp2_with (at_builtin; refine wpList_append_liesG (by rfl) (Operand.tmp 159) (Operand.tmp 162) 67 rfl w20.heap.size 62 i0 (.slice none 0 0) 1 24 Try.underlying67 hinf hz0 hz1 hz2 rfl (by decide) _ rs2.length xs rfl HO1.out ⟨w26.heap.size + 1, 0, none⟩ 1 1 [.slice (some ⟨w26.heap.size, 0, none⟩) 4 4] rfl rfl (by have := cell_one_new (w26.alloc (.cells #[.int .u8 108, .int .u8 97, .int .u8 115, .int .u8 116] 5 (4, 5))) (.slice (some ⟨w26.heap.size, 0, none⟩) 4 4) 62; simpa using this) (by intro u hu; simp at hu; subst hu; rfl) (by decide) (by unfold maxLen; omega) (by omega) (by have := HP26.out; have := HP2.out; simp; omega) (w26.heap.size + 1 + 1) (by simp) ?_; intro g3 cp3 w27 hown3 hg3 hgH hgl; have HO3 := Lib.hid hown3; have HG3 := Lib.hid hg3; have HH3 := Lib.hid hgH; clear hown3 hg3 hgH hgl)
          have hc27 : Chg (fun k => (Value.slice ra21 rs2.length rc21).ownBlock = some k) w26 w27 := (Chg.fresh (F := fun k => (Value.slice ra21 rs2.length rc21).ownBlock = some k) HB27.out).trans (Chg.grown (F := fun k => (Value.slice ra21 rs2.length rc21).ownBlock = some k) HG3.out (fun k hk => hk)) (fun k hk => .inl hk)
          have BW27 := Lib.hid (BW26.out.trans (hc27.below (B := w.heap.size) (fun k hk => by have := HOG.out k hk; have := BW20.out.size; omega) BW26.out.size))
          refine (rsame_any _ _ rs25 (rs2 ++ [[108, 97, 115, 116]]) w27 (RC26.out.chg hc27 (fun k h1 h2 e => by have := HOG.out k e; have := HP25.out; omega)).pss (app_pss HO1.out HO2.out HBL.out (fun ad n c e e2 => by
            injection e with e
            injection e with e
            subst e
            have h5 : w26.heap.size < P2 := (HOG.out _ e2).2
            have h6 := HP26.out
            omega) HO3.out HG3.out) LS26.out.rrs (by have h := LS26.out.rrs; rw [HRS.out] at h; exact h) (by have := LS26.out.lenc; omega)).mono ?_
          rintro e w28 ⟨rfl, hb⟩
          have BW28 := Lib.hid (BW27.out.trans (hb.mono BW27.out.size))
          clear hb hc27
          rw [show decide (rs25 = rs2 ++ [[108, 97, 115, 116]]) = true from decide_eq_true (HRS.out.trans (by rw [List.nil_append]))]
          go_wp2_with fail
          go_ret
          exact ⟨rfl, BW28.out⟩
        · have hff : fitsL 30 c20 0 4 = false := by simpa using hfit
          rw [show fitsL 30 c20 (encs ([] : List (List Int))).length ([108, 97, 115, 116] : List Int).length = false from hff, if_neg (by decide)] at hls
          rw [show fitsL 30 c20 (encs ([] : List (List Int))).length ([108, 97, 115, 116] : List Int).length = false from hff, if_neg (by decide)] at he
          subst he
          have LS24 := Lib.hid hls
          clear hls hc hf hnf hbel LS23 OB23 RC23
          go_wp2_with fail
          refine (ls_sync LS24.out (by have := HA20.out; omega)).mono ?_
          rintro e w25 ⟨f25, lv25, a25, c25, rs25, av25, hls, hc, hf, hcase⟩
          have hcase2 : e = .returned (.int .i64 0) ∧ rs25 = rs2 ++ [] := by
            rcases hcase with ⟨h1, h2, _⟩ | ⟨_, _, _, h, _⟩
            · exact ⟨h1, h2⟩
            · exact absurd h (by decide)
          obtain ⟨he, hrs⟩ := hcase2
          subst he
          have HRS := Lib.hid hrs
          have hnf : ∀ k, w20.heap.size ≤ k → k < P2 → ¬ LFoot D M (.slice none 0 0) P2 av24 k := fun k h1 h2 hk => by
            have := HDB.out
            rcases HF24.out k hk with h | h | h <;> omega
          have OB25 := Lib.hid (OB24.out.chg hc (by have := HP24.out; omega) hnf)
          have RC25 := Lib.hid (RC24.out.chg hc hnf)
          have LS25 := Lib.hid hls
          have BW25 := Lib.hid (BW24.out.trans (LS24.out.below hc))
          have HP25 := Lib.hid (show P2 < w25.heap.size by have := HP24.out; have := hc.size; omega)
          clear hls hc hf hcase hnf LS24 OB24 RC24 hrs
          go_wp2_with fail
          refine (ld_open LS25.out.disk).mono ?_
          rintro e w26 ⟨P3, v26, rfl, hls, hrc, hP3, hb⟩
          have LS26 := Lib.hid hls
          have RC26 := Lib.hid hrc
          have OB26 := Lib.hid (OB25.out.chg (Chg.fresh (F := fun _ => False) hb) (by have := HP25.out; omega) (fun _ _ _ h => h))
          have RD26 := Lib.hid (RC25.out.chg (Chg.fresh (F := fun _ => False) hb) (fun _ _ _ h => h))
          have BW26 := Lib.hid (BW25.out.trans (hb.mono BW25.out.size))
          have HP26 := Lib.hid (show P2 < w26.heap.size by have := HP25.out; have := hb.size; omega)
          obtain ⟨ra26, rc26, hv26, _⟩ := hrc
          subst hv26
          clear hls hP3 hb LS25 OB25 RC25
          go_wp2_with fail
          refine (rsame_any _ _ rs25 rs2 w26 RC26.out.pss RD26.out.pss LS26.out.rrs (by have h := LS26.out.rrs; rw [HRS.out, List.append_nil] at h; exact h) (by have := LS26.out.lenc; omega)).mono ?_
          rintro e w27 ⟨rfl, hb⟩
          have BW27 := Lib.hid (BW26.out.trans (hb.mono BW26.out.size))
          clear hb
          rw [show decide (rs25 = rs2) = true from decide_eq_true (by rw [HRS.out, List.append_nil])]
          go_wp2_with fail
          go_ret
          exact ⟨rfl, BW27.out⟩
    · go_wp2_with fail
      refine (crash_up HST.out (by omega) BW.out.size (KB.out.below BW.out) (fun b o n c e hk => by have := KD.out b o n c e hk; have := HDM.out.2; omega) hkl).mono ?_
      rintro e w20 ⟨rfl, hc, g20, a20, b20, c20, rs2, qs, hld, ha2, how, hor, hqr⟩
      have LD20 := Lib.hid hld
      have OW20 := Lib.hid how
      have OR20 := Lib.hid hor
      have HQR := Lib.hid hqr
      have HA20 := Lib.hid ha2
      have BW20 := Lib.hid (BW.out.trans (hc.below (fun k hk => by have := HDM.out; omega) BW.out.size))
      clear hc hld how hor hqr ha2
      go_wp2_with fail
      refine (ld_open2 LD20.out).mono ?_
      rintro e w21 ⟨P2, v21, rfl, hls, hrc, hoi, hP2, hb⟩
      have LS21 := Lib.hid hls
      have RC21 := Lib.hid hrc
      have OB21 := Lib.hid hoi.bt
      have HP2 := Lib.hid (show w20.heap.size ≤ P2 ∧ P2 < w21.heap.size from ⟨hP2, hls.box.lt⟩)
      have BW21 := Lib.hid (BW20.out.trans (hb.mono BW20.out.size))
      have OW21 := Lib.hid (OW20.out.chg (Chg.fresh (F := fun _ => False) hb) (fun _ _ h => h) (hb.mono BW20.out.size))
      have OR21 := Lib.hid (OR20.out.imp id (fun h => (h.chg (Chg.fresh (F := fun _ => False) hb) (fun _ _ h => h) (hb.mono BW20.out.size)).pss))
      obtain ⟨ra21, rc21, hv21, _⟩ := hrc
      subst hv21
      clear hls hoi hP2 hb
      go_wp2_with fail
      refine (either_any _ _ _ rs2 qs w21 RC21.out.pss OW21.out.pss LS21.out.rrs HQR.out (by have := LS21.out.lenc; omega) OR21.out).mono ?_
      rintro e w22 ⟨rfl, hb⟩
      have LS22 := Lib.hid (LS21.out.fresh hb)
      have OB22 := Lib.hid (OB21.out.chg (Chg.fresh (F := fun _ => False) hb) (by have := HP2.out; omega) (fun _ _ _ h => h))
      have RC22 := Lib.hid (RC21.out.chg (Chg.fresh (F := fun _ => False) hb) (fun _ _ _ h => h))
      have BW22 := Lib.hid (BW21.out.trans (hb.mono BW21.out.size))
      have HP22 := Lib.hid (show P2 < w22.heap.size by have := HP2.out; have := hb.size; omega)
      clear hb OW20 OR20 OW21 OR21 RC21 LS21 OB21
      have hcv : (convert 62 62 (.slice (some ⟨w22.heap.size, 0, none⟩) 4 4)).run Try.prog (w22.alloc (.cells #[.int .u8 108, .int .u8 97, .int .u8 115, .int .u8 116] 5)) = .ok (.slice (some ⟨w22.heap.size, 0, none⟩) 4 4) (w22.alloc (.cells #[.int .u8 108, .int .u8 97, .int .u8 115, .int .u8 116] 5 (4, 5))) := Lib.run_convert_bytes_const (P := Try.prog) w22 62 5 #[.int .u8 108, .int .u8 97, .int .u8 115, .int .u8 116] 4 4 Try.underlying62 Try.underlying5
      go_wp2_with fail
      clear hcv
      have hb6 : Below w22.heap.size w22 (w22.alloc (.cells #[.int .u8 108, .int .u8 97, .int .u8 115, .int .u8 116] 5 (4, 5))) := (Below.refl _ _).alloc (Nat.le_refl _) _
      have LS23 := Lib.hid (LS22.out.fresh hb6)
      have OB23 := Lib.hid (OB22.out.chg (Chg.fresh (F := fun _ => False) hb6) (by have := HP22.out; omega) (fun _ _ _ h => h))
      have RC23 := Lib.hid (RC22.out.chg (Chg.fresh (F := fun _ => False) hb6) (fun _ _ _ h => h))
      have BW23 := Lib.hid (BW22.out.trans (hb6.mono BW22.out.size))
      have HP23 := Lib.hid (show P2 < (w22.alloc (.cells #[.int .u8 108, .int .u8 97, .int .u8 115, .int .u8 116] 5 (4, 5))).heap.size by have := HP22.out; simp; omega)
      clear hb6 LS22 OB22 RC22
      refine (ls_append LS23.out (.slice (some ⟨w22.heap.size, 0, none⟩) 4 4) [108, 97, 115, 116] (lit_bs w22 _ [108, 97, 115, 116] _ 4 4 rfl (Nat.le_refl 4)) (fun _ _ _ _ _ e => by cases e) (by decide) (fun x hx => by simp at hx; omega)).mono ?_
      rintro e w24 ⟨he, av24, hls, hc, hf⟩
      have HDB := Lib.hid (show D < w20.heap.size ∧ M < w20.heap.size from ⟨(LD20.out.dk.foot D (.inl rfl)).2, (LD20.out.dk.foot M (.inr (.inl rfl))).2⟩)
      have HF24 := Lib.hid (show ∀ k, LFoot D M (.slice none 0 0) P2 av24 k → k = D ∨ k = M ∨ P2 ≤ k from fun k hk => by
        rcases hf k hk with h | h
        · rcases h with h | h | h
          · rcases h with h | h | h
            · exact .inl h
            · exact .inr (.inl h)
            · cases h
          · exact .inr (.inr (by omega))
          · cases h
        · exact .inr (.inr (by have := HP23.out; omega)))
      have hnf : ∀ k, w20.heap.size ≤ k → k < P2 → ¬ LFoot D M (.slice none 0 0) P2 (.slice none 0 0) k := fun k h1 h2 hk => by
        have := HDB.out
        rcases hk with h | h | h
        · rcases h with h | h | h
          · omega
          · omega
          · cases h
        · omega
        · cases h
      have OB24 := Lib.hid (OB23.out.chg hc (by have := HP23.out; omega) hnf)
      have RC24 := Lib.hid (RC23.out.chg hc hnf)
      have hbel : Below w.heap.size _ w24 := LS23.out.below hc
      have BW24 := Lib.hid (BW23.out.trans hbel)
      have HP24 := Lib.hid (show P2 < w24.heap.size by have := HP23.out; have := hc.size; omega)
      by_cases hfit : fitsL 30 c20 0 4 = true
      · rw [show fitsL 30 c20 (encs ([] : List (List Int))).length ([108, 97, 115, 116] : List Int).length = true from hfit, if_pos rfl] at hls
        rw [show fitsL 30 c20 (encs ([] : List (List Int))).length ([108, 97, 115, 116] : List Int).length = true from hfit, if_pos rfl] at he
        subst he
        have LS24 := Lib.hid hls
        clear hls hc hf hnf hbel LS23 OB23 RC23
        go_wp2_with fail
        refine (ls_sync LS24.out (by have := HA20.out; omega)).mono ?_
        rintro e w25 ⟨f25, lv25, a25, c25, rs25, av25, hls, hc, hf, hcase⟩
        have hcase2 : e = .returned (.int .i64 0) ∧ rs25 = rs2 ++ ([] ++ [[108, 97, 115, 116]]) := by
          rcases hcase with ⟨h1, h2, _⟩ | ⟨_, _, _, h, _⟩
          · exact ⟨h1, h2⟩
          · exact absurd h (by decide)
        obtain ⟨he, hrs⟩ := hcase2
        subst he
        have HRS := Lib.hid hrs
        have hnf : ∀ k, w20.heap.size ≤ k → k < P2 → ¬ LFoot D M (.slice none 0 0) P2 av24 k := fun k h1 h2 hk => by
          have := HDB.out
          rcases HF24.out k hk with h | h | h <;> omega
        have OB25 := Lib.hid (OB24.out.chg hc (by have := HP24.out; omega) hnf)
        have RC25 := Lib.hid (RC24.out.chg hc hnf)
        have LS25 := Lib.hid hls
        have BW25 := Lib.hid (BW24.out.trans (LS24.out.below hc))
        have HP25 := Lib.hid (show P2 < w25.heap.size by have := HP24.out; have := hc.size; omega)
        clear hls hc hf hcase hnf LS24 OB24 RC24 hrs
        go_wp2_with fail
        refine (ld_open LS25.out.disk).mono ?_
        rintro e w26 ⟨P3, v26, rfl, hls, hrc, hP3, hb⟩
        have LS26 := Lib.hid hls
        have RC26 := Lib.hid hrc
        have OB26 := Lib.hid (OB25.out.chg (Chg.fresh (F := fun _ => False) hb) (by have := HP25.out; omega) (fun _ _ _ h => h))
        have RD26 := Lib.hid (RC25.out.chg (Chg.fresh (F := fun _ => False) hb) (fun _ _ _ h => h))
        have BW26 := Lib.hid (BW25.out.trans (hb.mono BW25.out.size))
        have HP26 := Lib.hid (show P2 < w26.heap.size by have := HP25.out; have := hb.size; omega)
        obtain ⟨ra26, rc26, hv26, _⟩ := hrc
        subst hv26
        clear hls hP3 hb LS25 OB25 RC25
        have hcv2 : (convert 62 62 (.slice (some ⟨w26.heap.size, 0, none⟩) 4 4)).run Try.prog (w26.alloc (.cells #[.int .u8 108, .int .u8 97, .int .u8 115, .int .u8 116] 5)) = .ok (.slice (some ⟨w26.heap.size, 0, none⟩) 4 4) (w26.alloc (.cells #[.int .u8 108, .int .u8 97, .int .u8 115, .int .u8 116] 5 (4, 5))) := Lib.run_convert_bytes_const (P := Try.prog) w26 62 5 #[.int .u8 108, .int .u8 97, .int .u8 115, .int .u8 116] 4 4 Try.underlying62 Try.underlying5
        have hb27 : Below w26.heap.size w26 ((w26.alloc (.cells #[.int .u8 108, .int .u8 97, .int .u8 115, .int .u8 116] 5 (4, 5))).alloc (.cells #[.slice (some ⟨w26.heap.size, 0, none⟩) 4 4] 62)) := ((Below.refl _ _).alloc (Nat.le_refl _) _).alloc (by simp) _
        obtain ⟨⟨xs, ho1, ho2⟩, hog⟩ := (OB26.out.chg (Chg.fresh (F := fun _ => False) hb27) (by have := HP26.out; omega) (fun _ _ _ h => h)).own
        have HO1 := Lib.hid ho1
        have HO2 := Lib.hid ho2
        have HOG := Lib.hid hog
        have HB27 := Lib.hid hb27
        have HLN := Lib.hid (show rs2.length ≤ 1048576 by have := LS26.out.lenc; rw [HRS.out] at this; simp at this; omega)
        have HBL := Lib.hid ((lit_bs w26 5 [108, 97, 115, 116] (4, 5) 4 4 rfl (Nat.le_refl 4)).below ((Below.refl _ _).alloc (Nat.le_refl _) (.cells #[.slice (some ⟨w26.heap.size, 0, none⟩) 4 4] 62)))
        have hle := HLN.out
        clear ho1 ho2 hog hb27
        go_wp2_with (at_builtin; refine wpList_append_liesG (by rfl) (Operand.tmp 159) (Operand.tmp 162) 67 rfl w20.heap.size 62 i0 (.slice none 0 0) 1 24 Try.underlying67 hinf hz0 hz1 hz2 rfl (by decide) _ rs2.length xs rfl HO1.out ⟨w26.heap.size + 1, 0, none⟩ 1 1 [.slice (some ⟨w26.heap.size, 0, none⟩) 4 4] rfl rfl (by have := cell_one_new (w26.alloc (.cells #[.int .u8 108, .int .u8 97, .int .u8 115, .int .u8 116] 5 (4, 5))) (.slice (some ⟨w26.heap.size, 0, none⟩) 4 4) 62; simpa using this) (by intro u hu; simp at hu; subst hu; rfl) (by decide) (by unfold maxLen; omega) (by omega) (by have := HP26.out; have := HP2.out; simp; omega) (w26.heap.size + 1 + 1) (by simp) ?_; intro g3 cp3 w27 hown3 hg3 hgH hgl; have HO3 := Lib.hid hown3; have HG3 := Lib.hid hg3; have HH3 := Lib.hid hgH; clear hown3 hg3 hgH hgl)
        have hc27 : Chg (fun k => (Value.slice ra21 rs2.length rc21).ownBlock = some k) w26 w27 := (Chg.fresh (F := fun k => (Value.slice ra21 rs2.length rc21).ownBlock = some k) HB27.out).trans (Chg.grown (F := fun k => (Value.slice ra21 rs2.length rc21).ownBlock = some k) HG3.out (fun k hk => hk)) (fun k hk => .inl hk)
        have BW27 := Lib.hid (BW26.out.trans (hc27.below (B := w.heap.size) (fun k hk => by have := HOG.out k hk; have := BW20.out.size; omega) BW26.out.size))
        refine (rsame_any _ _ rs25 (rs2 ++ [[108, 97, 115, 116]]) w27 (RC26.out.chg hc27 (fun k h1 h2 e => by have := HOG.out k e; have := HP25.out; omega)).pss (app_pss HO1.out HO2.out HBL.out (fun ad n c e e2 => by
          injection e with e
          injection e with e
          subst e
          have h5 : w26.heap.size < P2 := (HOG.out _ e2).2
          have h6 := HP26.out
          omega) HO3.out HG3.out) LS26.out.rrs (by have h := LS26.out.rrs; rw [HRS.out] at h; exact h) (by have := LS26.out.lenc; omega)).mono ?_
        rintro e w28 ⟨rfl, hb⟩
        have BW28 := Lib.hid (BW27.out.trans (hb.mono BW27.out.size))
        clear hb hc27
        rw [show decide (rs25 = rs2 ++ [[108, 97, 115, 116]]) = true from decide_eq_true (HRS.out.trans (by rw [List.nil_append]))]
        go_wp2_with fail
        go_ret
        exact ⟨rfl, BW28.out⟩
      · have hff : fitsL 30 c20 0 4 = false := by simpa using hfit
        rw [show fitsL 30 c20 (encs ([] : List (List Int))).length ([108, 97, 115, 116] : List Int).length = false from hff, if_neg (by decide)] at hls
        rw [show fitsL 30 c20 (encs ([] : List (List Int))).length ([108, 97, 115, 116] : List Int).length = false from hff, if_neg (by decide)] at he
        subst he
        have LS24 := Lib.hid hls
        clear hls hc hf hnf hbel LS23 OB23 RC23
        go_wp2_with fail
        refine (ls_sync LS24.out (by have := HA20.out; omega)).mono ?_
        rintro e w25 ⟨f25, lv25, a25, c25, rs25, av25, hls, hc, hf, hcase⟩
        have hcase2 : e = .returned (.int .i64 0) ∧ rs25 = rs2 ++ [] := by
          rcases hcase with ⟨h1, h2, _⟩ | ⟨_, _, _, h, _⟩
          · exact ⟨h1, h2⟩
          · exact absurd h (by decide)
        obtain ⟨he, hrs⟩ := hcase2
        subst he
        have HRS := Lib.hid hrs
        have hnf : ∀ k, w20.heap.size ≤ k → k < P2 → ¬ LFoot D M (.slice none 0 0) P2 av24 k := fun k h1 h2 hk => by
          have := HDB.out
          rcases HF24.out k hk with h | h | h <;> omega
        have OB25 := Lib.hid (OB24.out.chg hc (by have := HP24.out; omega) hnf)
        have RC25 := Lib.hid (RC24.out.chg hc hnf)
        have LS25 := Lib.hid hls
        have BW25 := Lib.hid (BW24.out.trans (LS24.out.below hc))
        have HP25 := Lib.hid (show P2 < w25.heap.size by have := HP24.out; have := hc.size; omega)
        clear hls hc hf hcase hnf LS24 OB24 RC24 hrs
        go_wp2_with fail
        refine (ld_open LS25.out.disk).mono ?_
        rintro e w26 ⟨P3, v26, rfl, hls, hrc, hP3, hb⟩
        have LS26 := Lib.hid hls
        have RC26 := Lib.hid hrc
        have OB26 := Lib.hid (OB25.out.chg (Chg.fresh (F := fun _ => False) hb) (by have := HP25.out; omega) (fun _ _ _ h => h))
        have RD26 := Lib.hid (RC25.out.chg (Chg.fresh (F := fun _ => False) hb) (fun _ _ _ h => h))
        have BW26 := Lib.hid (BW25.out.trans (hb.mono BW25.out.size))
        have HP26 := Lib.hid (show P2 < w26.heap.size by have := HP25.out; have := hb.size; omega)
        obtain ⟨ra26, rc26, hv26, _⟩ := hrc
        subst hv26
        clear hls hP3 hb LS25 OB25 RC25
        go_wp2_with fail
        refine (rsame_any _ _ rs25 rs2 w26 RC26.out.pss RD26.out.pss LS26.out.rrs (by have h := LS26.out.rrs; rw [HRS.out, List.append_nil] at h; exact h) (by have := LS26.out.lenc; omega)).mono ?_
        rintro e w27 ⟨rfl, hb⟩
        have BW27 := Lib.hid (BW26.out.trans (hb.mono BW26.out.size))
        clear hb
        rw [show decide (rs25 = rs2) = true from decide_eq_true (by rw [HRS.out, List.append_nil])]
        go_wp2_with fail
        go_ret
        exact ⟨rfl, BW27.out⟩
end Go.Proofs.Ytaklkjjoplfokaa
