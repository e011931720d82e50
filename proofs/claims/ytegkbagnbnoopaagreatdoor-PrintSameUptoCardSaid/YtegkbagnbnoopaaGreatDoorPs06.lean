/- the reference's Copy -/
import Derived.Test.YtegkbagnbnoopaaGreatDoorPs03
import Derived.Test.YtegkbagnbnoopaaGreatDoorPs05
namespace Go.Proofs.YtegkbagnbnoopaaGreatDoor
open Go.ChangeShapes Go.WideShapes Go.ChangeAt Go.RowKit Go.Deep
open Go.Lib (hid)
theorem setCells_grown (H : Nat) : ∀ (cs : List Value) (o : Nat) (w : World), w.grownBy (w.setCells H o cs) (some H)
 | [], _, w => ⟨rfl, rfl, rfl, Nat.le_refl _, fun _ _ _ => rfl⟩
 | v :: r, o, w => by
  have h1 := set_grown w H o v
  have h2 := setCells_grown H r (o + 1) (w.setCell ⟨H, o, none⟩ v)
  exact ⟨h2.os.trans h1.os, h2.tape.trans h1.tape, h2.output.trans h1.output, Nat.le_trans h1.size h2.size, fun k hk hn => (h2.block k (Nat.lt_of_lt_of_le hk h1.size) hn).trans (h1.block k hk hn)⟩
theorem setCells_heap {b : Nat} {T : TypeId} : ∀ (vs : List Value) (o : Nat) (w : World) (l : List Value), w.heap[b]? = some (.cells l.toArray T (0, 0)) → o + vs.length ≤ l.length → (w.setCells b o vs).heap[b]? = some (.cells (l.take o ++ vs ++ l.drop (o + vs.length)).toArray T (0, 0))
 | [], o, w, l, h, _ => by
  rw [List.append_nil, List.length_nil, Nat.add_zero, List.take_append_drop]
  exact h
 | v :: r, o, w, l, h, hl => by
  rw [List.length_cons] at hl
  have h1 := box_set (j := o) (v := v) h
  have e : l.toArray.setIfInBounds o v = (l.set o v).toArray := by simp
  rw [e] at h1
  have h2 := setCells_heap r (o + 1) (w.setCell ⟨b, o, none⟩ v) (l.set o v) h1 (by rw [List.length_set]; omega)
  have e1 : (l.set o v).take (o + 1) = l.take o ++ [v] := by
   rw [List.take_add_one, List.getElem?_set_self (by omega), List.take_set_of_le (Nat.le_refl _)]
   rfl
  have e2 : (l.set o v).drop (o + 1 + r.length) = l.drop (o + (r.length + 1)) := by
   rw [List.drop_set_of_lt (by omega)]; congr 1; omega
  rw [e1, e2] at h2
  rw [List.length_cons]
  show (World.setCells _ _ _ _).heap[b]? = _
  rw [World.setCells, h2]
  simp
theorem setCell_heap {w : World} {b o : Nat} {T : TypeId} {v : Value} {l : List Value} (h : w.heap[b]? = some (.cells l.toArray T (0, 0))) (hl : o < l.length) : (w.setCell ⟨b, o, none⟩ v).heap[b]? = some (.cells (l.take o ++ [v] ++ l.drop (o + 1)).toArray T (0, 0)) :=
 setCells_heap [v] o w l h (show o + 1 ≤ l.length from hl)
theorem DIn.grown {w w' : World} {S : Nat → Prop} {u : Value} {d : Da} {H : Nat} (h : DIn w S u d) (g : w.grownBy w' (some H)) (hH : ¬ S H) : DIn w' S u d :=
 h.cg g.size (fun k hk hS => g.block k hk (fun e => hH (by injection e with e; rw [← e]; exact hS)))
theorem RwD.grown {w w' : World} {B : Nat} {S : Nat → Prop} {T : TypeId} {s : Nat} {v : Value} {kids : List (List Da)} (h : RwD w B S T s v kids) {H : Nat} (g : w.grownBy w' (some H)) (hH : ¬ S H) (hv : ∀ g, v.ownBlock = some g → g ≠ H) : RwD w' B S T s v kids := by
 obtain ⟨xs, e1, e2, e3, e4, e5, e6⟩ := h
 refine ⟨xs, e1, e2, e3, World.ownsRow.kept e4 g ?_, e5, fun i j' r k u d h1 h2 h3 h4 => (e6 i j' r k u d h1 h2 h3 h4).grown g hH⟩
 cases hw : v.ownBlock with
 | none => exact .inl rfl
 | some g => exact .inr (fun e => hv g hw (by injection e))
theorem grown_bel {w w' : World} {B H : Nat} (g : w.grownBy w' (some H)) (hB : B ≤ H) (hw : B ≤ w.heap.size) : Below B w w' := grown_below g (fun k e => by injection e with e; omega) hw
/-- what has been copied -/
def Kp (u : World) (z : Nat) (l : List (Value × List (List Da))) : Prop := ∀ p ∈ l, DIn u (fun g => z + 2 ≤ g) p.1 (.sl p.2)
theorem Kp.bel {u u' : World} {z : Nat} {l : List (Value × List (List Da))} (h : Kp u z l) (hb : Below u.heap.size u u') : Kp u' z l := fun p hp => (h p hp).bel hb
theorem Kp.set {u : World} {z : Nat} {l : List (Value × List (List Da))} (h : Kp u z l) (j : Nat) (v : Value) : Kp (u.setCell ⟨z, j, none⟩ v) z l := fun p hp => (h p hp).set (by omega) j v
theorem Kp.grown {u u' : World} {z H : Nat} {l : List (Value × List (List Da))} (h : Kp u z l) (g : u.grownBy u' (some H)) (hH : H < z + 2) : Kp u' z l := fun p hp => (h p hp).grown g (by omega)
theorem Kp.add {u : World} {z : Nat} {l : List (Value × List (List Da))} (h : Kp u z l) {v : Value} {d : List (List Da)} (hd : DIn u (fun g => z + 2 ≤ g) v (.sl d)) : Kp u z ((v, d) :: l) := fun p hp => by
 rcases List.mem_cons.1 hp with e | e
 ·rw [e]; exact hd
 ·exact h p e
theorem cinfo_q : (Tryz.prog.info? 30).map (·.size) = some 11 := by kernel_rfl
theorem cinfo_e : (Tryz.prog.info? 40).map (·.size) = some 8 := by kernel_rfl
theorem cinfo_i : (Tryz.prog.info? 42).map (·.size) = some 10 := by kernel_rfl
theorem cinfo_o : (Tryz.prog.info? 58).map (·.size) = some 9 := by kernel_rfl
set_option maxRecDepth 100000 in
set_option maxHeartbeats 12800000 in
theorem rcopy_step (x : Qu) (w : World) (a : Value) (ha : QuV w a x) (l1 : x.sel.items.length ≤ 1073741823) (l2 : x.sel.fro.length ≤ 1073741823) (l6 : x.ord.length ≤ 1073741823)
  (hE : ∀ l : List Ex, (l = x.sel.wh ∨ l = x.sel.gr ∨ l = x.sel.hv ∨ (∃ y ∈ x.sel.items, l = [y.x]) ∨ (∃ y ∈ x.sel.fro, l = y.on) ∨ (∃ y ∈ x.ord, l = [y.x])) → ∀ (u : World) (b : Value), DIs u b (.sl (exsDa l)) → Calls Tryz.prog 20 #[b] u (CP u (exsDa l)))
  (hQ : ∀ l : List Qu, (l = x.parts ∨ (∃ y ∈ x.sel.fro, l = y.q)) → ∀ (u : World) (b : Value), DIs u b (.sl (qusDa l)) → Calls Tryz.prog 19 #[b] u (CP u (qusDa l))) :
  Calls Tryz.prog 8 #[a] w (CQ w x) := by
 obtain ⟨p0, p1, p2, p3, p4, p5, p6, rfl, h0, h1, h2, h3, h4, h5, h6⟩ := ha
 obtain ⟨e0, m0, k0, rfl⟩ := dis_slice h0
 obtain ⟨e1, k1, rfl, hc1, hr1⟩ := its_rows h1
 obtain ⟨e2, k2, rfl, hc2, hr2⟩ := sos_rows h2
 obtain ⟨e3, m3, k3, rfl⟩ := dis_slice h3
 obtain ⟨e4, m4, k4, rfl⟩ := dis_slice h4
 obtain ⟨e5, m5, k5, rfl⟩ := dis_slice h5
 obtain ⟨e6, k6, rfl, hc6, hr6⟩ := obs_rows h6
 have HITS := hid hr1
 have HSOS := hid hr2
 have HOBS := hid hr6
 have H3 := hid h3
 have H4 := hid h4
 have H5 := hid h5
 have HCP := hid (fun (o1 o2 : Obj) => hQ x.parts (.inl rfl) ((w.alloc o1).alloc o2) _ (h0.keep (((Below.refl w.heap.size w).alloc (Nat.le_refl _) o1).alloc (by simp) o2)))
 generalize hn1 : x.sel.items.length = n1 at *
 generalize hn2 : x.sel.fro.length = n2 at *
 generalize hn6 : x.ord.length = n6 at *
 have HN1 := hid hn1
 have HN2 := hid hn2
 have HN6 := hid hn6
 obtain ⟨z, hz⟩ : ∃ z, z = w.heap.size := ⟨_, rfl⟩
 have HZ := hid hz
 have hmk1 : ∀ u : World, (Instr.buildSlice 23 0 #[]).run Tryz.prog u = .ok (.slice (some ⟨u.heap.size, 0, none⟩) 0 0) (u.alloc (.cells #[] 42)) := fun u => by kernel_rfl
 have hmk2 : ∀ u : World, (Instr.buildSlice 24 0 #[]).run Tryz.prog u = .ok (.slice (some ⟨u.heap.size, 0, none⟩) 0 0) (u.alloc (.cells #[] 44)) := fun u => by kernel_rfl
 have hmk3 : ∀ u : World, (Instr.buildSlice 28 0 #[]).run Tryz.prog u = .ok (.slice (some ⟨u.heap.size, 0, none⟩) 0 0) (u.alloc (.cells #[] 58)) := fun u => by kernel_rfl
 have HX0 := hid (hp_al (heap_alloc_new w (.cells #[.int .i64 x.op, .slice e0 m0 k0, .bool x.sel.dist, .slice e1 n1 k1, .slice e2 n2 k2, .slice e3 m3 k3, .slice e4 m4 k4, .slice e5 m5 k5, .slice e6 n6 k6, .bool x.lim, .int .i64 x.n] 30)) (.cells #[.int .i64 0, .slice none 0 0, .bool false, .slice none 0 0, .slice none 0 0, .slice none 0 0, .slice none 0 0, .slice none 0 0, .slice none 0 0, .bool false, .int .i64 0] 30))
 have HR0 := hid (heap_alloc_new (w.alloc (.cells #[.int .i64 x.op, .slice e0 m0 k0, .bool x.sel.dist, .slice e1 n1 k1, .slice e2 n2 k2, .slice e3 m3 k3, .slice e4 m4 k4, .slice e5 m5 k5, .slice e6 n6 k6, .bool x.lim, .int .i64 x.n] 30)) (.cells #[.int .i64 0, .slice none 0 0, .bool false, .slice none 0 0, .slice none 0 0, .slice none 0 0, .slice none 0 0, .slice none 0 0, .slice none 0 0, .bool false, .int .i64 0] 30))
 rw [show (w.alloc (.cells #[.int .i64 x.op, .slice e0 m0 k0, .bool x.sel.dist, .slice e1 n1 k1, .slice e2 n2 k2, .slice e3 m3 k3, .slice e4 m4 k4, .slice e5 m5 k5, .slice e6 n6 k6, .bool x.lim, .int .i64 x.n] 30)).heap.size = w.heap.size + 1 from by simp] at HR0
 have HB0 := hid (((Below.refl w.heap.size w).alloc (Nat.le_refl _) (.cells #[.int .i64 x.op, .slice e0 m0 k0, .bool x.sel.dist, .slice e1 n1 k1, .slice e2 n2 k2, .slice e3 m3 k3, .slice e4 m4 k4, .slice e5 m5 k5, .slice e6 n6 k6, .bool x.lim, .int .i64 x.n] 30)).alloc (by simp) (.cells #[.int .i64 0, .slice none 0 0, .bool false, .slice none 0 0, .slice none 0 0, .slice none 0 0, .slice none 0 0, .slice none 0 0, .slice none 0 0, .bool false, .int .i64 0] 30))
 have HS0 := hid (show ((w.alloc (.cells #[.int .i64 x.op, .slice e0 m0 k0, .bool x.sel.dist, .slice e1 n1 k1, .slice e2 n2 k2, .slice e3 m3 k3, .slice e4 m4 k4, .slice e5 m5 k5, .slice e6 n6 k6, .bool x.lim, .int .i64 x.n] 30)).alloc (.cells #[.int .i64 0, .slice none 0 0, .bool false, .slice none 0 0, .slice none 0 0, .slice none 0 0, .slice none 0 0, .slice none 0 0, .slice none 0 0, .bool false, .int .i64 0] 30)).heap.size = w.heap.size + 2 from by simp)
 clear h0 h1 h2 h3 h4 h5 h6 hr1 hr2 hr6 hn1 hn2 hn6 hc1 hc2 hc6
 go_enter Tryz.func8, Tryz.ntmps8
 go_wp2_with (first
  | (
    go_at_call 19; refine (HCP.out _ _).mono ?_; clear HCP; rintro e w1 ⟨v2, rfl, hd, hb⟩
    obtain ⟨aP, nP, cP, rfl⟩ := hd.slc
    have hx := (hb.block w.heap.size (by simp; omega)).trans HX0.out
    have hr := (hb.block (w.heap.size + 1) (by simp)).trans HR0.out
    have hs := hb.size
    rw [HS0.out] at hs hd
    have HX := hid (box_set (j := 1) (v := .slice aP nP cP) hx)
    have HRS := hid ((heap_setCell_other w1 ⟨w.heap.size, 1, none⟩ (w.heap.size + 1) (.slice aP nP cP) (by simp)).trans hr)
    have HP := hid (hd.set (H := w.heap.size) (by omega) 1 (.slice aP nP cP))
    have HB := hid ((HB0.out.trans (hb.mono (by simp; omega))).setCell (p := ⟨w.heap.size, 1, none⟩) (Nat.le_refl _) (.slice aP nP cP))
    have HSS := hid (show w.heap.size + 2 ≤ (w1.setCell ⟨w.heap.size, 1, none⟩ (.slice aP nP cP)).heap.size by simpa using hs)
    have f1 := frozen_of_row w1 w.heap.size 1 _ _ hx
    have c1 := cell_at hx 1 rfl
    clear hx hr hs hd hb HX0 HR0 HB0 HS0))
 have hw12 : w1.heap.size = (w1.setCell ⟨w.heap.size, 1, none⟩ (.slice aP nP cP)).heap.size := by simp
 rw [hw12]
 clear hw12
 generalize w1.setCell ⟨w.heap.size, 1, none⟩ (.slice aP nP cP) = W2 at *
 have hk2 := HSS.out
 clear HSS f1 c1
 rw [← hz] at HX HRS HP HB hk2 ⊢
 clear hz
 have HPk := hid (show Kp W2 z [(.slice aP nP cP, qusDa x.parts)] from fun p hp => by rw [List.mem_singleton.1 hp]; exact HP.out)
 clear HP
 have HP := hid HPk.out
 clear HPk
 go_loopw [3, 4] (fun o i wr => ∃ (kIT : Nat) (aIT : Option Addr) (cIT : Nat) (S : Nat → Prop), kIT ≤ n1 ∧ i = .int .i64 kIT ∧ o = .slice aIT kIT cIT ∧ Below W2.heap.size W2 wr ∧ Hid (RwD wr W2.heap.size S 42 10 (.slice aIT kIT cIT) (itsDa (x.sel.items.take kIT))) ∧ Hid (∀ q, S q → W2.heap.size ≤ q ∧ q < wr.heap.size)) (fun _ i _ => n1 - (intOf i).toNat)
 case atStart => exact ⟨0, _, _, fun _ => False, Nat.zero_le _, rfl, rfl, (Below.refl _ _).alloc (Nat.le_refl _) _, hid (RwD.made (w := W2.alloc (.cells #[] 42)) (B := W2.heap.size) (S := fun _ => False) (T := 42) (s := 10) (n := 0) (heap_alloc_new _ _) rfl (Nat.le_refl _) id (Nat.zero_le _)), hid (fun q h => h.elim)⟩
 case round =>
  obtain ⟨kIT, aIT, cIT, S, hk1, rfl, rfl, hbw, HRW, HS⟩ := hrel
  have hsz := hbw.size
  have HBW := hid hbw
  have HBA := hid (HB.out.trans (hbw.mono (by omega)))
  have hxq := (hbw.block z (by omega)).trans HX.out
  have yq := cell_at hxq 3 rfl
  have hzr : z < wr.heap.size := by omega
  clear hbw hxq
  have hkl : (itsDa (x.sel.items.take kIT)).length = kIT := by rw [itsDa_len, List.length_take, HN1.out]; omega
  have HKL := hid hkl
  clear hkl
  by_cases hlt1 : kIT < n1
  ·obtain ⟨b1, o1, rfl, hb1, hd1⟩ := HITS.out (by omega)
   obtain ⟨y, hy⟩ : ∃ y, x.sel.items[kIT]? = some y := ⟨_, List.getElem?_eq_getElem (by rw [HN1.out]; exact hlt1)⟩
   obtain ⟨s0, s1, p0, p1, p2, p3, p4, p5, p6, p7, p8, p9, h0, h1⟩ := hd1 kIT y hy
   replace p0 := (HBA.out.cell (p := ⟨b1, o1 + kIT * 10, none⟩) (by rw [HZ.out]; exact hb1)).trans p0
   replace p1 := (HBA.out.cell (p := ⟨b1, o1 + kIT * 10 + 1, none⟩) (by rw [HZ.out]; exact hb1)).trans p1
   replace p2 := (HBA.out.cell (p := ⟨b1, o1 + kIT * 10 + 2, none⟩) (by rw [HZ.out]; exact hb1)).trans p2
   replace p3 := (HBA.out.cell (p := ⟨b1, o1 + kIT * 10 + 3, none⟩) (by rw [HZ.out]; exact hb1)).trans p3
   replace p4 := (HBA.out.cell (p := ⟨b1, o1 + kIT * 10 + 4, none⟩) (by rw [HZ.out]; exact hb1)).trans p4
   replace p5 := (HBA.out.cell (p := ⟨b1, o1 + kIT * 10 + 5, none⟩) (by rw [HZ.out]; exact hb1)).trans p5
   replace p6 := (HBA.out.cell (p := ⟨b1, o1 + kIT * 10 + 6, none⟩) (by rw [HZ.out]; exact hb1)).trans p6
   replace p7 := (HBA.out.cell (p := ⟨b1, o1 + kIT * 10 + 7, none⟩) (by rw [HZ.out]; exact hb1)).trans p7
   replace p8 := (HBA.out.cell (p := ⟨b1, o1 + kIT * 10 + 8, none⟩) (by rw [HZ.out]; exact hb1)).trans p8
   replace p9 := (HBA.out.cell (p := ⟨b1, o1 + kIT * 10 + 9, none⟩) (by rw [HZ.out]; exact hb1)).trans p9
   obtain ⟨g0, m7, z7, rfl⟩ := dis_slice h0
   obtain ⟨g1, m8, z8, rfl⟩ := dis_slice h1
   have hb1r : b1 < wr.heap.size := by have := HZ.out; omega
   have hgg : Below w.heap.size w ((wr.alloc (.cells #[.bool y.star, .int .i64 y.x.op, .string (str y.x.tb), .string (str y.x.nm), .int .i64 y.x.v.k, .int .i64 y.x.v.n, .string (str y.x.v.s), .slice g0 m7 z7, .slice g1 m8 z8, .string (str y.nm)] 42)).alloc (.cells #[.int .i64 y.x.op, .string (str y.x.tb), .string (str y.x.nm), .int .i64 y.x.v.k, .int .i64 y.x.v.n, .string (str y.x.v.s), .slice g0 m7 z7, .slice g1 m8 z8] 40)) := by
    rw [← HZ.out]
    exact (HBA.out.alloc (by omega) _).alloc (by simp; omega) _
   have HCA : Hid (Calls Tryz.prog 20 #[.slice (some ⟨wr.heap.size + 1, 0, none⟩) 1 1] ((wr.alloc (.cells #[.bool y.star, .int .i64 y.x.op, .string (str y.x.tb), .string (str y.x.nm), .int .i64 y.x.v.k, .int .i64 y.x.v.n, .string (str y.x.v.s), .slice g0 m7 z7, .slice g1 m8 z8, .string (str y.nm)] 42)).alloc (.cells #[.int .i64 y.x.op, .string (str y.x.tb), .string (str y.x.nm), .int .i64 y.x.v.k, .int .i64 y.x.v.n, .string (str y.x.v.s), .slice g0 m7 z7, .slice g1 m8 z8] 40)) (fun e w' => ∃ v, e = .returned v ∧ DIn w' (fun g => wr.heap.size + 2 ≤ g) v (.sl (exsDa [y.x])) ∧ Below (wr.heap.size + 2) ((wr.alloc (.cells #[.bool y.star, .int .i64 y.x.op, .string (str y.x.tb), .string (str y.x.nm), .int .i64 y.x.v.k, .int .i64 y.x.v.n, .string (str y.x.v.s), .slice g0 m7 z7, .slice g1 m8 z8, .string (str y.nm)] 42)).alloc (.cells #[.int .i64 y.x.op, .string (str y.x.tb), .string (str y.x.nm), .int .i64 y.x.v.k, .int .i64 y.x.v.n, .string (str y.x.v.s), .slice g0 m7 z7, .slice g1 m8 z8] 40)) w')) := hid (by
    have kIT := hE [y.x] (.inr (.inr (.inr (.inl ⟨y, List.mem_of_getElem? hy, rfl⟩)))) ((wr.alloc (.cells #[.bool y.star, .int .i64 y.x.op, .string (str y.x.tb), .string (str y.x.nm), .int .i64 y.x.v.k, .int .i64 y.x.v.n, .string (str y.x.v.s), .slice g0 m7 z7, .slice g1 m8 z8, .string (str y.nm)] 42)).alloc (.cells #[.int .i64 y.x.op, .string (str y.x.tb), .string (str y.x.nm), .int .i64 y.x.v.k, .int .i64 y.x.v.n, .string (str y.x.v.s), .slice g0 m7 z7, .slice g1 m8 z8] 40)) (.slice (some ⟨wr.heap.size + 1, 0, none⟩) 1 1) (by
     have hh := heap_alloc_new (wr.alloc (.cells #[.bool y.star, .int .i64 y.x.op, .string (str y.x.tb), .string (str y.x.nm), .int .i64 y.x.v.k, .int .i64 y.x.v.n, .string (str y.x.v.s), .slice g0 m7 z7, .slice g1 m8 z8, .string (str y.nm)] 42)) (.cells #[.int .i64 y.x.op, .string (str y.x.tb), .string (str y.x.nm), .int .i64 y.x.v.k, .int .i64 y.x.v.n, .string (str y.x.v.s), .slice g0 m7 z7, .slice g1 m8 z8] 40)
     rw [show (wr.alloc (.cells #[.bool y.star, .int .i64 y.x.op, .string (str y.x.tb), .string (str y.x.nm), .int .i64 y.x.v.k, .int .i64 y.x.v.n, .string (str y.x.v.s), .slice g0 m7 z7, .slice g1 m8 z8, .string (str y.nm)] 42)).heap.size = wr.heap.size + 1 from by simp] at hh
     exact ex_lit hh (h0.keep hgg) (h1.keep hgg))
    unfold CP at kIT
    rw [show ((wr.alloc (.cells #[.bool y.star, .int .i64 y.x.op, .string (str y.x.tb), .string (str y.x.nm), .int .i64 y.x.v.k, .int .i64 y.x.v.n, .string (str y.x.v.s), .slice g0 m7 z7, .slice g1 m8 z8, .string (str y.nm)] 42)).alloc (.cells #[.int .i64 y.x.op, .string (str y.x.tb), .string (str y.x.nm), .int .i64 y.x.v.k, .int .i64 y.x.v.n, .string (str y.x.v.s), .slice g0 m7 z7, .slice g1 m8 z8] 40)).heap.size = wr.heap.size + 2 from by simp] at kIT
    exact kIT)
   have HO1 := hid (hp_al (heap_alloc_new wr (.cells #[.bool y.star, .int .i64 y.x.op, .string (str y.x.tb), .string (str y.x.nm), .int .i64 y.x.v.k, .int .i64 y.x.v.n, .string (str y.x.v.s), .slice g0 m7 z7, .slice g1 m8 z8, .string (str y.nm)] 42)) (.cells #[.int .i64 y.x.op, .string (str y.x.tb), .string (str y.x.nm), .int .i64 y.x.v.k, .int .i64 y.x.v.n, .string (str y.x.v.s), .slice g0 m7 z7, .slice g1 m8 z8] 40))
   have HRB := hid ((HRW.out.below ((Below.refl wr.heap.size wr).alloc (Nat.le_refl _) (.cells #[.bool y.star, .int .i64 y.x.op, .string (str y.x.tb), .string (str y.x.nm), .int .i64 y.x.v.k, .int .i64 y.x.v.n, .string (str y.x.v.s), .slice g0 m7 z7, .slice g1 m8 z8, .string (str y.nm)] 42))).below ((Below.refl _ _).alloc (Nat.le_refl _) (.cells #[.int .i64 y.x.op, .string (str y.x.tb), .string (str y.x.nm), .int .i64 y.x.v.k, .int .i64 y.x.v.n, .string (str y.x.v.s), .slice g0 m7 z7, .slice g1 m8 z8] 40)))
   have HKB := hid ((HBW.out.alloc hsz (.cells #[.bool y.star, .int .i64 y.x.op, .string (str y.x.tb), .string (str y.x.nm), .int .i64 y.x.v.k, .int .i64 y.x.v.n, .string (str y.x.v.s), .slice g0 m7 z7, .slice g1 m8 z8, .string (str y.nm)] 42)).alloc (by simp; omega) (.cells #[.int .i64 y.x.op, .string (str y.x.tb), .string (str y.x.nm), .int .i64 y.x.v.k, .int .i64 y.x.v.n, .string (str y.x.v.s), .slice g0 m7 z7, .slice g1 m8 z8] 40))
   have HSZ := hid (show ((wr.alloc (.cells #[.bool y.star, .int .i64 y.x.op, .string (str y.x.tb), .string (str y.x.nm), .int .i64 y.x.v.k, .int .i64 y.x.v.n, .string (str y.x.v.s), .slice g0 m7 z7, .slice g1 m8 z8, .string (str y.nm)] 42)).alloc (.cells #[.int .i64 y.x.op, .string (str y.x.tb), .string (str y.x.nm), .int .i64 y.x.v.k, .int .i64 y.x.v.n, .string (str y.x.v.s), .slice g0 m7 z7, .slice g1 m8 z8] 40)).heap.size = wr.heap.size + 2 from by simp)
   have HY := hid hy
   clear hd1 hy h0 h1 hgg
   go_wp2_with (first
    | (
      go_at_call 20; have hh := HCA.out; clear HCA; with_reducible refine Calls.mono hh ?_; clear hh; intro e w1 hh; obtain ⟨v2, rfl, hd, hb⟩ := hh
      obtain ⟨b2, o2, c2, q0, q1, rfl, hl2, hc2, hr2, d0, d1⟩ := ex_of_din hd
      obtain ⟨ga, mb, zb, rfl⟩ := d0.slc
      obtain ⟨gc, md, zd, rfl⟩ := d1.slc
      have hsz2 := hb.size
      rw [HSZ.out] at hsz2
      have x1 := (hb.block wr.heap.size (by omega)).trans HO1.out
      have gr := setCells_grown wr.heap.size [Value.int .i64 y.x.op, .string (str y.x.tb), .string (str y.x.nm), .int .i64 y.x.v.k, .int .i64 y.x.v.n, .string (str y.x.v.s), .slice ga mb zb, .slice gc md zd] 1 w1
      obtain ⟨w3, hw3⟩ : ∃ W, W = w1.setCells wr.heap.size 1 [Value.int .i64 y.x.op, .string (str y.x.tb), .string (str y.x.nm), .int .i64 y.x.v.k, .int .i64 y.x.v.n, .string (str y.x.v.s), .slice ga mb zb, .slice gc md zd] := ⟨_, rfl⟩
      rw [← hw3] at gr
      have HW3 := hid hw3
      have HR2 := hid hr2
      have HTH := hid (there_of (o := 1) (n := 8) x1 (show 1 + 8 ≤ 10 by decide))
      have y1 : w3.heap[wr.heap.size]? = some (.cells #[Value.bool y.star, .int .i64 y.x.op, .string (str y.x.tb), .string (str y.x.nm), .int .i64 y.x.v.k, .int .i64 y.x.v.n, .string (str y.x.v.s), .slice ga mb zb, .slice gc md zd, .string (str y.nm)] 42 (0, 0)) := by rw [hw3]; exact setCells_heap [Value.int .i64 y.x.op, .string (str y.x.tb), .string (str y.x.nm), .int .i64 y.x.v.k, .int .i64 y.x.v.n, .string (str y.x.v.s), .slice ga mb zb, .slice gc md zd] 1 w1 [Value.bool y.star, .int .i64 y.x.op, .string (str y.x.tb), .string (str y.x.nm), .int .i64 y.x.v.k, .int .i64 y.x.v.n, .string (str y.x.v.s), .slice g0 m7 z7, .slice g1 m8 z8, .string (str y.nm)] x1 (show 9 ≤ 10 by decide)
      have HRM := hid (rng_of (cs := [Value.bool y.star, .int .i64 y.x.op, .string (str y.x.tb), .string (str y.x.nm), .int .i64 y.x.v.k, .int .i64 y.x.v.n, .string (str y.x.v.s), .slice ga mb zb, .slice gc md zd, .string (str y.nm)]) y1)
      have hz4 := gr.size
      have HR1 := hid ((HRB.out.below (by rw [HSZ.out]; exact hb)).grown gr (fun h => by have := HS.out _ h; omega) (fun g hg => by have := HRW.out.lt g hg; omega))
      have HK1 := hid ((HKB.out.trans (hb.mono (by omega))).trans (grown_bel gr (by omega) (by omega)))
      have HD0 := hid ((d0.grown gr (by omega)).mono (S' := fun q => S q ∨ (wr.heap.size + 2 ≤ q ∧ q < w3.heap.size)) (fun g hg h => .inr ⟨h, hg⟩))
      have HD1 := hid ((d1.grown gr (by omega)).mono (S' := fun q => S q ∨ (wr.heap.size + 2 ≤ q ∧ q < w3.heap.size)) (fun g hg h => .inr ⟨h, hg⟩))
      have HLS := hid (show wr.heap.size + 2 ≤ w3.heap.size by omega)
      clear hb hd d0 d1 x1 y1 gr hr2 hz4 hw3)
    | (refine wpList_load_mid rfl 40 (Operand.tmp 35) rfl b2 o2 rfl [Value.int .i64 y.x.op, .string (str y.x.tb), .string (str y.x.nm), .int .i64 y.x.v.k, .int .i64 y.x.v.n, .string (str y.x.v.s), .slice ga mb zb, .slice gc md zd] _ HR2.out Tryz.underlying40 rfl cinfo_e ?_)
    | (refine wpList_store_mid rfl 40 (Operand.tmp 37) (Operand.tmp 36) rfl wr.heap.size 1 #[Value.int .i64 y.x.op, .string (str y.x.tb), .string (str y.x.nm), .int .i64 y.x.v.k, .int .i64 y.x.v.n, .string (str y.x.v.s), .slice ga mb zb, .slice gc md zd] rfl rfl HTH.out cinfo_e (all_oneCell_toArray (ex_row_one y.x _ _ _ _ _ _)) ?_; rw [show World.setCells w1 wr.heap.size 1 (Array.toList #[Value.int .i64 y.x.op, .string (str y.x.tb), .string (str y.x.nm), .int .i64 y.x.v.k, .int .i64 y.x.v.n, .string (str y.x.v.s), .slice ga mb zb, .slice gc md zd]) = w3 from HW3.out.symm])
    | (refine wpList_load_mid rfl 42 (Operand.tmp 5) rfl wr.heap.size 0 rfl [Value.bool y.star, .int .i64 y.x.op, .string (str y.x.tb), .string (str y.x.nm), .int .i64 y.x.v.k, .int .i64 y.x.v.n, .string (str y.x.v.s), .slice ga mb zb, .slice gc md zd, .string (str y.nm)] _ HRM.out Tryz.underlying42 rfl cinfo_i ?_)
    | (
      at_builtin; refine wpList_append_rd (o := ⟨some 41, _, _, _, _, _⟩) rowIt rfl (Operand.tmp 38) (Operand.tmp 40) rfl W2.heap.size (fun q => S q ∨ (wr.heap.size + 2 ≤ q ∧ q < w3.heap.size)) (fun q => S q ∨ (wr.heap.size + 2 ≤ q ∧ q < w3.heap.size)) (.slice aIT kIT cIT) (itsDa (x.sel.items.take kIT)) rfl
       ((HR1.out.below ((Below.refl _ _).alloc (Nat.le_refl _) _)).more (fun g _ h => .inl h) (fun g hg h => by
        rcases h with h | h
        ·exact HRW.out.notin g hg h
        ·have := HRW.out.lt g hg; omega))
       w3.heap.size [Value.bool y.star, .int .i64 y.x.op, .string (str y.x.tb), .string (str y.x.nm), .int .i64 y.x.v.k, .int .i64 y.x.v.n, .string (str y.x.v.s), .slice ga mb zb, .slice gc md zd, .string (str y.nm)] y.da rfl (heap_alloc_new _ _) rfl (itda_len y)
       (it_row_din (HD0.out.bel ((Below.refl _ _).alloc (Nat.le_refl _) _)) (HD1.out.bel ((Below.refl _ _).alloc (Nat.le_refl _) _)))
       (it_row_one y _ _ _ _ _ _) (by rw [HKL.out]; omega) (by have := HLS.out; simp; omega) (fun q h _ => h) (fun g hg h => by
        rcases h with h | h
        ·exact HRW.out.notin g hg h
        ·have := HRW.out.lt g hg; omega) (fun h => by
        rcases h with h | h
        ·have := HS.out _ h; have := HLS.out; simp at *; omega
        ·simp at h; omega) ?_
      intro a4 c4 w4 hr4 hg4
      rw [HKL.out] at hr4
      rw [HKL.out]
      have hz4 := hg4.size
      have hz4 : w3.heap.size + 1 ≤ w4.heap.size := by simpa using hz4
      have HR4 := hid hr4
      have HG4 := hid hg4
      clear hr4 hg4))
   go_roundw
   case rel => exact ⟨kIT + 1, a4, c4, _, by omega, by go_num, rfl, (HK1.out.alloc (by have := HLS.out; omega) _).trans (grown_below HG4.out (fun g hg => (HRW.out.lt g hg).1) (by have := HLS.out; simp; omega)), hid (by rw [cp_its_snoc x.sel.items kIT y HY.out]; exact HR4.out), hid (fun q h => by
    rcases h with h | h
    ·have := HS.out q h; have := HLS.out; omega
    ·have := HLS.out; omega)⟩
   case measure => simp [intOf]; omega
  ·have hkn : kIT = n1 := by omega
   subst hkn
   have hcn : decide ((kIT : Int) < (kIT : Int)) = false := decide_eq_false (by omega)
   have HTK := hid (show x.sel.items.take kIT = x.sel.items from List.take_of_length_le (by rw [HN1.out]; omega))
   have hI : DIn wr (fun g => z + 2 ≤ g) (.slice aIT kIT cIT) (.sl (itsDa x.sel.items)) := by
    have h := HRW.out.din (S' := fun g => z + 2 ≤ g) (fun g h => by have := (HS.out g h).1; omega) (fun g hg => by have := (HRW.out.lt g hg).1; omega)
    rw [HTK.out] at h
    exact h
   have hX := (HBW.out.block z (by omega)).trans HX.out
   have hR := (HBW.out.block (z + 1) (by omega)).trans HRS.out
   have hP := (HP.out.bel HBW.out).add hI
   have hB := HBA.out
   have hkW3 : z + 2 ≤ wr.heap.size := by omega
   clear HX HRS HP HB HRW HS HTK HKL HBW HBA hI hsz hzr
   obtain ⟨W3, rfl⟩ : ∃ W, W = wr := ⟨_, rfl⟩
   have HX := hid hX
   have HRS := hid hR
   have HP := hid hP
   have HB := hid hB
   clear hX hR hP hB
   go_wp2_with fail
   go_loopw [6, 7] (fun o i wr => ∃ (kSO : Nat) (aSO : Option Addr) (cSO : Nat) (S : Nat → Prop), kSO ≤ n2 ∧ i = .int .i64 kSO ∧ o = .slice aSO kSO cSO ∧ Below W3.heap.size W3 wr ∧ Hid (RwD wr W3.heap.size S 44 5 (.slice aSO kSO cSO) (sosDa (x.sel.fro.take kSO))) ∧ Hid (∀ q, S q → W3.heap.size ≤ q ∧ q < wr.heap.size)) (fun _ i _ => n2 - (intOf i).toNat)
   case atStart => exact ⟨0, _, _, fun _ => False, Nat.zero_le _, rfl, rfl, (Below.refl _ _).alloc (Nat.le_refl _) _, hid (RwD.made (w := W3.alloc (.cells #[] 44)) (B := W3.heap.size) (S := fun _ => False) (T := 44) (s := 5) (n := 0) (heap_alloc_new _ _) rfl (Nat.le_refl _) id (Nat.zero_le _)), hid (fun q h => h.elim)⟩
   case round =>
    obtain ⟨kSO, aSO, cSO, S, hk1, rfl, rfl, hbw, HRW, HS⟩ := hrel
    have hsz := hbw.size
    have HBW := hid hbw
    have HBA := hid (HB.out.trans (hbw.mono (by omega)))
    have hxq := (hbw.block z (by omega)).trans HX.out
    have yq := cell_at hxq 4 rfl
    have hzr : z < wr.heap.size := by omega
    clear hbw hxq
    have hkl : (sosDa (x.sel.fro.take kSO)).length = kSO := by rw [sosDa_len, List.length_take, HN2.out]; omega
    have HKL := hid hkl
    clear hkl
    by_cases hlt1 : kSO < n2
    ·obtain ⟨b1, o1, rfl, hb1, hd1⟩ := HSOS.out (by omega)
     obtain ⟨y, hy⟩ : ∃ y, x.sel.fro[kSO]? = some y := ⟨_, List.getElem?_eq_getElem (by rw [HN2.out]; exact hlt1)⟩
     obtain ⟨s0, s1, p0, p1, p2, p3, p4, h0, h1⟩ := hd1 kSO y hy
     replace p0 := (HBA.out.cell (p := ⟨b1, o1 + kSO * 5, none⟩) (by rw [HZ.out]; exact hb1)).trans p0
     replace p1 := (HBA.out.cell (p := ⟨b1, o1 + kSO * 5 + 1, none⟩) (by rw [HZ.out]; exact hb1)).trans p1
     replace p2 := (HBA.out.cell (p := ⟨b1, o1 + kSO * 5 + 2, none⟩) (by rw [HZ.out]; exact hb1)).trans p2
     replace p3 := (HBA.out.cell (p := ⟨b1, o1 + kSO * 5 + 3, none⟩) (by rw [HZ.out]; exact hb1)).trans p3
     replace p4 := (HBA.out.cell (p := ⟨b1, o1 + kSO * 5 + 4, none⟩) (by rw [HZ.out]; exact hb1)).trans p4
     obtain ⟨g0, m7, z7, rfl⟩ := dis_slice h0
     obtain ⟨g1, m8, z8, rfl⟩ := dis_slice h1
     have hb1r : b1 < wr.heap.size := by have := HZ.out; omega
     have HCQ : Hid (Calls Tryz.prog 19 #[.slice g0 m7 z7] (wr.alloc (.cells #[.int .i64 y.kind, .string (str y.tb), .slice g0 m7 z7, .string (str y.al), .slice g1 m8 z8] 44)) (fun e w' => ∃ v, e = .returned v ∧ DIn w' (fun g => wr.heap.size + 1 ≤ g) v (.sl (qusDa y.q)) ∧ Below (wr.heap.size + 1) (wr.alloc (.cells #[.int .i64 y.kind, .string (str y.tb), .slice g0 m7 z7, .string (str y.al), .slice g1 m8 z8] 44)) w')) := hid (by
      have kSO := hQ y.q (.inr ⟨y, List.mem_of_getElem? hy, rfl⟩) (wr.alloc (.cells #[.int .i64 y.kind, .string (str y.tb), .slice g0 m7 z7, .string (str y.al), .slice g1 m8 z8] 44)) (.slice g0 m7 z7) (h0.keep (by rw [← HZ.out]; exact HBA.out.alloc (by omega) _))
      unfold CP at kSO
      rw [show (wr.alloc (.cells #[.int .i64 y.kind, .string (str y.tb), .slice g0 m7 z7, .string (str y.al), .slice g1 m8 z8] 44)).heap.size = wr.heap.size + 1 from by simp] at kSO
      exact kSO)
     have HCE := hid (fun (u : World) (hu : Below W3.heap.size W3 u) => hE y.on (.inr (.inr (.inr (.inr (.inl ⟨y, List.mem_of_getElem? hy, rfl⟩))))) u (.slice g1 m8 z8) (h1.keep (by rw [← HZ.out]; exact HB.out.trans (hu.mono (by omega)))))
     have HO1 := hid (heap_alloc_new wr (.cells #[.int .i64 y.kind, .string (str y.tb), .slice g0 m7 z7, .string (str y.al), .slice g1 m8 z8] 44))
     have HRB := hid (HRW.out.below ((Below.refl wr.heap.size wr).alloc (Nat.le_refl _) (.cells #[.int .i64 y.kind, .string (str y.tb), .slice g0 m7 z7, .string (str y.al), .slice g1 m8 z8] 44)))
     have HKB := hid (HBW.out.alloc hsz (.cells #[.int .i64 y.kind, .string (str y.tb), .slice g0 m7 z7, .string (str y.al), .slice g1 m8 z8] 44))
     have HSZ := hid (show (wr.alloc (.cells #[.int .i64 y.kind, .string (str y.tb), .slice g0 m7 z7, .string (str y.al), .slice g1 m8 z8] 44)).heap.size = wr.heap.size + 1 from by simp)
     have HY := hid hy
     clear hd1 hy h0 h1
     go_wp2_with (first
      | (
        go_at_call 19; have hh := HCQ.out; clear HCQ; with_reducible refine Calls.mono hh ?_; clear hh; intro e w1 hh; obtain ⟨v2, rfl, hd, hb⟩ := hh
        obtain ⟨ga, mb, zb, rfl⟩ := hd.slc
        have hsz2 := hb.size
        rw [HSZ.out] at hsz2
        have x1 := (hb.block wr.heap.size (by omega)).trans HO1.out
        have HD1 := hid hd
        have HR1 := hid (HRB.out.below (by rw [HSZ.out]; exact hb))
        have HK1 := hid (HKB.out.trans (hb.mono (by omega)))
        have r2 := cell_at x1 2 rfl
        have f2 := frozen_of_row w1 wr.heap.size 2 _ _ x1
        have y1 := box_set (j := 2) (v := (.slice ga mb zb)) x1
        have q4 := cell_at y1 4 rfl
        have HY1 := hid y1
        clear hb hd x1 y1)
      | (
        go_at_call 20; have hh := HCE.out _ (HK1.out.setCell (p := ⟨wr.heap.size, 2, none⟩) (by omega) (.slice ga mb zb)); clear HCE; with_reducible refine Calls.mono hh ?_; clear hh; intro e w2 hh; unfold CP at hh; obtain ⟨v3, rfl, hd, hb⟩ := hh
        obtain ⟨gc, md, zd, rfl⟩ := hd.slc
        have hz2 : w1.heap.size ≤ w2.heap.size := by have := hb.size; simpa using this
        have x1 := (hb.block wr.heap.size (by simp; omega)).trans HY1.out
        have d1 := hd.mono (S' := fun g => wr.heap.size + 1 ≤ g) (fun g _ hg => by simp at hg; omega)
        have d0 := (HD1.out.set (H := wr.heap.size) (fun h => by omega) 2 (.slice ga mb zb)).bel hb
        have r1 := (HR1.out.set (H := wr.heap.size) (fun h => by have := HS.out _ h; omega) (fun g hg => by have := HRW.out.lt g hg; omega) 2 (.slice ga mb zb)).below hb
        have k1 := (HK1.out.setCell (p := ⟨wr.heap.size, 2, none⟩) (by omega) (.slice ga mb zb)).trans (hb.mono (by simp; omega))
        have r4 := cell_at x1 4 rfl
        have f4 := frozen_of_row w2 wr.heap.size 4 _ _ x1
        have y1 := box_set (j := 4) (v := (.slice gc md zd)) x1
        have q0 := cell_at y1 0 rfl
        have q1 := cell_at y1 1 rfl
        have q2 := cell_at y1 2 rfl
        have q3 := cell_at y1 3 rfl
        have q4 := cell_at y1 4 rfl
        have HR3 := hid (r1.set (H := wr.heap.size) (fun h => by have := HS.out _ h; omega) (fun g hg => by have := HRW.out.lt g hg; omega) 4 (.slice gc md zd))
        have HK3 := hid (k1.setCell (p := ⟨wr.heap.size, 4, none⟩) (by omega) (.slice gc md zd))
        have HD3 := hid (((d0.mono (S' := (fun q => S q ∨ (wr.heap.size + 1 ≤ q ∧ q < w2.heap.size))) (fun g hg h => .inr ⟨h, hg⟩)).set (H := wr.heap.size) (fun h => h.elim (fun h => by have := HS.out _ h; omega) (fun h => by omega)) 4 (.slice gc md zd)))
        have HD4 := hid (((d1.mono (S' := (fun q => S q ∨ (wr.heap.size + 1 ≤ q ∧ q < w2.heap.size))) (fun g hg h => .inr ⟨h, hg⟩)).set (H := wr.heap.size) (fun h => h.elim (fun h => by have := HS.out _ h; omega) (fun h => by omega)) 4 (.slice gc md zd)))
        have HLS := hid (show wr.heap.size + 1 ≤ w2.heap.size by omega)
        clear hb hd d0 d1 r1 k1 x1 y1)
      | (
        at_builtin; refine wpList_append_rd (o := ⟨some 68, _, _, _, _, _⟩) rowSo rfl (Operand.tmp 65) (Operand.tmp 67) rfl W3.heap.size (fun q => S q ∨ (wr.heap.size + 1 ≤ q ∧ q < w2.heap.size)) (fun q => S q ∨ (wr.heap.size + 1 ≤ q ∧ q < w2.heap.size)) (.slice aSO kSO cSO) (sosDa (x.sel.fro.take kSO)) rfl
         ((HR3.out.below ((Below.refl _ _).alloc (Nat.le_refl _) _)).more (fun g _ h => .inl h) (fun g hg h => by
          rcases h with h | h
          ·exact HRW.out.notin g hg h
          ·have := HRW.out.lt g hg; omega))
         w2.heap.size [Value.int .i64 y.kind, .string (str y.tb), .slice ga mb zb, .string (str y.al), .slice gc md zd] y.da rfl (by have := heap_alloc_new (w2.setCell ⟨wr.heap.size, 4, none⟩ (.slice gc md zd)) (.cells #[Value.int .i64 y.kind, .string (str y.tb), .slice ga mb zb, .string (str y.al), .slice gc md zd] 44); simpa using this) rfl (soda_len y)
         (so_row_din (HD3.out.bel ((Below.refl _ _).alloc (Nat.le_refl _) _)) (HD4.out.bel ((Below.refl _ _).alloc (Nat.le_refl _) _)))
         (so_row_one y _ _ _ _ _ _) (by rw [HKL.out]; omega) (by have := HLS.out; simp; omega) (fun q h _ => h) (fun g hg h => by
          rcases h with h | h
          ·exact HRW.out.notin g hg h
          ·have := HRW.out.lt g hg; omega) (fun h => by
          rcases h with h | h
          ·have := HS.out _ h; have := HLS.out; simp at *; omega
          ·simp at h; omega) ?_
        intro a4 c4 w4 hr4 hg4
        rw [HKL.out] at hr4
        rw [HKL.out]
        have hz4 := hg4.size
        have hz4 : w2.heap.size + 1 ≤ w4.heap.size := by simpa using hz4
        have HR4 := hid hr4
        have HG4 := hid hg4
        clear hr4 hg4))
     go_roundw
     case rel => exact ⟨kSO + 1, a4, c4, _, by omega, by go_num, rfl, (HK3.out.alloc (by have := HLS.out; simp; omega) _).trans (grown_below HG4.out (fun g hg => (HRW.out.lt g hg).1) (by have := HLS.out; simp; omega)), hid (by rw [cp_sos_snoc x.sel.fro kSO y HY.out]; exact HR4.out), hid (fun q h => by
      rcases h with h | h
      ·have := HS.out q h; have := HLS.out; omega
      ·have := HLS.out; omega)⟩
     case measure => simp [intOf]; omega
    ·have hkn : kSO = n2 := by omega
     subst hkn
     have hcn : decide ((kSO : Int) < (kSO : Int)) = false := decide_eq_false (by omega)
     have HTK := hid (show x.sel.fro.take kSO = x.sel.fro from List.take_of_length_le (by rw [HN2.out]; omega))
     have hI : DIn wr (fun g => z + 2 ≤ g) (.slice aSO kSO cSO) (.sl (sosDa x.sel.fro)) := by
      have h := HRW.out.din (S' := fun g => z + 2 ≤ g) (fun g h => by have := (HS.out g h).1; omega) (fun g hg => by have := (HRW.out.lt g hg).1; omega)
      rw [HTK.out] at h
      exact h
     have hX := (HBW.out.block z (by omega)).trans HX.out
     have hR := (HBW.out.block (z + 1) (by omega)).trans HRS.out
     have hP := (HP.out.bel HBW.out).add hI
     have hB := HBA.out
     have hkW4 : z + 2 ≤ wr.heap.size := by omega
     clear HX HRS HP HB HRW HS HTK HKL HBW HBA hI hsz hzr
     obtain ⟨W4, rfl⟩ : ∃ W, W = wr := ⟨_, rfl⟩
     have HX := hid hX
     have HRS := hid hR
     have HP := hid hP
     have HB := hid hB
     clear hX hR hP hB
     go_wp2_with fail
     go_loopw [9, 10] (fun o i wr => ∃ (kOB : Nat) (aOB : Option Addr) (cOB : Nat) (S : Nat → Prop), kOB ≤ n6 ∧ i = .int .i64 kOB ∧ o = .slice aOB kOB cOB ∧ Below W4.heap.size W4 wr ∧ Hid (RwD wr W4.heap.size S 58 9 (.slice aOB kOB cOB) (obsDa (x.ord.take kOB))) ∧ Hid (∀ q, S q → W4.heap.size ≤ q ∧ q < wr.heap.size)) (fun _ i _ => n6 - (intOf i).toNat)
     case atStart => exact ⟨0, _, _, fun _ => False, Nat.zero_le _, rfl, rfl, (Below.refl _ _).alloc (Nat.le_refl _) _, hid (RwD.made (w := W4.alloc (.cells #[] 58)) (B := W4.heap.size) (S := fun _ => False) (T := 58) (s := 9) (n := 0) (heap_alloc_new _ _) rfl (Nat.le_refl _) id (Nat.zero_le _)), hid (fun q h => h.elim)⟩
     case round =>
      obtain ⟨kOB, aOB, cOB, S, hk1, rfl, rfl, hbw, HRW, HS⟩ := hrel
      have hsz := hbw.size
      have HBW := hid hbw
      have HBA := hid (HB.out.trans (hbw.mono (by omega)))
      have hxq := (hbw.block z (by omega)).trans HX.out
      have yq := cell_at hxq 8 rfl
      have hzr : z < wr.heap.size := by omega
      clear hbw hxq
      have hkl : (obsDa (x.ord.take kOB)).length = kOB := by rw [obsDa_len, List.length_take, HN6.out]; omega
      have HKL := hid hkl
      clear hkl
      by_cases hlt1 : kOB < n6
      ·obtain ⟨b1, o1, rfl, hb1, hd1⟩ := HOBS.out (by omega)
       obtain ⟨y, hy⟩ : ∃ y, x.ord[kOB]? = some y := ⟨_, List.getElem?_eq_getElem (by rw [HN6.out]; exact hlt1)⟩
       obtain ⟨s0, s1, p0, p1, p2, p3, p4, p5, p6, p7, p8, h0, h1⟩ := hd1 kOB y hy
       replace p0 := (HBA.out.cell (p := ⟨b1, o1 + kOB * 9, none⟩) (by rw [HZ.out]; exact hb1)).trans p0
       replace p1 := (HBA.out.cell (p := ⟨b1, o1 + kOB * 9 + 1, none⟩) (by rw [HZ.out]; exact hb1)).trans p1
       replace p2 := (HBA.out.cell (p := ⟨b1, o1 + kOB * 9 + 2, none⟩) (by rw [HZ.out]; exact hb1)).trans p2
       replace p3 := (HBA.out.cell (p := ⟨b1, o1 + kOB * 9 + 3, none⟩) (by rw [HZ.out]; exact hb1)).trans p3
       replace p4 := (HBA.out.cell (p := ⟨b1, o1 + kOB * 9 + 4, none⟩) (by rw [HZ.out]; exact hb1)).trans p4
       replace p5 := (HBA.out.cell (p := ⟨b1, o1 + kOB * 9 + 5, none⟩) (by rw [HZ.out]; exact hb1)).trans p5
       replace p6 := (HBA.out.cell (p := ⟨b1, o1 + kOB * 9 + 6, none⟩) (by rw [HZ.out]; exact hb1)).trans p6
       replace p7 := (HBA.out.cell (p := ⟨b1, o1 + kOB * 9 + 7, none⟩) (by rw [HZ.out]; exact hb1)).trans p7
       replace p8 := (HBA.out.cell (p := ⟨b1, o1 + kOB * 9 + 8, none⟩) (by rw [HZ.out]; exact hb1)).trans p8
       obtain ⟨g0, m7, z7, rfl⟩ := dis_slice h0
       obtain ⟨g1, m8, z8, rfl⟩ := dis_slice h1
       have hb1r : b1 < wr.heap.size := by have := HZ.out; omega
       have hgg : Below w.heap.size w ((wr.alloc (.cells #[.int .i64 y.x.op, .string (str y.x.tb), .string (str y.x.nm), .int .i64 y.x.v.k, .int .i64 y.x.v.n, .string (str y.x.v.s), .slice g0 m7 z7, .slice g1 m8 z8, .bool y.down] 58)).alloc (.cells #[.int .i64 y.x.op, .string (str y.x.tb), .string (str y.x.nm), .int .i64 y.x.v.k, .int .i64 y.x.v.n, .string (str y.x.v.s), .slice g0 m7 z7, .slice g1 m8 z8] 40)) := by
        rw [← HZ.out]
        exact (HBA.out.alloc (by omega) _).alloc (by simp; omega) _
       have HCA : Hid (Calls Tryz.prog 20 #[.slice (some ⟨wr.heap.size + 1, 0, none⟩) 1 1] ((wr.alloc (.cells #[.int .i64 y.x.op, .string (str y.x.tb), .string (str y.x.nm), .int .i64 y.x.v.k, .int .i64 y.x.v.n, .string (str y.x.v.s), .slice g0 m7 z7, .slice g1 m8 z8, .bool y.down] 58)).alloc (.cells #[.int .i64 y.x.op, .string (str y.x.tb), .string (str y.x.nm), .int .i64 y.x.v.k, .int .i64 y.x.v.n, .string (str y.x.v.s), .slice g0 m7 z7, .slice g1 m8 z8] 40)) (fun e w' => ∃ v, e = .returned v ∧ DIn w' (fun g => wr.heap.size + 2 ≤ g) v (.sl (exsDa [y.x])) ∧ Below (wr.heap.size + 2) ((wr.alloc (.cells #[.int .i64 y.x.op, .string (str y.x.tb), .string (str y.x.nm), .int .i64 y.x.v.k, .int .i64 y.x.v.n, .string (str y.x.v.s), .slice g0 m7 z7, .slice g1 m8 z8, .bool y.down] 58)).alloc (.cells #[.int .i64 y.x.op, .string (str y.x.tb), .string (str y.x.nm), .int .i64 y.x.v.k, .int .i64 y.x.v.n, .string (str y.x.v.s), .slice g0 m7 z7, .slice g1 m8 z8] 40)) w')) := hid (by
        have kOB := hE [y.x] (.inr (.inr (.inr (.inr (.inr ⟨y, List.mem_of_getElem? hy, rfl⟩))))) ((wr.alloc (.cells #[.int .i64 y.x.op, .string (str y.x.tb), .string (str y.x.nm), .int .i64 y.x.v.k, .int .i64 y.x.v.n, .string (str y.x.v.s), .slice g0 m7 z7, .slice g1 m8 z8, .bool y.down] 58)).alloc (.cells #[.int .i64 y.x.op, .string (str y.x.tb), .string (str y.x.nm), .int .i64 y.x.v.k, .int .i64 y.x.v.n, .string (str y.x.v.s), .slice g0 m7 z7, .slice g1 m8 z8] 40)) (.slice (some ⟨wr.heap.size + 1, 0, none⟩) 1 1) (by
         have hh := heap_alloc_new (wr.alloc (.cells #[.int .i64 y.x.op, .string (str y.x.tb), .string (str y.x.nm), .int .i64 y.x.v.k, .int .i64 y.x.v.n, .string (str y.x.v.s), .slice g0 m7 z7, .slice g1 m8 z8, .bool y.down] 58)) (.cells #[.int .i64 y.x.op, .string (str y.x.tb), .string (str y.x.nm), .int .i64 y.x.v.k, .int .i64 y.x.v.n, .string (str y.x.v.s), .slice g0 m7 z7, .slice g1 m8 z8] 40)
         rw [show (wr.alloc (.cells #[.int .i64 y.x.op, .string (str y.x.tb), .string (str y.x.nm), .int .i64 y.x.v.k, .int .i64 y.x.v.n, .string (str y.x.v.s), .slice g0 m7 z7, .slice g1 m8 z8, .bool y.down] 58)).heap.size = wr.heap.size + 1 from by simp] at hh
         exact ex_lit hh (h0.keep hgg) (h1.keep hgg))
        unfold CP at kOB
        rw [show ((wr.alloc (.cells #[.int .i64 y.x.op, .string (str y.x.tb), .string (str y.x.nm), .int .i64 y.x.v.k, .int .i64 y.x.v.n, .string (str y.x.v.s), .slice g0 m7 z7, .slice g1 m8 z8, .bool y.down] 58)).alloc (.cells #[.int .i64 y.x.op, .string (str y.x.tb), .string (str y.x.nm), .int .i64 y.x.v.k, .int .i64 y.x.v.n, .string (str y.x.v.s), .slice g0 m7 z7, .slice g1 m8 z8] 40)).heap.size = wr.heap.size + 2 from by simp] at kOB
        exact kOB)
       have HO1 := hid (hp_al (heap_alloc_new wr (.cells #[.int .i64 y.x.op, .string (str y.x.tb), .string (str y.x.nm), .int .i64 y.x.v.k, .int .i64 y.x.v.n, .string (str y.x.v.s), .slice g0 m7 z7, .slice g1 m8 z8, .bool y.down] 58)) (.cells #[.int .i64 y.x.op, .string (str y.x.tb), .string (str y.x.nm), .int .i64 y.x.v.k, .int .i64 y.x.v.n, .string (str y.x.v.s), .slice g0 m7 z7, .slice g1 m8 z8] 40))
       have HRB := hid ((HRW.out.below ((Below.refl wr.heap.size wr).alloc (Nat.le_refl _) (.cells #[.int .i64 y.x.op, .string (str y.x.tb), .string (str y.x.nm), .int .i64 y.x.v.k, .int .i64 y.x.v.n, .string (str y.x.v.s), .slice g0 m7 z7, .slice g1 m8 z8, .bool y.down] 58))).below ((Below.refl _ _).alloc (Nat.le_refl _) (.cells #[.int .i64 y.x.op, .string (str y.x.tb), .string (str y.x.nm), .int .i64 y.x.v.k, .int .i64 y.x.v.n, .string (str y.x.v.s), .slice g0 m7 z7, .slice g1 m8 z8] 40)))
       have HKB := hid ((HBW.out.alloc hsz (.cells #[.int .i64 y.x.op, .string (str y.x.tb), .string (str y.x.nm), .int .i64 y.x.v.k, .int .i64 y.x.v.n, .string (str y.x.v.s), .slice g0 m7 z7, .slice g1 m8 z8, .bool y.down] 58)).alloc (by simp; omega) (.cells #[.int .i64 y.x.op, .string (str y.x.tb), .string (str y.x.nm), .int .i64 y.x.v.k, .int .i64 y.x.v.n, .string (str y.x.v.s), .slice g0 m7 z7, .slice g1 m8 z8] 40))
       have HSZ := hid (show ((wr.alloc (.cells #[.int .i64 y.x.op, .string (str y.x.tb), .string (str y.x.nm), .int .i64 y.x.v.k, .int .i64 y.x.v.n, .string (str y.x.v.s), .slice g0 m7 z7, .slice g1 m8 z8, .bool y.down] 58)).alloc (.cells #[.int .i64 y.x.op, .string (str y.x.tb), .string (str y.x.nm), .int .i64 y.x.v.k, .int .i64 y.x.v.n, .string (str y.x.v.s), .slice g0 m7 z7, .slice g1 m8 z8] 40)).heap.size = wr.heap.size + 2 from by simp)
       have HY := hid hy
       clear hd1 hy h0 h1 hgg
       go_wp2_with (first
        | (
          go_at_call 20; have hh := HCA.out; clear HCA; with_reducible refine Calls.mono hh ?_; clear hh; intro e w1 hh; obtain ⟨v2, rfl, hd, hb⟩ := hh
          obtain ⟨b2, o2, c2, q0, q1, rfl, hl2, hc2, hr2, d0, d1⟩ := ex_of_din hd
          obtain ⟨ga, mb, zb, rfl⟩ := d0.slc
          obtain ⟨gc, md, zd, rfl⟩ := d1.slc
          have hsz2 := hb.size
          rw [HSZ.out] at hsz2
          have x1 := (hb.block wr.heap.size (by omega)).trans HO1.out
          have gr := setCells_grown wr.heap.size [Value.int .i64 y.x.op, .string (str y.x.tb), .string (str y.x.nm), .int .i64 y.x.v.k, .int .i64 y.x.v.n, .string (str y.x.v.s), .slice ga mb zb, .slice gc md zd] 0 w1
          obtain ⟨w3, hw3⟩ : ∃ W, W = w1.setCells wr.heap.size 0 [Value.int .i64 y.x.op, .string (str y.x.tb), .string (str y.x.nm), .int .i64 y.x.v.k, .int .i64 y.x.v.n, .string (str y.x.v.s), .slice ga mb zb, .slice gc md zd] := ⟨_, rfl⟩
          rw [← hw3] at gr
          have HW3 := hid hw3
          have HR2 := hid hr2
          have HTH := hid (there_of (o := 0) (n := 8) x1 (show 0 + 8 ≤ 9 by decide))
          have y1 : w3.heap[wr.heap.size]? = some (.cells #[Value.int .i64 y.x.op, .string (str y.x.tb), .string (str y.x.nm), .int .i64 y.x.v.k, .int .i64 y.x.v.n, .string (str y.x.v.s), .slice ga mb zb, .slice gc md zd, .bool y.down] 58 (0, 0)) := by rw [hw3]; exact setCells_heap [Value.int .i64 y.x.op, .string (str y.x.tb), .string (str y.x.nm), .int .i64 y.x.v.k, .int .i64 y.x.v.n, .string (str y.x.v.s), .slice ga mb zb, .slice gc md zd] 0 w1 [Value.int .i64 y.x.op, .string (str y.x.tb), .string (str y.x.nm), .int .i64 y.x.v.k, .int .i64 y.x.v.n, .string (str y.x.v.s), .slice g0 m7 z7, .slice g1 m8 z8, .bool y.down] x1 (show 8 ≤ 9 by decide)
          have HRM := hid (rng_of (cs := [Value.int .i64 y.x.op, .string (str y.x.tb), .string (str y.x.nm), .int .i64 y.x.v.k, .int .i64 y.x.v.n, .string (str y.x.v.s), .slice ga mb zb, .slice gc md zd, .bool y.down]) y1)
          have hz4 := gr.size
          have HR1 := hid ((HRB.out.below (by rw [HSZ.out]; exact hb)).grown gr (fun h => by have := HS.out _ h; omega) (fun g hg => by have := HRW.out.lt g hg; omega))
          have HK1 := hid ((HKB.out.trans (hb.mono (by omega))).trans (grown_bel gr (by omega) (by omega)))
          have HD0 := hid ((d0.grown gr (by omega)).mono (S' := fun q => S q ∨ (wr.heap.size + 2 ≤ q ∧ q < w3.heap.size)) (fun g hg h => .inr ⟨h, hg⟩))
          have HD1 := hid ((d1.grown gr (by omega)).mono (S' := fun q => S q ∨ (wr.heap.size + 2 ≤ q ∧ q < w3.heap.size)) (fun g hg h => .inr ⟨h, hg⟩))
          have HLS := hid (show wr.heap.size + 2 ≤ w3.heap.size by omega)
          clear hb hd d0 d1 x1 y1 gr hr2 hz4 hw3)
        | (refine wpList_load_mid rfl 40 (Operand.tmp 86) rfl b2 o2 rfl [Value.int .i64 y.x.op, .string (str y.x.tb), .string (str y.x.nm), .int .i64 y.x.v.k, .int .i64 y.x.v.n, .string (str y.x.v.s), .slice ga mb zb, .slice gc md zd] _ HR2.out Tryz.underlying40 rfl cinfo_e ?_)
        | (refine wpList_store_mid rfl 40 (Operand.tmp 88) (Operand.tmp 87) rfl wr.heap.size 0 #[Value.int .i64 y.x.op, .string (str y.x.tb), .string (str y.x.nm), .int .i64 y.x.v.k, .int .i64 y.x.v.n, .string (str y.x.v.s), .slice ga mb zb, .slice gc md zd] rfl rfl HTH.out cinfo_e (all_oneCell_toArray (ex_row_one y.x _ _ _ _ _ _)) ?_; rw [show World.setCells w1 wr.heap.size 0 (Array.toList #[Value.int .i64 y.x.op, .string (str y.x.tb), .string (str y.x.nm), .int .i64 y.x.v.k, .int .i64 y.x.v.n, .string (str y.x.v.s), .slice ga mb zb, .slice gc md zd]) = w3 from HW3.out.symm])
        | (refine wpList_load_mid rfl 58 (Operand.tmp 11) rfl wr.heap.size 0 rfl [Value.int .i64 y.x.op, .string (str y.x.tb), .string (str y.x.nm), .int .i64 y.x.v.k, .int .i64 y.x.v.n, .string (str y.x.v.s), .slice ga mb zb, .slice gc md zd, .bool y.down] _ HRM.out Tryz.underlying58 rfl cinfo_o ?_)
        | (
          at_builtin; refine wpList_append_rd (o := ⟨some 92, _, _, _, _, _⟩) rowOb rfl (Operand.tmp 89) (Operand.tmp 91) rfl W4.heap.size (fun q => S q ∨ (wr.heap.size + 2 ≤ q ∧ q < w3.heap.size)) (fun q => S q ∨ (wr.heap.size + 2 ≤ q ∧ q < w3.heap.size)) (.slice aOB kOB cOB) (obsDa (x.ord.take kOB)) rfl
           ((HR1.out.below ((Below.refl _ _).alloc (Nat.le_refl _) _)).more (fun g _ h => .inl h) (fun g hg h => by
            rcases h with h | h
            ·exact HRW.out.notin g hg h
            ·have := HRW.out.lt g hg; omega))
           w3.heap.size [Value.int .i64 y.x.op, .string (str y.x.tb), .string (str y.x.nm), .int .i64 y.x.v.k, .int .i64 y.x.v.n, .string (str y.x.v.s), .slice ga mb zb, .slice gc md zd, .bool y.down] y.da rfl (heap_alloc_new _ _) rfl (obda_len y)
           (ob_row_din (HD0.out.bel ((Below.refl _ _).alloc (Nat.le_refl _) _)) (HD1.out.bel ((Below.refl _ _).alloc (Nat.le_refl _) _)))
           (ob_row_one y _ _ _ _ _ _) (by rw [HKL.out]; omega) (by have := HLS.out; simp; omega) (fun q h _ => h) (fun g hg h => by
            rcases h with h | h
            ·exact HRW.out.notin g hg h
            ·have := HRW.out.lt g hg; omega) (fun h => by
            rcases h with h | h
            ·have := HS.out _ h; have := HLS.out; simp at *; omega
            ·simp at h; omega) ?_
          intro a4 c4 w4 hr4 hg4
          rw [HKL.out] at hr4
          rw [HKL.out]
          have hz4 := hg4.size
          have hz4 : w3.heap.size + 1 ≤ w4.heap.size := by simpa using hz4
          have HR4 := hid hr4
          have HG4 := hid hg4
          clear hr4 hg4))
       go_roundw
       case rel => exact ⟨kOB + 1, a4, c4, _, by omega, by go_num, rfl, (HK1.out.alloc (by have := HLS.out; omega) _).trans (grown_below HG4.out (fun g hg => (HRW.out.lt g hg).1) (by have := HLS.out; simp; omega)), hid (by rw [cp_obs_snoc x.ord kOB y HY.out]; exact HR4.out), hid (fun q h => by
        rcases h with h | h
        ·have := HS.out q h; have := HLS.out; omega
        ·have := HLS.out; omega)⟩
       case measure => simp [intOf]; omega
      ·have hkn : kOB = n6 := by omega
       subst hkn
       have hcn : decide ((kOB : Int) < (kOB : Int)) = false := decide_eq_false (by omega)
       have HTK := hid (show x.ord.take kOB = x.ord from List.take_of_length_le (by rw [HN6.out]; omega))
       have hI : DIn wr (fun g => z + 2 ≤ g) (.slice aOB kOB cOB) (.sl (obsDa x.ord)) := by
        have h := HRW.out.din (S' := fun g => z + 2 ≤ g) (fun g h => by have := (HS.out g h).1; omega) (fun g hg => by have := (HRW.out.lt g hg).1; omega)
        rw [HTK.out] at h
        exact h
       have hX := (HBW.out.block z (by omega)).trans HX.out
       have hR := (HBW.out.block (z + 1) (by omega)).trans HRS.out
       have hP := (HP.out.bel HBW.out).add hI
       have hB := HBA.out
       have hkW5 : z + 2 ≤ wr.heap.size := by omega
       clear HX HRS HP HB HRW HS HTK HKL HBW HBA hI hsz hzr
       obtain ⟨W5, rfl⟩ : ∃ W, W = wr := ⟨_, rfl⟩
       have HX := hid hX
       have HRS := hid hR
       have HP := hid hP
       have HB := hid hB
       clear hX hR hP hB
       have hx : W5.heap[z]? = some (.cells #[Value.int .i64 x.op, .slice aP nP cP, .bool x.sel.dist, .slice e1 kIT k1, .slice e2 kSO k2, .slice e3 m3 k3, .slice e4 m4 k4, .slice e5 m5 k5, .slice e6 kOB k6, .bool x.lim, .int .i64 x.n] 30 (0, 0)) := HX.out
       clear HX
       have HX := hid hx
       have f3 := frozen_of_row W5 z 3 _ _ hx
       have f4 := frozen_of_row W5 z 4 _ _ hx
       have y3 := cell_at hx 3 rfl
       have y4 := cell_at hx 4 rfl
       have y5 := cell_at hx 5 rfl
       clear hx
       go_wp2_with (first
        | (
          go_at_call 20; have hbk := ((HB.out.setCell (p := ⟨z, 3, none⟩) (Nat.le_refl _) (.slice aIT kIT cIT)).setCell (p := ⟨z, 4, none⟩) (Nat.le_refl _) (.slice aSO kSO cSO)); have hh := hE x.sel.wh (.inl rfl) _ (.slice e3 m3 k3) (H3.out.keep (by rw [← HZ.out]; exact hbk)); with_reducible refine Calls.mono hh ?_; clear hh; intro e w6 hh; unfold CP at hh; obtain ⟨v6, rfl, hd, hb⟩ := hh
          obtain ⟨aW, nW, cW, rfl⟩ := hd.slc
          have hs : W5.heap.size ≤ w6.heap.size := by have := hb.size; simpa using this
          have hx : w6.heap[z]? = some (.cells #[Value.int .i64 x.op, .slice aP nP cP, .bool x.sel.dist, .slice aIT kIT cIT, .slice aSO kSO cSO, .slice e3 m3 k3, .slice e4 m4 k4, .slice e5 m5 k5, .slice e6 kOB k6, .bool x.lim, .int .i64 x.n] 30 (0, 0)) := (hb.block z (by simp; omega)).trans (setCell_heap (l := [Value.int .i64 x.op, .slice aP nP cP, .bool x.sel.dist, .slice aIT kIT cIT, .slice e2 kSO k2, .slice e3 m3 k3, .slice e4 m4 k4, .slice e5 m5 k5, .slice e6 kOB k6, .bool x.lim, .int .i64 x.n]) (o := 4) (v := .slice aSO kSO cSO) (setCell_heap (l := [Value.int .i64 x.op, .slice aP nP cP, .bool x.sel.dist, .slice e1 kIT k1, .slice e2 kSO k2, .slice e3 m3 k3, .slice e4 m4 k4, .slice e5 m5 k5, .slice e6 kOB k6, .bool x.lim, .int .i64 x.n]) (o := 3) (v := .slice aIT kIT cIT) HX.out (show 3 < 11 by decide)) (show 4 < 11 by decide))
          have hr := (hb.block (z + 1) (by simp; omega)).trans ((heap_setCell_other _ ⟨z, 4, none⟩ (z + 1) (.slice aSO kSO cSO) (by simp)).trans ((heap_setCell_other _ ⟨z, 3, none⟩ (z + 1) (.slice aIT kIT cIT) (by simp)).trans HRS.out))
          have hp := (((HP.out.set 3 (.slice aIT kIT cIT)).set 4 (.slice aSO kSO cSO)).bel hb).add (hd.mono (S' := fun g => z + 2 ≤ g) (fun g _ h => by simp at h; omega))
          have hB := hbk.trans (hb.mono (by simp; omega))
          clear HX HRS HP HB hb hd hbk
          have HX := hid hx; have HRS := hid hr; have HP := hid hp; have HB := hid hB
          have f5 := frozen_of_row w6 z 5 _ _ hx
          have y5 := cell_at hx 5 rfl
          have y6 := cell_at hx 6 rfl
          clear hx hr hp hB)
        | (
          go_at_call 20; have hbk := (HB.out.setCell (p := ⟨z, 5, none⟩) (Nat.le_refl _) (.slice aW nW cW)); have hh := hE x.sel.gr (.inr (.inl rfl)) _ (.slice e4 m4 k4) (H4.out.keep (by rw [← HZ.out]; exact hbk)); with_reducible refine Calls.mono hh ?_; clear hh; intro e w7 hh; unfold CP at hh; obtain ⟨v6, rfl, hd, hb⟩ := hh
          obtain ⟨aG, nG, cG, rfl⟩ := hd.slc
          have hs : w6.heap.size ≤ w7.heap.size := by have := hb.size; simpa using this
          have hx : w7.heap[z]? = some (.cells #[Value.int .i64 x.op, .slice aP nP cP, .bool x.sel.dist, .slice aIT kIT cIT, .slice aSO kSO cSO, .slice aW nW cW, .slice e4 m4 k4, .slice e5 m5 k5, .slice e6 kOB k6, .bool x.lim, .int .i64 x.n] 30 (0, 0)) := (hb.block z (by simp; omega)).trans (setCell_heap (l := [Value.int .i64 x.op, .slice aP nP cP, .bool x.sel.dist, .slice aIT kIT cIT, .slice aSO kSO cSO, .slice e3 m3 k3, .slice e4 m4 k4, .slice e5 m5 k5, .slice e6 kOB k6, .bool x.lim, .int .i64 x.n]) (o := 5) (v := .slice aW nW cW) HX.out (show 5 < 11 by decide))
          have hr := (hb.block (z + 1) (by simp; omega)).trans ((heap_setCell_other _ ⟨z, 5, none⟩ (z + 1) (.slice aW nW cW) (by simp)).trans HRS.out)
          have hp := ((HP.out.set 5 (.slice aW nW cW)).bel hb).add (hd.mono (S' := fun g => z + 2 ≤ g) (fun g _ h => by simp at h; omega))
          have hB := hbk.trans (hb.mono (by simp; omega))
          clear HX HRS HP HB hb hd hbk
          have HX := hid hx; have HRS := hid hr; have HP := hid hp; have HB := hid hB
          have f6 := frozen_of_row w7 z 6 _ _ hx
          have y6 := cell_at hx 6 rfl
          have y7 := cell_at hx 7 rfl
          clear hx hr hp hB)
        | (
          go_at_call 20; have hbk := (HB.out.setCell (p := ⟨z, 6, none⟩) (Nat.le_refl _) (.slice aG nG cG)); have hh := hE x.sel.hv (.inr (.inr (.inl rfl))) _ (.slice e5 m5 k5) (H5.out.keep (by rw [← HZ.out]; exact hbk)); with_reducible refine Calls.mono hh ?_; clear hh; intro e w8 hh; unfold CP at hh; obtain ⟨v6, rfl, hd, hb⟩ := hh
          obtain ⟨aH, nH, cH, rfl⟩ := hd.slc
          have hs : w7.heap.size ≤ w8.heap.size := by have := hb.size; simpa using this
          have hx : w8.heap[z]? = some (.cells #[Value.int .i64 x.op, .slice aP nP cP, .bool x.sel.dist, .slice aIT kIT cIT, .slice aSO kSO cSO, .slice aW nW cW, .slice aG nG cG, .slice e5 m5 k5, .slice e6 kOB k6, .bool x.lim, .int .i64 x.n] 30 (0, 0)) := (hb.block z (by simp; omega)).trans (setCell_heap (l := [Value.int .i64 x.op, .slice aP nP cP, .bool x.sel.dist, .slice aIT kIT cIT, .slice aSO kSO cSO, .slice aW nW cW, .slice e4 m4 k4, .slice e5 m5 k5, .slice e6 kOB k6, .bool x.lim, .int .i64 x.n]) (o := 6) (v := .slice aG nG cG) HX.out (show 6 < 11 by decide))
          have hr := (hb.block (z + 1) (by simp; omega)).trans ((heap_setCell_other _ ⟨z, 6, none⟩ (z + 1) (.slice aG nG cG) (by simp)).trans HRS.out)
          have hp := ((HP.out.set 6 (.slice aG nG cG)).bel hb).add (hd.mono (S' := fun g => z + 2 ≤ g) (fun g _ h => by simp at h; omega))
          have hB := hbk.trans (hb.mono (by simp; omega))
          clear HX HRS HP HB hb hd hbk
          have HX := hid hx; have HRS := hid hr; have HP := hid hp; have HB := hid hB
          have f7 := frozen_of_row w8 z 7 _ _ hx
          have f8 := frozen_of_row w8 z 8 _ _ hx
          have y7 := cell_at hx 7 rfl
          have y8 := cell_at hx 8 rfl
          clear hx hr hp hB
          have hxu : ((w8.setCell ⟨z, 7, none⟩ (.slice aH nH cH)).setCell ⟨z, 8, none⟩ (.slice aOB kOB cOB)).heap[z]? = some (.cells #[Value.int .i64 x.op, .slice aP nP cP, .bool x.sel.dist, .slice aIT kIT cIT, .slice aSO kSO cSO, .slice aW nW cW, .slice aG nG cG, .slice aH nH cH, .slice aOB kOB cOB, .bool x.lim, .int .i64 x.n] 30 (0, 0)) := setCell_heap (l := [Value.int .i64 x.op, .slice aP nP cP, .bool x.sel.dist, .slice aIT kIT cIT, .slice aSO kSO cSO, .slice aW nW cW, .slice aG nG cG, .slice aH nH cH, .slice e6 kOB k6, .bool x.lim, .int .i64 x.n]) (o := 8) (v := .slice aOB kOB cOB) (setCell_heap (l := [Value.int .i64 x.op, .slice aP nP cP, .bool x.sel.dist, .slice aIT kIT cIT, .slice aSO kSO cSO, .slice aW nW cW, .slice aG nG cG, .slice e5 m5 k5, .slice e6 kOB k6, .bool x.lim, .int .i64 x.n]) (o := 7) (v := .slice aH nH cH) HX.out (show 7 < 11 by decide)) (show 8 < 11 by decide)
          have hru : ((w8.setCell ⟨z, 7, none⟩ (.slice aH nH cH)).setCell ⟨z, 8, none⟩ (.slice aOB kOB cOB)).heap[z + 1]? = some (.cells #[.int .i64 0, .slice none 0 0, .bool false, .slice none 0 0, .slice none 0 0, .slice none 0 0, .slice none 0 0, .slice none 0 0, .slice none 0 0, .bool false, .int .i64 0] 30 (0, 0)) := ((heap_setCell_other _ ⟨z, 8, none⟩ (z + 1) (.slice aOB kOB cOB) (by simp)).trans ((heap_setCell_other _ ⟨z, 7, none⟩ (z + 1) (.slice aH nH cH) (by simp)).trans HRS.out))
          have hpu := (HP.out.set 7 (.slice aH nH cH)).set 8 (.slice aOB kOB cOB)
          have hbu := (HB.out.setCell (p := ⟨z, 7, none⟩) (Nat.le_refl _) (.slice aH nH cH)).setCell (p := ⟨z, 8, none⟩) (Nat.le_refl _) (.slice aOB kOB cOB)
          have gr := setCells_grown (z + 1) [Value.int .i64 x.op, .slice aP nP cP, .bool x.sel.dist, .slice aIT kIT cIT, .slice aSO kSO cSO, .slice aW nW cW, .slice aG nG cG, .slice aH nH cH, .slice aOB kOB cOB, .bool x.lim, .int .i64 x.n] 0 ((w8.setCell ⟨z, 7, none⟩ (.slice aH nH cH)).setCell ⟨z, 8, none⟩ (.slice aOB kOB cOB))
          obtain ⟨w9, hw9⟩ : ∃ W, W = World.setCells ((w8.setCell ⟨z, 7, none⟩ (.slice aH nH cH)).setCell ⟨z, 8, none⟩ (.slice aOB kOB cOB)) (z + 1) 0 [Value.int .i64 x.op, .slice aP nP cP, .bool x.sel.dist, .slice aIT kIT cIT, .slice aSO kSO cSO, .slice aW nW cW, .slice aG nG cG, .slice aH nH cH, .slice aOB kOB cOB, .bool x.lim, .int .i64 x.n] := ⟨_, rfl⟩
          have hfin : w9.heap[z + 1]? = some (.cells #[Value.int .i64 x.op, .slice aP nP cP, .bool x.sel.dist, .slice aIT kIT cIT, .slice aSO kSO cSO, .slice aW nW cW, .slice aG nG cG, .slice aH nH cH, .slice aOB kOB cOB, .bool x.lim, .int .i64 x.n] 30 (0, 0)) := by rw [hw9]; exact setCells_heap [Value.int .i64 x.op, .slice aP nP cP, .bool x.sel.dist, .slice aIT kIT cIT, .slice aSO kSO cSO, .slice aW nW cW, .slice aG nG cG, .slice aH nH cH, .slice aOB kOB cOB, .bool x.lim, .int .i64 x.n] 0 _ [.int .i64 0, .slice none 0 0, .bool false, .slice none 0 0, .slice none 0 0, .slice none 0 0, .slice none 0 0, .slice none 0 0, .slice none 0 0, .bool false, .int .i64 0] hru (show 11 ≤ 11 by decide)
          rw [← hw9] at gr
          have HW9 := hid hw9
          have HRQ := hid (rng_of (cs := [Value.int .i64 x.op, .slice aP nP cP, .bool x.sel.dist, .slice aIT kIT cIT, .slice aSO kSO cSO, .slice aW nW cW, .slice aG nG cG, .slice aH nH cH, .slice aOB kOB cOB, .bool x.lim, .int .i64 x.n]) hxu)
          have HTH := hid (there_of (o := 0) (n := 11) hru (show 11 ≤ 11 by decide))
          have HFIN := hid hfin
          have HP9 := hid (hpu.grown gr (by omega))
          have HB9 := hid (hbu.trans (grown_bel gr (by omega) (by simp; omega)))
          clear hxu hru hpu hbu gr hw9 hfin)
        | (refine wpList_load_mid rfl 30 (Operand.tmp 1) rfl z 0 rfl [Value.int .i64 x.op, .slice aP nP cP, .bool x.sel.dist, .slice aIT kIT cIT, .slice aSO kSO cSO, .slice aW nW cW, .slice aG nG cG, .slice aH nH cH, .slice aOB kOB cOB, .bool x.lim, .int .i64 x.n] _ HRQ.out Tryz.underlying30 rfl cinfo_q ?_)
        | (refine wpList_store_mid rfl 30 (Operand.tmp 2) (Operand.tmp 119) rfl (z + 1) 0 #[Value.int .i64 x.op, .slice aP nP cP, .bool x.sel.dist, .slice aIT kIT cIT, .slice aSO kSO cSO, .slice aW nW cW, .slice aG nG cG, .slice aH nH cH, .slice aOB kOB cOB, .bool x.lim, .int .i64 x.n] rfl rfl HTH.out cinfo_q (all_oneCell_toArray (qu_row_one x _ _ _ _ _ _ _ _ _ _ _ _ _ _ _ _ _ _ _ _ _)) ?_; rw [show World.setCells ((w8.setCell ⟨z, 7, none⟩ (.slice aH nH cH)).setCell ⟨z, 8, none⟩ (.slice aOB kOB cOB)) (z + 1) 0 (Array.toList #[Value.int .i64 x.op, .slice aP nP cP, .bool x.sel.dist, .slice aIT kIT cIT, .slice aSO kSO cSO, .slice aW nW cW, .slice aG nG cG, .slice aH nH cH, .slice aOB kOB cOB, .bool x.lim, .int .i64 x.n]) = w9 from HW9.out.symm]))
       refine bodyPost_ret (results_cell_row rfl _ _ (z + 1) 30 #[Value.int .i64 x.op, .slice aP nP cP, .bool x.sel.dist, .slice aIT kIT cIT, .slice aSO kSO cSO, .slice aW nW cW, .slice aG nG cG, .slice aH nH cH, .slice aOB kOB cOB, .bool x.lim, .int .i64 x.n] (0, 0) _ rfl HFIN.out Tryz.underlying30 rfl cinfo_q) rfl ?_
       have hz := HZ.out
       have hp := HP9.out
       have hb := HB9.out
       clear HP9 HB9
       subst hz
       exact ⟨_, rfl, ⟨_, _, _, _, _, _, _, rfl, ((hp _ (.tail _ (.tail _ (.tail _ (.tail _ (.tail _ (.tail _ (.head _)))))))).mono (fun g _ h => by have h : w.heap.size + 2 ≤ g := h; omega)), ((hp _ (.tail _ (.tail _ (.tail _ (.tail _ (.tail _ (.head _))))))).mono (fun g _ h => by have h : w.heap.size + 2 ≤ g := h; omega)), ((hp _ (.tail _ (.tail _ (.tail _ (.tail _ (.head _)))))).mono (fun g _ h => by have h : w.heap.size + 2 ≤ g := h; omega)), ((hp _ (.tail _ (.tail _ (.head _)))).mono (fun g _ h => by have h : w.heap.size + 2 ≤ g := h; omega)), ((hp _ (.tail _ (.head _))).mono (fun g _ h => by have h : w.heap.size + 2 ≤ g := h; omega)), ((hp _ (.head _)).mono (fun g _ h => by have h : w.heap.size + 2 ≤ g := h; omega)), ((hp _ (.tail _ (.tail _ (.tail _ (.head _))))).mono (fun g _ h => by have h : w.heap.size + 2 ≤ g := h; omega))⟩, hb⟩
end Go.Proofs.YtegkbagnbnoopaaGreatDoor
