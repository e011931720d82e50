import Derived.Test.YtkajpcjmcpollaaDoorRef9
import Derived.WalkKit
import Derived.ProofKit
import Derived.BigQuiet
import Derived.Deep.QuietTactic
import Derived.WalkSpells
import Derived.WalkLawsBesides
import Derived.Lib.Hide
import Derived.Deep.MidRow
import Derived.Deep.RegionLaw
import Derived.BigRegion
import Derived.Laws.AppendOwnNone
import Derived.Deep.DeepMust
import Derived.Deep.AppendLies
import Derived.RegionTactic
import Derived.Deep.WholeRow
import Derived.BigFrame
import Derived.Deep.RegionWith
import Derived.Deep.RegionHeld3
import Derived.Maps.RangeWalk
import Derived.Laws.CopyOwn
import Derived.StillTailTactics
namespace Go.Proofs.YtkajpcjmcpollaaDoor
open Go.RowKit
def DR (s : S8) (i : Nat) : Array Value := ArrU8 ((dig s).take i ++ zeros (32 - i))
theorem dig_len (s : S8) : (dig s).length = 32 := by simp [dig, S8.list]
theorem dig_get (s : S8) (i : Nat) (h : i < 32) : (dig s)[i]?.getD 0 = s.list[i / 4]?.getD 0 / 2 ^ (24 - 8 * (i % 4)) % 256 := by
  have hc : i = 0 ∨ i = 1 ∨ i = 2 ∨ i = 3 ∨ i = 4 ∨ i = 5 ∨ i = 6 ∨ i = 7 ∨ i = 8 ∨ i = 9 ∨ i = 10 ∨ i = 11 ∨ i = 12 ∨ i = 13 ∨ i = 14 ∨ i = 15 ∨ i = 16 ∨ i = 17 ∨ i = 18 ∨ i = 19 ∨ i = 20 ∨ i = 21 ∨ i = 22 ∨ i = 23 ∨ i = 24 ∨ i = 25 ∨ i = 26 ∨ i = 27 ∨ i = 28 ∨ i = 29 ∨ i = 30 ∨ i = 31 := by omega
  rcases hc with rfl | rfl | rfl | rfl | rfl | rfl | rfl | rfl | rfl | rfl | rfl | rfl | rfl | rfl | rfl | rfl | rfl | rfl | rfl | rfl | rfl | rfl | rfl | rfl | rfl | rfl | rfl | rfl | rfl | rfl | rfl | rfl <;> first | rfl | simp [dig, S8.list]
theorem DR_size (s : S8) (i : Nat) (hi : i ≤ 32) : (DR s i).size = 32 := by
  have := dig_len s
  simp [DR, ArrU8, zeros]; omega
theorem DR_get (s : S8) (i j : Nat) (hi : i ≤ 32) (hj : j < 32) : ∃ x, (DR s i)[j]? = some (.int .u8 x) := by
  have : j < (DR s i).size := by rw [DR_size s i hi]; exact hj
  rw [Array.getElem?_eq_getElem this]
  simp only [DR, ArrU8, List.getElem_toArray, List.getElem_map]
  exact ⟨_, rfl⟩
theorem DR_set (s : S8) (i : Nat) (hi : i < 32) : (DR s i).setIfInBounds i (.int .u8 ((dig s)[i]?.getD 0)) = DR s (i + 1) := by
  have hl := dig_len s
  simp only [DR, ArrU8, List.setIfInBounds_toArray]
  congr 1
  rw [List.take_succ_eq_append_getElem (by omega), List.getElem?_eq_getElem (by omega), show 32 - i = (32 - (i + 1)) + 1 by omega]
  simp only [zeros, List.replicate_succ, List.map_append, List.map_cons, Option.getD_some]
  rw [List.set_append_right _ _ (by simp; omega)]
  simp [List.length_take, hl, Nat.min_eq_left (Nat.le_of_lt hi)]
theorem DR_end (s : S8) : DR s 32 = ArrU8 (dig s) := by
  have hl := dig_len s
  simp only [DR, zeros]
  rw [List.take_of_length_le (by omega)]
  simp
/-- the message behind 0x80 and k noughts -/
def padK (l : List Int) (k : Nat) : List Int := l ++ 128 :: zeros k
theorem padK_succ (l : List Int) (k : Nat) : padK l (k + 1) = padK l k ++ [0] := by
  simp [padK, zeros, List.replicate_succ']
theorem padK_len (l : List Int) (k : Nat) : (padK l k).length = l.length + 1 + k := by simp [padK, zeros]; omega
set_option maxRecDepth 100000 in
set_option maxHeartbeats 4000000 in
theorem refSum_any (v : Value) (l : List Int) (w : World) (hv : Bs w v l) (hl : l.length ≤ 549755813888) :
    Calls Tryd.prog 42 #[v] w fun e w' => e = .returned (.agg (ArrU8 (sha l))) ∧ Below w.heap.size w w' := by
  obtain ⟨i0, hi, hz0, hz1, hz2⟩ := info_parts info5
  have HV := Lib.hid hv
  have hvl : ∃ a c, v = .slice a l.length c := by obtain ⟨a, c, h, _⟩ := hv; exact ⟨a, c, h⟩
  obtain ⟨va, vc, rfl⟩ := hvl
  generalize hN : l.length = n at *
  have HN := Lib.hid hN
  clear hv hN
  go_enter Tryd.func42, Tryd.ntmps42
  go_wp2_with fail
  obtain ⟨w0, hw0⟩ : ∃ w1 : World, w1 = w.alloc (.cells ((List.replicate 32 (Value.int .u8 0)).toArray) 54) := ⟨_, rfl⟩
  change Calls _ _ _ (w.alloc (.cells ((List.replicate 32 (Value.int .u8 0)).toArray) 54)) _
  rw [← hw0]
  have hs0 : w0.heap.size = w.heap.size + 1 := by rw [hw0]; simp
  have b0 : Below w.heap.size w w0 := by rw [hw0]; exact (Below.refl _ _).alloc (Nat.le_refl _) _
  have r0 : w0.heap[w.heap.size]? = some (.cells ((List.replicate 32 (Value.int .u8 0)).toArray) 54 (0,0)) := by rw [hw0]; exact heap_alloc_new _ _
  have R0 := Lib.hid r0
  have B0 := Lib.hid b0
  clear hw0 b0 r0
  refine (numbers_any w0).mono ?_
  rintro e w1 ⟨v3, v4, rfl, ho3, ho4, hne, hb1⟩
  have HO3 := Lib.hid ho3
  have HO4 := Lib.hid ho4
  have HNE := Lib.hid hne
  have B1 := Lib.hid hb1
  have hs1 := hb1.size
  clear ho3 ho4 hne hb1
  have bw1 : Below w.heap.size w w1 := B0.out.trans (B1.out.mono (by omega))
  have BW1 := Lib.hid bw1
  have R1 := Lib.hid ((B1.out.block w.heap.size (by omega)).trans R0.out)
  clear bw1 R0 B0
  go_wp2_with (first
    | (refine wpList_build_empty (o := ⟨some 26, _, _, _, _, _⟩) rfl 25 5 1 rfl build22 ?_; intro v26 w2 ho2 hb2 hob hs2; have LIT := Lib.hid ho2; have HB2 := Lib.hid hb2; have HOB := Lib.hid hob; clear ho2 hb2 hob)
    | (at_builtin; refine wpList_append_bs (o := ⟨some 28, _, _, _, _, _⟩) rfl (Operand.tmp 26) (Operand.tmp 27) 25 rfl w1.heap.size 5 i0 Tryd.underlying25 hi hz0 hz1 hz2 v26 0 [] rfl LIT.out (.slice va n vc) l rfl (HV.out.below (BW1.out.trans (HB2.out.mono (by omega)))) (by rw [HN.out]; omega) (by omega) ?_; rw [HN.out]; intro v5 w3 hown3 hg3; have HO3b := Lib.hid hown3; have hb3 := HB2.out.grown hg3 (by omega) (fun g hg => by rw [HOB.out] at hg; injection hg with hg; omega); have HB3 := Lib.hid hb3; have hs3 := hb3.size; clear hown3 hg3 hb3)
    | (at_builtin; refine wpList_append_lies (o := ⟨some 30, _, _, _, _, _⟩) _ rfl (Operand.tmp 28) (Operand.tmp 29) 25 rfl w1.heap.size 5 i0 (.int .u8 0) 1 1 Tryd.underlying25 hi hz0 hz1 hz2 rfl (by decide) v5 (0 + n) _ rfl (HO3b.out.alloc _) ⟨w3.heap.size, 0, none⟩ 1 1 [.int .u8 128] rfl rfl (cell_one_new _ _ _) (by intro u hu; simp at hu; subst hu; rfl) (by decide) (by unfold maxLen; omega) (by omega) (by simp; omega) (w3.heap.size + 1) (by simp) ?_; intro g5 c5 w4 hown4 hg4 hH4 hl4; have HO5 := Lib.hid hown4; have hb4 := (HB3.out.alloc hs3 _).grown hg4 (by simp; omega) (fun g hg => (HO3b.out.lt g hg).1); have HB4 := Lib.hid hb4; clear hown4 hg4 hH4 hb4)
    | fail)
  rw [Nat.zero_add] at HO5
  have hpz : padZeros n < 64 := by unfold padZeros; omega
  go_loopw [5] (fun v5 wr => ∃ k g cp, k ≤ padZeros n ∧ v5 = .slice (some ⟨g, 0, none⟩) (n + 1 + k) cp ∧ wr.ownsRow w1.heap.size 5 1 (.slice (some ⟨g, 0, none⟩) (n + 1 + k) cp) (n + 1 + k) ((padK l k).map (Value.int .u8)) ∧ Below w1.heap.size w1 wr) (fun v5 _ => n + 65 - lenV v5)
  case atStart => exact ⟨0, g5, c5, Nat.zero_le _, rfl, by simpa [padK, zeros] using HO5.out, HB4.out⟩
  case round =>
    obtain ⟨k, g, cp, hk, rfl, hown, hbr⟩ := hrel
    have HO := Lib.hid hown
    have HB := Lib.hid hbr
    have hsb := hbr.size
    clear hown hbr HO5 HB4 HO3b HB3 LIT HB2 HOB
    by_cases hlt : k < padZeros n
    · have hpk := Lib.hid (padK_succ l k)
      have hm : ¬ (((n + 1 + k : Nat) : Int) % 64 = 56) := by unfold padZeros at hlt hk; omega
      have hlt2 := Lib.hid hlt
      clear hlt
      go_wp2_with (at_builtin; refine wpList_append_lies (o := ⟨some 37, _, _, _, _, _⟩) _ rfl (Operand.tmp 35) (Operand.tmp 36) 25 rfl w1.heap.size 5 i0 (.int .u8 0) 1 1 Tryd.underlying25 hi hz0 hz1 hz2 rfl (by decide) _ (n + 1 + k) _ rfl (HO.out.alloc _) ⟨wr.heap.size, 0, none⟩ 1 1 [.int .u8 0] rfl rfl (cell_one_new _ _ _) (by intro u hu; simp at hu; subst hu; rfl) (by decide) (by unfold maxLen; omega) (by omega) (by simp; omega) (wr.heap.size + 1) (by simp) ?_; intro g6 c6 w5 hown5 hg5 hH5 hl5; have HO5 := Lib.hid hown5; have hb5 := (HB.out.alloc hsb _).grown hg5 (by simp; omega) (fun g hg => (HO.out.lt g hg).1); have HB5 := Lib.hid hb5; clear hown5 hg5 hH5 hb5)
      exact ⟨⟨k + 1, g6, c6, by have := hlt2.out; omega, rfl, by rw [hpk.out, List.map_append]; exact HO5.out, HB5.out⟩, by simp [lenV]; omega⟩
    · have hkp : k = padZeros n := by omega
      have hm : (((n + 1 + k : Nat) : Int) % 64 = 56) := by rw [hkp]; unfold padZeros; omega
      have HKP := Lib.hid hkp
      clear hlt hkp
      go_wp2_with fail
      have e8n : (8 * (n : Int)) = ((n * 8 : Nat) : Int) := by omega
      rw [e8n]
      refine (number01_any (n * 8) wr (by omega)).mono ?_
      rintro e w5 ⟨v8, rfl, hown8, hb8⟩
      obtain ⟨g8, c8, rfl, hc8, hg8, hl8⟩ := own_some hown8 (by omega)
      have hcell8 : ∀ j u, ((be8 (n * 8)).map (Value.int .u8))[j]? = some u → w5.cell? (((⟨g8, 0, none⟩ : Addr)).add j) = some u := hown8.cells rfl
      have HO8 := Lib.hid hcell8
      have HO5b := Lib.hid (HO.out.kept (row := none) ⟨hb8.os, hb8.tape, hb8.output, hb8.size, fun k hk _ => hb8.block k hk⟩ (.inr (by simp [Value.ownBlock])))
      have HB5 := Lib.hid (HB.out.trans (hb8.mono hsb))
      have hs5 := HB5.out.size
      clear e8n hown8 hcell8 hb8
      go_wp2_with (at_builtin; refine wpList_append_lies (o := ⟨some 44, _, _, _, _, _⟩) _ rfl (Operand.tmp 38) (Operand.tmp 43) 25 rfl w1.heap.size 5 i0 (.int .u8 0) 1 1 Tryd.underlying25 hi hz0 hz1 hz2 rfl (by decide) _ (n + 1 + k) _ rfl HO5b.out ⟨g8, 0, none⟩ 8 c8 ((be8 (n * 8)).map (Value.int .u8)) rfl (by simp [be8_len]) HO8.out (by intro v hv; obtain ⟨x, _, rfl⟩ := List.mem_map.1 hv; rfl) (by decide) (by unfold maxLen; omega) (by omega) hs5 w5.heap.size rfl ?_; intro g6 c6 w6 hown6 hg6 hH6 hl6; have HO6 := Lib.hid hown6; have hb6 := HB5.out.grown hg6 hs5 (fun g hg => (HO.out.lt g hg).1); have HB6 := Lib.hid hb6; clear hown6 hg6 hH6 hb6)
      have hM : padK l k ++ be8 (n * 8) = l ++ padding n := by rw [HKP.out, padding, padK, List.append_assoc, List.cons_append]
      have hlM : n + 1 + k + 8 = 64 * ((n + 1 + k + 8) / 64) := by rw [HKP.out]; unfold padZeros; omega
      obtain ⟨nb, hnb⟩ : ∃ nb, nb = (n + 1 + k + 8) / 64 := ⟨_, rfl⟩
      rw [← hnb] at hlM
      have ho6 := HO6.out
      rw [← List.map_append, hM, hlM] at ho6
      have hg6 := (ho6.lt g6 rfl).1
      have f5 : ∀ i, i < 64 * nb → w6.cell? ⟨g6, i, none⟩ = some (.int .u8 ((l ++ padding n)[i]?.getD 0)) := fun i hi => by
        have hlen := ho6.1
        rw [List.length_map, Nat.mul_one] at hlen
        have := ho6.cells (g := g6) rfl i (.int .u8 ((l ++ padding n)[i]?.getD 0)) (by rw [List.getElem?_map, List.getElem?_eq_getElem (by omega)]; rfl)
        rw [Addr.add_mid, Nat.zero_add] at this
        exact this
      have hMl : (l ++ padding n).length = 64 * nb := by have := ho6.1; rw [List.length_map, Nat.mul_one] at this; exact this
      have hc6 : 64 * nb ≤ c6 := by
        rcases ho6.2 with ⟨h0, _⟩ | ⟨g, cp, cur, h0, _, _, h1, _⟩
        · cases h0
        · injection h0 with _ _ h3; omega
      have hsha : sha l = dig (blk (l ++ padding n) nb) := by rw [sha, HN.out, hMl]; congr 2; omega
      have k6 : w1.grownBy w6 none := ⟨HB6.out.os, HB6.out.tape, HB6.out.output, HB6.out.size, fun q hq _ => HB6.out.block q hq⟩
      have hs6 := HB6.out.size
      obtain ⟨g3, c3, rfl, hc3, hg3, hl3⟩ := own_some HO3.out (by omega)
      obtain ⟨g4, c4, rfl, hc4, hg4, hl4'⟩ := own_some HO4.out (by omega)
      have f3 := HO3.out.kept k6 (.inr (by simp [Value.ownBlock]))
      have o4 := HO4.out.kept k6 (.inr (by simp [Value.ownBlock]))
      have f4 : ∀ i, i < 64 → w6.cell? ⟨g4, i, none⟩ = some (.int .u32 (Kt[i]?.getD 0)) := fun i hi => by
        have := o4.cells (g := g4) rfl i (.int .u32 (Kt[i]?.getD 0)) (by have : i < Kt.length := hi; simp [this])
        rw [Addr.add_mid, Nat.zero_add] at this
        exact this
      have hne : g3 ≠ g4 := fun e => HNE.out (by rw [e]; rfl)
      have r6 := (HB6.out.block w.heap.size (by omega)).trans R1.out
      have b6 := BW1.out.trans (HB6.out.mono (by omega))
      have hn64 : n + 1 + k + 8 = 64 * nb := hlM
      generalize hMM : l ++ padding n = M at *
      have F3 := Lib.hid f3
      have F4 := Lib.hid f4
      have F5 := Lib.hid f5
      have R6 := Lib.hid r6
      have B6 := Lib.hid b6
      have HSHA := Lib.hid hsha
      have HML := Lib.hid hMl
      rw [hlM]
      clear f3 f4 f5 r6 b6 hsha hMl o4 k6 ho6 HO6 HB6 hM hMM HO5b HO8 HB5 HO HB hlM hnb HO3 HO4 HNE R1 BW1 HKP hm
      have q0 : w.heap.size < w0.heap.size := by omega
      have q3 : g3 < w6.heap.size := by omega
      have q4 : g4 < w6.heap.size := by omega
      have q6 : g3 < g6 := by omega
      have q46 : g4 < g6 := by omega
      have qw : w.heap.size < w6.heap.size := by omega
      have qn : 64 * nb ≤ 1099511627776 := by omega
      clear hs0 hs1 hs2 hs3 hs5 hs6 hn64 hl hpz hk hsb hc8 hg8 hl8 hl3 hl4' hi hz0 hz1 hz2
      refine loop2 _ M nb w0.heap.size g3 c3 g4 c4 g6 c6 w6 qn hc6 hc3 hc4 (Ne.symm hne) (by omega) q3 q4 hl6 F3.out F4.out F5.out ?_
      as_aux_lemma =>
      intro x6 x7 x8 x9 x10 x11 x12 x13 x14 x15 x16 x17 x18 x19 x45 x46 x47 x48 x49 x50 x51 x52 x53 x54 x55 x56 x57 x58 x59 x60 x61 x62 x63 x64 x65 x66 x67 x68 x69 x70 x71 x72 x73 x74 x75 x76 x77 x78 x79 x80 x81 x82 x83 x84 x85 x86 x87 x88 x89 x90 x91 x92 x93 x94 x95 x96 x97 x98 x99 x100 x101 x102 x103 x104 x105 x106 x107 x108 x109 x110 x111 x112 x113 x114 x115 x116 x117 x118 x119 x120 x121 x122 x123 x124 x125 x126 x127 x128 x129 x130 x131 x132 x133 x134 x135 x136 x137 x138 x139 x140 x141 x142 x143 x144 x145 x146 x147 x148 x149 x150 x151 x152 x153 x154 x155 x156 x157 x158 x159 x160 x161 x162 x163 x164 x165 x166 x167 x168 x169 x170 x171 x172 x173 x174 x175 x176 x177 x178 x179 x180 x181 x182 x183 x184 x185 x186 x187 x188 x189 x190 x191 x192 x193 x194 x195 x196 x197 x198 x199 x200 x201 x202 x203 x204 x205 x206 x207 x208 x209 x210 x211 x212 x213 x214 x215 x216 x217 x218 x219 x220 x221 x222 x223 x224 x225 x226 x227 x228 x229 x230 x231 x232 x233 x234 x235 x236 x237 x238 x239 x240 x241 x242 x243 x244 x245 x246 x247 x248 x249 x250 x251 x252 x253 x254 x255 x256 x257 x258 x259 x260 x261 x262 x263 x264 x265 x266 x267 x268 x269 x270 x271 x272 x273 x274 x275 x276 x277 x278 x279 x280 x281 x282 x283 x284 x285 w7 hg7 ho7
      have hcell : ∀ j, j < 8 → w7.cell? ⟨g3, j, none⟩ = some (.int .u32 ((blk M nb).list[j]?.getD 0)) := fun j hj => by
        have := ho7.cells (g := g3) rfl j (.int .u32 ((blk M nb).list[j]?.getD 0)) (by rw [List.getElem?_map, List.getElem?_eq_getElem (show j < (blk M nb).list.length from hj)]; rfl)
        rw [Addr.add_mid, Nat.zero_add] at this
        exact this
      have q7 : g3 < w7.heap.size := (ho7.lt g3 rfl).2
      have r7 := (hg7.block w.heap.size qw (by simp; omega)).trans R6.out
      have b7 : Below w.heap.size w w7 := B6.out.trans ⟨hg7.os, hg7.tape, hg7.output, hg7.size, fun k hk => hg7.block k (by omega) (by simp; omega)⟩
      have HC := Lib.hid hcell
      have R7 := Lib.hid r7
      have B7 := Lib.hid b7
      have qw7 : w.heap.size < w7.heap.size := by have := hg7.size; omega
      generalize blk M nb = s at *
      clear hcell r7 b7 hg7 ho7 F3 F4 F5 R6 B6
      have HI0 := Lib.hid (show (Tryd.prog.info? 54).map (·.size) = some (ArrU8 (zeros 32)).size by kernel_rfl)
      go_wp2_with (first | (refine wpList_store_row rfl 54 (Operand.tmp 20) (Operand.tmp 286) rfl w7.heap.size (ArrU8 (zeros 32)) rfl rfl 54 _ (heap_alloc_new _ _) HI0.out rfl (ArrU8_one _) ?_; rw [World.setRow_alloc_new]) | fail)
      have hZ : ArrU8 (zeros 32) = DR s 0 := rfl
      rw [hZ]
      have HZ0 := Lib.hid (show (w7.alloc (.cells (DR s 0) 54)).heap[w7.heap.size]? = some (.cells (DR s 0) 54 (0, 0)) from heap_alloc_new _ _)
      go_loopw [21] (fun iv wx => ∃ i : Nat, i ≤ 32 ∧ iv = .int .i64 i ∧ Below w7.heap.size w7 wx ∧ w7.heap.size < wx.heap.size ∧ wx.heap[w7.heap.size]? = some (.cells (DR s i) 54 (0, 0))) (fun iv _ => 32 - (intOf iv).toNat)
      case atStart => exact ⟨0, by omega, rfl, (Below.refl _ _).alloc (Nat.le_refl _) _, by simp, HZ0.out⟩
      case round =>
        clear HZ0 hZ
        obtain ⟨i, hi, rfl, hbx, hsx, hx⟩ := hrel
        have HX := Lib.hid hx
        have HBX := Lib.hid hbx
        by_cases hlt : i < 32
        · have hii : (i : Int) < 32 := by omega
          have d1 : (0 : Int) ≤ (i : Int) / 4 := by omega
          have d2 : (i : Int) / 4 < 8 := by omega
          have d3 : ((i : Int) / 4).toNat = i / 4 := by omega
          have d4 : IntKind.i64.wrap (8 * ((i : Int) % 4)) = 8 * ((i : Int) % 4) := IntWalk.i64_in _ (by omega)
          have d5 : IntKind.i64.wrap (24 - 8 * ((i : Int) % 4)) = 24 - 8 * ((i : Int) % 4) := IntWalk.i64_in _ (by omega)
          have d6 : 0 ≤ 24 - 8 * ((i : Int) % 4) := by omega
          have d7 : (24 - 8 * ((i : Int) % 4)).toNat = 24 - 8 * (i % 4) := by omega
          have hdg := dig_get s i hlt
          have hc3i : (8 : Int) ≤ (c3 : Int) := by omega
          have ch := (HBX.out.cell (p := ⟨g3, i / 4, none⟩) q7).trans (HC.out (i / 4) (by omega))
          generalize s.list[i / 4]?.getD 0 = x at *
          have HDG := Lib.hid hdg
          obtain ⟨old, ho⟩ := DR_get s i i (by omega) hlt
          have cs := (cell_of_row wr _ i _ _ _ hx).trans ho
          have fs := frozen_of_row wr _ i _ _ hx
          clear hdg hx hbx ho
          go_wp2
          refine ⟨⟨i + 1, by omega, by go_num, HBX.out.setCell (by simp) _, by simpa [World.setCell] using hsx, ?_⟩, by simp [intOf]; omega⟩
          refine (heap_setCell_same _ _ _ _ _ _ HX.out).trans ?_
          rw [← DR_set s i hlt, HDG.out]
        · obtain rfl : i = 32 := by omega
          clear hx hbx
          have HI := Lib.hid (show (Tryd.prog.info? 54).map (·.size) = some (DR s 32).size by rw [DR_size s 32 (by omega)]; kernel_rfl)
          have HS := Lib.hid (DR_size s 32 (by omega))
          have R8 := Lib.hid ((HBX.out.block w.heap.size qw7).trans R7.out)
          go_wp2_with (first | (refine wpList_load_row rfl 54 (Operand.tmp 20) rfl w7.heap.size rfl 54 (DR s 32) (0,0) _ HX.out Tryd.underlying54 rfl HI.out ?_) | (refine wpList_store_row rfl 54 (Operand.tmp 2) (Operand.tmp 304) rfl w.heap.size (DR s 32) rfl rfl 54 _ R8.out HI.out (by rw [HS.out]; rfl) (ArrU8_one _) ?_))
          refine bodyPost_ret (results_cell_row rfl _ _ w.heap.size 54 (DR s 32) (0,0) _ rfl (setRow_heap _ _ _ _ _ _ R8.out) Tryd.underlying54 rfl HI.out) rfl ⟨?_, below_setRow (B7.out.trans (HBX.out.mono (by omega))) (by omega) _⟩
          rw [HSHA.out, DR_end]
end Go.Proofs.YtkajpcjmcpollaaDoor
