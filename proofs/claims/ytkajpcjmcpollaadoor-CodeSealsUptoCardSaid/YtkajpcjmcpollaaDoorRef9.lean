import Derived.Test.YtkajpcjmcpollaaDoorRef7
import Derived.Test.YtkajpcjmcpollaaDoorRef8
import Derived.WalkKit
import Derived.ProofKit
import Derived.BigQuiet
import Derived.Deep.QuietTactic
import Derived.WalkSpells
import Derived.WalkLawsBesides
import Derived.Lib.Hide
import Derived.Deep.MidRow
import Derived.Deep.RegionLaw
import Derived.BigRegion
import Derived.Laws.AppendOwnNone
import Derived.Deep.DeepMust
import Derived.Deep.AppendLies
import Derived.RegionTactic
import Derived.Deep.WholeRow
import Derived.BigFrame
import Derived.Deep.RegionWith
import Derived.Deep.RegionHeld3
import Derived.Maps.RangeWalk
import Derived.Laws.CopyOwn
import Derived.StillTailTactics
namespace Go.Proofs.YtkajpcjmcpollaaDoor
open Go.RowKit
set_option maxRecDepth 1000000 in
set_option maxHeartbeats 8000000 in
theorem loop2 {u0 u1 u2 u7 u8 u9 u10 u11 u12 u13 u14 u15 u16 u17 u18 u19 u20 u21 u22 u23 u24 u25 u26 u27 u28 u29 u30 u31 u32 u33 u34 u35 u36 u37 u38 u39 u40 u41 u42 u43 u44 u45 u46 u47 u48 u49 u50 u51 u52 u53 u54 u55 u56 u57 u58 u59 u60 u61 u62 u63 u64 u65 u66 u67 u68 u69 u70 u71 u72 u73 u74 u75 u76 u77 u78 u79 u80 u81 u82 u83 u84 u85 u86 u87 u88 u89 u90 u91 u92 u93 u94 u95 u96 u97 u98 u99 u100 u101 u102 u103 u104 u105 u106 u107 u108 u109 u110 u111 u112 u113 u114 u115 u116 u117 u118 u119 u120 u121 u122 u123 u124 u125 u126 u127 u128 u129 u130 u131 u132 u133 u134 u135 u136 u137 u138 u139 u140 u141 u142 u143 u144 u145 u146 u147 u148 u149 u150 u151 u152 u153 u154 u155 u156 u157 u158 u159 u160 u161 u162 u163 u164 u165 u166 u167 u168 u169 u170 u171 u172 u173 u174 u175 u176 u177 u178 u179 u180 u181 u182 u183 u184 u185 u186 u187 u188 u189 u190 u191 u192 u193 u194 u195 u196 u197 u198 u199 u200 u201 u202 u203 u204 u205 u206 u207 u208 u209 u210 u211 u212 u213 u214 u215 u216 u217 u218 u219 u220 u221 u222 u223 u224 u225 u226 u227 u228 u229 u230 u231 u232 u233 u234 u235 u236 u237 u238 u239 u240 u241 u242 u243 u244 u245 u246 u247 u248 u249 u250 u251 u252 u253 u254 u255 u256 u257 u258 u259 u260 u261 u262 u263 u264 u265 u266 u267 u268 u269 u270 u271 u272 u273 u274 u275 u276 u277 u278 u279 u280 u281 u282 u283 u284 u285 u286 u287 u288 u289 u290 u291 u292 u293 u294 u295 u296 u297 u298 u299 u300 u301 u302 u303 u304 : Value} (Q : Exit → Act → World → Prop) (M : List Int) (nb B g3 c3 g4 c4 g6 c6 : Nat) (w6 : World) (qn : 64 * nb ≤ 1099511627776) (hc6 : 64 * nb ≤ c6) (hc3 : 8 ≤ c3) (hc4 : 64 ≤ c4) (h34 : g4 ≠ g3) (h36 : g6 ≠ g3)
    (h3 : g3 < w6.heap.size) (h4 : g4 < w6.heap.size) (h6 : g6 < w6.heap.size) (ho : w6.ownsRow B 77 1 (.slice (some ⟨g3, 0, none⟩) 8 c3) 8 (iv.list.map (Value.int .u32)))
    (f4 : ∀ i, i < 64 → w6.cell? ⟨g4, i, none⟩ = some (.int .u32 (Kt[i]?.getD 0))) (f5 : ∀ i, i < 64 * nb → w6.cell? ⟨g6, i, none⟩ = some (.int .u8 (M[i]?.getD 0)))
    (hexit : ∀ (x6 x7 x8 x9 x10 x11 x12 x13 x14 x15 x16 x17 x18 x19 x45 x46 x47 x48 x49 x50 x51 x52 x53 x54 x55 x56 x57 x58 x59 x60 x61 x62 x63 x64 x65 x66 x67 x68 x69 x70 x71 x72 x73 x74 x75 x76 x77 x78 x79 x80 x81 x82 x83 x84 x85 x86 x87 x88 x89 x90 x91 x92 x93 x94 x95 x96 x97 x98 x99 x100 x101 x102 x103 x104 x105 x106 x107 x108 x109 x110 x111 x112 x113 x114 x115 x116 x117 x118 x119 x120 x121 x122 x123 x124 x125 x126 x127 x128 x129 x130 x131 x132 x133 x134 x135 x136 x137 x138 x139 x140 x141 x142 x143 x144 x145 x146 x147 x148 x149 x150 x151 x152 x153 x154 x155 x156 x157 x158 x159 x160 x161 x162 x163 x164 x165 x166 x167 x168 x169 x170 x171 x172 x173 x174 x175 x176 x177 x178 x179 x180 x181 x182 x183 x184 x185 x186 x187 x188 x189 x190 x191 x192 x193 x194 x195 x196 x197 x198 x199 x200 x201 x202 x203 x204 x205 x206 x207 x208 x209 x210 x211 x212 x213 x214 x215 x216 x217 x218 x219 x220 x221 x222 x223 x224 x225 x226 x227 x228 x229 x230 x231 x232 x233 x234 x235 x236 x237 x238 x239 x240 x241 x242 x243 x244 x245 x246 x247 x248 x249 x250 x251 x252 x253 x254 x255 x256 x257 x258 x259 x260 x261 x262 x263 x264 x265 x266 x267 x268 x269 x270 x271 x272 x273 x274 x275 x276 x277 x278 x279 x280 x281 x282 x283 x284 x285 : Value) (w' : World), w6.grownBy w' (some g3) → w'.ownsRow B 77 1 (.slice (some ⟨g3, 0, none⟩) 8 c3) 8 ((blk M nb).list.map (Value.int .u32)) → Q (.exit 2) ⟨#[u0, u1, u2, .slice (some ⟨g3, 0, none⟩) 8 c3, .slice (some ⟨g4, 0, none⟩) 64 c4, .slice (some ⟨g6, 0, none⟩) (64 * nb) c6, x6, x7, x8, x9, x10, x11, x12, x13, x14, x15, x16, x17, x18, x19, u20, u21, u22, u23, u24, u25, u26, u27, u28, u29, u30, u31, u32, u33, u34, u35, u36, u37, u38, u39, u40, u41, u42, u43, u44, x45, x46, x47, x48, x49, x50, x51, x52, x53, x54, x55, x56, x57, x58, x59, x60, x61, x62, x63, x64, x65, x66, x67, x68, x69, x70, x71, x72, x73, x74, x75, x76, x77, x78, x79, x80, x81, x82, x83, x84, x85, x86, x87, x88, x89, x90, x91, x92, x93, x94, x95, x96, x97, x98, x99, x100, x101, x102, x103, x104, x105, x106, x107, x108, x109, x110, x111, x112, x113, x114, x115, x116, x117, x118, x119, x120, x121, x122, x123, x124, x125, x126, x127, x128, x129, x130, x131, x132, x133, x134, x135, x136, x137, x138, x139, x140, x141, x142, x143, x144, x145, x146, x147, x148, x149, x150, x151, x152, x153, x154, x155, x156, x157, x158, x159, x160, x161, x162, x163, x164, x165, x166, x167, x168, x169, x170, x171, x172, x173, x174, x175, x176, x177, x178, x179, x180, x181, x182, x183, x184, x185, x186, x187, x188, x189, x190, x191, x192, x193, x194, x195, x196, x197, x198, x199, x200, x201, x202, x203, x204, x205, x206, x207, x208, x209, x210, x211, x212, x213, x214, x215, x216, x217, x218, x219, x220, x221, x222, x223, x224, x225, x226, x227, x228, x229, x230, x231, x232, x233, x234, x235, x236, x237, x238, x239, x240, x241, x242, x243, x244, x245, x246, x247, x248, x249, x250, x251, x252, x253, x254, x255, x256, x257, x258, x259, x260, x261, x262, x263, x264, x265, x266, x267, x268, x269, x270, x271, x272, x273, x274, x275, x276, x277, x278, x279, x280, x281, x282, x283, x284, x285, u286, u287, u288, u289, u290, u291, u292, u293, u294, u295, u296, u297, u298, u299, u300, u301, u302, u303, u304], []⟩ w') :
    Code.wp Tryd.prog ((Tryd.f42.body.bind (findBlock 2)).getD .skip) Q ⟨#[u0, u1, u2, .slice (some ⟨g3, 0, none⟩) 8 c3, .slice (some ⟨g4, 0, none⟩) 64 c4, .slice (some ⟨g6, 0, none⟩) (64 * nb) c6, .int .i64 0, u7, u8, u9, u10, u11, u12, u13, u14, u15, u16, u17, u18, u19, u20, u21, u22, u23, u24, u25, u26, u27, u28, u29, u30, u31, u32, u33, u34, u35, u36, u37, u38, u39, u40, u41, u42, u43, u44, u45, u46, u47, u48, u49, u50, u51, u52, u53, u54, u55, u56, u57, u58, u59, u60, u61, u62, u63, u64, u65, u66, u67, u68, u69, u70, u71, u72, u73, u74, u75, u76, u77, u78, u79, u80, u81, u82, u83, u84, u85, u86, u87, u88, u89, u90, u91, u92, u93, u94, u95, u96, u97, u98, u99, u100, u101, u102, u103, u104, u105, u106, u107, u108, u109, u110, u111, u112, u113, u114, u115, u116, u117, u118, u119, u120, u121, u122, u123, u124, u125, u126, u127, u128, u129, u130, u131, u132, u133, u134, u135, u136, u137, u138, u139, u140, u141, u142, u143, u144, u145, u146, u147, u148, u149, u150, u151, u152, u153, u154, u155, u156, u157, u158, u159, u160, u161, u162, u163, u164, u165, u166, u167, u168, u169, u170, u171, u172, u173, u174, u175, u176, u177, u178, u179, u180, u181, u182, u183, u184, u185, u186, u187, u188, u189, u190, u191, u192, u193, u194, u195, u196, u197, u198, u199, u200, u201, u202, u203, u204, u205, u206, u207, u208, u209, u210, u211, u212, u213, u214, u215, u216, u217, u218, u219, u220, u221, u222, u223, u224, u225, u226, u227, u228, u229, u230, u231, u232, u233, u234, u235, u236, u237, u238, u239, u240, u241, u242, u243, u244, u245, u246, u247, u248, u249, u250, u251, u252, u253, u254, u255, u256, u257, u258, u259, u260, u261, u262, u263, u264, u265, u266, u267, u268, u269, u270, u271, u272, u273, u274, u275, u276, u277, u278, u279, u280, u281, u282, u283, u284, u285, u286, u287, u288, u289, u290, u291, u292, u293, u294, u295, u296, u297, u298, u299, u300, u301, u302, u303, u304], []⟩ w6 := by
  have F4 := Lib.hid f4
  have F5 := Lib.hid f5
  have HO := Lib.hid ho
  have HQ := Lib.hid hexit
  clear ho hexit f4 f5
  conv => arg 2; whnf
  dsimp only
  go_loopw [6] (fun av wr => ∃ T : Nat, T ≤ nb ∧ av = .int .i64 (64 * (T : Int)) ∧ wr.ownsRow B 77 1 (.slice (some ⟨g3, 0, none⟩) 8 c3) 8 ((blk M T).list.map (Value.int .u32)) ∧ w6.grownBy wr (some g3)) (fun av _ => 64 * nb - (intOf av).toNat)
  case atStart => exact ⟨0, Nat.zero_le _, rfl, HO.out, World.grownBy.refl _ _⟩
  case round =>
    clear HO
    obtain ⟨T, hT, rfl, ho3, hg3r⟩ := hrel
    have HR3 := Lib.hid ho3
    have HG3 := Lib.hid hg3r
    have hsr := hg3r.size
    clear ho3 hg3r
    by_cases hlt : T < nb
    · have hmk : ∀ u : World, (Instr.makeSlice 73 (.int .i64 64) (.int .i64 64)).run Tryd.prog u = .ok (.slice (some ⟨u.heap.size, 0, none⟩) 64 64) (u.alloc (.cells ((zeros 64).map (Value.int .u32)).toArray 77)) := fun u => by kernel_rfl
      have hai2 : 64 * (T : Int) < 64 * (nb : Int) := by omega
      go_wp2_with fail
      obtain ⟨bs, hbs⟩ : ∃ bs : List Int, bs = (M.drop (64 * T)).take 64 := ⟨_, rfl⟩
      have hbg : ∀ i, i < 64 → M[64 * T + i]?.getD 0 = bs[i]?.getD 0 := fun i hi => by rw [hbs, List.getElem?_take_of_lt hi, List.getElem?_drop]
      have hgr : w6.grownBy (wr.alloc (.cells (SW bs 0) 77)) (some g3) := grownBy_trans HG3.out (grownBy_of_below ((Below.refl _ _).alloc (Nat.le_refl _) _) _)
      have hf : ∀ i, i < 64 → (wr.alloc (.cells (SW bs 0) 77)).cell? ⟨g6, 64 * T + i, none⟩ = some (.int .u8 (bs[i]?.getD 0)) := fun i hi => by
        rw [← hbg i hi]
        exact (World.cell?_of_block (a := ⟨g6, 64 * T + i, none⟩) (hgr.block g6 h6 (by simp; exact h36))).trans (F5.out (64 * T + i) (by omega))
      refine loop4 _ bs T nb g6 c6 wr.heap.size (wr.alloc (.cells (SW bs 0) 77)) hlt qn hc6 (by omega) (by simp) (heap_alloc_new _ _) hf ?_
      intro x8 x9 x10 x11 x52 x53 x54 x55 x56 x57 x58 x59 x60 x61 x62 x63 x64 x65 x66 x67 x68 x69 x70 x71 x72 x73 x74 x75 x76 x77 x78 x79 x80 x81 x82 x83 x84 x85 x86 x87 x88 x89 x90 x91 x92 x93 x94 x95 x96 x97 x98 x99 x100 x101 x102 x103 x104 x105 x106 x107 x108 x109 x110 x111 x112 x113 x114 x115 x116 x117 x118 x119 x120 x121 x122 x123 x124 x125 x126 x127 x128 x129 x130 x131 x132 x133 x134 x135 x136 x137 x138 x139 x140 x141 x142 x143 x144 x145 x146 x147 x148 x149 x150 x151 w8 hb8 hs8 hx8
      have hbr : Below wr.heap.size wr w8 := ((Below.refl _ _).alloc (Nat.le_refl _) _).trans hb8
      have HBR := Lib.hid hbr
      have HX8 := Lib.hid hx8
      have HBS := Lib.hid hbs
      clear hbg hgr hf hb8 hx8 hbr hbs hmk
      have hh8 : ∀ j u, ((blk M T).list.map (Value.int .u32))[j]? = some u → w8.cell? ((⟨g3, 0, none⟩ : Addr).add j) = some u := fun j u hu => by
        have := HR3.out.cells (g := g3) rfl j u hu
        rw [Addr.add_mid] at this ⊢
        exact (HBR.out.cell (p := ⟨g3, 0 + j, none⟩) (by show g3 < wr.heap.size; omega)).trans this
      have HH8 := Lib.hid hh8
      obtain ⟨i1, hi1, hy0, hy1, hy2⟩ := info_parts info49
      clear hh8
      have hsw8 : wr.heap.size < w8.heap.size := hs8
      go_wp2_with (first
        | (refine wpList_build_empty (o := ⟨some 152, _, _, _, _, _⟩) rfl 73 77 1 rfl build44 ?_; intro v152 w9 ho9 hb9 hob9 hs9; have HO9 := Lib.hid ho9; have HB9 := Lib.hid hb9; have hs9' : w8.heap.size ≤ w9.heap.size := (by omega); clear ho9 hb9 hob9 hs9)
        | (at_builtin; refine wpList_append_lies (o := ⟨some 154, _, _, _, _, _⟩) _ rfl (Operand.tmp 152) (Operand.tmp 153) 73 rfl w8.heap.size 77 i1 (.int .u32 0) 1 4 Tryd.underlying73 hi1 hy0 hy1 hy2 rfl (by decide) v152 0 [] rfl HO9.out ⟨g3, 0, none⟩ 8 c3 ((blk M T).list.map (Value.int .u32)) rfl (by simp [S8.list]) (fun j u hu => (HB9.out.cell (p := (⟨g3, 0, none⟩ : Addr).add j) (by rw [Addr.add_mid]; show g3 < w8.heap.size; omega)).trans (HH8.out j u hu)) (by intro v hv; obtain ⟨x, _, rfl⟩ := List.mem_map.1 hv; rfl) (by decide) (by unfold maxLen; omega) (by omega) hs9' w9.heap.size rfl ?_; intro gv cv w10 hown10 hg10 hH10 hl10; have HO10 := Lib.hid hown10; have hb10 := HB9.out.grown hg10 hs9' (fun g hg => (HO9.out.lt g hg).1); have HB10 := Lib.hid hb10; clear hown10 hg10 hH10 hb10)
        | fail)
      have hcv8 : 8 ≤ cv := by obtain ⟨g, c, e, h, _⟩ := own_some HO10.out (by omega); injection e with _ _ e; omega
      have hgv8 : w8.heap.size ≤ gv := (HO10.out.lt gv rfl).1
      have fv : ∀ j, j < 8 → w10.cell? ⟨gv, j, none⟩ = some (.int .u32 ((blk M T).list[j]?.getD 0)) := fun j hj => by
        have := HO10.out.cells (g := gv) rfl j (.int .u32 ((blk M T).list[j]?.getD 0)) (by rw [List.nil_append, List.getElem?_map, List.getElem?_eq_getElem (show j < (blk M T).list.length from hj)]; rfl)
        rw [Addr.add_mid, Nat.zero_add] at this
        exact this
      have f4 : ∀ i, i < 64 → w8.cell? ⟨g4, i, none⟩ = some (.int .u32 (Kt[i]?.getD 0)) := fun i hi => (HBR.out.cell (p := ⟨g4, i, none⟩) (by show g4 < wr.heap.size; omega)).trans ((World.cell?_of_block (a := ⟨g4, i, none⟩) (HG3.out.block g4 h4 (by simp; exact h34))).trans (F4.out i hi))
      have fW : ∀ i, i < 64 → w8.cell? ⟨wr.heap.size, i, none⟩ = some (.int .u32 ((sched bs 64)[i]?.getD 0)) := fun i hi => (cell_of_row w8 _ i _ _ _ HX8.out).trans (SW_at bs 64 i hi)
      refine loop6 _ (blk M T) (sched bs 64) g4 c4 wr.heap.size gv cv w8 w10 hc4 (by omega) hsw8 hcv8 hgv8 HB10.out f4 fW fv ?_
      intro y13 y14 y15 y16 y17 y18 y155 y156 y157 y158 y159 y160 y161 y162 y163 y164 y165 y166 y167 y168 y169 y170 y171 y172 y173 y174 y175 y176 y177 y178 y179 y180 y181 y182 y183 y184 y185 y186 y187 y188 y189 y190 y191 y192 y193 y194 y195 y196 y197 y198 y199 y200 y201 y202 y203 y204 y205 y206 y207 y208 y209 y210 y211 y212 y213 y214 y215 y216 y217 y218 y219 y220 y221 y222 y223 y224 y225 y226 y227 y228 y229 y230 y231 y232 y233 y234 y235 y236 y237 y238 y239 y240 y241 y242 y243 y244 y245 y246 y247 y248 y249 y250 y251 y252 y253 y254 y255 y256 y257 y258 y259 y260 y261 y262 y263 y264 y265 y266 y267 y268 y269 y270 y271 gv' cv' w11 hcv' hgv' hb11 hf11
      have HB11 := Lib.hid hb11
      have HF11 := Lib.hid hf11
      clear f4 fW fv hb11 hf11 HO9 HB9 HO10 HB10 hs9' hcv8 hgv8 hl10
      go_wp2_with fail
      have hgl : gv' < w11.heap.size := World.block_lt_of_cell? _ _ (HF11.out 0 (by omega))
      have k11 : wr.grownBy w11 none := ⟨(HBR.out.trans (HB11.out.mono (Nat.le_of_lt hsw8))).os, (HBR.out.trans (HB11.out.mono (Nat.le_of_lt hsw8))).tape, (HBR.out.trans (HB11.out.mono (Nat.le_of_lt hsw8))).output, (HBR.out.trans (HB11.out.mono (Nat.le_of_lt hsw8))).size, fun q hq _ => (HBR.out.trans (HB11.out.mono (Nat.le_of_lt hsw8))).block q hq⟩
      have ho11 := HR3.out.kept k11 (.inr (by simp [Value.ownBlock]))
      have hg11 := grownBy_trans HG3.out (grownBy_of_below (HBR.out.trans (HB11.out.mono (Nat.le_of_lt hsw8))) (some g3))
      have HG11 := Lib.hid hg11
      refine loop8 _ (blk M T) (rnds (blk M T) (sched bs 64) 64) B g3 c3 gv' cv' w11 hc3 hcv' (by omega) hgl ho11 HF11.out ?_
      intro z19 z272 z273 z274 z275 z276 z277 z278 z279 z280 z281 z282 z283 z284 z285 w12 hg12 ho12
      have HO12 := Lib.hid ho12
      have HG12 := Lib.hid (grownBy_trans HG11.out hg12)
      have hbk : blk M (T + 1) = addS (blk M T) (rnds (blk M T) (sched bs 64) 64) := by rw [blk, compress, HBS.out]
      have HBK := Lib.hid hbk
      have e1 : IntKind.i64.wrap (64 * (T : Int) + 64) = 64 * (T : Int) + 64 := IntWalk.i64_in _ (by omega)
      clear ho12 hg12 hbk HG11 hg11 ho11 k11
      go_wp2
      refine ⟨⟨T + 1, by omega, by first | (congr 1; omega) | congr 1, by rw [HBK.out]; exact HO12.out, HG12.out⟩, by simp [intOf]; omega⟩
    · obtain rfl : T = nb := by omega
      go_wp2_with fail
      exact HQ.out _ _ _ _ _ _ _ _ _ _ _ _ _ _ _ _ _ _ _ _ _ _ _ _ _ _ _ _ _ _ _ _ _ _ _ _ _ _ _ _ _ _ _ _ _ _ _ _ _ _ _ _ _ _ _ _ _ _ _ _ _ _ _ _ _ _ _ _ _ _ _ _ _ _ _ _ _ _ _ _ _ _ _ _ _ _ _ _ _ _ _ _ _ _ _ _ _ _ _ _ _ _ _ _ _ _ _ _ _ _ _ _ _ _ _ _ _ _ _ _ _ _ _ _ _ _ _ _ _ _ _ _ _ _ _ _ _ _ _ _ _ _ _ _ _ _ _ _ _ _ _ _ _ _ _ _ _ _ _ _ _ _ _ _ _ _ _ _ _ _ _ _ _ _ _ _ _ _ _ _ _ _ _ _ _ _ _ _ _ _ _ _ _ _ _ _ _ _ _ _ _ _ _ _ _ _ _ _ _ _ _ _ _ _ _ _ _ _ _ _ _ _ _ _ _ _ _ _ _ _ _ _ _ _ _ _ _ _ _ _ _ _ _ _ _ _ _ _ _ _ _ _ _ _ _ _ HG3.out HR3.out
end Go.Proofs.YtkajpcjmcpollaaDoor
