import Derived.Test.YtkajpcjmcpollaaDoorRef6
import Derived.WalkKit
import Derived.ProofKit
import Derived.BigQuiet
import Derived.Deep.QuietTactic
import Derived.WalkSpells
import Derived.WalkLawsBesides
import Derived.Lib.Hide
import Derived.Deep.MidRow
import Derived.Deep.RegionLaw
import Derived.BigRegion
import Derived.Laws.AppendOwnNone
import Derived.Deep.DeepMust
import Derived.Deep.AppendLies
import Derived.RegionTactic
import Derived.Deep.WholeRow
import Derived.BigFrame
import Derived.Deep.RegionWith
import Derived.Deep.RegionHeld3
import Derived.Maps.RangeWalk
import Derived.Laws.CopyOwn
import Derived.StillTailTactics
namespace Go.Proofs.YtkajpcjmcpollaaDoor
open Go.RowKit
theorem addL_cell (st v : List Int) (i : Nat) (hs : st.length = 8) (hv : v.length = 8) (hi : i < 8) : ((addL st v i).map (Value.int .u32))[i]? = some (.int .u32 (st[i]?.getD 0)) := by
  have := addL_get st v i hs hv hi
  simpa [ArrU32] using this
theorem addL_step (st v : List Int) (i : Nat) (hs : st.length = 8) (hv : v.length = 8) (hi : i < 8) : ((addL st v i).map (Value.int .u32)).set i (.int .u32 ((st[i]?.getD 0 + v[i]?.getD 0) % 4294967296)) = (addL st v (i + 1)).map (Value.int .u32) := by
  have := congrArg Array.toList (addL_set st v i hs hv hi _ rfl)
  simpa [ArrU32] using this
theorem addL_all (s v : S8) : (addL s.list v.list 8).map (Value.int .u32) = (addS s v).list.map (Value.int .u32) := by
  have := congrArg Array.toList (addL_end s v)
  simpa [ArrU32] using this
set_option maxRecDepth 1000000 in
set_option maxHeartbeats 4000000 in
theorem loop8 {u0 u1 u2 u4 u5 u6 u7 u8 u9 u10 u11 u13 u14 u15 u16 u17 u18 u20 u21 u22 u23 u24 u25 u26 u27 u28 u29 u30 u31 u32 u33 u34 u35 u36 u37 u38 u39 u40 u41 u42 u43 u44 u45 u46 u47 u48 u49 u50 u51 u52 u53 u54 u55 u56 u57 u58 u59 u60 u61 u62 u63 u64 u65 u66 u67 u68 u69 u70 u71 u72 u73 u74 u75 u76 u77 u78 u79 u80 u81 u82 u83 u84 u85 u86 u87 u88 u89 u90 u91 u92 u93 u94 u95 u96 u97 u98 u99 u100 u101 u102 u103 u104 u105 u106 u107 u108 u109 u110 u111 u112 u113 u114 u115 u116 u117 u118 u119 u120 u121 u122 u123 u124 u125 u126 u127 u128 u129 u130 u131 u132 u133 u134 u135 u136 u137 u138 u139 u140 u141 u142 u143 u144 u145 u146 u147 u148 u149 u150 u151 u152 u153 u154 u155 u156 u157 u158 u159 u160 u161 u162 u163 u164 u165 u166 u167 u168 u169 u170 u171 u172 u173 u174 u175 u176 u177 u178 u179 u180 u181 u182 u183 u184 u185 u186 u187 u188 u189 u190 u191 u192 u193 u194 u195 u196 u197 u198 u199 u200 u201 u202 u203 u204 u205 u206 u207 u208 u209 u210 u211 u212 u213 u214 u215 u216 u217 u218 u219 u220 u221 u222 u223 u224 u225 u226 u227 u228 u229 u230 u231 u232 u233 u234 u235 u236 u237 u238 u239 u240 u241 u242 u243 u244 u245 u246 u247 u248 u249 u250 u251 u252 u253 u254 u255 u256 u257 u258 u259 u260 u261 u262 u263 u264 u265 u266 u267 u268 u269 u270 u271 u272 u273 u274 u275 u276 u277 u278 u279 u280 u281 u282 u283 u284 u285 u286 u287 u288 u289 u290 u291 u292 u293 u294 u295 u296 u297 u298 u299 u300 u301 u302 u303 u304 : Value} (Q : Exit → Act → World → Prop) (S V : S8) (B g3 c3 gv cv : Nat) (w : World) (hc3 : 8 ≤ c3) (hcv : 8 ≤ cv) (hne : gv ≠ g3) (hgv : gv < w.heap.size)
    (ho : w.ownsRow B 77 1 (.slice (some ⟨g3, 0, none⟩) 8 c3) 8 (S.list.map (Value.int .u32))) (hf : ∀ i, i < 8 → w.cell? ⟨gv, i, none⟩ = some (.int .u32 (V.list[i]?.getD 0)))
    (hexit : ∀ (x19 x272 x273 x274 x275 x276 x277 x278 x279 x280 x281 x282 x283 x284 x285 : Value) (w' : World), w.grownBy w' (some g3) → w'.ownsRow B 77 1 (.slice (some ⟨g3, 0, none⟩) 8 c3) 8 ((addS S V).list.map (Value.int .u32)) → Q (.exit 8) ⟨#[u0, u1, u2, .slice (some ⟨g3, 0, none⟩) 8 c3, u4, u5, u6, u7, u8, u9, u10, u11, .slice (some ⟨gv, 0, none⟩) 8 cv, u13, u14, u15, u16, u17, u18, x19, u20, u21, u22, u23, u24, u25, u26, u27, u28, u29, u30, u31, u32, u33, u34, u35, u36, u37, u38, u39, u40, u41, u42, u43, u44, u45, u46, u47, u48, u49, u50, u51, u52, u53, u54, u55, u56, u57, u58, u59, u60, u61, u62, u63, u64, u65, u66, u67, u68, u69, u70, u71, u72, u73, u74, u75, u76, u77, u78, u79, u80, u81, u82, u83, u84, u85, u86, u87, u88, u89, u90, u91, u92, u93, u94, u95, u96, u97, u98, u99, u100, u101, u102, u103, u104, u105, u106, u107, u108, u109, u110, u111, u112, u113, u114, u115, u116, u117, u118, u119, u120, u121, u122, u123, u124, u125, u126, u127, u128, u129, u130, u131, u132, u133, u134, u135, u136, u137, u138, u139, u140, u141, u142, u143, u144, u145, u146, u147, u148, u149, u150, u151, u152, u153, u154, u155, u156, u157, u158, u159, u160, u161, u162, u163, u164, u165, u166, u167, u168, u169, u170, u171, u172, u173, u174, u175, u176, u177, u178, u179, u180, u181, u182, u183, u184, u185, u186, u187, u188, u189, u190, u191, u192, u193, u194, u195, u196, u197, u198, u199, u200, u201, u202, u203, u204, u205, u206, u207, u208, u209, u210, u211, u212, u213, u214, u215, u216, u217, u218, u219, u220, u221, u222, u223, u224, u225, u226, u227, u228, u229, u230, u231, u232, u233, u234, u235, u236, u237, u238, u239, u240, u241, u242, u243, u244, u245, u246, u247, u248, u249, u250, u251, u252, u253, u254, u255, u256, u257, u258, u259, u260, u261, u262, u263, u264, u265, u266, u267, u268, u269, u270, u271, x272, x273, x274, x275, x276, x277, x278, x279, x280, x281, x282, x283, x284, x285, u286, u287, u288, u289, u290, u291, u292, u293, u294, u295, u296, u297, u298, u299, u300, u301, u302, u303, u304], []⟩ w') :
    Code.wp Tryd.prog ((Tryd.f42.body.bind (findBlock 8)).getD .skip) Q ⟨#[u0, u1, u2, .slice (some ⟨g3, 0, none⟩) 8 c3, u4, u5, u6, u7, u8, u9, u10, u11, .slice (some ⟨gv, 0, none⟩) 8 cv, u13, u14, u15, u16, u17, u18, .int .i64 0, u20, u21, u22, u23, u24, u25, u26, u27, u28, u29, u30, u31, u32, u33, u34, u35, u36, u37, u38, u39, u40, u41, u42, u43, u44, u45, u46, u47, u48, u49, u50, u51, u52, u53, u54, u55, u56, u57, u58, u59, u60, u61, u62, u63, u64, u65, u66, u67, u68, u69, u70, u71, u72, u73, u74, u75, u76, u77, u78, u79, u80, u81, u82, u83, u84, u85, u86, u87, u88, u89, u90, u91, u92, u93, u94, u95, u96, u97, u98, u99, u100, u101, u102, u103, u104, u105, u106, u107, u108, u109, u110, u111, u112, u113, u114, u115, u116, u117, u118, u119, u120, u121, u122, u123, u124, u125, u126, u127, u128, u129, u130, u131, u132, u133, u134, u135, u136, u137, u138, u139, u140, u141, u142, u143, u144, u145, u146, u147, u148, u149, u150, u151, u152, u153, u154, u155, u156, u157, u158, u159, u160, u161, u162, u163, u164, u165, u166, u167, u168, u169, u170, u171, u172, u173, u174, u175, u176, u177, u178, u179, u180, u181, u182, u183, u184, u185, u186, u187, u188, u189, u190, u191, u192, u193, u194, u195, u196, u197, u198, u199, u200, u201, u202, u203, u204, u205, u206, u207, u208, u209, u210, u211, u212, u213, u214, u215, u216, u217, u218, u219, u220, u221, u222, u223, u224, u225, u226, u227, u228, u229, u230, u231, u232, u233, u234, u235, u236, u237, u238, u239, u240, u241, u242, u243, u244, u245, u246, u247, u248, u249, u250, u251, u252, u253, u254, u255, u256, u257, u258, u259, u260, u261, u262, u263, u264, u265, u266, u267, u268, u269, u270, u271, u272, u273, u274, u275, u276, u277, u278, u279, u280, u281, u282, u283, u284, u285, u286, u287, u288, u289, u290, u291, u292, u293, u294, u295, u296, u297, u298, u299, u300, u301, u302, u303, u304], []⟩ w := by
  have HF := Lib.hid hf
  have HO := Lib.hid ho
  have HQ := Lib.hid hexit
  clear hf ho hexit
  conv => arg 2; whnf
  dsimp only
  go_loopw [19] (fun iv wx => ∃ i : Nat, i ≤ 8 ∧ iv = .int .i64 i ∧ wx.ownsRow B 77 1 (.slice (some ⟨g3, 0, none⟩) 8 c3) 8 ((addL S.list V.list i).map (Value.int .u32)) ∧ w.grownBy wx (some g3)) (fun iv _ => 8 - (intOf iv).toNat)
  case atStart => exact ⟨0, by omega, rfl, by simpa [addL] using HO.out, World.grownBy.refl _ _⟩
  case round =>
    clear HO
    obtain ⟨i, hi, rfl, hox, hgx⟩ := hrel
    by_cases hlt : i < 8
    · have hii : (i : Int) < 8 := by omega
      have hcvi : (8 : Int) ≤ (cv : Int) := by omega
      have hc3i : (8 : Int) ≤ (c3 : Int) := by omega
      have ch := (hox.cellAt i (by omega)).trans (addL_cell S.list V.list i rfl rfl hlt)
      have cv0 := (World.cell?_of_block (a := ⟨gv, i, none⟩) (hgx.block gv hgv (by simp; exact hne))).trans (HF.out i hlt)
      have fh := hox.frozenAt i
      have hst := addL_step S.list V.list i rfl rfl hlt
      generalize hp : S.list[i]?.getD 0 = p at *
      generalize hq : V.list[i]?.getD 0 = q at *
      have HST := Lib.hid hst
      have HOX := Lib.hid hox
      have HGX := Lib.hid hgx
      clear hst hox hgx hp hq
      go_wp2
      go_still_tail 10, (by kernel_rfl)
      change wpList _ _ _ _ _ wr.drew
      clear cv0
      go_wp2
      have hs := World.ownsRow.stored (w := wr.drew) (show wr.drew.ownsRow B 77 1 (.slice (some ⟨g3, 0, none⟩) 8 c3) 8 _ from HOX.out) i (.int .u32 ((p + q) % 4294967296))
      refine ⟨⟨i + 1, by omega, by go_num, ?_, ?_⟩, by simp [intOf]; omega⟩
      · rw [← HST.out]; exact hs.1
      · exact grownBy_trans (grownBy_trans HGX.out (grownBy_drewN wr 1 _)) hs.2
    · obtain rfl : i = 8 := by omega
      have HOX := Lib.hid hox
      have HGX := Lib.hid hgx
      clear hox hgx
      go_wp2
      exact HQ.out _ _ _ _ _ _ _ _ _ _ _ _ _ _ _ _ HGX.out (by rw [← addL_all]; exact HOX.out)
end Go.Proofs.YtkajpcjmcpollaaDoor
