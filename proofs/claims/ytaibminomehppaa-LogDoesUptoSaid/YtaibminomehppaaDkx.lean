import Derived.Test.YtaibminomehppaaDiskF
import Derived.WalkKit
import Derived.ProofKit
import Derived.BigQuiet
import Derived.Deep.QuietTactic
import Derived.WalkSpells
import Derived.WalkLawsBesides
import Derived.Lib.Hide
import Derived.Deep.MidRow
import Derived.Deep.RegionLaw
import Derived.BigRegion
import Derived.Laws.AppendOwnNone
import Derived.Deep.DeepMust
import Derived.Deep.AppendLies
import Derived.RegionTactic
import Derived.Deep.WholeRow
import Derived.BigFrame
import Derived.Deep.RegionWith
import Derived.Deep.RegionHeld3
import Derived.Maps.RangeWalk
import Derived.Laws.CopyOwn
import Derived.StillTailTactics
namespace Go.Proofs.Ytaibminomehppaa
open Go.RowKit
theorem Dk.lower {w : World} {B D M : Nat} {nb rm fz : Int} {dn : Bool} {f : Int → List Int} {L : List WR} {lv : Value} (h : Dk w B D M nb rm fz dn f L lv) {B' : Nat} (hB : B' ≤ B) : Dk w B' D M nb rm fz dn f L lv := by
  obtain ⟨h1, h2, h3, h4, h5, h6⟩ := h
  refine ⟨h1, h2, ⟨h3.1, ?_⟩, by omega, by omega, h6⟩
  rcases h3.2 with h | ⟨g, cap, cur, e, hb, hr⟩
  · exact .inl h
  · exact .inr ⟨g, cap, cur, e, by omega, hr⟩
theorem wpList_store_nw {P : Program} {ops : Array Oper} {rest : List Oper} {o : Oper} {a : Act} {w : World} {Q : Exit → Act → World → Prop} (hgd : o.guard = none) (ty : TypeId) (x y : Operand) (ho : o.op = .store ty x y) (w0 : World) (old : Array Value) (T : TypeId) (hw : w = w0.alloc (.cells old T))
    (H : Nat) (cells : Array Value) (hx : a.eval x = .pointer (some ⟨H, 0, none⟩)) (hy : a.eval y = .agg cells) (hH : w0.heap.size = H) (hi : (P.info? ty).map (·.size) = some cells.size) (hold : old.size = cells.size) (h1 : cells.all (·.oneCell') = true)
    (h : ∀ w', w'.heap[H]? = some (.cells cells T (0, 0)) → Below H w0 w' → w'.heap.size = H + 1 → wpList P ops Q rest (a.put o.dst undef) w') : wpList P ops Q (o :: rest) a w := by
  subst hw
  exact wpList_store_new hgd ty x y ho H cells hx hy hH old T hi hold h1 h
end Go.Proofs.Ytaibminomehppaa
