/- A whole variable loaded, at the operation itself. Condition: none. -/
import Derived.Test.YtalfihfielgmpaaStw
namespace Go.Proofs.Ytalfihfielgmpaa.stw
open Go.RowKit sl harn bx
set_option linter.unusedVariables false

theorem wp_load_bx {P : Program} {o : Oper} {a : Act} {w : World} {K : Act → World → Prop} {Q : Exit → Act → World → Prop} (ty : TypeId) (x : Operand) (ho : o.op = .load ty x)
    (b : Nat) (hx : a.eval x = .pointer (some ⟨b, 0, none⟩)) (T : TypeId) (cur : Array Value) (hX : Bx T w b cur) {d : TypeDesc} (hu : P.underlying ty = some d) (hd : d.isRow = true) (hi : (P.info? ty).map (·.size) = some cur.size)
    (h : K (a.put o.dst (.agg cur)) w) : Oper.wp P o a w K Q := by
  refine wp_load_mid ty x ho b 0 hx cur.toList d (range_of hX) hu hd (by simpa using hi) ?_
  simpa using h
end Go.Proofs.Ytalfihfielgmpaa.stw
