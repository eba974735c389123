/- CountCategory and NextMessage of both sides, the search by an order. Condition: none. -/
import Derived.Test.YtejjafmppihneaaQmm
import Derived.Test.YtejjafmppihneaaRng
import Derived.Deep.Cut
namespace Go.Proofs.Ytejjafmppihneaa.mq
open Go.RowKit sl harn bx mrw
set_option linter.unusedVariables false
set_option linter.unusedSimpArgs false

theorem quiet_nilc {P : Program} {C : World → Prop} {a : Act} {o : Oper} {K : Act → Prop} (x : Operand) (h : o.op = .nilCheck x) (T : TypeId) (v : Value) (nm : String) (hx : a.eval x = .func (.method nm) #[.iface T v] #[])
    (hn : ∀ w, (nilAhead (P.types.size + Made.depth) T v nm).run P w = .ok (some false) w) (hk : K (a.put o.dst (.func (.method nm) #[.iface T v] #[]))) : o.quiet P a C K := by
  refine ⟨_, fun w _ => ?_, hk⟩
  unfold Oper.quietAt Oper.quietUpon execOp
  simp only [h, hx]
  simp [Sem.run_bind, hn]
theorem quiet_inv {P : Program} {C : World → Prop} {a : Act} {o : Oper} {K : Act → Prop} (r p q : Operand) (nm : String) (ts : Array TypeId) (h : o.op = .call { callee := .invoke r nm, args := #[p, q], argTypes := ts }) (T : TypeId) (rv pv qv : Value)
    (hr : a.eval r = .iface T rv) (hp : a.eval p = pv) (hq : a.eval q = qv) (f : FuncId) (args : Array Value) (v : Value) (hi : ∀ w, (invoke (.fn (.method nm) #[]) #[.iface T rv, pv, qv]).run P w = .ok (.enter f args) w)
    (hc : ∀ w, C w → Calls P f args w fun e w' => e = .returned v ∧ C w') (hk : K (a.put o.dst v)) : o.quiet P a C K := by
  refine ⟨v, fun w hw => ?_, hk⟩
  unfold Oper.quietAt Oper.quietUpon execOp
  simp only [h, resolve, Sem.run_bind, Sem.run_pure, Result.andThen_ok, List.map_toArray, List.map_cons, List.map_nil, hr, hp, hq]
  have e : (#[(.iface T rv : Value)] ++ #[pv, qv] : Array Value) = #[.iface T rv, pv, qv] := rfl
  rw [e, hi]
  exact ⟨rfl, hc w hw⟩
theorem nc_at {base : World} {P : Program} {f : FuncId} {args : Array Value} {v : Value} (h : ∀ m : Af base, Calls P f args m.w fun e w' => e = .returned v ∧ Below m.w.heap.size m.w w') : ∀ w, (∃ n : Af base, w = n.w) → Calls P f args w fun e w' => e = .returned v ∧ ∃ n : Af base, w' = n.w :=
  fun w hw => by
    obtain ⟨n, rfl⟩ := hw
    exact Af.call (h n)
end Go.Proofs.Ytejjafmppihneaa.mq
