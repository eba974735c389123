/- Sizes of reorder buffers, of rows of bytes. Condition: none. -/
import Derived.Test.YtmmhleobgpgliaaUw22
import Derived.Test.YtmmhleobgpgliaaRo2
import Derived.Deep.RegionHeld3
namespace Go.Proofs.Ytmmhleobgpgliaa.ro
open ux (Nf Rob RR OO rowNf nf rob rowB)
set_option linter.unusedVariables false
theorem rob_bd (x : Rob) : ux.rob_tv x ≤ 64 * rob.sz x := ux.rowNf_tot x.Pending
theorem rowB_bd (l : List (List Int)) : rowB.tot l ≤ 64 * rowB.sz l := ux.rowB_tot l
theorem rob_of {w : World} {lo hi n c : Nat} {A : Option Addr} {f : Rob} (h : RR rowNf w lo hi (.slice A n c) f.Pending) : RR rob w lo hi (ux.robV f (.slice A n c)) f := ⟨rowNf.hi_ h, _, rfl, h⟩
theorem rob_rd {w : World} {lo hi n c : Nat} {A : Option Addr} {f : Rob} (h : RR rob w lo hi (ux.robV f (.slice A n c)) f) : RR rowNf w lo hi (.slice A n c) f.Pending := by
  obtain ⟨A', n', c', e, h0⟩ := ux.rob_r h
  have e2 : (#[.int .i64 f.Start, .slice A n c] : Array Value) = #[.int .i64 f.Start, .slice A' n' c'] := Value.agg.inj e
  have e3 := congrArg (fun a : Array Value => a[1]?) e2
  have e4 : Value.slice A n c = .slice A' n' c' := Option.some.inj e3
  rw [e4]
  exact h0
theorem rob_oo {w : World} {lo hi n c : Nat} {A : Option Addr} {fp : List Nat} {f : Rob} (h : OO rowNf w lo hi fp (.slice A n c) f.Pending) : OO rob w lo hi fp (ux.robV f (.slice A n c)) f := ux.rob_mk h (rowNf.nd h.1)
theorem rob_sz (f : Rob) : rob.sz f = f.Pending.length + ux.sumT (fun x : Nf => x.Body.length) f.Pending := rfl
/-- What a small buffer's size says. -/
theorem rob_small {f : Rob} (h : rob.sz f ≤ 1048576) {w : World} {lo hi n c : Nat} {A : Option Addr} (hr : RR rowNf w lo hi (.slice A n c) f.Pending) : n ≤ 67108864 := by
  obtain ⟨A', n', c', e, h1, _⟩ := hr
  injection e with e1 e2 e3
  subst e1 e2 e3
  rw [rob_sz] at h
  omega
theorem rob_bodies {f : Rob} (h : rob.sz f ≤ 1048576) : ∀ x ∈ f.Pending, x.Body.length ≤ 67108864 := by
  intro x hx
  have h1 := ux.sumT_mem (fun x : Nf => x.Body.length) hx
  rw [rob_sz] at h
  omega
theorem len_small {f : Rob} (h : rob.sz f ≤ 1048576) : f.Pending.length ≤ 1048576 := by rw [rob_sz] at h; omega
theorem new_sz (m : Int) : rob.sz (new m) ≤ 67108864 := by unfold new; split <;> (rw [rob_sz]; simp [ux.sumT])
end Go.Proofs.Ytmmhleobgpgliaa.ro
namespace Go.Proofs.Ytmmhleobgpgliaa.fr
open Go.RowKit sl harn bx stw
open bx
theorem bx_ks {T : TypeId} {w w' : World} {b : Nat} {cs : Array Value} {F : List Nat} (h : Bx T w b cs) (hk : KS F w w') (hb : b ∉ F) : Bx T w' b cs := h.same (hk.block b h.lt hb)
end Go.Proofs.Ytmmhleobgpgliaa.fr
