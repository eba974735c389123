/- Slices of bytes as the harness copies, compares, marks and measures them. Condition: sizes up to 2^26. -/
import Derived.Test.YtejjafmppihneaaUh
import Derived.Deep.Cut
namespace Go.Proofs.Ytejjafmppihneaa.ux
open Go.RowKit sl harn bx stw
set_option linter.unusedVariables false
set_option linter.unusedSimpArgs false

abbrev bytes : Rep (List Int) := num 5 .u8
theorem bytes_sl {w : World} {lo hi : Nat} {v : Value} {x : List Int} (h : bytes.R w lo hi v x) : ∃ A n c, v = .slice A n c := by
  obtain ⟨A, n, c, e, _⟩ := h
  exact ⟨A, n, c, e⟩
theorem bytes_slo {w : World} {fp : List Nat} {v : Value} {x : List Int} (h : bytes.O w fp v x) : ∃ A n c, v = .slice A n c := by
  obtain ⟨A, n, c, e, _⟩ := h
  exact ⟨A, n, c, e⟩
theorem bytes_tot (x : List Int) : bytes.tot x ≤ 64 * bytes.sz x := by show x.length ≤ 64 * x.length; omega
theorem rd_of {w : World} {lo hi n c : Nat} {A : Option Addr} {zs : List Int} (h : RR bytes w lo hi (.slice A n c) zs) : Rd .u8 w lo hi A n c zs := by
  obtain ⟨A', n', c', e, h⟩ := h
  injection e with e1 e2 e3
  subst e1 e2 e3
  exact h
theorem mem_one {b g : Nat} (h : b ∈ blks (some ⟨g, 0, none⟩)) : b = g := by simpa [blks] using h
theorem tch_ks {lo hi : Nat} {A : Option Addr} {w w' : World} (h : Tch lo hi w w') (hb : ∀ k, k ∉ blks A → w'.heap[k]? = w.heap[k]?) : KS (blks A) w w' := ⟨h.os, h.tape, h.output, h.size, fun k _ hk => hb k hk⟩
end Go.Proofs.Ytejjafmppihneaa.ux
