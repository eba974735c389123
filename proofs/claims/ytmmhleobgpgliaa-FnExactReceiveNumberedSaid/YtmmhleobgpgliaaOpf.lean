/- A slice of numbered frames that came in. Condition: none. -/
import Derived.Test.YtmmhleobgpgliaaOpn
import Derived.Test.YtmmhleobgpgliaaUs22
import Derived.Lib.LaidU8
namespace Go.Proofs.Ytmmhleobgpgliaa.opm
open Go.Joins Go.ChangeShapes Go.WideShapes Go.RowKit Go.Deep Go.Lib sl
open ux (RR)
set_option linter.unusedVariables false
theorem list_ofN {α : Type} {P : Nat → α → Prop} : ∀ n : Nat, (∀ i, i < n → ∃ y, P i y) → ∃ l : List α, l.length = n ∧ ∀ i y, l[i]? = some y → P i y
  | 0, _ => ⟨[], rfl, by simp⟩
  | n + 1, h => by
    obtain ⟨l, hl, hp⟩ := list_ofN n fun i hi => h i (by omega)
    obtain ⟨y, hy⟩ := h n (by omega)
    refine ⟨l ++ [y], by simp [hl], fun i z hz => ?_⟩
    rcases Nat.lt_or_ge i l.length with h1 | h1
    · rw [List.getElem?_append_left h1] at hz
      exact hp i z hz
    · rw [List.getElem?_append_right h1] at hz
      have h2 : i - l.length = 0 := by
        rcases Nat.eq_zero_or_pos (i - l.length) with h3 | h3
        · exact h3
        · rw [List.getElem?_eq_none (by simp; omega)] at hz; cases hz
      rw [h2] at hz
      obtain rfl : y = z := by simpa using hz
      obtain rfl : i = n := by omega
      exact hy
theorem lt_of_cellN {w : World} {b o : Nat} {v : Value} (h : w.cell? ⟨b, o, none⟩ = some v) : b < w.heap.size := by
  rcases Nat.lt_or_ge b w.heap.size with h1 | h1
  · exact h1
  · exfalso
    have : w.heap[b]? = none := Array.getElem?_eq_none h1
    simp [World.cell?, this] at h
theorem listNfr {l : List Value} (h : l.length = 2) : ∃ c0 c1, l = [c0, c1] := by
  match l, h with
  | [c0, c1], _ => exact ⟨c0, c1, rfl⟩
theorem cLNfr : Try.prog.cellsOf 113 = 2 := by kernel_rfl
def Nfq (w : World) (lo hi : Nat) (A : Option Addr) (n c : Nat) (ms : List ux.Nf) : Prop := RR ux.rowNf w lo hi (.slice A n c) ms
theorem nil_nfq (w : World) (A : Option Addr) (c lo hi : Nat) (hc : c ≤ maxLen) (hh : hi ≤ w.heap.size) : Nfq w lo hi A 0 c [] := ⟨A, 0, c, rfl, rfl, Nat.zero_le _, hc, hh, fun h => by omega⟩
set_option maxRecDepth 1000000 in
theorem open_nfs {H : Type} {enc : TypeId × Value → H} {w : World} {base : Nat} {spare : Nat → Bool} {held : Bool} (hsp : ∀ b, spare b = true) {fuel : Nat} {cs : List Value} {x : DataW H × List MemPlace} (h : DataW.trod enc Try.prog w base spare held fuel 53 cs = some x) :
    ∃ A n cap ms, cs = [.slice A n cap] ∧ Nfq w 0 w.heap.size A n cap ms := by
  rcases DataW.trod_slice Try.underlying53 h with ⟨rfl, _⟩ | ⟨a, len, cap, elems, rest, n, _, rfl, _, _, hl, hm, hlen, hel, _⟩
  · exact ⟨none, 0, 0, [], rfl, nil_nfq w none 0 0 w.heap.size (by unfold maxLen; omega) (Nat.le_refl _)⟩
  · rcases Nat.eq_zero_or_pos len with h0 | h0
    · subst h0
      exact ⟨_, 0, cap, [], rfl, nil_nfq w _ cap 0 w.heap.size hm (Nat.le_refl _)⟩
    obtain ⟨b, off, sp⟩ := a
    have hs : sp = none := by
      have hE := hel 0 h0
      rw [cLNfr, (List.getElem?_eq_getElem (by omega) : elems[0]? = some (elems[0]'(by omega)))] at hE
      obtain ⟨cn, hc, _⟩ := Option.bind_eq_some_iff.1 hE
      obtain ⟨_, h4, hcell⟩ := World.cells?_some hc
      obtain ⟨c0, c1, rfl⟩ := listNfr h4
      have h1 := hcell 0 (by omega)
      exact cell_spot (by simpa [Addr.add] using h1)
    subst hs
    have each : ∀ i, i < len → ∃ y : ux.Nf, b < w.heap.size ∧ ∃ u : Value, w.rangeAt b (off + i * 2) u.cells.toList ∧ RR ux.nf w 0 w.heap.size u y := by
      intro i hi
      have hE := hel i hi
      rw [cLNfr] at hE
      have he : elems[i]? = some (elems[i]'(by omega)) := List.getElem?_eq_getElem (by omega)
      rw [he] at hE
      obtain ⟨cn, hc, ht⟩ := Option.bind_eq_some_iff.1 hE
      obtain ⟨_, h4, hcell⟩ := World.cells?_some hc
      obtain ⟨m, hf⟩ := opn.in_cells Try.underlying113 ht
      obtain ⟨c0, c1, rfl⟩ := listNfr h4
      obtain ⟨y0, g0⟩ := hf 0 _ 1 rfl (by kernel_rfl)
      obtain ⟨y3, g3⟩ := hf 1 _ 1 rfl (by kernel_rfl)
      obtain ⟨b0, e0, _, _⟩ := DataW.trod_int Try.underlying3 g0
      obtain rfl : c0 = .int .i64 b0 := by simpa using e0
      obtain ⟨A3, L3, C3, Z3, rfl, u3⟩ : ∃ A0 L0 C0 Z0, c1 = .slice A0 L0 C0 ∧ kit.IsRow .u8 w A0 L0 C0 Z0 := by
        rcases open_ints Try.underlying22 Try.underlying5 (by kernel_rfl) g3 with ⟨hcs, _⟩ | ⟨x, l, c, zs, hcs, _, hl2, hm2, hz, _, hcl, hwz⟩
        · simp at hcs; subst hcs
          exact ⟨none, 0, 0, [], rfl, .inl ⟨rfl, rfl, rfl, rfl⟩⟩
        · simp at hcs; subst hcs
          exact ⟨some x, l, c, zs, rfl, .inr ⟨_, rfl, hl2, hm2, by rw [hz, hsp]; rfl, hcl, hwz⟩⟩
      obtain ⟨ys, hr⟩ := Rd.of_row u3
      have h1 := hcell 0 (by omega)
      rw [Addr.add_mid, Addr.add_mid] at h1
      refine ⟨⟨b0, ys⟩, lt_of_cellN h1, ux.nfV ⟨b0, ys⟩ (.slice A3 L3 C3), fun j v hj => ?_, Nat.le_refl _, _, rfl, ux.num_rd hr⟩
      have hj4 : j < 2 := (List.getElem?_eq_some_iff.1 hj).1
      have hcj := hcell j hj4
      rw [Addr.add_mid, Addr.add_mid] at hcj
      exact hcj.trans hj
    obtain ⟨ms, hml, hmp⟩ := list_ofN len each
    obtain ⟨y, hb, _⟩ := each 0 h0
    exact ⟨_, len, cap, ms, rfl, _, _, _, rfl, hml, hl, hm, Nat.le_refl _, fun _ => ⟨b, off, rfl, Nat.zero_le _, hb, fun i x hx => (hmp i x hx).2⟩⟩
end Go.Proofs.Ytmmhleobgpgliaa.opm
