import Derived.Test.YtjmenbpalihnnaaOpn
import Derived.Test.YtjmenbpalihnnaaQmm
import Derived.Lib.LaidU8
import Derived.Test.YtjmenbpalihnnaaRam
/- A slice of messages that came in. Condition: none. -/
namespace Go.Proofs.Ytjmenbpalihnnaa.opm
open Go.Joins Go.ChangeShapes Go.WideShapes Go.RowKit Go.Deep Go.Lib sl mrw mq
theorem list_of {α : Type} {P : Nat → α → Prop} : ∀ n : Nat, (∀ i, i < n → ∃ y, P i y) → ∃ l : List α, l.length = n ∧ ∀ i y, l[i]? = some y → P i y
  | 0, _ => ⟨[], rfl, by simp⟩
  | n + 1, h => by
    obtain ⟨l, hl, hp⟩ := list_of n fun i hi => h i (by omega)
    obtain ⟨y, hy⟩ := h n (by omega)
    refine ⟨l ++ [y], by simp [hl], fun i z hz => ?_⟩
    rcases Nat.lt_or_ge i l.length with h1 | h1
    · rw [List.getElem?_append_left h1] at hz
      exact hp i z hz
    · rw [List.getElem?_append_right h1] at hz
      have h2 : i - l.length = 0 := by
        rcases Nat.eq_zero_or_pos (i - l.length) with h3 | h3
        · exact h3
        · rw [List.getElem?_eq_none (by simp; omega)] at hz; cases hz
      rw [h2] at hz
      obtain rfl : y = z := by simpa using hz
      obtain rfl : i = n := by omega
      exact hy
theorem list4 {l : List Value} (h : l.length = 4) : ∃ a b c d, l = [a, b, c, d] := by
  match l, h with
  | [a, b, c, d], _ => exact ⟨a, b, c, d, rfl⟩
theorem lt_of_cell {w : World} {b o : Nat} {v : Value} (h : w.cell? ⟨b, o, none⟩ = some v) : b < w.heap.size := by
  rcases Nat.lt_or_ge b w.heap.size with h1 | h1
  · exact h1
  · exfalso
    have : w.heap[b]? = none := Array.getElem?_eq_none h1
    simp [World.cell?, this] at h
end Go.Proofs.Ytjmenbpalihnnaa.opm

/- A slice of reassemblies that came in. Condition: none. -/
namespace Go.Proofs.Ytjmenbpalihnnaa.opm
open Go.Joins Go.ChangeShapes Go.WideShapes Go.RowKit Go.Deep Go.Lib sl mrw
open ux (Rea)
theorem listRea {l : List Value} (h : l.length = 5) : ∃ c0 c1 c2 c3 c4, l = [c0, c1, c2, c3, c4] := by
  match l, h with
  | [c0, c1, c2, c3, c4], _ => exact ⟨c0, c1, c2, c3, c4, rfl⟩
theorem cLRea : Try.prog.cellsOf 103 = 5 := by kernel_rfl
set_option maxRecDepth 1000000 in
theorem open_reas {H : Type} {enc : TypeId × Value → H} {w : World} {base : Nat} {spare : Nat → Bool} {held : Bool} (hsp : ∀ b, spare b = true) {fuel : Nat} {cs : List Value} {x : DataW H × List MemPlace} (h : DataW.trod enc Try.prog w base spare held fuel 71 cs = some x) :
    ∃ A n cap ms, cs = [.slice A n cap] ∧ Rq fr.reaS w 0 w.heap.size A n cap ms := by
  rcases DataW.trod_slice Try.underlying71 h with ⟨rfl, _⟩ | ⟨a, len, cap, elems, rest, n, _, rfl, _, _, hl, hm, hlen, hel, _⟩
  · exact ⟨none, 0, 0, [], rfl, Rq.nil w none 0 0 w.heap.size (by unfold maxLen; omega) (Nat.le_refl _)⟩
  · rcases Nat.eq_zero_or_pos len with h0 | h0
    · subst h0
      exact ⟨_, 0, cap, [], rfl, Rq.nil w _ cap 0 w.heap.size hm (Nat.le_refl _)⟩
    obtain ⟨b, off, sp⟩ := a
    have hs : sp = none := by
      have hE := hel 0 h0
      rw [cLRea, (List.getElem?_eq_getElem (by omega) : elems[0]? = some (elems[0]'(by omega)))] at hE
      obtain ⟨cn, hc, _⟩ := Option.bind_eq_some_iff.1 hE
      obtain ⟨_, hn9, hcell⟩ := World.cells?_some hc
      obtain ⟨c0, c1, c2, c3, c4, rfl⟩ := listRea hn9
      have h1 := hcell 0 (by omega)
      exact cell_spot (by simpa [Addr.add] using h1)
    subst hs
    have each : ∀ i, i < len → ∃ y : Rea, b < w.heap.size ∧ At fr.reaS w 0 w.heap.size b (off + i * 5) y := by
      intro i hi
      have hE := hel i hi
      rw [cLRea] at hE
      have he : elems[i]? = some (elems[i]'(by omega)) := List.getElem?_eq_getElem (by omega)
      rw [he] at hE
      obtain ⟨cn, hc, ht⟩ := Option.bind_eq_some_iff.1 hE
      obtain ⟨_, hn9, hcell⟩ := World.cells?_some hc
      obtain ⟨m, hf⟩ := opn.in_cells Try.underlying103 ht
      obtain ⟨c0, c1, c2, c3, c4, rfl⟩ := listRea hn9
      obtain ⟨y0, g0⟩ := hf 0 _ 1 rfl (by kernel_rfl)
      obtain ⟨y1, g1⟩ := hf 1 _ 1 rfl (by kernel_rfl)
      obtain ⟨y2, g2⟩ := hf 2 _ 1 rfl (by kernel_rfl)
      obtain ⟨y3, g3⟩ := hf 3 _ 1 rfl (by kernel_rfl)
      obtain ⟨y4, g4⟩ := hf 4 _ 1 rfl (by kernel_rfl)
      obtain ⟨b0, e0, _, _⟩ := DataW.trod_int Try.underlying3 g0
      obtain rfl : c0 = .int .i64 b0 := by simpa using e0
      obtain ⟨b1, e1, _, _⟩ := DataW.trod_int Try.underlying3 g1
      obtain rfl : c1 = .int .i64 b1 := by simpa using e1
      obtain ⟨b2, e2, _, _⟩ := DataW.trod_int Try.underlying3 g2
      obtain rfl : c2 = .int .i64 b2 := by simpa using e2
      obtain ⟨A3, L3, C3, Z3, rfl, u3⟩ : ∃ A0 L0 C0 Z0, c3 = .slice A0 L0 C0 ∧ kit.IsRow .u8 w A0 L0 C0 Z0 := by
        rcases open_ints Try.underlying22 Try.underlying5 (by kernel_rfl) g3 with ⟨hcs, _⟩ | ⟨x, l, c, zs, hcs, _, hl2, hm2, hz, _, hcl, hwz⟩
        · simp at hcs; subst hcs
          exact ⟨none, 0, 0, [], rfl, .inl ⟨rfl, rfl, rfl, rfl⟩⟩
        · simp at hcs; subst hcs
          exact ⟨some x, l, c, zs, rfl, .inr ⟨_, rfl, hl2, hm2, by rw [hz, hsp]; rfl, hcl, hwz⟩⟩
      obtain ⟨ys, hr⟩ := Rd.of_row u3
      obtain ⟨b4, e4, _, _⟩ := DataW.trod_int Try.underlying3 g4
      obtain rfl : c4 = .int .i64 b4 := by simpa using e4
      have h1 := hcell 0 (by omega)
      rw [Addr.add_mid, Addr.add_mid] at h1
      refine ⟨⟨b0, b1, b2, ys, b4⟩, lt_of_cell h1, A3, L3, C3, fun j v hj => ?_, hr⟩
      have hj4 : j < 5 := (List.getElem?_eq_some_iff.1 hj).1
      have hcj := hcell j hj4
      rw [Addr.add_mid, Addr.add_mid] at hcj
      exact hcj.trans hj
    obtain ⟨ms, hml, hmp⟩ := list_of len each
    obtain ⟨y, hb, _⟩ := each 0 h0
    exact ⟨_, len, cap, ms, rfl, hml, hl, hm, Nat.le_refl _, fun _ => ⟨b, off, rfl, Nat.zero_le _, hb, fun i x hx => (hmp i x hx).2⟩⟩
end Go.Proofs.Ytjmenbpalihnnaa.opm
