/- Slices of bytes as the harness copies, compares, marks and measures them. Condition: sizes up to 2^26. -/
import Derived.Test.YtmmhleobgpgliaaUh
import Derived.Deep.Cut
namespace Go.Proofs.Ytmmhleobgpgliaa.ux
open Go.RowKit sl harn bx stw
set_option linter.unusedVariables false
set_option linter.unusedSimpArgs false

abbrev bytes : Rep (List Int) := num 5 .u8
theorem bytes_sl {w : World} {lo hi : Nat} {v : Value} {x : List Int} (h : bytes.R w lo hi v x) : ∃ A n c, v = .slice A n c := by
  obtain ⟨A, n, c, e, _⟩ := h
  exact ⟨A, n, c, e⟩
theorem bytes_slo {w : World} {fp : List Nat} {v : Value} {x : List Int} (h : bytes.O w fp v x) : ∃ A n c, v = .slice A n c := by
  obtain ⟨A, n, c, e, _⟩ := h
  exact ⟨A, n, c, e⟩
theorem bytes_tot (x : List Int) : bytes.tot x ≤ 64 * bytes.sz x := by show x.length ≤ 64 * x.length; omega
theorem rd_of {w : World} {lo hi n c : Nat} {A : Option Addr} {zs : List Int} (h : RR bytes w lo hi (.slice A n c) zs) : Rd .u8 w lo hi A n c zs := by
  obtain ⟨A', n', c', e, h⟩ := h
  injection e with e1 e2 e3
  subst e1 e2 e3
  exact h
theorem mem_one {b g : Nat} (h : b ∈ blks (some ⟨g, 0, none⟩)) : b = g := by simpa [blks] using h
theorem tch_ks {lo hi : Nat} {A : Option Addr} {w w' : World} (h : Tch lo hi w w') (hb : ∀ k, k ∉ blks A → w'.heap[k]? = w.heap[k]?) : KS (blks A) w w' := ⟨h.os, h.tape, h.output, h.size, fun k _ hk => hb k hk⟩
theorem toByteS {w : World} {lo hi : Nat} {v : Value} {x : List Int} (h : RR bytes w lo hi v x) (hs : bytes.sz x ≤ 67108864) : Calls Try.prog 38 #[v] w (ToPost bytes x w) := by
  obtain ⟨A, n, c, rfl, h⟩ := h
  refine (harn.toByteS x lo hi A n c w h (by rw [← h.len]; exact hs)).mono ?_
  rintro e w' ⟨A', n', c', rfl, ho, hb⟩
  exact ⟨_, _, rfl, num_of ho, hb⟩
theorem eqByteS {w : World} {lo hi lo2 hi2 : Nat} {v u : Value} {x : List Int} (h : RR bytes w lo hi v x) (h2 : RR bytes w lo2 hi2 u x) : Calls Try.prog 40 #[v, u] w (BPost true w) := by
  obtain ⟨A, n, c, rfl, h⟩ := h
  obtain ⟨A2, n2, c2, rfl, h2⟩ := h2
  exact harn.eqByteS_yes x lo hi lo2 hi2 A A2 n c n2 c2 w h h2
theorem markByteS {w : World} {lo hi : Nat} {fp : List Nat} {v : Value} {x : List Int} (q : Int) (h : OO bytes w lo hi fp v x) (hq : 0 ≤ q ∧ q + (bytes.tot x : Nat) ≤ 1099511627776) (hs : bytes.sz x ≤ 67108864) : Calls Try.prog 41 #[v, .int .i64 q] w (MkPost bytes (bytes.mkx q x) (q + (bytes.tot x : Nat)) lo hi fp v w) := by
  obtain ⟨A, n, c, rfl, ho, rfl⟩ := num_open h
  have hl : x.length = n := ho.len
  have hq2 : q + (x.length : Nat) ≤ 1099511627776 := hq.2
  refine (om.mark_om x lo hi A n c q w ho hq.1 (by omega) (by rw [← hl]; exact hs)).mono ?_
  rintro e w' ⟨rfl, ho', h1, ⟨h2, h3, h4⟩, h5⟩
  have e0 : bytes.mkx q x = marks .u8 q n := by show marks .u8 q x.length = _; rw [hl]
  refine ⟨by rw [show bytes.tot x = n from hl], ?_, ⟨h2, h3, h4, by omega, fun k hk hm => h5 k fun o e => hm (by rw [e]; exact List.mem_singleton.2 rfl)⟩⟩
  rw [e0]
  exact num_om ho'
theorem heldByteS {w : World} {lo hi : Nat} {v : Value} {x : List Int} (q : Int) (h : RR bytes w lo hi v (bytes.mkx q x)) (hq : 0 ≤ q ∧ q + (bytes.tot x : Nat) ≤ 1099511627776) (hs : bytes.sz x ≤ 67108864) : Calls Try.prog 85 #[v, .int .i64 q] w (NPost (q + (bytes.tot x : Nat)) w) := by
  obtain ⟨A, n, c, rfl, h⟩ := h
  have hl : x.length = n := by rw [← h.len]; exact (marks_len _ _ _).symm
  have hq2 : q + (x.length : Nat) ≤ 1099511627776 := hq.2
  have h' : Rd .u8 w lo hi A n c (marks .u8 q n) := by have hh : Rd .u8 w lo hi A n c (marks .u8 q x.length) := h; rwa [hl] at hh
  refine (harn.heldByteS lo hi A n c q w h' hq.1 (by omega) (by rw [← hl]; exact hs)).mono ?_
  rintro e w' ⟨rfl, rfl⟩
  exact ⟨by rw [show bytes.tot x = n from hl], Below.refl _ _⟩
theorem szByteS {w : World} {lo hi : Nat} {v : Value} {x : List Int} (left : Int) (hl : 0 ≤ left ∧ left ≤ 1048576) (h : RR bytes w lo hi v x) : Calls Try.prog 105 #[v, .int .i64 left] w (ZPost left (bytes.sz x) w) := by
  obtain ⟨A, n, c, rfl, h⟩ := h
  have hx : bytes.sz x = n := h.len
  rw [hx]
  have hc := h.cap_
  have hd : IntKind.i64.wrap (left - n) = left - n := IntWalk.i64_in _ (by omega)
  obtain ⟨h0, h1⟩ := hl
  clear h hx
  by_cases hle : (n : Int) ≤ left
  · have hq : ¬ left - n < 0 := by omega
    have HE := Lib.hid hle
    go_enter Try.func105, Try.ntmps105
    go_wp2
    go_ret
    exact ⟨left - n, rfl, .inr ⟨rfl, HE.out⟩, Below.refl _ _⟩
  · have hq : left - n < 0 := by omega
    have HE := Lib.hid (show left < (n : Int) by omega)
    go_enter Try.func105, Try.ntmps105
    go_wp2
    go_ret
    exact ⟨-1, rfl, .inl ⟨rfl, HE.out⟩, Below.refl _ _⟩
end Go.Proofs.Ytmmhleobgpgliaa.ux
