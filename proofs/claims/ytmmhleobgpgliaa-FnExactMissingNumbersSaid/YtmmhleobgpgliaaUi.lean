/- Slices of ints as the harness compares, marks and measures them. Condition: sizes up to 2^26. -/
import Derived.Test.YtmmhleobgpgliaaUy
namespace Go.Proofs.Ytmmhleobgpgliaa.ux
open Go.RowKit sl harn bx stw
set_option linter.unusedVariables false
set_option linter.unusedSimpArgs false
def numw (E : TypeId) (k : IntKind) : Rep (List Int) where
  n := 1
  R := fun w lo hi v zs => ∃ A n c, v = .slice A n c ∧ Rd k w lo hi A n c zs
  O := fun w fp v zs => ∃ A n c, v = .slice A n c ∧ Ow E k w 0 w.heap.size A n c zs ∧ fp = blks A
  sz := fun zs => zs.length
  tot := fun zs => zs.length
  mkx := fun q zs => marks k q zs.length
  pos := Nat.one_pos
  len := fun ⟨A, n, c, e, h⟩ => by subst e; rfl
  one := fun ⟨A, n, c, e, h⟩ => by subst e; exact sl_one _ _ _
  same := fun ⟨A, n, c, e, h⟩ hs hb => ⟨A, n, c, e, h.same hs hb⟩
  hi_ := fun ⟨A, n, c, e, h⟩ => h.hi_
  osame := fun ⟨A, n, c, e, h, hf⟩ hs hb => ⟨A, n, c, e, (ow_as h hs (fun b hm => hb b (hf ▸ hm))).up, hf⟩
  rd := fun ⟨A, n, c, e, h, hf⟩ hb hh => ⟨A, n, c, e, (ow_to h (fun b hm => hb b (hf ▸ hm)) hh).rd⟩
  lt := fun ⟨A, n, c, e, h, hf⟩ b hm => (ow_in h b (hf ▸ hm)).2
  nd := fun ⟨A, n, c, e, h, hf⟩ => by rw [hf]; cases A <;> simp [blks]
  tle := fun zs => by show zs.length ≤ 64 * zs.length + 64; omega
theorem numw_of {E : TypeId} {k : IntKind} {w : World} {n c lo hi : Nat} {A : Option Addr} {zs : List Int} (h : Ow E k w lo hi A n c zs) : OO (numw E k) w lo hi (blks A) (.slice A n c) zs :=
  ⟨⟨A, n, c, rfl, h.up.down (Nat.zero_le _), rfl⟩, ow_in h, h.hi_⟩
theorem numw_rd {E : TypeId} {k : IntKind} {w : World} {n c lo hi : Nat} {A : Option Addr} {zs : List Int} (h : Rd k w lo hi A n c zs) : RR (numw E k) w lo hi (.slice A n c) zs := ⟨A, n, c, rfl, h⟩
theorem numw_open {E : TypeId} {k : IntKind} {w : World} {lo hi : Nat} {fp : List Nat} {v : Value} {zs : List Int} (h : OO (numw E k) w lo hi fp v zs) : ∃ A n c, v = .slice A n c ∧ Ow E k w lo hi A n c zs ∧ fp = blks A := by
  obtain ⟨⟨A, n, c, e, ho, hf⟩, h2, h3⟩ := h
  exact ⟨A, n, c, e, ow_to ho (fun b hm => h2 b (hf ▸ hm)) h3, hf⟩

abbrev ints : Rep (List Int) := numw 3 .i64
theorem ints_bd (x : List Int) : ints.tot x ≤ 64 * ints.sz x := by show x.length ≤ 64 * x.length; omega
theorem eqIntS {w : World} {lo hi lo2 hi2 : Nat} {v u : Value} {x : List Int} (h : RR ints w lo hi v x) (h2 : RR ints w lo2 hi2 u x) : Calls Try.prog 48 #[v, u] w (BPost true w) := by
  obtain ⟨A, n, c, rfl, h⟩ := h
  obtain ⟨A2, n2, c2, rfl, h2⟩ := h2
  exact harn.eqIntS_yes x lo hi lo2 hi2 A A2 n c n2 c2 w h h2
theorem markIntS {w : World} {lo hi : Nat} {fp : List Nat} {v : Value} {x : List Int} (q : Int) (h : OO ints w lo hi fp v x) (hq : 0 ≤ q ∧ q + (ints.tot x : Nat) ≤ 1099511627776) (hs : ints.sz x ≤ 67108864) : Calls Try.prog 49 #[v, .int .i64 q] w (MkPost ints (ints.mkx q x) (q + (ints.tot x : Nat)) lo hi fp v w) := by
  obtain ⟨A, n, c, rfl, ho, rfl⟩ := numw_open h
  have hl : x.length = n := ho.len
  have hq2 : q + (x.length : Nat) ≤ 1099511627776 := hq.2
  rcases ho.form with ⟨rfl, rfl, rfl⟩ | ⟨g, cur, rfl, h1, h2, h3, h4⟩
  · refine (harn.markIntS x 0 0 none 0 0 q w ⟨⟨by simpa using hl, .inl ⟨rfl, rfl⟩⟩, ho.wf, by omega, fun _ _ e => by cases e⟩ hq.1 (by omega) (by omega)).mono ?_
    rintro e w' ⟨rfl, ho', ht⟩
    have e0 : ints.mkx q x = marks .i64 q 0 := by show marks .i64 q x.length = _; rw [hl]
    refine ⟨by rw [show ints.tot x = 0 from hl], ?_, ⟨ht.os, ht.tape, ht.output, ht.size, fun k hk _ => ht.block k hk (by omega)⟩⟩
    rw [e0]
    exact ⟨⟨none, 0, 0, rfl, ho'.up, rfl⟩, (fun b hb => by cases hb), by have := ho.hi_; have := ht.size; omega⟩
  · have hg : Ow 3 .i64 w g (g + 1) (some ⟨g, 0, none⟩) n c x := ow_to ho (fun b hb => by have := mem_one hb; omega) (by have := lt_of_block h3; omega)
    refine (harn.markIntS x g (g + 1) (some ⟨g, 0, none⟩) n c q w hg hq.1 (by omega) (by rw [← hl]; exact hs)).mono ?_
    rintro e w' ⟨rfl, ho', ht⟩
    have e0 : ints.mkx q x = marks .i64 q n := by show marks .i64 q x.length = _; rw [hl]
    refine ⟨by rw [show ints.tot x = n from hl], ?_, ⟨ht.os, ht.tape, ht.output, ht.size, fun k hk hm => ht.block k hk (by simp [blks] at hm; omega)⟩⟩
    rw [e0]
    exact ⟨⟨_, n, c, rfl, ho'.up.down (Nat.zero_le _), rfl⟩, (fun b hb => by have := mem_one hb; subst this; exact ⟨h1, h2⟩), by have := ho.hi_; have := ht.size; omega⟩
theorem heldIntS {w : World} {lo hi : Nat} {v : Value} {x : List Int} (q : Int) (h : RR ints w lo hi v (ints.mkx q x)) (hq : 0 ≤ q ∧ q + (ints.tot x : Nat) ≤ 1099511627776) (hs : ints.sz x ≤ 67108864) : Calls Try.prog 50 #[v, .int .i64 q] w (NPost (q + (ints.tot x : Nat)) w) := by
  obtain ⟨A, n, c, rfl, h⟩ := h
  have hl : x.length = n := by rw [← h.len]; exact (marks_len _ _ _).symm
  have hq2 : q + (x.length : Nat) ≤ 1099511627776 := hq.2
  have h' : Rd .i64 w lo hi A n c (marks .i64 q n) := by have hh : Rd .i64 w lo hi A n c (marks .i64 q x.length) := h; rwa [hl] at hh
  refine (harn.heldIntS lo hi A n c q w h' hq.1 (by omega) (by rw [← hl]; exact hs)).mono ?_
  rintro e w' ⟨rfl, rfl⟩
  exact ⟨by rw [show ints.tot x = n from hl], Below.refl _ _⟩
end Go.Proofs.Ytmmhleobgpgliaa.ux
