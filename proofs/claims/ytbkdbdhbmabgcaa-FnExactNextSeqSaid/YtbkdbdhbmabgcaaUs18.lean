/- Frames and reassemblies as values of the harness. Condition: none. -/
import Derived.Test.YtbkdbdhbmabgcaaUy
namespace Go.Proofs.Ytbkdbdhbmabgcaa.ux
open Go.RowKit sl harn bx stw
set_option linter.unusedVariables false
set_option linter.unusedSimpArgs false

structure Fra where
  Kind : Int
  From : Int
  To : Int
  Seq : Int
  Fragment : Int
  More : Bool
  Retry : Bool
  Duration : Int
  Body : List Int
abbrev fraV (x : Fra) (v0 : Value) : Value := .agg #[.int .i64 x.Kind, .int .i64 x.From, .int .i64 x.To, .int .i64 x.Seq, .int .i64 x.Fragment, .bool x.More, .bool x.Retry, .int .i64 x.Duration, v0]
theorem oneFra (y0 : Int) (y1 : Int) (y2 : Int) (y3 : Int) (y4 : Int) (y5 : Bool) (y6 : Bool) (y7 : Int) (A8 : Option Addr) (n8 c8 : Nat) : (#[.int .i64 y0, .int .i64 y1, .int .i64 y2, .int .i64 y3, .int .i64 y4, .bool y5, .bool y6, .int .i64 y7, .slice A8 n8 c8] : Array Value).all (·.oneCell') = true :=
  all_oneCell_toArray (cs := [.int .i64 y0, .int .i64 y1, .int .i64 y2, .int .i64 y3, .int .i64 y4, .bool y5, .bool y6, .int .i64 y7, .slice A8 n8 c8]) (by intro v hv; simp only [List.mem_cons, List.not_mem_nil, or_false] at hv; rcases hv with rfl | rfl | rfl | rfl | rfl | rfl | rfl | rfl | rfl <;> rfl)
def fra : Rep Fra where
  n := 9
  R := fun w lo hi v x => hi ≤ w.heap.size ∧ ∃ (v0 : Value), v = fraV x v0 ∧ bytes.R w lo hi v0 x.Body
  O := fun w fp v x => ∃ (v0 : Value) (f0 : List Nat), v = fraV x v0 ∧ bytes.O w f0 v0 x.Body ∧ fp = f0 ∧ fp.Nodup
  sz := fun x => bytes.sz x.Body
  tot := fun x => 8 + bytes.tot x.Body
  mkx := fun q x => ⟨q, (q + 1), (q + 2), (q + 3), (q + 4), ((q + 5) % 3 == 0), ((q + 6) % 3 == 0), (q + 7), bytes.mkx (q + 8) x.Body⟩
  pos := by omega
  len := fun ⟨hh, v0, e, h0⟩ => by subst e; rfl
  one := fun ⟨hh, v0, e, h0⟩ => by
    subst e
    obtain ⟨A0, n0, c0, rfl⟩ := bytes_sl h0
    exact oneFra _ _ _ _ _ _ _ _ _ _ _
  same := fun ⟨hh, v0, e, h0⟩ hs hb => ⟨by omega, v0, e, bytes.same h0 hs hb⟩
  hi_ := fun h => h.1
  osame := fun ⟨v0, f0, e, h0, hf, hn⟩ hs hb => ⟨v0, f0, e, bytes.osame h0 hs (fun b hm => hb b (by rw [hf]; simp [hm])), hf, hn⟩
  rd := fun ⟨v0, f0, e, h0, hf, hn⟩ hb hh => ⟨hh, v0, e, bytes.rd h0 (fun b hm => hb b (by rw [hf]; simp [hm])) hh⟩
  lt := fun ⟨v0, f0, e, h0, hf, hn⟩ b hm => by
    rw [hf] at hm
    exact bytes.lt h0 b hm
  nd := fun ⟨v0, f0, e, h0, hf, hn⟩ => hn
  tle := fun x => by
    have t0 := bytes_tot x.Body
    show 8 + bytes.tot x.Body ≤ 64 * (bytes.sz x.Body) + 64
    omega
theorem fra_r {w : World} {lo hi : Nat} {v : Value} {x : Fra} (h : RR fra w lo hi v x) : ∃ (A0 : Option Addr) (n0 c0 : Nat), v = fraV x (.slice A0 n0 c0) ∧ RR bytes w lo hi (.slice A0 n0 c0) x.Body := by
  obtain ⟨hh, v0, e, h0⟩ := h
  obtain ⟨A0, n0, c0, rfl⟩ := bytes_sl h0
  exact ⟨A0, n0, c0, e, h0⟩
theorem fra_o {w : World} {lo hi : Nat} {fp : List Nat} {v : Value} {x : Fra} (h : OO fra w lo hi fp v x) : ∃ (A0 : Option Addr) (n0 c0 : Nat) (f0 : List Nat), v = fraV x (.slice A0 n0 c0) ∧ OO bytes w lo hi f0 (.slice A0 n0 c0) x.Body ∧ fp = f0 ∧ fp.Nodup := by
  obtain ⟨⟨v0, f0, e, h0, hf, hn⟩, hin, hh⟩ := h
  obtain ⟨A0, n0, c0, rfl⟩ := bytes_slo h0
  exact ⟨A0, n0, c0, f0, e, ⟨h0, fun b hm => hin b (by rw [hf]; simp [hm]), hh⟩, hf, hn⟩
theorem fra_mk {w : World} {lo hi : Nat} {x : Fra} {v0 : Value} {f0 : List Nat} (h0 : OO bytes w lo hi f0 v0 x.Body) (hn : (f0 : List Nat).Nodup) : OO fra w lo hi (f0) (fraV x v0) x :=
  ⟨⟨v0, f0, rfl, h0.1, rfl, hn⟩, fun b hb => by
    exact h0.2.1 b hb, h0.2.2⟩
theorem szFra : (Try.prog.info? 25).map (·.size) = some 9 := by kernel_rfl
def rowFra : Rep (List Fra) := row 25 fra
theorem rowFra_sl {w : World} {lo hi : Nat} {v : Value} {x : List Fra} (h : rowFra.R w lo hi v x) : ∃ A n c, v = .slice A n c := by
  obtain ⟨A, n, c, e, _⟩ := h
  exact ⟨A, n, c, e⟩
theorem rowFra_slo {w : World} {fp : List Nat} {v : Value} {x : List Fra} (h : rowFra.O w fp v x) : ∃ A n c, v = .slice A n c := by
  obtain ⟨A, n, c, es, e, _⟩ := h
  exact ⟨A, n, c, e⟩
theorem rowFra_tot (x : List Fra) : rowFra.tot x ≤ 64 * rowFra.sz x := row_tot _ _ x
structure Rea where
  From : Int
  Seq : Int
  Next : Int
  Body : List Int
  Started : Int
abbrev reaV (x : Rea) (v0 : Value) : Value := .agg #[.int .i64 x.From, .int .i64 x.Seq, .int .i64 x.Next, v0, .int .i64 x.Started]
theorem oneRea (y0 : Int) (y1 : Int) (y2 : Int) (A3 : Option Addr) (n3 c3 : Nat) (y4 : Int) : (#[.int .i64 y0, .int .i64 y1, .int .i64 y2, .slice A3 n3 c3, .int .i64 y4] : Array Value).all (·.oneCell') = true :=
  all_oneCell_toArray (cs := [.int .i64 y0, .int .i64 y1, .int .i64 y2, .slice A3 n3 c3, .int .i64 y4]) (by intro v hv; simp only [List.mem_cons, List.not_mem_nil, or_false] at hv; rcases hv with rfl | rfl | rfl | rfl | rfl <;> rfl)
def rea : Rep Rea where
  n := 5
  R := fun w lo hi v x => hi ≤ w.heap.size ∧ ∃ (v0 : Value), v = reaV x v0 ∧ bytes.R w lo hi v0 x.Body
  O := fun w fp v x => ∃ (v0 : Value) (f0 : List Nat), v = reaV x v0 ∧ bytes.O w f0 v0 x.Body ∧ fp = f0 ∧ fp.Nodup
  sz := fun x => bytes.sz x.Body
  tot := fun x => 4 + bytes.tot x.Body
  mkx := fun q x => ⟨q, (q + 1), (q + 2), bytes.mkx (q + 3) x.Body, (q + 3 + (bytes.tot x.Body : Nat))⟩
  pos := by omega
  len := fun ⟨hh, v0, e, h0⟩ => by subst e; rfl
  one := fun ⟨hh, v0, e, h0⟩ => by
    subst e
    obtain ⟨A0, n0, c0, rfl⟩ := bytes_sl h0
    exact oneRea _ _ _ _ _ _ _
  same := fun ⟨hh, v0, e, h0⟩ hs hb => ⟨by omega, v0, e, bytes.same h0 hs hb⟩
  hi_ := fun h => h.1
  osame := fun ⟨v0, f0, e, h0, hf, hn⟩ hs hb => ⟨v0, f0, e, bytes.osame h0 hs (fun b hm => hb b (by rw [hf]; simp [hm])), hf, hn⟩
  rd := fun ⟨v0, f0, e, h0, hf, hn⟩ hb hh => ⟨hh, v0, e, bytes.rd h0 (fun b hm => hb b (by rw [hf]; simp [hm])) hh⟩
  lt := fun ⟨v0, f0, e, h0, hf, hn⟩ b hm => by
    rw [hf] at hm
    exact bytes.lt h0 b hm
  nd := fun ⟨v0, f0, e, h0, hf, hn⟩ => hn
  tle := fun x => by
    have t0 := bytes_tot x.Body
    show 4 + bytes.tot x.Body ≤ 64 * (bytes.sz x.Body) + 64
    omega
theorem rea_r {w : World} {lo hi : Nat} {v : Value} {x : Rea} (h : RR rea w lo hi v x) : ∃ (A0 : Option Addr) (n0 c0 : Nat), v = reaV x (.slice A0 n0 c0) ∧ RR bytes w lo hi (.slice A0 n0 c0) x.Body := by
  obtain ⟨hh, v0, e, h0⟩ := h
  obtain ⟨A0, n0, c0, rfl⟩ := bytes_sl h0
  exact ⟨A0, n0, c0, e, h0⟩
theorem rea_o {w : World} {lo hi : Nat} {fp : List Nat} {v : Value} {x : Rea} (h : OO rea w lo hi fp v x) : ∃ (A0 : Option Addr) (n0 c0 : Nat) (f0 : List Nat), v = reaV x (.slice A0 n0 c0) ∧ OO bytes w lo hi f0 (.slice A0 n0 c0) x.Body ∧ fp = f0 ∧ fp.Nodup := by
  obtain ⟨⟨v0, f0, e, h0, hf, hn⟩, hin, hh⟩ := h
  obtain ⟨A0, n0, c0, rfl⟩ := bytes_slo h0
  exact ⟨A0, n0, c0, f0, e, ⟨h0, fun b hm => hin b (by rw [hf]; simp [hm]), hh⟩, hf, hn⟩
theorem rea_mk {w : World} {lo hi : Nat} {x : Rea} {v0 : Value} {f0 : List Nat} (h0 : OO bytes w lo hi f0 v0 x.Body) (hn : (f0 : List Nat).Nodup) : OO rea w lo hi (f0) (reaV x v0) x :=
  ⟨⟨v0, f0, rfl, h0.1, rfl, hn⟩, fun b hb => by
    exact h0.2.1 b hb, h0.2.2⟩
theorem szRea : (Try.prog.info? 38).map (·.size) = some 5 := by kernel_rfl
def rowRea : Rep (List Rea) := row 38 rea
theorem rowRea_sl {w : World} {lo hi : Nat} {v : Value} {x : List Rea} (h : rowRea.R w lo hi v x) : ∃ A n c, v = .slice A n c := by
  obtain ⟨A, n, c, e, _⟩ := h
  exact ⟨A, n, c, e⟩
theorem rowRea_slo {w : World} {fp : List Nat} {v : Value} {x : List Rea} (h : rowRea.O w fp v x) : ∃ A n c, v = .slice A n c := by
  obtain ⟨A, n, c, es, e, _⟩ := h
  exact ⟨A, n, c, e⟩
theorem rowRea_tot (x : List Rea) : rowRea.tot x ≤ 64 * rowRea.sz x := row_tot _ _ x
end Go.Proofs.Ytbkdbdhbmabgcaa.ux
