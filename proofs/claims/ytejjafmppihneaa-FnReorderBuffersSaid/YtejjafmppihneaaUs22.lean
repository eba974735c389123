/- Numbered frames and reorder buffers as values of the harness. Condition: none. -/
import Derived.Test.YtejjafmppihneaaUy
namespace Go.Proofs.Ytejjafmppihneaa.ux
open Go.RowKit sl harn bx stw
set_option linter.unusedVariables false
set_option linter.unusedSimpArgs false

structure Nf where
  Seq : Int
  Body : List Int
abbrev nfV (x : Nf) (v0 : Value) : Value := .agg #[.int .i64 x.Seq, v0]
theorem oneNf (y0 : Int) (A1 : Option Addr) (n1 c1 : Nat) : (#[.int .i64 y0, .slice A1 n1 c1] : Array Value).all (·.oneCell') = true :=
  all_oneCell_toArray (cs := [.int .i64 y0, .slice A1 n1 c1]) (by intro v hv; simp only [List.mem_cons, List.not_mem_nil, or_false] at hv; rcases hv with rfl | rfl <;> rfl)
def nf : Rep Nf where
  n := 2
  R := fun w lo hi v x => hi ≤ w.heap.size ∧ ∃ (v0 : Value), v = nfV x v0 ∧ bytes.R w lo hi v0 x.Body
  O := fun w fp v x => ∃ (v0 : Value) (f0 : List Nat), v = nfV x v0 ∧ bytes.O w f0 v0 x.Body ∧ fp = f0 ∧ fp.Nodup
  sz := fun x => bytes.sz x.Body
  tot := fun x => 1 + bytes.tot x.Body
  mkx := fun q x => ⟨q, bytes.mkx (q + 1) x.Body⟩
  pos := by omega
  len := fun ⟨hh, v0, e, h0⟩ => by subst e; rfl
  one := fun ⟨hh, v0, e, h0⟩ => by
    subst e
    obtain ⟨A0, n0, c0, rfl⟩ := bytes_sl h0
    exact oneNf _ _ _ _
  same := fun ⟨hh, v0, e, h0⟩ hs hb => ⟨by omega, v0, e, bytes.same h0 hs hb⟩
  hi_ := fun h => h.1
  osame := fun ⟨v0, f0, e, h0, hf, hn⟩ hs hb => ⟨v0, f0, e, bytes.osame h0 hs (fun b hm => hb b (by rw [hf]; simp [hm])), hf, hn⟩
  rd := fun ⟨v0, f0, e, h0, hf, hn⟩ hb hh => ⟨hh, v0, e, bytes.rd h0 (fun b hm => hb b (by rw [hf]; simp [hm])) hh⟩
  lt := fun ⟨v0, f0, e, h0, hf, hn⟩ b hm => by
    rw [hf] at hm
    exact bytes.lt h0 b hm
  nd := fun ⟨v0, f0, e, h0, hf, hn⟩ => hn
  tle := fun x => by
    have t0 := bytes_tot x.Body
    show 1 + bytes.tot x.Body ≤ 64 * (bytes.sz x.Body) + 64
    omega
theorem nf_r {w : World} {lo hi : Nat} {v : Value} {x : Nf} (h : RR nf w lo hi v x) : ∃ (A0 : Option Addr) (n0 c0 : Nat), v = nfV x (.slice A0 n0 c0) ∧ RR bytes w lo hi (.slice A0 n0 c0) x.Body := by
  obtain ⟨hh, v0, e, h0⟩ := h
  obtain ⟨A0, n0, c0, rfl⟩ := bytes_sl h0
  exact ⟨A0, n0, c0, e, h0⟩
theorem nf_o {w : World} {lo hi : Nat} {fp : List Nat} {v : Value} {x : Nf} (h : OO nf w lo hi fp v x) : ∃ (A0 : Option Addr) (n0 c0 : Nat) (f0 : List Nat), v = nfV x (.slice A0 n0 c0) ∧ OO bytes w lo hi f0 (.slice A0 n0 c0) x.Body ∧ fp = f0 ∧ fp.Nodup := by
  obtain ⟨⟨v0, f0, e, h0, hf, hn⟩, hin, hh⟩ := h
  obtain ⟨A0, n0, c0, rfl⟩ := bytes_slo h0
  exact ⟨A0, n0, c0, f0, e, ⟨h0, fun b hm => hin b (by rw [hf]; simp [hm]), hh⟩, hf, hn⟩
theorem nf_mk {w : World} {lo hi : Nat} {x : Nf} {v0 : Value} {f0 : List Nat} (h0 : OO bytes w lo hi f0 v0 x.Body) (hn : (f0 : List Nat).Nodup) : OO nf w lo hi (f0) (nfV x v0) x :=
  ⟨⟨v0, f0, rfl, h0.1, rfl, hn⟩, fun b hb => by
    exact h0.2.1 b hb, h0.2.2⟩
theorem szNf : (Try.prog.info? 90).map (·.size) = some 2 := by kernel_rfl
def rowNf : Rep (List Nf) := row 90 nf
theorem rowNf_sl {w : World} {lo hi : Nat} {v : Value} {x : List Nf} (h : rowNf.R w lo hi v x) : ∃ A n c, v = .slice A n c := by
  obtain ⟨A, n, c, e, _⟩ := h
  exact ⟨A, n, c, e⟩
theorem rowNf_slo {w : World} {fp : List Nat} {v : Value} {x : List Nf} (h : rowNf.O w fp v x) : ∃ A n c, v = .slice A n c := by
  obtain ⟨A, n, c, es, e, _⟩ := h
  exact ⟨A, n, c, e⟩
theorem rowNf_tot (x : List Nf) : rowNf.tot x ≤ 64 * rowNf.sz x := row_tot _ _ x
structure Rob where
  Start : Int
  Pending : List Nf
abbrev robV (x : Rob) (v0 : Value) : Value := .agg #[.int .i64 x.Start, v0]
theorem oneRob (y0 : Int) (A1 : Option Addr) (n1 c1 : Nat) : (#[.int .i64 y0, .slice A1 n1 c1] : Array Value).all (·.oneCell') = true :=
  all_oneCell_toArray (cs := [.int .i64 y0, .slice A1 n1 c1]) (by intro v hv; simp only [List.mem_cons, List.not_mem_nil, or_false] at hv; rcases hv with rfl | rfl <;> rfl)
def rob : Rep Rob where
  n := 2
  R := fun w lo hi v x => hi ≤ w.heap.size ∧ ∃ (v0 : Value), v = robV x v0 ∧ rowNf.R w lo hi v0 x.Pending
  O := fun w fp v x => ∃ (v0 : Value) (f0 : List Nat), v = robV x v0 ∧ rowNf.O w f0 v0 x.Pending ∧ fp = f0 ∧ fp.Nodup
  sz := fun x => rowNf.sz x.Pending
  tot := fun x => 1 + rowNf.tot x.Pending
  mkx := fun q x => ⟨q, rowNf.mkx (q + 1) x.Pending⟩
  pos := by omega
  len := fun ⟨hh, v0, e, h0⟩ => by subst e; rfl
  one := fun ⟨hh, v0, e, h0⟩ => by
    subst e
    obtain ⟨A0, n0, c0, rfl⟩ := rowNf_sl h0
    exact oneRob _ _ _ _
  same := fun ⟨hh, v0, e, h0⟩ hs hb => ⟨by omega, v0, e, rowNf.same h0 hs hb⟩
  hi_ := fun h => h.1
  osame := fun ⟨v0, f0, e, h0, hf, hn⟩ hs hb => ⟨v0, f0, e, rowNf.osame h0 hs (fun b hm => hb b (by rw [hf]; simp [hm])), hf, hn⟩
  rd := fun ⟨v0, f0, e, h0, hf, hn⟩ hb hh => ⟨hh, v0, e, rowNf.rd h0 (fun b hm => hb b (by rw [hf]; simp [hm])) hh⟩
  lt := fun ⟨v0, f0, e, h0, hf, hn⟩ b hm => by
    rw [hf] at hm
    exact rowNf.lt h0 b hm
  nd := fun ⟨v0, f0, e, h0, hf, hn⟩ => hn
  tle := fun x => by
    have t0 := rowNf_tot x.Pending
    show 1 + rowNf.tot x.Pending ≤ 64 * (rowNf.sz x.Pending) + 64
    omega
theorem rob_r {w : World} {lo hi : Nat} {v : Value} {x : Rob} (h : RR rob w lo hi v x) : ∃ (A0 : Option Addr) (n0 c0 : Nat), v = robV x (.slice A0 n0 c0) ∧ RR rowNf w lo hi (.slice A0 n0 c0) x.Pending := by
  obtain ⟨hh, v0, e, h0⟩ := h
  obtain ⟨A0, n0, c0, rfl⟩ := rowNf_sl h0
  exact ⟨A0, n0, c0, e, h0⟩
theorem rob_o {w : World} {lo hi : Nat} {fp : List Nat} {v : Value} {x : Rob} (h : OO rob w lo hi fp v x) : ∃ (A0 : Option Addr) (n0 c0 : Nat) (f0 : List Nat), v = robV x (.slice A0 n0 c0) ∧ OO rowNf w lo hi f0 (.slice A0 n0 c0) x.Pending ∧ fp = f0 ∧ fp.Nodup := by
  obtain ⟨⟨v0, f0, e, h0, hf, hn⟩, hin, hh⟩ := h
  obtain ⟨A0, n0, c0, rfl⟩ := rowNf_slo h0
  exact ⟨A0, n0, c0, f0, e, ⟨h0, fun b hm => hin b (by rw [hf]; simp [hm]), hh⟩, hf, hn⟩
theorem rob_mk {w : World} {lo hi : Nat} {x : Rob} {v0 : Value} {f0 : List Nat} (h0 : OO rowNf w lo hi f0 v0 x.Pending) (hn : (f0 : List Nat).Nodup) : OO rob w lo hi (f0) (robV x v0) x :=
  ⟨⟨v0, f0, rfl, h0.1, rfl, hn⟩, fun b hb => by
    exact h0.2.1 b hb, h0.2.2⟩
theorem szRob : (Try.prog.info? 50).map (·.size) = some 2 := by kernel_rfl
end Go.Proofs.Ytejjafmppihneaa.ux
