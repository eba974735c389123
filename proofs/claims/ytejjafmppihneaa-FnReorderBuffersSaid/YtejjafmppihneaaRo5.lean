/- What ReceiveNumbered and MoveStart hand back; the region that ends them. Condition: none. -/
import Derived.Test.YtejjafmppihneaaRo4
namespace Go.Proofs.Ytejjafmppihneaa.ro
open Go.RowKit sl harn bx stw
open ux (Nf Rob RR OO row rowB rowNf nf rob)
open mrw (blkOf)
set_option linter.unusedVariables false
set_option linter.unusedSimpArgs false

/-- A buffer and a list of bodies, all of the call's own, apart. -/
def R2Post (p : Rob × List (List Int)) (w : World) (e : Ending) (w' : World) : Prop := ∃ A n c f A2 n2 c2 f2, e = .returned (.tuple #[.agg #[.int .i64 p.1.Start, .slice A n c], .slice A2 n2 c2]) ∧ OO rowNf w' w.heap.size w'.heap.size f (.slice A n c) p.1.Pending ∧ OO rowB w' w.heap.size w'.heap.size f2 (.slice A2 n2 c2) p.2 ∧ (∀ b, b ∈ f → b ∉ f2) ∧ Below w.heap.size w w'
theorem r2_parts {p : Rob × List (List Int)} {w : World} {e : Ending} {w' : World} (h : R2Post p w e w') : ∃ A n c f A2 n2 c2 f2, e = .returned (.tuple #[.agg #[.int .i64 p.1.Start, .slice A n c], .slice A2 n2 c2]) ∧ OO rowNf w' w.heap.size w'.heap.size f (.slice A n c) p.1.Pending ∧ OO rowB w' w.heap.size w'.heap.size f2 (.slice A2 n2 c2) p.2 ∧ (∀ b, b ∈ f → b ∉ f2) ∧ Below w.heap.size w w' := h
def Zs (b : Nat) (w : World) : Prop := ∃ cs : Array Value, cs.size = 2 ∧ Bx 50 w b cs
def C7 (W : World) (b : Nat) (w : World) : Prop := KS [b] W w ∧ Zs b w
def E7 (b : Nat) (w w' : World) : Prop := KS [b] w w' ∧ Zs b w'
theorem Zs.below {b : Nat} {w w' : World} (h : Zs b w) (hb : Below w.heap.size w w') : Zs b w' := by
  obtain ⟨cs, h1, h2⟩ := h
  exact ⟨cs, h1, h2.below hb⟩
theorem c7_keep (k : Nat) (W : World) (b : Nat) : ∀ i w1 w2, C7 W b w1 → rgp.EA k reg.Bel (E7 b) i w1 w2 → C7 W b w2 := fun i w1 w2 hc he =>
  rgp.ea_cases he (fun hb => ⟨hc.1.trans (ux.ks_below hb _), hc.2.below hb⟩) (fun h2 => ⟨hc.1.trans h2.1, h2.2⟩)
/-- The buffer made. -/
def bufv (W : World) (b : Nat) (r : Rob) (hb : b < W.heap.size) : rgp.St reg.Bel (E7 b) :=
  ⟨fun v w => ∃ A n c f hi, v = .agg #[.int .i64 r.Start, .slice A n c] ∧ OO rowNf w W.heap.size hi f (.slice A n c) r.Pending, fun v w w' ⟨A, n, c, f, hi, e, h⟩ he => by
    rcases he with he | he
    · exact ⟨A, n, c, f, hi, e, h.below he⟩
    · exact ⟨A, n, c, f, hi, e, h.ks he.1 fun q h1 h2 => by have := (h.inn q h1).1; have := List.mem_singleton.1 h2; omega⟩⟩
def stv (b : Nat) (v : Value) (w : World) : Prop := ∃ cs, v = .agg cs ∧ Bx 50 w b cs
theorem stv_keep (b : Nat) : ∀ v w w', stv b v w → reg.Bel w w' → stv b v w' := fun v w w' ⟨cs, e, h⟩ hb => ⟨cs, e, h.below hb⟩
theorem Rv.len {w : World} {b : Nat} {fp : List Nat} {t : St} (h : Rv w b fp t) : t.ws.length = 16 ∧ (0 ≤ t.s ∧ t.s ≤ 4095) ∧ ∀ x, some x ∈ t.ws → Wf .u8 x ∧ x.length ≤ 100 := by
  obtain ⟨_, _, _, _, _, _, h⟩ := h
  exact h
/-- Its head. -/
theorem Rv.start_ {W w2 : World} {be : Nat} {t : St} (hE : Bx 22 w2 be #[]) (hV : Bx 84 w2 W.heap.size (vcs t (.slice (some ⟨be, 0, none⟩) 0 0))) (hne : be ≠ W.heap.size) (ho : t.out = []) (h16 : t.ws.length = 16) (hs : 0 ≤ t.s ∧ t.s ≤ 4095) (hw : ∀ x, some x ∈ t.ws → Wf .u8 x ∧ x.length ≤ 100) : Rv w2 W.heap.size [be] t :=
  ⟨_, 0, 0, hV, by rw [ho]; exact (ux.row_empty 22 ux.bytes hE).wide (Nat.zero_le _), by simpa using hne.symm, h16, hs, hw⟩
end Go.Proofs.Ytejjafmppihneaa.ro
