/- The harness over slices of slices of bytes. Condition: sizes up to 2^26. -/
import Derived.Test.YtejjafmppihneaaUy
import Derived.Test.YtejjafmppihneaaBox
import Derived.Deep.QuietTactic
import Derived.Laws.MakeOwn
namespace Go.Proofs.Ytejjafmppihneaa.ag
open Go.RowKit sl harn bx
theorem run_makeS {P : Program} (t e : TypeId) (i : TypeInfo) (z : Value) (s : Nat) (ht : P.underlying t = some (.slice e)) (hi : P.info? e = some i) (hz : i.zero = some z) (hs : i.size = s)
    (n : Nat) (hb8 : i.bytes ≤ 128) (hn : n ≤ 67108864) (w : World) :
    (Instr.makeSlice t (.int .i64 (n : Int)) (.int .i64 (n : Int))).run P w = .ok (.slice (some ⟨w.heap.size, 0, none⟩) n n) (w.alloc (.cells (madeCells z.cells (n * s)) e)) := by
  have hb : (i.bytes : Int) * (n : Int) ≤ 281474976710656 := by
    have h : ((i.bytes * n : Nat) : Int) ≤ 281474976710656 := by
      have h1 := Nat.mul_le_mul hb8 hn
      omega
    rwa [Int.natCast_mul] at h
  have hr := run_make (P := P) w t e i z ht hi hz .i64 .i64 n n (by omega) (by omega) hb (by omega)
  simp only [Int.toNat_natCast] at hr
  rw [hs] at hr
  exact hr
end Go.Proofs.Ytejjafmppihneaa.ag
namespace Go.Proofs.Ytejjafmppihneaa.ux
open Go.RowKit sl harn bx stw
set_option linter.unusedVariables false
set_option linter.unusedSimpArgs false

def rowB : Rep (List (List Int)) := row 22 bytes
theorem rowB_sl {w : World} {lo hi : Nat} {v : Value} {x : List (List Int)} (h : rowB.R w lo hi v x) : ∃ A n c, v = .slice A n c := by
  obtain ⟨A, n, c, e, _⟩ := h
  exact ⟨A, n, c, e⟩
theorem rowB_slo {w : World} {fp : List Nat} {v : Value} {x : List (List Int)} (h : rowB.O w fp v x) : ∃ A n c, v = .slice A n c := by
  obtain ⟨A, n, c, es, e, _⟩ := h
  exact ⟨A, n, c, e⟩
theorem rowB_tot (x : List (List Int)) : rowB.tot x ≤ 64 * rowB.sz x := row_tot _ _ x
theorem infoB : (Try.prog.info? 22).map (fun i => (i.zero, i.size, i.bytes)) = some (some (.slice none 0 0), 1, 24) := by kernel_rfl
theorem szB : (Try.prog.info? 22).map (·.size) = some 1 := by kernel_rfl
theorem oneB (A : Option Addr) (n c : Nat) : (#[.slice A n c] : Array Value).all (·.oneCell') = true := all_oneCell_toArray (cs := [.slice A n c]) (by intro v hv; simp only [List.mem_singleton] at hv; subst hv; rfl)
theorem bytes_r {w : World} {lo hi : Nat} {v : Value} {x : List Int} (h : RR bytes w lo hi v x) : ∃ A n c, v = .slice A n c ∧ RR bytes w lo hi (.slice A n c) x := by
  obtain ⟨A, n, c, rfl⟩ := bytes_sl h
  exact ⟨A, n, c, rfl, h⟩
theorem bytes_o {w : World} {lo hi : Nat} {fp : List Nat} {v : Value} {x : List Int} (h : OO bytes w lo hi fp v x) : ∃ A n c f, v = .slice A n c ∧ OO bytes w lo hi f (.slice A n c) x ∧ fp = f ∧ fp.Nodup := by
  obtain ⟨A, n, c, rfl⟩ := bytes_slo h.1
  exact ⟨A, n, c, fp, rfl, h, rfl, bytes.nd h.1⟩
theorem bytes_mk {w : World} {lo hi : Nat} {fp : List Nat} {v : Value} {x : List Int} (h : OO bytes w lo hi fp v x) (hn : fp.Nodup) : OO bytes w lo hi fp v x := h
theorem setCells_1 (w : World) (b o : Nat) (v : Value) : w.setCells b (o * 1) [v] = w.setCell ⟨b, o, none⟩ v := by rw [Nat.mul_one]; rfl
theorem there_1 {w : World} {b o : Nat} (h : w.there b (o * 1) 1) : (∃ v, w.cell? ⟨b, o, none⟩ = some v) ∧ w.frozen? ⟨b, o, none⟩ = false := by
  have h1 := h 0 (by omega)
  rw [Nat.mul_one, Nat.add_zero] at h1
  exact ⟨Option.isSome_iff_exists.1 h1.1, h1.2⟩
end Go.Proofs.Ytejjafmppihneaa.ux
