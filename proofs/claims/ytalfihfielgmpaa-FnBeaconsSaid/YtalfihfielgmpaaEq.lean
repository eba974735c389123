/- EqualBytes and EqualInts, program and specification. Condition: none. -/
import Derived.Test.YtalfihfielgmpaaHarn
import Derived.Test.YtalfihfielgmpaaShelf
namespace Go.Proofs.Ytalfihfielgmpaa.eqs
open Go.RowKit sl harn

theorem bytesIn {w : World} {lo hi n cap : Nat} {A : Option Addr} {zs : List Int} (h : Rd .u8 w lo hi A n cap zs) : Lib.BytesIn w A n zs := fun hn => by
  obtain ⟨b, off, e, _, _, hc⟩ := h.2.2.2.2.2 hn
  exact ⟨b, off, e, hc⟩
theorem bytesOf_inj : ∀ {xs ys : List Int}, Wf .u8 xs → Wf .u8 ys → Lib.bytesOf xs = Lib.bytesOf ys → xs = ys
  | [], [], _, _, _ => rfl
  | [], _ :: _, _, _, h => by simp [Lib.bytesOf] at h
  | _ :: _, [], _, _, h => by simp [Lib.bytesOf] at h
  | x :: xs, y :: ys, hx, hy, h => by
    simp only [Lib.bytesOf, List.map_cons, List.cons.injEq] at h
    have h1 := hx.u8 x (List.mem_cons_self ..)
    have h2 := hy.u8 y (List.mem_cons_self ..)
    have e : x = y := by
      have := congrArg UInt8.toNat h.1
      simp at this
      omega
    rw [e, bytesOf_inj (xs := xs) (ys := ys) (fun z hz => hx z (List.mem_cons_of_mem _ hz)) (fun z hz => hy z (List.mem_cons_of_mem _ hz)) h.2]
theorem bytesOf_eq {xs ys : List Int} (hx : Wf .u8 xs) (hy : Wf .u8 ys) : (Lib.bytesOf xs == Lib.bytesOf ys) = decide (xs = ys) := by
  by_cases h : xs = ys
  · subst h; simp
  · have : ¬ Lib.bytesOf xs = Lib.bytesOf ys := fun e => h (bytesOf_inj hx hy e)
    simp [h, this]
theorem ret_bool {a b : Bool} (h : a = b) : Ending.returned (.bool a) = .returned (.bool b) := by rw [h]

theorem implEqB (zs ys : List Int) (lo hi lo2 hi2 : Nat) (A A2 : Option Addr) (n cap n2 cap2 : Nat) (w : World) (h : Rd .u8 w lo hi A n cap zs) (h2 : Rd .u8 w lo2 hi2 A2 n2 cap2 ys) :
    Calls Try.prog 47 #[.slice A n cap, .slice A2 n2 cap2] w (EqPost zs ys w) := by
  have hc := Try.bytes_Equal_all A A2 n cap n2 cap2 zs ys w h.len h2.len (bytesIn h) (bytesIn h2)
  rw [bytesOf_eq h.wf h2.wf] at hc
  obtain ⟨b, hb⟩ : ∃ b, decide (zs = ys) = b := ⟨_, rfl⟩
  rw [hb] at hc
  have HB := Lib.hid hb
  have HC := Lib.hid hc
  clear h h2 hb hc
  go_enter Try.func47, Try.ntmps47
  go_wp2_with (go_at_call 65; refine HC.out.mono ?_; rintro e w1 ⟨rfl, rfl⟩)
  go_ret
  exact ⟨ret_bool HB.out.symm, Below.refl _ _⟩
theorem EqPost_parts {zs ys : List Int} {b : Bool} (ht : decide (zs = ys) = b) {w : World} {e : Ending} {w' : World} (h : EqPost zs ys w e w') : e = .returned (.bool b) ∧ Below w.heap.size w w' := by
  unfold EqPost at h; rw [ht] at h; exact h
end Go.Proofs.Ytalfihfielgmpaa.eqs
