/- Sequence numbers, bits, what is valid, new senders, program and specification. Condition: none. -/
import Derived.Test.YtejjafmppihneaaBsm
import Derived.Test.YtejjafmppihneaaBox
import Derived.Test.YtejjafmppihneaaStv
import Derived.Test.YtejjafmppihneaaHash
import Derived.Test.YtejjafmppihneaaDraw
import Derived.Deep.Cut
namespace Go.Proofs.Ytejjafmppihneaa.bs
open Go.RowKit sl harn rng bx stw
set_option linter.unusedVariables false
set_option linter.unusedSimpArgs false

theorem szA : (Try.prog.info? 61).map (·.size) = some 2 := by kernel_rfl
theorem oneS (a b c : Int) : (#[.int .i64 a, .int .i64 b, .int .i64 c] : Array Value).all (·.oneCell') = true :=
  all_oneCell_toArray (cs := [.int .i64 a, .int .i64 b, .int .i64 c]) (by intro v hv; simp only [List.mem_cons, List.not_mem_nil, or_false] at hv; rcases hv with rfl | rfl | rfl <;> rfl)
theorem oneA (a b : Int) : (#[.int .i64 a, .int .i64 b] : Array Value).all (·.oneCell') = true :=
  all_oneCell_toArray (cs := [.int .i64 a, .int .i64 b]) (by intro v hv; simp only [List.mem_cons, List.not_mem_nil, or_false] at hv; rcases hv with rfl | rfl <;> rfl)
/-- A sender's three numbers. -/
abbrev sv (q : Bs) : Array Value := #[.int .i64 q.st, .int .i64 q.nx, .int .i64 q.ac]
/-- What a function hands back that is a sender. -/
def SPost (q : Bs) (w : World) (e : Ending) (w' : World) : Prop := e = .returned (.agg (sv q)) ∧ Below w.heap.size w w'
theorem s_parts {q : Bs} {s n a : Int} (ht : q = ⟨s, n, a⟩) {w w' : World} {e : Ending} (hp : SPost q w e w') : e = .returned (.agg #[.int .i64 s, .int .i64 n, .int .i64 a]) ∧ Below w.heap.size w w' := by subst ht; exact hp
theorem low1 (n : Int) : bits .and .i64 n 1 = n % 2 := draw.low_bits 1 (by omega) n
theorem div_zero (n : Int) (k : Nat) : (n / 2 ^ k == 0) = decide (0 ≤ n ∧ n ≤ 2 ^ k - 1) := by
  have hp : (0 : Int) < 2 ^ k := Int.pow_pos (by omega)
  generalize (2 : Int) ^ k = p at hp ⊢
  have h1 := Int.emod_nonneg n (show p ≠ 0 by omega)
  have h2 := Int.emod_lt_of_pos n hp
  have h3 := Int.emod_add_mul_ediv n p
  rw [Bool.eq_iff_iff, beq_iff_eq, decide_eq_true_eq]
  constructor
  · intro h
    rw [h] at h3
    simp at h3
    omega
  · intro ⟨h4, h5⟩
    exact Int.ediv_eq_zero_of_lt h4 (by omega)

set_option maxRecDepth 100000 in
set_option maxHeartbeats 4000000 in
theorem isSq (n : Int) (v : Bool) (w : World) (h : decide (0 ≤ n ∧ n ≤ 4095) = v) :
    Calls Try.prog 80 #[.int .i64 n] w fun e w' => e = .returned (.bool v) ∧ w = w' := by
  have H := Lib.hid h
  clear h
  go_enter Try.func80, Try.ntmps80
  go_wp2_with fail
  (with_reducible refine (inR n 0 4095 v _ H.out).mono ?_)
  rintro e w1 ⟨rfl, rfl⟩
  go_wp2_with fail
  go_ret
  exact ⟨rfl, rfl⟩
set_option maxRecDepth 100000 in
set_option maxHeartbeats 4000000 in
theorem implSd (a b : Int) (w : World) :
    Calls Try.prog 69 #[.int .i64 a, .int .i64 b] w (fun e w' => e = .returned (.int .i64 (sqd a b)) ∧ w = w') := by
  obtain ⟨v, hv⟩ : ∃ v, sqd a b = v := ⟨_, rfl⟩
  have HV := Lib.hid hv
  rw [hv]
  clear hv
  by_cases ha : 0 ≤ a ∧ a ≤ 4095
  · by_cases hb : 0 ≤ b ∧ b ≤ 4095
    · have Ha := Lib.hid (show decide (0 ≤ a ∧ a ≤ 4095) = true from decide_eq_true ha)
      have Hb := Lib.hid (show decide (0 ≤ b ∧ b ≤ 4095) = true from decide_eq_true hb)
      have HE := Lib.hid (show v = (b - a) % 4096 by rw [← HV.out]; unfold sqd; rw [if_pos ⟨ha, hb⟩])
      obtain ⟨a1, a2⟩ := ha
      obtain ⟨b1, b2⟩ := hb
      have hw : IntKind.i64.wrap (b - a) = b - a := IntWalk.i64_in _ (by omega)
      go_enter Try.func69, Try.ntmps69
      go_wp2_with fail
      (with_reducible refine (isSq a true _ Ha.out).mono ?_)
      rintro e w1 ⟨rfl, rfl⟩
      go_wp2_with fail
      (with_reducible refine (isSq b true _ Hb.out).mono ?_)
      rintro e w1 ⟨rfl, rfl⟩
      go_wp2_with fail
      (with_reducible refine (hsh.implMod (b - a) 4096 (by omega) _).mono ?_)
      rintro e w1 ⟨rfl, rfl⟩
      go_wp2_with fail
      go_ret
      exact ⟨by rw [HE.out]; try rfl, rfl⟩
    · have Ha := Lib.hid (show decide (0 ≤ a ∧ a ≤ 4095) = true from decide_eq_true ha)
      have Hb := Lib.hid (show decide (0 ≤ b ∧ b ≤ 4095) = false from decide_eq_false hb)
      have HE := Lib.hid (show v = -1 by rw [← HV.out]; unfold sqd; rw [if_neg (fun h => hb h.2)])
      clear ha hb
      go_enter Try.func69, Try.ntmps69
      go_wp2_with fail
      (with_reducible refine (isSq a true _ Ha.out).mono ?_)
      rintro e w1 ⟨rfl, rfl⟩
      go_wp2_with fail
      (with_reducible refine (isSq b false _ Hb.out).mono ?_)
      rintro e w1 ⟨rfl, rfl⟩
      go_wp2_with fail
      go_ret
      exact ⟨by rw [HE.out]; try rfl, rfl⟩
  · have Ha := Lib.hid (show decide (0 ≤ a ∧ a ≤ 4095) = false from decide_eq_false ha)
    have HE := Lib.hid (show v = -1 by rw [← HV.out]; unfold sqd; rw [if_neg (fun h => ha h.1)])
    clear ha
    go_enter Try.func69, Try.ntmps69
    go_wp2_with fail
    (with_reducible refine (isSq a false _ Ha.out).mono ?_)
    rintro e w1 ⟨rfl, rfl⟩
    go_wp2_with fail
    go_ret
    exact ⟨by rw [HE.out]; try rfl, rfl⟩
set_option maxRecDepth 100000 in
set_option maxHeartbeats 4000000 in
theorem specNs (s : Int) (w : World) :
    Calls Try.prog 93 #[.int .i64 s] w (fun e w' => e = .returned (.int .i64 (nsq s)) ∧ w = w') := by
  obtain ⟨v, hv⟩ : ∃ v, nsq s = v := ⟨_, rfl⟩
  have HV := Lib.hid hv
  rw [hv]
  clear hv
  by_cases h : 0 ≤ s ∧ s ≤ 4095
  · have HS := Lib.hid (show decide (0 ≤ s ∧ s ≤ 4095) = true from decide_eq_true h)
    have HE := Lib.hid (show v = (s + 1) % 4096 by rw [← HV.out]; unfold nsq; rw [if_pos h])
    obtain ⟨h1, h2⟩ := h
    have hw : IntKind.i64.wrap (s + 1) = s + 1 := IntWalk.i64_in _ (by omega)
    go_enter Try.func93, Try.ntmps93
    go_wp2_with fail
    (with_reducible refine (l1R s 0 4095 true _ HS.out).mono ?_)
    rintro e w1 ⟨rfl, rfl⟩
    go_wp2_with fail
    go_ret
    exact ⟨by rw [HE.out]; try rfl, rfl⟩
  · have HS := Lib.hid (show decide (0 ≤ s ∧ s ≤ 4095) = false from decide_eq_false h)
    have HE := Lib.hid (show v = 0 by rw [← HV.out]; unfold nsq; rw [if_neg h])
    clear h
    go_enter Try.func93, Try.ntmps93
    go_wp2_with fail
    (with_reducible refine (l1R s 0 4095 false _ HS.out).mono ?_)
    rintro e w1 ⟨rfl, rfl⟩
    go_wp2_with fail
    go_ret
    exact ⟨by rw [HE.out]; try rfl, rfl⟩
set_option maxRecDepth 100000 in
set_option maxHeartbeats 4000000 in
theorem specSd (a b : Int) (w : World) :
    Calls Try.prog 43 #[.int .i64 a, .int .i64 b] w (fun e w' => e = .returned (.int .i64 (sqd a b)) ∧ w = w') := by
  obtain ⟨v, hv⟩ : ∃ v, sqd a b = v := ⟨_, rfl⟩
  have HV := Lib.hid hv
  rw [hv]
  clear hv
  by_cases ha : 0 ≤ a ∧ a ≤ 4095
  · by_cases hb : 0 ≤ b ∧ b ≤ 4095
    · have Ha := Lib.hid (show decide (0 ≤ a ∧ a ≤ 4095) = true from decide_eq_true ha)
      have Hb := Lib.hid (show decide (0 ≤ b ∧ b ≤ 4095) = true from decide_eq_true hb)
      have HE := Lib.hid (show v = (b - a) % 4096 by rw [← HV.out]; unfold sqd; rw [if_pos ⟨ha, hb⟩])
      obtain ⟨a1, a2⟩ := ha
      obtain ⟨b1, b2⟩ := hb
      have hw : IntKind.i64.wrap (b - a) = b - a := IntWalk.i64_in _ (by omega)
      go_enter Try.func43, Try.ntmps43
      go_wp2_with fail
      (with_reducible refine (l1R a 0 4095 true _ Ha.out).mono ?_)
      rintro e w1 ⟨rfl, rfl⟩
      go_wp2_with fail
      (with_reducible refine (l1R b 0 4095 true _ Hb.out).mono ?_)
      rintro e w1 ⟨rfl, rfl⟩
      go_wp2_with fail
      (with_reducible refine (hsh.specMod (b - a) 4096 (by omega) _).mono ?_)
      rintro e w1 ⟨rfl, rfl⟩
      go_wp2_with fail
      go_ret
      exact ⟨by rw [HE.out]; try rfl, rfl⟩
    · have Ha := Lib.hid (show decide (0 ≤ a ∧ a ≤ 4095) = true from decide_eq_true ha)
      have Hb := Lib.hid (show decide (0 ≤ b ∧ b ≤ 4095) = false from decide_eq_false hb)
      have HE := Lib.hid (show v = -1 by rw [← HV.out]; unfold sqd; rw [if_neg (fun h => hb h.2)])
      clear ha hb
      go_enter Try.func43, Try.ntmps43
      go_wp2_with fail
      (with_reducible refine (l1R a 0 4095 true _ Ha.out).mono ?_)
      rintro e w1 ⟨rfl, rfl⟩
      go_wp2_with fail
      (with_reducible refine (l1R b 0 4095 false _ Hb.out).mono ?_)
      rintro e w1 ⟨rfl, rfl⟩
      go_wp2_with fail
      go_ret
      exact ⟨by rw [HE.out]; try rfl, rfl⟩
  · have Ha := Lib.hid (show decide (0 ≤ a ∧ a ≤ 4095) = false from decide_eq_false ha)
    have HE := Lib.hid (show v = -1 by rw [← HV.out]; unfold sqd; rw [if_neg (fun h => ha h.1)])
    clear ha
    go_enter Try.func43, Try.ntmps43
    go_wp2_with fail
    (with_reducible refine (l1R a 0 4095 false _ Ha.out).mono ?_)
    rintro e w1 ⟨rfl, rfl⟩
    go_wp2_with fail
    go_ret
    exact ⟨by rw [HE.out]; try rfl, rfl⟩
set_option maxRecDepth 100000 in
set_option maxHeartbeats 4000000 in
theorem seqA (s d : Int) (w : World) (hs : 0 ≤ s ∧ s ≤ 4095) (hd : 0 ≤ d ∧ d ≤ 4095) :
    Calls Try.prog 97 #[.int .i64 s, .int .i64 d] w (fun e w' => e = .returned (.int .i64 ((s + d) % 4096)) ∧ w = w') := by
  obtain ⟨p, hp⟩ : ∃ p, s + d = p := ⟨_, rfl⟩
  have m1 : IntKind.i64.wrap p = p := IntWalk.i64_in _ (by omega)
  rw [hp]
  clear hs hd
  go_enter Try.func97, Try.ntmps97
  go_wp2_with fail
  (with_reducible refine (hsh.implMod p 4096 (by omega) _).mono ?_)
  rintro e w1 ⟨rfl, rfl⟩
  go_wp2_with fail
  go_ret
  exact ⟨rfl, rfl⟩
theorem pow16 {k : Nat} (h : k ≤ 16) : wrap64 (2 ^ k) = 2 ^ k ∧ (1 : Int) ≤ wrap64 (2 ^ k) ∧ wrap64 (2 ^ k) ≤ 65536 := by
  have h7 : ((2 ^ k : Nat) : Int) = 2 ^ k := by simp
  have h2 : 2 ^ k ≤ 2 ^ 16 := Nat.pow_le_pow_right (by omega) h
  have h3 : 1 ≤ 2 ^ k := Nat.one_le_two_pow
  rw [← h7]
  generalize 2 ^ k = p at h2 h3
  have h4 : wrap64 (p : Int) = (p : Int) := by unfold wrap64; omega
  rw [h4]
  omega
section
variable {w w' : World} {p : Nat} {s n a : Int}
end
section
variable {w w' : World} {p : Nat} {s n a : Int}
end
theorem below_box (w : World) (o : Obj) : Below w.heap.size w (w.alloc o) := bx.below_box w o
theorem below_box2 (w : World) (o o' : Obj) : Below w.heap.size w ((w.alloc o).alloc o') := bx.below_box2 w o o'
end Go.Proofs.Ytejjafmppihneaa.bs
