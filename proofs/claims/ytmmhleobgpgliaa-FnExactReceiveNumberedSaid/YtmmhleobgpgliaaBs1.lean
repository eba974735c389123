/- Sequence numbers, bits, what is valid, new senders, program and specification. Condition: none. -/
import Derived.Test.YtmmhleobgpgliaaBsm
import Derived.Test.YtmmhleobgpgliaaBox
import Derived.Test.YtmmhleobgpgliaaStv
import Derived.Test.YtmmhleobgpgliaaHash
import Derived.Test.YtmmhleobgpgliaaDraw
import Derived.Deep.Cut
namespace Go.Proofs.Ytmmhleobgpgliaa.bs
open Go.RowKit sl harn rng bx stw
set_option linter.unusedVariables false
set_option linter.unusedSimpArgs false

theorem szS : (Try.prog.info? 27).map (·.size) = some 3 := by kernel_rfl
theorem szA : (Try.prog.info? 42).map (·.size) = some 2 := by kernel_rfl
theorem oneS (a b c : Int) : (#[.int .i64 a, .int .i64 b, .int .i64 c] : Array Value).all (·.oneCell') = true :=
  all_oneCell_toArray (cs := [.int .i64 a, .int .i64 b, .int .i64 c]) (by intro v hv; simp only [List.mem_cons, List.not_mem_nil, or_false] at hv; rcases hv with rfl | rfl | rfl <;> rfl)
theorem oneA (a b : Int) : (#[.int .i64 a, .int .i64 b] : Array Value).all (·.oneCell') = true :=
  all_oneCell_toArray (cs := [.int .i64 a, .int .i64 b]) (by intro v hv; simp only [List.mem_cons, List.not_mem_nil, or_false] at hv; rcases hv with rfl | rfl <;> rfl)
/-- A sender's three numbers. -/
abbrev sv (q : Bs) : Array Value := #[.int .i64 q.st, .int .i64 q.nx, .int .i64 q.ac]
/-- What a function hands back that is a sender. -/
def SPost (q : Bs) (w : World) (e : Ending) (w' : World) : Prop := e = .returned (.agg (sv q)) ∧ Below w.heap.size w w'
theorem s_parts {q : Bs} {s n a : Int} (ht : q = ⟨s, n, a⟩) {w w' : World} {e : Ending} (hp : SPost q w e w') : e = .returned (.agg #[.int .i64 s, .int .i64 n, .int .i64 a]) ∧ Below w.heap.size w w' := by subst ht; exact hp
theorem low1 (n : Int) : bits .and .i64 n 1 = n % 2 := draw.low_bits 1 (by omega) n
theorem div_zero (n : Int) (k : Nat) : (n / 2 ^ k == 0) = decide (0 ≤ n ∧ n ≤ 2 ^ k - 1) := by
  have hp : (0 : Int) < 2 ^ k := Int.pow_pos (by omega)
  generalize (2 : Int) ^ k = p at hp ⊢
  have h1 := Int.emod_nonneg n (show p ≠ 0 by omega)
  have h2 := Int.emod_lt_of_pos n hp
  have h3 := Int.emod_add_mul_ediv n p
  rw [Bool.eq_iff_iff, beq_iff_eq, decide_eq_true_eq]
  constructor
  · intro h
    rw [h] at h3
    simp at h3
    omega
  · intro ⟨h4, h5⟩
    exact Int.ediv_eq_zero_of_lt h4 (by omega)

set_option maxRecDepth 100000 in
set_option maxHeartbeats 4000000 in
theorem isSq (n : Int) (v : Bool) (w : World) (h : decide (0 ≤ n ∧ n ≤ 4095) = v) :
    Calls Try.prog 52 #[.int .i64 n] w fun e w' => e = .returned (.bool v) ∧ w = w' := by
  have H := Lib.hid h
  clear h
  go_enter Try.func52, Try.ntmps52
  go_wp2_with fail
  (with_reducible refine (inR n 0 4095 v _ H.out).mono ?_)
  rintro e w1 ⟨rfl, rfl⟩
  go_wp2_with fail
  go_ret
  exact ⟨rfl, rfl⟩
set_option maxRecDepth 100000 in
set_option maxHeartbeats 4000000 in
theorem implNs (s : Int) (w : World) :
    Calls Try.prog 54 #[.int .i64 s] w (fun e w' => e = .returned (.int .i64 (nsq s)) ∧ w = w') := by
  obtain ⟨v, hv⟩ : ∃ v, nsq s = v := ⟨_, rfl⟩
  have HV := Lib.hid hv
  rw [hv]
  clear hv
  by_cases h : 0 ≤ s ∧ s ≤ 4095
  · have HS := Lib.hid (show decide (0 ≤ s ∧ s ≤ 4095) = true from decide_eq_true h)
    have HE := Lib.hid (show v = (s + 1) % 4096 by rw [← HV.out]; unfold nsq; rw [if_pos h])
    obtain ⟨h1, h2⟩ := h
    have hw : IntKind.i64.wrap (s + 1) = s + 1 := IntWalk.i64_in _ (by omega)
    go_enter Try.func54, Try.ntmps54
    go_wp2_with fail
    (with_reducible refine (isSq s true _ HS.out).mono ?_)
    rintro e w1 ⟨rfl, rfl⟩
    go_wp2_with fail
    (with_reducible refine (hsh.implMod (s + 1) 4096 (by omega) _).mono ?_)
    rintro e w1 ⟨rfl, rfl⟩
    go_wp2_with fail
    go_ret
    exact ⟨by rw [HE.out]; try rfl, rfl⟩
  · have HS := Lib.hid (show decide (0 ≤ s ∧ s ≤ 4095) = false from decide_eq_false h)
    have HE := Lib.hid (show v = 0 by rw [← HV.out]; unfold nsq; rw [if_neg h])
    clear h
    go_enter Try.func54, Try.ntmps54
    go_wp2_with fail
    (with_reducible refine (isSq s false _ HS.out).mono ?_)
    rintro e w1 ⟨rfl, rfl⟩
    go_wp2_with fail
    go_ret
    exact ⟨by rw [HE.out]; try rfl, rfl⟩
set_option maxRecDepth 100000 in
set_option maxHeartbeats 4000000 in
theorem implSd (a b : Int) (w : World) :
    Calls Try.prog 53 #[.int .i64 a, .int .i64 b] w (fun e w' => e = .returned (.int .i64 (sqd a b)) ∧ w = w') := by
  obtain ⟨v, hv⟩ : ∃ v, sqd a b = v := ⟨_, rfl⟩
  have HV := Lib.hid hv
  rw [hv]
  clear hv
  by_cases ha : 0 ≤ a ∧ a ≤ 4095
  · by_cases hb : 0 ≤ b ∧ b ≤ 4095
    · have Ha := Lib.hid (show decide (0 ≤ a ∧ a ≤ 4095) = true from decide_eq_true ha)
      have Hb := Lib.hid (show decide (0 ≤ b ∧ b ≤ 4095) = true from decide_eq_true hb)
      have HE := Lib.hid (show v = (b - a) % 4096 by rw [← HV.out]; unfold sqd; rw [if_pos ⟨ha, hb⟩])
      obtain ⟨a1, a2⟩ := ha
      obtain ⟨b1, b2⟩ := hb
      have hw : IntKind.i64.wrap (b - a) = b - a := IntWalk.i64_in _ (by omega)
      go_enter Try.func53, Try.ntmps53
      go_wp2_with fail
      (with_reducible refine (isSq a true _ Ha.out).mono ?_)
      rintro e w1 ⟨rfl, rfl⟩
      go_wp2_with fail
      (with_reducible refine (isSq b true _ Hb.out).mono ?_)
      rintro e w1 ⟨rfl, rfl⟩
      go_wp2_with fail
      (with_reducible refine (hsh.implMod (b - a) 4096 (by omega) _).mono ?_)
      rintro e w1 ⟨rfl, rfl⟩
      go_wp2_with fail
      go_ret
      exact ⟨by rw [HE.out]; try rfl, rfl⟩
    · have Ha := Lib.hid (show decide (0 ≤ a ∧ a ≤ 4095) = true from decide_eq_true ha)
      have Hb := Lib.hid (show decide (0 ≤ b ∧ b ≤ 4095) = false from decide_eq_false hb)
      have HE := Lib.hid (show v = -1 by rw [← HV.out]; unfold sqd; rw [if_neg (fun h => hb h.2)])
      clear ha hb
      go_enter Try.func53, Try.ntmps53
      go_wp2_with fail
      (with_reducible refine (isSq a true _ Ha.out).mono ?_)
      rintro e w1 ⟨rfl, rfl⟩
      go_wp2_with fail
      (with_reducible refine (isSq b false _ Hb.out).mono ?_)
      rintro e w1 ⟨rfl, rfl⟩
      go_wp2_with fail
      go_ret
      exact ⟨by rw [HE.out]; try rfl, rfl⟩
  · have Ha := Lib.hid (show decide (0 ≤ a ∧ a ≤ 4095) = false from decide_eq_false ha)
    have HE := Lib.hid (show v = -1 by rw [← HV.out]; unfold sqd; rw [if_neg (fun h => ha h.1)])
    clear ha
    go_enter Try.func53, Try.ntmps53
    go_wp2_with fail
    (with_reducible refine (isSq a false _ Ha.out).mono ?_)
    rintro e w1 ⟨rfl, rfl⟩
    go_wp2_with fail
    go_ret
    exact ⟨by rw [HE.out]; try rfl, rfl⟩
set_option maxRecDepth 100000 in
set_option maxHeartbeats 4000000 in
theorem specNs (s : Int) (w : World) :
    Calls Try.prog 86 #[.int .i64 s] w (fun e w' => e = .returned (.int .i64 (nsq s)) ∧ w = w') := by
  obtain ⟨v, hv⟩ : ∃ v, nsq s = v := ⟨_, rfl⟩
  have HV := Lib.hid hv
  rw [hv]
  clear hv
  by_cases h : 0 ≤ s ∧ s ≤ 4095
  · have HS := Lib.hid (show decide (0 ≤ s ∧ s ≤ 4095) = true from decide_eq_true h)
    have HE := Lib.hid (show v = (s + 1) % 4096 by rw [← HV.out]; unfold nsq; rw [if_pos h])
    obtain ⟨h1, h2⟩ := h
    have hw : IntKind.i64.wrap (s + 1) = s + 1 := IntWalk.i64_in _ (by omega)
    go_enter Try.func86, Try.ntmps86
    go_wp2_with fail
    (with_reducible refine (l1R s 0 4095 true _ HS.out).mono ?_)
    rintro e w1 ⟨rfl, rfl⟩
    go_wp2_with fail
    go_ret
    exact ⟨by rw [HE.out]; try rfl, rfl⟩
  · have HS := Lib.hid (show decide (0 ≤ s ∧ s ≤ 4095) = false from decide_eq_false h)
    have HE := Lib.hid (show v = 0 by rw [← HV.out]; unfold nsq; rw [if_neg h])
    clear h
    go_enter Try.func86, Try.ntmps86
    go_wp2_with fail
    (with_reducible refine (l1R s 0 4095 false _ HS.out).mono ?_)
    rintro e w1 ⟨rfl, rfl⟩
    go_wp2_with fail
    go_ret
    exact ⟨by rw [HE.out]; try rfl, rfl⟩
set_option maxRecDepth 100000 in
set_option maxHeartbeats 4000000 in
theorem specSd (a b : Int) (w : World) :
    Calls Try.prog 29 #[.int .i64 a, .int .i64 b] w (fun e w' => e = .returned (.int .i64 (sqd a b)) ∧ w = w') := by
  obtain ⟨v, hv⟩ : ∃ v, sqd a b = v := ⟨_, rfl⟩
  have HV := Lib.hid hv
  rw [hv]
  clear hv
  by_cases ha : 0 ≤ a ∧ a ≤ 4095
  · by_cases hb : 0 ≤ b ∧ b ≤ 4095
    · have Ha := Lib.hid (show decide (0 ≤ a ∧ a ≤ 4095) = true from decide_eq_true ha)
      have Hb := Lib.hid (show decide (0 ≤ b ∧ b ≤ 4095) = true from decide_eq_true hb)
      have HE := Lib.hid (show v = (b - a) % 4096 by rw [← HV.out]; unfold sqd; rw [if_pos ⟨ha, hb⟩])
      obtain ⟨a1, a2⟩ := ha
      obtain ⟨b1, b2⟩ := hb
      have hw : IntKind.i64.wrap (b - a) = b - a := IntWalk.i64_in _ (by omega)
      go_enter Try.func29, Try.ntmps29
      go_wp2_with fail
      (with_reducible refine (l1R a 0 4095 true _ Ha.out).mono ?_)
      rintro e w1 ⟨rfl, rfl⟩
      go_wp2_with fail
      (with_reducible refine (l1R b 0 4095 true _ Hb.out).mono ?_)
      rintro e w1 ⟨rfl, rfl⟩
      go_wp2_with fail
      (with_reducible refine (hsh.specMod (b - a) 4096 (by omega) _).mono ?_)
      rintro e w1 ⟨rfl, rfl⟩
      go_wp2_with fail
      go_ret
      exact ⟨by rw [HE.out]; try rfl, rfl⟩
    · have Ha := Lib.hid (show decide (0 ≤ a ∧ a ≤ 4095) = true from decide_eq_true ha)
      have Hb := Lib.hid (show decide (0 ≤ b ∧ b ≤ 4095) = false from decide_eq_false hb)
      have HE := Lib.hid (show v = -1 by rw [← HV.out]; unfold sqd; rw [if_neg (fun h => hb h.2)])
      clear ha hb
      go_enter Try.func29, Try.ntmps29
      go_wp2_with fail
      (with_reducible refine (l1R a 0 4095 true _ Ha.out).mono ?_)
      rintro e w1 ⟨rfl, rfl⟩
      go_wp2_with fail
      (with_reducible refine (l1R b 0 4095 false _ Hb.out).mono ?_)
      rintro e w1 ⟨rfl, rfl⟩
      go_wp2_with fail
      go_ret
      exact ⟨by rw [HE.out]; try rfl, rfl⟩
  · have Ha := Lib.hid (show decide (0 ≤ a ∧ a ≤ 4095) = false from decide_eq_false ha)
    have HE := Lib.hid (show v = -1 by rw [← HV.out]; unfold sqd; rw [if_neg (fun h => ha h.1)])
    clear ha
    go_enter Try.func29, Try.ntmps29
    go_wp2_with fail
    (with_reducible refine (l1R a 0 4095 false _ Ha.out).mono ?_)
    rintro e w1 ⟨rfl, rfl⟩
    go_wp2_with fail
    go_ret
    exact ⟨by rw [HE.out]; try rfl, rfl⟩
set_option maxRecDepth 100000 in
set_option maxHeartbeats 4000000 in
theorem implNw (a b : Int) (w : World) :
    Calls Try.prog 123 #[.int .i64 a, .int .i64 b] w (fun e w' => e = .returned (.bool (nwr a b)) ∧ w = w') := by
  obtain ⟨v, hv⟩ : ∃ v, nwr a b = v := ⟨_, rfl⟩
  have HV := Lib.hid hv
  rw [hv]
  clear hv
  obtain ⟨d, hd⟩ : ∃ d, sqd b a = d := ⟨_, rfl⟩
  have HD := Lib.hid hd
  have HE := Lib.hid (show decide (1 ≤ d ∧ d ≤ 2047) = v by rw [← HV.out]; unfold nwr; rw [hd])
  clear hd
  go_enter Try.func123, Try.ntmps123
  go_wp2_with fail
  (with_reducible refine (implSd b a _).mono ?_)
  rw [HD.out]
  rintro e w1 ⟨rfl, rfl⟩
  go_wp2_with fail
  (with_reducible refine (inR d 1 2047 v _ HE.out).mono ?_)
  rintro e w2 ⟨rfl, rfl⟩
  go_wp2_with fail
  go_ret
  exact ⟨by (try rw [HV.out]); try rfl, rfl⟩
set_option maxRecDepth 100000 in
set_option maxHeartbeats 4000000 in
theorem hasB (x d : Int) (v : Bool) (w : World) (hd : 0 ≤ d ∧ d ≤ 62) (hv : bit x d = v) :
    Calls Try.prog 55 #[.int .i64 x, .int .i64 d] w (fun e w' => e = .returned (.bool (v)) ∧ w = w') := by
  obtain ⟨k, rfl⟩ : ∃ k : Nat, d = k := ⟨d.toNat, by omega⟩
  have hk : (k : Int) ≤ 64 := by omega
  unfold bit at hv
  rw [Int.toNat_natCast] at hv
  obtain ⟨y, hy⟩ : ∃ y, x / 2 ^ k = y := ⟨_, rfl⟩
  rw [hy] at hv
  have hl := low1 y
  cases v with
  | true =>
    have h1 : y % 2 = 1 := by simpa using hv
    rw [h1] at hl
    clear hv h1 hd
    go_enter Try.func55, Try.ntmps55
    go_wp2
    go_ret
    exact ⟨rfl, rfl⟩
  | false =>
    have h1 : y % 2 = 0 := by have h2 : ¬ y % 2 = 1 := (by simpa using hv); omega
    rw [h1] at hl
    clear hv h1 hd
    go_enter Try.func55, Try.ntmps55
    go_wp2
    go_ret
    exact ⟨rfl, rfl⟩
set_option maxRecDepth 100000 in
set_option maxHeartbeats 4000000 in
theorem hasBB (x d : Int) (v : Bool) (w : World) (hd : 0 ≤ d ∧ d ≤ 62) (hv : decide (0 ≤ x ∧ x ≤ 2 ^ d.toNat - 1) = v) :
    Calls Try.prog 69 #[.int .i64 x, .int .i64 d] w (fun e w' => e = .returned (.bool (v)) ∧ w = w') := by
  obtain ⟨k, rfl⟩ : ∃ k : Nat, d = k := ⟨d.toNat, by omega⟩
  have hk : (k : Int) ≤ 64 := by omega
  rw [Int.toNat_natCast, ← div_zero] at hv
  obtain ⟨y, hy⟩ : ∃ y, x / 2 ^ k = y := ⟨_, rfl⟩
  rw [hy] at hv
  clear hd
  go_enter Try.func69, Try.ntmps69
  go_wp2
  go_ret
  exact ⟨by first | rfl | rw [hv], rfl⟩
set_option maxRecDepth 100000 in
set_option maxHeartbeats 4000000 in
theorem seqA (s d : Int) (w : World) (hs : 0 ≤ s ∧ s ≤ 4095) (hd : 0 ≤ d ∧ d ≤ 4095) :
    Calls Try.prog 56 #[.int .i64 s, .int .i64 d] w (fun e w' => e = .returned (.int .i64 ((s + d) % 4096)) ∧ w = w') := by
  obtain ⟨p, hp⟩ : ∃ p, s + d = p := ⟨_, rfl⟩
  have m1 : IntKind.i64.wrap p = p := IntWalk.i64_in _ (by omega)
  rw [hp]
  clear hs hd
  go_enter Try.func56, Try.ntmps56
  go_wp2_with fail
  (with_reducible refine (hsh.implMod p 4096 (by omega) _).mono ?_)
  rintro e w1 ⟨rfl, rfl⟩
  go_wp2_with fail
  go_ret
  exact ⟨rfl, rfl⟩
set_option maxRecDepth 100000 in
set_option maxHeartbeats 4000000 in
theorem implVs (s n a : Int) (w : World) :
    Calls Try.prog 23 #[.agg #[.int .i64 s, .int .i64 n, .int .i64 a]] w (BPost (vs ⟨s, n, a⟩) w) := by
  obtain ⟨d, hd⟩ : ∃ d, sqd s n = d := ⟨_, rfl⟩
  obtain ⟨t1, h1⟩ : ∃ t, v1 ⟨s, n, a⟩ = t := ⟨_, rfl⟩
  obtain ⟨t2, h2⟩ : ∃ t, v2 ⟨s, n, a⟩ = t := ⟨_, rfl⟩
  obtain ⟨t3, h3⟩ : ∃ t, v3 ⟨s, n, a⟩ = t := ⟨_, rfl⟩
  have HV := Lib.hid (show vs ⟨s, n, a⟩ = (t1 && (t2 && t3)) by unfold vs; rw [h1, h2, h3])
  have HD := Lib.hid hd
  have H1 := Lib.hid (show decide (0 ≤ d ∧ d ≤ 16) = t1 by rw [← h1]; unfold v1; rw [← hd])
  have H2 := Lib.hid (show decide (0 ≤ a ∧ a ≤ 2 ^ d.toNat - 1) = t2 by rw [← h2]; unfold v2 wd; rw [← hd])
  have H3 := Lib.hid (show (a % 2 == 0) = t3 from h3)
  clear hd h1 h2 h3
  go_enter Try.func23, Try.ntmps23
  go_wp2_with fail
  obtain ⟨w0, hW⟩ : ∃ w0, w.alloc (.cells #[.int .i64 s, .int .i64 n, .int .i64 a] 27) = w0 := ⟨_, rfl⟩
  rw [hW]
  have B0 := Lib.hid (show Below w.heap.size w w0 by rw [← hW]; exact (Below.refl _ _).alloc (by simp <;> omega) _)
  have X0 := Lib.hid (show Bx 27 w0 (w.heap.size) #[.int .i64 s, .int .i64 n, .int .i64 a] by
      rw [← hW]
      have hh := Bx.made 27 w #[.int .i64 s, .int .i64 n, .int .i64 a]
      exact hh)
  clear hW
  have LTX := Lib.hid X0.out.lt
  have cX0 : w0.cell? ⟨w.heap.size, 0, none⟩ = some (.int .i64 s) := X0.out.cell 0
  have cX1 : w0.cell? ⟨w.heap.size, 1, none⟩ = some (.int .i64 n) := X0.out.cell 1
  have cX2 : w0.cell? ⟨w.heap.size, 2, none⟩ = some (.int .i64 a) := X0.out.cell 2
  go_wp2_with fail
  clear cX0 cX1 cX2
  (with_reducible refine (implSd s n _).mono ?_)
  rw [HD.out]
  rintro e wq ⟨rfl, rfl⟩
  go_wp2_with fail
  (with_reducible refine (inR d 0 16 t1 _ H1.out).mono ?_)
  rintro e wq ⟨rfl, rfl⟩
  cases t1 with
  | true =>
    have HR := Lib.hid (show 0 ≤ d ∧ d ≤ 16 from of_decide_eq_true H1.out)
    have cX2 : w0.cell? ⟨w.heap.size, 2, none⟩ = some (.int .i64 a) := X0.out.cell 2
    go_wp2_with fail
    clear cX2
    (with_reducible refine (hasBB a d t2 _ (by have := HR.out; omega) H2.out).mono ?_)
    rintro e wq ⟨rfl, rfl⟩
    cases t2 with
    | true =>
      have H4 := Lib.hid (show bit a 0 = !t3 by rw [← H3.out]; unfold bit; simp; rw [Bool.eq_iff_iff]; simp; omega)
      have cX2 : w0.cell? ⟨w.heap.size, 2, none⟩ = some (.int .i64 a) := X0.out.cell 2
      go_wp2_with fail
      clear cX2
      (with_reducible refine (hasB a 0 (!t3) _ (by omega) H4.out).mono ?_)
      rintro e wq ⟨rfl, rfl⟩
      cases t3 with
      | true =>
        go_wp2_with fail
        go_ret
        rw [HV.out]
        exact ⟨by simp, B0.out⟩
      | false =>
        go_wp2_with fail
        go_ret
        rw [HV.out]
        exact ⟨by simp, B0.out⟩
    | false =>
      go_wp2_with fail
      go_ret
      rw [HV.out]
      exact ⟨by simp, B0.out⟩
  | false =>
    go_wp2_with fail
    go_ret
    rw [HV.out]
    exact ⟨by simp, B0.out⟩
theorem pow16 {k : Nat} (h : k ≤ 16) : wrap64 (2 ^ k) = 2 ^ k ∧ (1 : Int) ≤ wrap64 (2 ^ k) ∧ wrap64 (2 ^ k) ≤ 65536 := by
  have h7 : ((2 ^ k : Nat) : Int) = 2 ^ k := by simp
  have h2 : 2 ^ k ≤ 2 ^ 16 := Nat.pow_le_pow_right (by omega) h
  have h3 : 1 ≤ 2 ^ k := Nat.one_le_two_pow
  rw [← h7]
  generalize 2 ^ k = p at h2 h3
  have h4 : wrap64 (p : Int) = (p : Int) := by unfold wrap64; omega
  rw [h4]
  omega
set_option maxRecDepth 100000 in
set_option maxHeartbeats 4000000 in
theorem implVa (c b : Int) (w : World) :
    Calls Try.prog 102 #[.agg #[.int .i64 c, .int .i64 b]] w (BPost (va c b) w) := by
  obtain ⟨t1, h1⟩ : ∃ t, decide (0 ≤ c ∧ c ≤ 4095) = t := ⟨_, rfl⟩
  obtain ⟨t2, h2⟩ : ∃ t, decide (0 ≤ b ∧ b ≤ 65535) = t := ⟨_, rfl⟩
  have HV := Lib.hid (show va c b = (t1 && t2) by unfold va; rw [h1, h2])
  have H1 := Lib.hid h1
  have H2 := Lib.hid h2
  clear h1 h2
  go_enter Try.func102, Try.ntmps102
  go_wp2_with fail
  obtain ⟨w0, hW⟩ : ∃ w0, w.alloc (.cells #[.int .i64 c, .int .i64 b] 42) = w0 := ⟨_, rfl⟩
  rw [hW]
  have B0 := Lib.hid (show Below w.heap.size w w0 by rw [← hW]; exact (Below.refl _ _).alloc (by simp <;> omega) _)
  have X0 := Lib.hid (show Bx 42 w0 (w.heap.size) #[.int .i64 c, .int .i64 b] by
      rw [← hW]
      have hh := Bx.made 42 w #[.int .i64 c, .int .i64 b]
      exact hh)
  clear hW
  have LTX := Lib.hid X0.out.lt
  have cX0 : w0.cell? ⟨w.heap.size, 0, none⟩ = some (.int .i64 c) := X0.out.cell 0
  go_wp2_with fail
  clear cX0
  (with_reducible refine (isSq c t1 _ H1.out).mono ?_)
  rintro e wq ⟨rfl, rfl⟩
  cases t1 with
  | true =>
    have cX1 : w0.cell? ⟨w.heap.size, 1, none⟩ = some (.int .i64 b) := X0.out.cell 1
    go_wp2_with fail
    clear cX1
    (with_reducible refine (hasBB b 16 t2 _ (by omega) (by have h := H2.out; simpa using h)).mono ?_)
    rintro e wq ⟨rfl, rfl⟩
    cases t2 with
    | true =>
      go_wp2_with fail
      go_ret
      rw [HV.out]
      exact ⟨by simp, B0.out⟩
    | false =>
      go_wp2_with fail
      go_ret
      rw [HV.out]
      exact ⟨by simp, B0.out⟩
  | false =>
    go_wp2_with fail
    go_ret
    rw [HV.out]
    exact ⟨by simp, B0.out⟩
set_option maxRecDepth 100000 in
set_option maxHeartbeats 4000000 in
theorem implNew (n : Int) (w : World) :
    Calls Try.prog 14 #[.int .i64 n] w (SPost (new n) w) := by
  by_cases hn : 0 ≤ n ∧ n ≤ 4095
  · have H1 := Lib.hid (show decide (0 ≤ n ∧ n ≤ 4095) = true from decide_eq_true hn)
    have HE := Lib.hid (show new n = ⟨n, n, 0⟩ by unfold new; rw [if_pos hn])
    clear hn
    go_enter Try.func14, Try.ntmps14
    go_wp2_with fail
    obtain ⟨w0, hW⟩ : ∃ w0, w.alloc (.cells #[.int .i64 0, .int .i64 0, .int .i64 0] 27) = w0 := ⟨_, rfl⟩
    rw [hW]
    have B0 := Lib.hid (show Below w.heap.size w w0 by rw [← hW]; exact (Below.refl _ _).alloc (by simp <;> omega) _)
    have Z0 := Lib.hid (show Bx 27 w0 (w.heap.size) #[.int .i64 0, .int .i64 0, .int .i64 0] by
        rw [← hW]
        have hh := Bx.made 27 w #[.int .i64 0, .int .i64 0, .int .i64 0]
        exact hh)
    clear hW
    have LTZ := Lib.hid Z0.out.lt
    (with_reducible refine (isSq n true _ H1.out).mono ?_)
    rintro e wq ⟨rfl, rfl⟩
    go_wp2_with (first | (refine stw.list_store rfl 27 _ _ rfl (w.heap.size) #[.int .i64 n, .int .i64 n, .int .i64 0] rfl rfl 27 _ Z0.out rfl szS (oneS _ _ _) ?_; intro wz1 hz))
    have B1 := Lib.hid (hz.on B0.out (by have hs0 := LTZ.out; first | omega | (simp <;> omega)))
    have Z1 := Lib.hid (hz.box)
    clear hz B0 Z0
    (try simp only [Exit.inBlock, Exit.then])
    refine bodyPost_ret (v := .agg #[.int .i64 n, .int .i64 n, .int .i64 0]) ?_ rfl ?_
    · rw [results_cell1 rfl]
      exact stw.back Z1.out Try.underlying27 rfl szS
    · exact ⟨by rw [HE.out], B1.out⟩
  · have H1 := Lib.hid (show decide (0 ≤ n ∧ n ≤ 4095) = false from decide_eq_false hn)
    have HE := Lib.hid (show new n = ⟨0, 0, 0⟩ by unfold new; rw [if_neg hn])
    clear hn
    go_enter Try.func14, Try.ntmps14
    go_wp2_with fail
    obtain ⟨w0, hW⟩ : ∃ w0, w.alloc (.cells #[.int .i64 0, .int .i64 0, .int .i64 0] 27) = w0 := ⟨_, rfl⟩
    rw [hW]
    have B0 := Lib.hid (show Below w.heap.size w w0 by rw [← hW]; exact (Below.refl _ _).alloc (by simp <;> omega) _)
    have Z0 := Lib.hid (show Bx 27 w0 (w.heap.size) #[.int .i64 0, .int .i64 0, .int .i64 0] by
        rw [← hW]
        have hh := Bx.made 27 w #[.int .i64 0, .int .i64 0, .int .i64 0]
        exact hh)
    clear hW
    have LTZ := Lib.hid Z0.out.lt
    (with_reducible refine (isSq n false _ H1.out).mono ?_)
    rintro e wq ⟨rfl, rfl⟩
    go_wp2_with (first | (refine stw.list_store rfl 27 _ _ rfl (w.heap.size) #[.int .i64 0, .int .i64 0, .int .i64 0] rfl rfl 27 _ Z0.out rfl szS (oneS _ _ _) ?_; intro wz1 hz))
    have B1 := Lib.hid (hz.on B0.out (by have hs0 := LTZ.out; first | omega | (simp <;> omega)))
    have Z1 := Lib.hid (hz.box)
    clear hz B0 Z0
    (try simp only [Exit.inBlock, Exit.then])
    refine bodyPost_ret (v := .agg #[.int .i64 0, .int .i64 0, .int .i64 0]) ?_ rfl ?_
    · rw [results_cell1 rfl]
      exact stw.back Z1.out Try.underlying27 rfl szS
    · exact ⟨by rw [HE.out], B1.out⟩
section
variable {w w' : World} {p : Nat} {s n a : Int}
end
def Box (w : World) (p : Nat) (s n a : Int) : Prop := Bx 27 w p #[.int .i64 s, .int .i64 n, .int .i64 a]
section
variable {w w' : World} {p : Nat} {s n a : Int}
theorem Box.c0 (hx : Box w p s n a) : w.cell? ⟨p, 0, none⟩ = some (.int .i64 s) := Bx.cell hx 0
theorem Box.c1 (hx : Box w p s n a) : w.cell? ⟨p, 1, none⟩ = some (.int .i64 n) := Bx.cell hx 1
theorem Box.c2 (hx : Box w p s n a) : w.cell? ⟨p, 2, none⟩ = some (.int .i64 a) := Bx.cell hx 2
theorem Box.lt (hx : Box w p s n a) : p < w.heap.size := Bx.lt hx
theorem Box.below (hx : Box w p s n a) (hb : Below w.heap.size w w') : Box w' p s n a := Bx.below hx hb
theorem Box.tch {lo hi : Nat} (hx : Box w p s n a) (hb : Tch lo hi w w') (hd : p < lo ∨ hi ≤ p) : Box w' p s n a := Bx.tch hx hb hd
theorem Box.made (w : World) (s n a : Int) : Box (w.alloc (.cells #[.int .i64 s, .int .i64 n, .int .i64 a] 27)) w.heap.size s n a := Bx.made _ w _
end
theorem below_box (w : World) (o : Obj) : Below w.heap.size w (w.alloc o) := bx.below_box w o
theorem below_box2 (w : World) (o o' : Obj) : Below w.heap.size w ((w.alloc o).alloc o') := bx.below_box2 w o o'
end Go.Proofs.Ytmmhleobgpgliaa.bs
