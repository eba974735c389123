/- Sequence numbers: NextSeq, SeqDistance and IsNewer of both sides. Condition: none. -/
import Derived.Test.YtbkdbdhbmabgcaaSnm
import Derived.Test.YtbkdbdhbmabgcaaHash
import Derived.Test.YtbkdbdhbmabgcaaBox
namespace Go.Proofs.Ytbkdbdhbmabgcaa.sn
open Go.RowKit sl harn bx mrw drk stw
set_option linter.unusedVariables false
set_option linter.unusedSimpArgs false
open ux (Sen Fra)

def nsq (s : Int) : Int := if 0 ≤ s ∧ s ≤ 4095 then (s + 1) % 4096 else 0
def sqd (a b : Int) : Int := if (0 ≤ a ∧ a ≤ 4095) ∧ (0 ≤ b ∧ b ≤ 4095) then (b - a) % 4096 else -1
def nwr (a b : Int) : Bool := decide (1 ≤ sqd b a ∧ sqd b a ≤ 2047)
theorem sqd_rng (a b : Int) : -1 ≤ sqd a b ∧ sqd a b ≤ 4095 := by unfold sqd; split <;> omega
set_option maxRecDepth 100000 in
set_option maxHeartbeats 4000000 in
theorem isSq (n : Int) (v : Bool) (w : World) (h : decide (0 ≤ n ∧ n ≤ 4095) = v) :
    Calls Try.prog 76 #[.int .i64 n] w fun e w' => e = .returned (.bool v) ∧ w = w' := by
  have H := Lib.hid h
  clear h
  go_enter Try.func76, Try.ntmps76
  go_wp2_with fail
  (with_reducible refine (inR n 0 4095 v _ H.out).mono ?_)
  rintro e w1 ⟨rfl, rfl⟩
  go_wp2_with fail
  go_ret
  exact ⟨rfl, rfl⟩
set_option maxRecDepth 100000 in
set_option maxHeartbeats 4000000 in
theorem implNs (s : Int) (w : World) :
    Calls Try.prog 32 #[.int .i64 s] w (NPost (nsq s) w) := by
  obtain ⟨v, hv⟩ : ∃ v, nsq s = v := ⟨_, rfl⟩
  have HV := Lib.hid hv
  rw [hv]
  clear hv
  by_cases h : 0 ≤ s ∧ s ≤ 4095
  · have HS := Lib.hid (show decide (0 ≤ s ∧ s ≤ 4095) = true from decide_eq_true h)
    have HE := Lib.hid (show v = (s + 1) % 4096 by rw [← HV.out]; unfold nsq; rw [if_pos h])
    obtain ⟨h1, h2⟩ := h
    have hw : IntKind.i64.wrap (s + 1) = s + 1 := IntWalk.i64_in _ (by omega)
    go_enter Try.func32, Try.ntmps32
    go_wp2_with fail
    (with_reducible refine (isSq s true _ HS.out).mono ?_)
    rintro e w1 ⟨rfl, rfl⟩
    go_wp2_with fail
    (with_reducible refine (hsh.implMod (s + 1) 4096 (by omega) _).mono ?_)
    rintro e w1 ⟨rfl, rfl⟩
    go_wp2_with fail
    go_ret
    exact ⟨by rw [HE.out]; try rfl, Below.refl _ _⟩
  · have HS := Lib.hid (show decide (0 ≤ s ∧ s ≤ 4095) = false from decide_eq_false h)
    have HE := Lib.hid (show v = 0 by rw [← HV.out]; unfold nsq; rw [if_neg h])
    clear h
    go_enter Try.func32, Try.ntmps32
    go_wp2_with fail
    (with_reducible refine (isSq s false _ HS.out).mono ?_)
    rintro e w1 ⟨rfl, rfl⟩
    go_wp2_with fail
    go_ret
    exact ⟨by rw [HE.out]; try rfl, Below.refl _ _⟩
set_option maxRecDepth 100000 in
set_option maxHeartbeats 4000000 in
theorem implSd (a b : Int) (w : World) :
    Calls Try.prog 30 #[.int .i64 a, .int .i64 b] w (NPost (sqd a b) w) := by
  obtain ⟨v, hv⟩ : ∃ v, sqd a b = v := ⟨_, rfl⟩
  have HV := Lib.hid hv
  rw [hv]
  clear hv
  by_cases ha : 0 ≤ a ∧ a ≤ 4095
  · by_cases hb : 0 ≤ b ∧ b ≤ 4095
    · have Ha := Lib.hid (show decide (0 ≤ a ∧ a ≤ 4095) = true from decide_eq_true ha)
      have Hb := Lib.hid (show decide (0 ≤ b ∧ b ≤ 4095) = true from decide_eq_true hb)
      have HE := Lib.hid (show v = (b - a) % 4096 by rw [← HV.out]; unfold sqd; rw [if_pos ⟨ha, hb⟩])
      obtain ⟨a1, a2⟩ := ha
      obtain ⟨b1, b2⟩ := hb
      have hw : IntKind.i64.wrap (b - a) = b - a := IntWalk.i64_in _ (by omega)
      go_enter Try.func30, Try.ntmps30
      go_wp2_with fail
      (with_reducible refine (isSq a true _ Ha.out).mono ?_)
      rintro e w1 ⟨rfl, rfl⟩
      go_wp2_with fail
      (with_reducible refine (isSq b true _ Hb.out).mono ?_)
      rintro e w1 ⟨rfl, rfl⟩
      go_wp2_with fail
      (with_reducible refine (hsh.implMod (b - a) 4096 (by omega) _).mono ?_)
      rintro e w1 ⟨rfl, rfl⟩
      go_wp2_with fail
      go_ret
      exact ⟨by rw [HE.out]; try rfl, Below.refl _ _⟩
    · have Ha := Lib.hid (show decide (0 ≤ a ∧ a ≤ 4095) = true from decide_eq_true ha)
      have Hb := Lib.hid (show decide (0 ≤ b ∧ b ≤ 4095) = false from decide_eq_false hb)
      have HE := Lib.hid (show v = -1 by rw [← HV.out]; unfold sqd; rw [if_neg (fun h => hb h.2)])
      clear ha hb
      go_enter Try.func30, Try.ntmps30
      go_wp2_with fail
      (with_reducible refine (isSq a true _ Ha.out).mono ?_)
      rintro e w1 ⟨rfl, rfl⟩
      go_wp2_with fail
      (with_reducible refine (isSq b false _ Hb.out).mono ?_)
      rintro e w1 ⟨rfl, rfl⟩
      go_wp2_with fail
      go_ret
      exact ⟨by rw [HE.out]; try rfl, Below.refl _ _⟩
  · have Ha := Lib.hid (show decide (0 ≤ a ∧ a ≤ 4095) = false from decide_eq_false ha)
    have HE := Lib.hid (show v = -1 by rw [← HV.out]; unfold sqd; rw [if_neg (fun h => ha h.1)])
    clear ha
    go_enter Try.func30, Try.ntmps30
    go_wp2_with fail
    (with_reducible refine (isSq a false _ Ha.out).mono ?_)
    rintro e w1 ⟨rfl, rfl⟩
    go_wp2_with fail
    go_ret
    exact ⟨by rw [HE.out]; try rfl, Below.refl _ _⟩
set_option maxRecDepth 100000 in
set_option maxHeartbeats 4000000 in
theorem implNw (a b : Int) (w : World) :
    Calls Try.prog 31 #[.int .i64 a, .int .i64 b] w (BPost (nwr a b) w) := by
  obtain ⟨v, hv⟩ : ∃ v, nwr a b = v := ⟨_, rfl⟩
  have HV := Lib.hid hv
  rw [hv]
  clear hv
  obtain ⟨d, hd⟩ : ∃ d, sqd b a = d := ⟨_, rfl⟩
  have HD := Lib.hid hd
  have HE := Lib.hid (show decide (1 ≤ d ∧ d ≤ 2047) = v by rw [← HV.out]; unfold nwr; rw [hd])
  clear hd
  go_enter Try.func31, Try.ntmps31
  go_wp2_with fail
  (with_reducible refine (implSd b a _).mono ?_)
  rintro e w1 hp
  obtain ⟨rfl, hb⟩ := bx.n_parts HD.out hp
  have HB := Lib.hid hb
  clear hp hb
  go_wp2_with fail
  (with_reducible refine (inR d 1 2047 v _ HE.out).mono ?_)
  rintro e w2 ⟨rfl, rfl⟩
  go_wp2_with fail
  go_ret
  exact ⟨by (try rw [HV.out]); try rfl, HB.out⟩
set_option maxRecDepth 100000 in
set_option maxHeartbeats 4000000 in
theorem specNs (s : Int) (w : World) :
    Calls Try.prog 45 #[.int .i64 s] w (NPost (nsq s) w) := by
  obtain ⟨v, hv⟩ : ∃ v, nsq s = v := ⟨_, rfl⟩
  have HV := Lib.hid hv
  rw [hv]
  clear hv
  by_cases h : 0 ≤ s ∧ s ≤ 4095
  · have HS := Lib.hid (show decide (0 ≤ s ∧ s ≤ 4095) = true from decide_eq_true h)
    have HE := Lib.hid (show v = (s + 1) % 4096 by rw [← HV.out]; unfold nsq; rw [if_pos h])
    obtain ⟨h1, h2⟩ := h
    have hw : IntKind.i64.wrap (s + 1) = s + 1 := IntWalk.i64_in _ (by omega)
    go_enter Try.func45, Try.ntmps45
    go_wp2_with fail
    (with_reducible refine (l1R s 0 4095 true _ HS.out).mono ?_)
    rintro e w1 ⟨rfl, rfl⟩
    go_wp2_with fail
    go_ret
    exact ⟨by rw [HE.out]; try rfl, Below.refl _ _⟩
  · have HS := Lib.hid (show decide (0 ≤ s ∧ s ≤ 4095) = false from decide_eq_false h)
    have HE := Lib.hid (show v = 0 by rw [← HV.out]; unfold nsq; rw [if_neg h])
    clear h
    go_enter Try.func45, Try.ntmps45
    go_wp2_with fail
    (with_reducible refine (l1R s 0 4095 false _ HS.out).mono ?_)
    rintro e w1 ⟨rfl, rfl⟩
    go_wp2_with fail
    go_ret
    exact ⟨by rw [HE.out]; try rfl, Below.refl _ _⟩
set_option maxRecDepth 100000 in
set_option maxHeartbeats 4000000 in
theorem specSd (a b : Int) (w : World) :
    Calls Try.prog 46 #[.int .i64 a, .int .i64 b] w (NPost (sqd a b) w) := by
  obtain ⟨v, hv⟩ : ∃ v, sqd a b = v := ⟨_, rfl⟩
  have HV := Lib.hid hv
  rw [hv]
  clear hv
  by_cases ha : 0 ≤ a ∧ a ≤ 4095
  · by_cases hb : 0 ≤ b ∧ b ≤ 4095
    · have Ha := Lib.hid (show decide (0 ≤ a ∧ a ≤ 4095) = true from decide_eq_true ha)
      have Hb := Lib.hid (show decide (0 ≤ b ∧ b ≤ 4095) = true from decide_eq_true hb)
      have HE := Lib.hid (show v = (b - a) % 4096 by rw [← HV.out]; unfold sqd; rw [if_pos ⟨ha, hb⟩])
      obtain ⟨a1, a2⟩ := ha
      obtain ⟨b1, b2⟩ := hb
      have hw : IntKind.i64.wrap (b - a) = b - a := IntWalk.i64_in _ (by omega)
      go_enter Try.func46, Try.ntmps46
      go_wp2_with fail
      (with_reducible refine (l1R a 0 4095 true _ Ha.out).mono ?_)
      rintro e w1 ⟨rfl, rfl⟩
      go_wp2_with fail
      (with_reducible refine (l1R b 0 4095 true _ Hb.out).mono ?_)
      rintro e w1 ⟨rfl, rfl⟩
      go_wp2_with fail
      (with_reducible refine (hsh.specMod (b - a) 4096 (by omega) _).mono ?_)
      rintro e w1 ⟨rfl, rfl⟩
      go_wp2_with fail
      go_ret
      exact ⟨by rw [HE.out]; try rfl, Below.refl _ _⟩
    · have Ha := Lib.hid (show decide (0 ≤ a ∧ a ≤ 4095) = true from decide_eq_true ha)
      have Hb := Lib.hid (show decide (0 ≤ b ∧ b ≤ 4095) = false from decide_eq_false hb)
      have HE := Lib.hid (show v = -1 by rw [← HV.out]; unfold sqd; rw [if_neg (fun h => hb h.2)])
      clear ha hb
      go_enter Try.func46, Try.ntmps46
      go_wp2_with fail
      (with_reducible refine (l1R a 0 4095 true _ Ha.out).mono ?_)
      rintro e w1 ⟨rfl, rfl⟩
      go_wp2_with fail
      (with_reducible refine (l1R b 0 4095 false _ Hb.out).mono ?_)
      rintro e w1 ⟨rfl, rfl⟩
      go_wp2_with fail
      go_ret
      exact ⟨by rw [HE.out]; try rfl, Below.refl _ _⟩
  · have Ha := Lib.hid (show decide (0 ≤ a ∧ a ≤ 4095) = false from decide_eq_false ha)
    have HE := Lib.hid (show v = -1 by rw [← HV.out]; unfold sqd; rw [if_neg (fun h => ha h.1)])
    clear ha
    go_enter Try.func46, Try.ntmps46
    go_wp2_with fail
    (with_reducible refine (l1R a 0 4095 false _ Ha.out).mono ?_)
    rintro e w1 ⟨rfl, rfl⟩
    go_wp2_with fail
    go_ret
    exact ⟨by rw [HE.out]; try rfl, Below.refl _ _⟩
set_option maxRecDepth 100000 in
set_option maxHeartbeats 4000000 in
theorem specNw (a b : Int) (w : World) :
    Calls Try.prog 47 #[.int .i64 a, .int .i64 b] w (BPost (nwr a b) w) := by
  obtain ⟨v, hv⟩ : ∃ v, nwr a b = v := ⟨_, rfl⟩
  have HV := Lib.hid hv
  rw [hv]
  clear hv
  obtain ⟨d, hd⟩ : ∃ d, sqd b a = d := ⟨_, rfl⟩
  have HD := Lib.hid hd
  have HE := Lib.hid (show decide (1 ≤ d ∧ d ≤ 2047) = v by rw [← HV.out]; unfold nwr; rw [hd])
  clear hd
  go_enter Try.func47, Try.ntmps47
  go_wp2_with fail
  (with_reducible refine (specSd b a _).mono ?_)
  rintro e w1 hp
  obtain ⟨rfl, hb⟩ := bx.n_parts HD.out hp
  have HB := Lib.hid hb
  clear hp hb
  go_wp2_with fail
  (with_reducible refine (l1R d 1 2047 v _ HE.out).mono ?_)
  rintro e w2 ⟨rfl, rfl⟩
  go_wp2_with fail
  go_ret
  exact ⟨by (try rw [HV.out]); try rfl, HB.out⟩
end Go.Proofs.Ytbkdbdhbmabgcaa.sn
