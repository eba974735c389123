/- Keys derived from a string, program and specification; the law functions of IsValidKey and DeriveFromString. Condition: strings up to 2^26 bytes. -/
import Derived.Test.YtdemdbhaobdcjaaKeyed
import Derived.Test.YtdemdbhaobdcjaaStrBytes
namespace Go.Proofs.Ytdemdbhaobdcjaa.hsh
open Go.RowKit sl harn
set_option linter.unusedVariables false

/-- The derived key. -/
def dk (k : Int) (s : ByteArray) : Int := if kh k (bi (sb s)) = 0 then 1 else kh k (bi (sb s))
theorem dk_in (k : Int) (s : ByteArray) : 1 ≤ dk k s ∧ dk k s ≤ 2147483646 := by
  have h := kh_in k (bi (sb s))
  unfold dk
  split <;> omega
def DkPost (k : Int) (s : ByteArray) (w : World) (e : Ending) (w' : World) : Prop := e = .returned (.int .i64 (dk k s)) ∧ Below w.heap.size w w'
theorem DkPost.parts {k : Int} {s : ByteArray} {r : Int} (ht : dk k s = r) {w : World} {e : Ending} {w' : World} (h : DkPost k s w e w') : e = .returned (.int .i64 r) ∧ Below w.heap.size w w' := by
  subst ht; exact h
set_option maxRecDepth 100000 in
theorem implDk (k : Int) (hk : (Lit.int .i64 k).wf = true) (s : ByteArray) (hs : s.size ≤ 1048576) (w : World) :
    Calls Try.prog 25 #[.int .i64 k, .string s] w (DkPost k s w) := by
  have hcv := run_bytes_of_string (P := Try.prog) w 9 22 5 s Try.underlying9 Try.underlying22 Try.underlying5
  have hG := grownCap_ge w s.size 0 5
  have hM := grownCap_le_maxLen w s.size 0 5 (by unfold maxLen; omega)
  obtain ⟨G, hGe⟩ : ∃ G, grownCap w s.size 0 5 = G := ⟨_, rfl⟩
  rw [hGe] at hcv hG hM
  have HRd := Lib.hid (Rd.bytes s w 5 G ((bytesRow s G).size, (bytesRow s G).size + 1) hG hM)
  have HB0 := Lib.hid ((Below.refl w.heap.size w).alloc (Nat.le_refl _) (.cells (bytesRow s G) 5 ((bytesRow s G).size, (bytesRow s G).size + 1))).drew
  obtain ⟨h, hh⟩ : ∃ h, kh k (bi (sb s)) = h := ⟨_, rfl⟩
  have hb0 := kh_in k (bi (sb s))
  rw [hh] at hb0
  obtain ⟨hb0, hb1⟩ := hb0
  have HD : Hid (dk k s = if h = 0 then 1 else h) := by unfold Hid dk; rw [hh]
  have HH := Lib.hid hh
  have HK := Lib.hid hk
  clear hGe hM hG hh hk
  go_enter Try.func25, Try.ntmps25
  go_wp2_with fail
  (with_reducible refine (implBi _ _ _ _ _ _ _ HRd.out (by omega)).mono ?_)
  rintro e w1 ⟨A, n, c, rfl, ho, hb⟩
  have HO := Lib.hid ho
  have HN := Lib.hid (show n ≤ 67108864 by have h1 := ho.len; rw [bi_len, sb_len] at h1; omega)
  have HB := Lib.hid (HB0.out.trans (hb.mono HB0.out.size))
  clear ho hb hcv
  go_wp2_with fail
  (with_reducible refine (implKh k HK.out _ _ _ A n c _ HO.out.rd (by have := HN.out; omega)).mono ?_)
  rintro e w2 ⟨rfl, hb⟩
  rw [HH.out]
  have HB2 := Lib.hid (HB.out.trans (hb.mono HB.out.size))
  clear hb
  by_cases h0 : h = 0
  · go_wp2_with fail
    go_ret
    exact ⟨ret_num (by rw [HD.out, if_pos h0]), HB2.out⟩
  · go_wp2_with fail
    go_ret
    exact ⟨ret_num (by rw [HD.out, if_neg h0]), HB2.out⟩
set_option maxRecDepth 100000 in
theorem specDk (k : Int) (hk : (Lit.int .i64 k).wf = true) (s : ByteArray) (hs : s.size ≤ 1048576) (w : World) :
    Calls Try.prog 41 #[.int .i64 k, .string s] w (DkPost k s w) := by
  have hcv := run_bytes_of_string (P := Try.prog) w 9 22 5 s Try.underlying9 Try.underlying22 Try.underlying5
  have hG := grownCap_ge w s.size 0 5
  have hM := grownCap_le_maxLen w s.size 0 5 (by unfold maxLen; omega)
  obtain ⟨G, hGe⟩ : ∃ G, grownCap w s.size 0 5 = G := ⟨_, rfl⟩
  rw [hGe] at hcv hG hM
  have HRd := Lib.hid (Rd.bytes s w 5 G ((bytesRow s G).size, (bytesRow s G).size + 1) hG hM)
  have HB0 := Lib.hid ((Below.refl w.heap.size w).alloc (Nat.le_refl _) (.cells (bytesRow s G) 5 ((bytesRow s G).size, (bytesRow s G).size + 1))).drew
  obtain ⟨h, hh⟩ : ∃ h, kh k (bi (sb s)) = h := ⟨_, rfl⟩
  have hb0 := kh_in k (bi (sb s))
  rw [hh] at hb0
  obtain ⟨hb0, hb1⟩ := hb0
  have HD : Hid (dk k s = if h = 0 then 1 else h) := by unfold Hid dk; rw [hh]
  have HH := Lib.hid hh
  have HK := Lib.hid hk
  clear hGe hM hG hh hk
  go_enter Try.func41, Try.ntmps41
  go_wp2_with fail
  (with_reducible refine (specBi _ _ _ _ _ _ _ HRd.out (by omega)).mono ?_)
  rintro e w1 ⟨A, n, c, rfl, ho, hb⟩
  have HO := Lib.hid ho
  have HN := Lib.hid (show n ≤ 67108864 by have h1 := ho.len; rw [bi_len, sb_len] at h1; omega)
  have HB := Lib.hid (HB0.out.trans (hb.mono HB0.out.size))
  clear ho hb hcv
  go_wp2_with fail
  (with_reducible refine (specKh k HK.out _ _ _ A n c _ HO.out.rd (by have := HN.out; omega)).mono ?_)
  rintro e w2 ⟨rfl, hb⟩
  rw [HH.out]
  have HB2 := Lib.hid (HB.out.trans (hb.mono HB.out.size))
  clear hb
  by_cases h0 : h = 0
  · subst h0
    go_wp2_with (go_at_call 55; go_in)
    go_ret
    exact ⟨ret_num (by rw [HD.out]; rfl), HB2.out⟩
  · by_cases h1 : h = 1
    · subst h1
      go_wp2_with (go_at_call 55; go_in)
      go_ret
      exact ⟨ret_num (by rw [HD.out]; rfl), HB2.out⟩
    · have h2 : 1 < h := by omega
      go_wp2_with (go_at_call 55; go_in)
      go_ret
      exact ⟨ret_num (by rw [HD.out, if_neg h0]), HB2.out⟩

set_option maxRecDepth 100000 in
theorem walkDerive (k : Int) (hk : (Lit.int .i64 k).wf = true) (s : ByteArray) (hs : s.size ≤ maxLen) (w : World) :
    Calls Try.prog 11 #[.int .i64 k, .string s] w fun e w' => e = .returned (.bool true) ∧ Below w.heap.size w w' := by
  have hl : (s.size : Int) ≤ 9223372036854775807 := by unfold maxLen at hs; omega
  by_cases hbig : 1048576 < (s.size : Int)
  · go_enter Try.func11, Try.ntmps11
    go_wp2
    go_ret
    exact ⟨rfl, Below.refl _ _⟩
  have HS := Lib.hid (show s.size ≤ 1048576 by omega)
  have HK := Lib.hid hk
  obtain ⟨d, hd⟩ : ∃ d, dk k s = d := ⟨_, rfl⟩
  have HD := Lib.hid hd
  clear hk hs hd
  go_enter Try.func11, Try.ntmps11
  go_wp2_with fail
  (with_reducible refine (specDk k HK.out s HS.out _).mono ?_)
  rintro e w1 hp
  obtain ⟨rfl, hb⟩ := hp.parts HD.out
  have B1 := Lib.hid hb
  clear hb hp
  go_wp2_with fail
  (with_reducible refine (implDk k HK.out s HS.out _).mono ?_)
  rintro e w2 hp
  obtain ⟨rfl, hb⟩ := hp.parts HD.out
  have B2 := Lib.hid (B1.out.trans (hb.mono B1.out.size))
  clear hb hp
  go_wp2_with fail
  go_ret
  exact ⟨rfl, B2.out⟩

theorem walkIsKey (k : Int) (hk : (Lit.int .i64 k).wf = true) (w : World) :
    Calls Try.prog 7 #[.int .i64 k] w fun e w' => e = .returned (.bool true) ∧ Below w.heap.size w w' := by
  by_cases h1 : 1 ≤ k
  · by_cases h2 : k ≤ 2147483646
    all_goals
      go_enter Try.func7, Try.ntmps7
      go_wp2
      go_ret
      exact ⟨rfl, by repeat (first | exact Below.refl _ _ | apply Below.drew)⟩
  · go_enter Try.func7, Try.ntmps7
    go_wp2
    go_ret
    exact ⟨rfl, by repeat (first | exact Below.refl _ _ | apply Below.drew)⟩
end Go.Proofs.Ytdemdbhaobdcjaa.hsh
