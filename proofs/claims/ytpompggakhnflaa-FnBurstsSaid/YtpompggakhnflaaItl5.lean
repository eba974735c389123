/- BurstHits, program and specification. Condition: none. -/
import Derived.Test.YtpompggakhnflaaItl1
import Derived.Test.YtpompggakhnflaaApp
namespace Go.Proofs.Ytpompggakhnflaa.itl
open Go.RowKit sl harn rng itm

/-- The hits among the first k. -/
def Hit (n c : Nat) (s e : Int) (w wr : World) (k : Nat) (v : Value) : Prop := ∃ A q cp, v = .slice A q cp ∧ Ow 3 .i64 wr w.heap.size wr.heap.size A q cp (hitN n c s e k) ∧ Below w.heap.size w wr
theorem hit_more {n c : Nat} {s e : Int} {k z : Nat} (hz : pos n c k = z) (h : s ≤ z ∧ z ≤ e) : hitN n c s e (k + 1) = hitN n c s e k ++ [(k : Int)] := by
  subst hz; rw [hitN_succ, if_pos h]
theorem hit_less {n c : Nat} {s e : Int} {k z : Nat} (hz : pos n c k = z) (h : ¬ (s ≤ z ∧ z ≤ e)) : hitN n c s e (k + 1) = hitN n c s e k := by
  subst hz; rw [hitN_succ, if_neg h, List.append_nil]
set_option maxRecDepth 100000 in
theorem implHits (n c s d : Int) (w : World) :
    Calls Try.prog 20 #[.int .i64 n, .int .i64 c, .int .i64 s, .int .i64 d] w (SlPost 3 .i64 w (hits n c s d)) := by
  by_cases hok : Ok n c
  · have H0 := Lib.hid hok
    obtain ⟨n, c, rfl, rfl, h1, h2, h3⟩ := hok.nats
    have HC := Lib.hid (show 1 ≤ c ∧ c ≤ 64 from ⟨h1, h2⟩)
    clear hok h1 h2
    by_cases hs : 0 ≤ s ∧ s ≤ 10000
    · have HS := Lib.hid hs
      have HX := Lib.hid (hits_yes (d := d) H0.out hs)
      obtain ⟨g, hg⟩ : ∃ g, clamp d = g := ⟨_, rfl⟩
      obtain ⟨m1, hm1⟩ : ∃ m1 : Int, m1 = if d < 0 then 0 else d := ⟨_, rfl⟩
      have hg0 : 0 ≤ g ∧ g ≤ 10000 := by rw [← hg]; exact clamp_in d
      have HM := Lib.hid (And.intro hm1 (show g = if (10000 : Int) < m1 then 10000 else m1 by rw [← hg, hm1]; exact clamp_impl d))
      obtain ⟨e, he⟩ : ∃ e, s + g - 1 = e := ⟨_, rfl⟩
      obtain ⟨sg, hsg⟩ : ∃ sg, s + g = sg := ⟨_, rfl⟩
      rw [hg, he] at HX
      rw [hsg] at he
      have hsg0 : 0 ≤ sg ∧ sg ≤ 20000 := by omega
      obtain ⟨hg0, hg1⟩ := hg0
      obtain ⟨hsg0, hsg1⟩ := hsg0
      obtain ⟨hs0, hs1⟩ := hs
      obtain ⟨i0, hi0, hz0, hz1, hz2⟩ := info_parts intInfo
      have HZ := Lib.hid (And.intro hi0 (And.intro hz0 (And.intro hz1 hz2)))
      clear hg hm1 hi0 hz0 hz1 hz2
      go_enter Try.func20, Try.ntmps20
      go_wp2_with fail
      (with_reducible refine (fun_yes n c HC.out h3 _).mono ?_)
      rintro e1 w1 ⟨rfl, hb⟩
      have HO1 := Lib.hid ((Ow.empty 3 .i64 w).up.below hb).up
      have HB1 := Lib.hid (((Below.refl w.heap.size w).alloc (Nat.le_refl _) _).trans (hb.mono (by simp)))
      clear hb
      go_wp2_with fail
      (with_reducible refine (inRange_yes s 0 10000 HS.out _).mono ?_)
      rintro e2 w2 ⟨rfl, rfl⟩
      go_wp2_with fail
      (with_reducible refine (implMax d 0 m1 HM.out.1 _).mono ?_)
      rintro e2 w2 ⟨rfl, hb⟩
      have HO2 := Lib.hid (HO1.out.below hb).up
      have HB2 := Lib.hid (HB1.out.trans (hb.mono HB1.out.size))
      clear hb HO1 HB1
      go_wp2_with fail
      (with_reducible refine (implMin m1 10000 g HM.out.2 _).mono ?_)
      rintro e2 w3 ⟨rfl, hb⟩
      have HO3 := Lib.hid (HO2.out.below hb).up
      have HB3 := Lib.hid (HB2.out.trans (hb.mono HB2.out.size))
      clear hb HO2 HB2 HM
      go_wp2_with fail
      go_loopw [9, 36] (fun v i wr => ∃ k : Nat, i = .int .i64 k ∧ k ≤ n ∧ Hit n c s e w wr k v) (fun _ i _ => n - (intOf i).toNat)
      case atStart => exact ⟨0, rfl, by omega, _, _, _, rfl, HO3.out, HB3.out⟩
      case round =>
        clear HO3 HB3 hg0 hg1 hsg he hsg0 hsg1
        obtain ⟨k, rfl, hk, A, q, cp, rfl, ho, hb⟩ := hrel
        have HO := Lib.hid ho
        have HB := Lib.hid hb
        have hq : q ≤ 10000 := by have h1 := ho.len; have h2 := hitN_le n c s e k; omega
        clear ho hb
        by_cases hlt : k < n
        · have hlt2 : (k : Int) < n := by omega
          have HK := Lib.hid hlt
          have HW := Lib.hid (show (Lit.int .i64 (k : Int)).wf = true from WalkArith.wf_i64 (by omega))
          obtain ⟨z, hz⟩ : ∃ z, pos n c k = z := ⟨_, rfl⟩
          have HP := Lib.hid hz
          clear hz
          by_cases hin : s ≤ z ∧ z ≤ e
          · have HI := Lib.hid hin
            have HN := Lib.hid (hit_more HP.out hin)
            clear hin
            go_wp2_with fail
            (with_reducible refine (position n c k HC.out h3 HK.out _).mono ?_)
            rw [HP.out]
            rintro e2 w2 ⟨rfl, hb⟩
            have HO2 := Lib.hid (HO.out.below hb).up
            have HB2 := Lib.hid (HB.out.trans (hb.mono HB.out.size))
            clear hb HO HB
            go_wp2_with fail
            (with_reducible refine (inRange_yes z s e HI.out _).mono ?_)
            rintro e2 w3 ⟨rfl, rfl⟩
            go_wp2_with (at_builtin; refine wpList_app _ rfl _ _ 24 rfl 3 i0 _ .i64 Try.underlying24 HZ.out.1 HZ.out.2.1 HZ.out.2.2.1 (by rw [HZ.out.2.2.2]; omega) rfl rfl rfl (HO2.out.alloc _) (Rd.one .i64 _ _ _ HW.out) (by omega) (by have := HB2.out.size; simp; omega) ?_; intro A1 cap1 w6 ho hb1; have O6 := Lib.hid ho; have B6 := Lib.hid ((HB2.out.alloc HB2.out.size _).trans hb1); clear ho hb1)
            go_roundw
            case rel => exact ⟨k + 1, by go_num, by omega, _, _, _, rfl, by rw [HN.out]; exact O6.out, B6.out⟩
            case measure => simp [intOf]; omega
          · have HI := Lib.hid hin
            have HN := Lib.hid (hit_less HP.out hin)
            clear hin
            go_wp2_with fail
            (with_reducible refine (position n c k HC.out h3 HK.out _).mono ?_)
            rw [HP.out]
            rintro e2 w2 ⟨rfl, hb⟩
            have HO2 := Lib.hid (HO.out.below hb).up
            have HB2 := Lib.hid (HB.out.trans (hb.mono HB.out.size))
            clear hb HO HB
            go_wp2_with fail
            (with_reducible refine (inRange_no z s e HI.out _).mono ?_)
            rintro e2 w3 ⟨rfl, rfl⟩
            go_wp2_with fail
            go_roundw
            case rel => exact ⟨k + 1, by go_num, by omega, _, _, _, rfl, by rw [HN.out]; exact HO2.out, HB2.out⟩
            case measure => simp [intOf]; omega
        · have hlt2 : ¬ (k : Int) < n := by omega
          obtain rfl : k = n := by omega
          go_wp2_with fail
          go_ret
          rw [HX.out]
          exact ⟨_, _, _, rfl, HO.out, HB.out⟩
    · have HS := Lib.hid hs
      have HX := Lib.hid (hits_no (n := n) (c := c) (s := s) (d := d) (fun g => hs g.2))
      clear hs
      go_enter Try.func20, Try.ntmps20
      go_wp2_with fail
      (with_reducible refine (fun_yes n c HC.out h3 _).mono ?_)
      rintro e1 w1 ⟨rfl, hb⟩
      have HO1 := Lib.hid ((Ow.empty 3 .i64 w).up.below hb).up
      have HB1 := Lib.hid (((Below.refl w.heap.size w).alloc (Nat.le_refl _) _).trans (hb.mono (by simp)))
      clear hb
      go_wp2_with fail
      (with_reducible refine (inRange_no s 0 10000 HS.out _).mono ?_)
      rintro e2 w2 ⟨rfl, rfl⟩
      go_wp2_with fail
      go_ret
      rw [HX.out]
      exact ⟨_, _, _, rfl, HO1.out, HB1.out⟩
  · have H := Lib.hid hok
    have HX := Lib.hid (hits_no (s := s) (d := d) (fun g => hok g.1))
    clear hok
    go_enter Try.func20, Try.ntmps20
    go_wp2_with fail
    (with_reducible refine (fun_no n c H.out _).mono ?_)
    rintro e1 w1 ⟨rfl, hb⟩
    have HO1 := Lib.hid ((Ow.empty 3 .i64 w).up.below hb).up
    have HB1 := Lib.hid (((Below.refl w.heap.size w).alloc (Nat.le_refl _) _).trans (hb.mono (by simp)))
    clear hb
    go_wp2_with fail
    go_ret
    rw [HX.out]
    exact ⟨_, _, _, rfl, HO1.out, HB1.out⟩

set_option maxRecDepth 100000 in
theorem specHits (n c s d : Int) (w : World) :
    Calls Try.prog 30 #[.int .i64 n, .int .i64 c, .int .i64 s, .int .i64 d] w (SlPost 3 .i64 w (hits n c s d)) := by
  by_cases hs : 0 ≤ s ∧ s ≤ 10000
  · have HS := Lib.hid hs
    by_cases hok : Ok n c
    · have H0 := Lib.hid hok
      obtain ⟨n, c, rfl, rfl, h1, h2, h3⟩ := hok.nats
      have HC := Lib.hid (show 1 ≤ c ∧ c ≤ 64 from ⟨h1, h2⟩)
      clear hok h1 h2
      have HX := Lib.hid (hits_yes (d := d) H0.out hs)
      obtain ⟨g, hg⟩ : ∃ g, clamp d = g := ⟨_, rfl⟩
      obtain ⟨m1, hm1⟩ : ∃ m1 : Int, m1 = if (10000 : Int) < d then 10000 else d := ⟨_, rfl⟩
      have hg0 : 0 ≤ g ∧ g ≤ 10000 := by rw [← hg]; exact clamp_in d
      have HM := Lib.hid (And.intro hm1 (show g = if (0 : Int) < m1 then m1 else 0 by rw [← hg, hm1]; exact clamp_spec d))
      obtain ⟨e, he⟩ : ∃ e, s + g - 1 = e := ⟨_, rfl⟩
      obtain ⟨sg, hsg⟩ : ∃ sg, s + g = sg := ⟨_, rfl⟩
      rw [hg, he] at HX
      rw [hsg] at he
      have hsg0 : 0 ≤ sg ∧ sg ≤ 20000 := by omega
      obtain ⟨hg0, hg1⟩ := hg0
      obtain ⟨hsg0, hsg1⟩ := hsg0
      obtain ⟨hs0, hs1⟩ := hs
      obtain ⟨i0, hi0, hz0, hz1, hz2⟩ := info_parts intInfo
      have HZ := Lib.hid (And.intro hi0 (And.intro hz0 (And.intro hz1 hz2)))
      clear hg hm1 hi0 hz0 hz1 hz2
      go_enter Try.func30, Try.ntmps30
      go_wp2_with fail
      (with_reducible refine (l1In_yes s 0 10000 HS.out _).mono ?_)
      rintro e2 w2 ⟨rfl, rfl⟩
      go_wp2_with fail
      (with_reducible refine (ok_yes n c H0.out _).mono ?_)
      rintro e2 w2 ⟨rfl, rfl⟩
      go_wp2_with fail
      (with_reducible refine (specMin d 10000 m1 HM.out.1 _).mono ?_)
      rintro e2 w2 ⟨rfl, rfl⟩
      go_wp2_with fail
      (with_reducible refine (specMax 0 m1 g HM.out.2 _).mono ?_)
      rintro e2 w3 ⟨rfl, rfl⟩
      clear HM
      go_wp2_with fail
      go_loopw [9, 10] (fun v i wr => ∃ k : Nat, i = .int .i64 k ∧ k ≤ n ∧ Hit n c s e w wr k v) (fun _ i _ => n - (intOf i).toNat)
      case atStart => exact ⟨0, rfl, by omega, _, _, _, rfl, (Ow.empty 3 .i64 w).up, (Below.refl _ _).alloc (Nat.le_refl _) _⟩
      case round =>
        obtain ⟨k, rfl, hk, A, q, cp, rfl, ho, hb⟩ := hrel
        have HO := Lib.hid ho
        have HB := Lib.hid hb
        have hq : q ≤ 10000 := by have h1 := ho.len; have h2 := hitN_le n c s e k; omega
        clear ho hb
        by_cases hlt : k < n
        · have hlt2 : (k : Int) < n := by omega
          have HW := Lib.hid (show (Lit.int .i64 (k : Int)).wf = true from WalkArith.wf_i64 (by omega))
          obtain ⟨z, hz⟩ : ∃ z, pos n c k = z := ⟨_, rfl⟩
          have HP := Lib.hid hz
          have HIX := Lib.hid (show idx n c k = z by rw [idx_yes HC.out h3 hlt, hz])
          clear hz
          by_cases hin : s ≤ z ∧ z ≤ e
          · have HI := Lib.hid hin
            have HN := Lib.hid (hit_more HP.out hin)
            clear hin
            go_wp2_with fail
            (with_reducible refine (specIdx n c k _).mono ?_)
            unfold IdxPost
            rw [HIX.out]
            rintro e2 w2 ⟨rfl, m, hm⟩
            have HO2 := Lib.hid (show Ow 3 .i64 w2 w.heap.size w2.heap.size A q cp (hitN n c s e k) by rw [hm]; exact HO.out.same (Nat.le_refl _) fun _ _ _ => rfl)
            have HB2 := Lib.hid (show Below w.heap.size w w2 by rw [hm]; exact HB.out.trans ⟨rfl, rfl, rfl, Nat.le_refl _, fun _ _ => rfl⟩)
            clear hm HO HB
            go_wp2_with fail
            (with_reducible refine (l1In_yes z s e HI.out _).mono ?_)
            rintro e2 w3 ⟨rfl, rfl⟩
            go_wp2_with (at_builtin; refine wpList_app _ rfl _ _ 24 rfl 3 i0 _ .i64 Try.underlying24 HZ.out.1 HZ.out.2.1 HZ.out.2.2.1 (by rw [HZ.out.2.2.2]; omega) rfl rfl rfl (HO2.out.alloc _) (Rd.one .i64 _ _ _ HW.out) (by omega) (by have := HB2.out.size; simp; omega) ?_; intro A1 cap1 w6 ho hb1; have O6 := Lib.hid ho; have B6 := Lib.hid ((HB2.out.alloc HB2.out.size _).trans hb1); clear ho hb1)
            go_roundw
            case rel => exact ⟨k + 1, by go_num, by omega, _, _, _, rfl, by rw [HN.out]; exact O6.out, B6.out⟩
            case measure => simp [intOf]; omega
          · have HI := Lib.hid hin
            have HN := Lib.hid (hit_less HP.out hin)
            clear hin
            go_wp2_with fail
            (with_reducible refine (specIdx n c k _).mono ?_)
            unfold IdxPost
            rw [HIX.out]
            rintro e2 w2 ⟨rfl, m, hm⟩
            have HO2 := Lib.hid (show Ow 3 .i64 w2 w.heap.size w2.heap.size A q cp (hitN n c s e k) by rw [hm]; exact HO.out.same (Nat.le_refl _) fun _ _ _ => rfl)
            have HB2 := Lib.hid (show Below w.heap.size w w2 by rw [hm]; exact HB.out.trans ⟨rfl, rfl, rfl, Nat.le_refl _, fun _ _ => rfl⟩)
            clear hm HO HB
            go_wp2_with fail
            (with_reducible refine (l1In_no z s e HI.out _).mono ?_)
            rintro e2 w3 ⟨rfl, rfl⟩
            go_wp2_with fail
            go_roundw
            case rel => exact ⟨k + 1, by go_num, by omega, _, _, _, rfl, by rw [HN.out]; exact HO2.out, HB2.out⟩
            case measure => simp [intOf]; omega
        · have hlt2 : ¬ (k : Int) < n := by omega
          obtain rfl : k = n := by omega
          go_wp2_with fail
          go_ret
          rw [HX.out]
          exact ⟨_, _, _, rfl, HO.out, HB.out⟩
    · have H := Lib.hid hok
      have HX := Lib.hid (hits_no (s := s) (d := d) (fun g => hok g.1))
      clear hok hs
      go_enter Try.func30, Try.ntmps30
      go_wp2_with fail
      (with_reducible refine (l1In_yes s 0 10000 HS.out _).mono ?_)
      rintro e2 w2 ⟨rfl, rfl⟩
      go_wp2_with fail
      (with_reducible refine (ok_no n c H.out _).mono ?_)
      rintro e2 w2 ⟨rfl, rfl⟩
      go_wp2_with fail
      go_ret
      rw [HX.out]
      exact ⟨_, _, _, rfl, (Ow.empty 3 .i64 w).up, (Below.refl _ _).alloc (Nat.le_refl _) _⟩
  · have HS := Lib.hid hs
    have HX := Lib.hid (hits_no (n := n) (c := c) (s := s) (d := d) (fun g => hs g.2))
    clear hs
    go_enter Try.func30, Try.ntmps30
    go_wp2_with fail
    (with_reducible refine (l1In_no s 0 10000 HS.out _).mono ?_)
    rintro e2 w2 ⟨rfl, rfl⟩
    go_wp2_with fail
    go_ret
    rw [HX.out]
    exact ⟨_, _, _, rfl, (Ow.empty 3 .i64 w).up, (Below.refl _ _).alloc (Nat.le_refl _) _⟩
end Go.Proofs.Ytpompggakhnflaa.itl
