/- The law function of airtime (FnAirtime) returns true and leaves what was there. Condition: the argument is a slice of bytes that came in. -/
import Derived.Test.YtmhfcjdjkpoheaaAir3
import Derived.Test.YtmhfcjdjkpoheaaDraw2
namespace Go.Proofs.Ytmhfcjdjkpoheaa.airs
open Go.RowKit sl harn rng draw

def RatePost (p : Nat) (a : Option Addr) (len cap : Nat) (w : World) (e : Ending) (w' : World) : Prop := ∃ r : Int, e = .returned (.int .i64 r) ∧ -1 ≤ r ∧ r ≤ 4 ∧ Keep p w w' ∧ Cur w' p a len cap
theorem rate (w : World) (p : Nat) (a : Option Addr) (len cap : Nat) (hc : Cur w p a len cap) :
    Calls Try.prog 31 #[.pointer (some ⟨p, 0, none⟩)] w (RatePost p a len cap w) := by
  have C0 := Lib.hid hc
  clear hc
  go_enter Try.func31, Try.ntmps31
  go_wp2_with fail
  (with_reducible refine (below 6 (by omega) _ p a len cap C0.out).mono ?_)
  rintro e w1 ⟨x, rfl, hx0, hx1, hk, hc⟩
  have K1 := Lib.hid hk
  have C1 := Lib.hid hc
  have hx2 : x < 6 := hx1 (by omega)
  clear hk hc hx1
  go_wp2_with fail
  go_ret
  exact ⟨x - 1, rfl, by omega, by omega, K1.out, C1.out⟩
def FsDraw (w : World) (e : Ending) (w' : World) : Prop := ∃ r n : Int, e = .returned (.tuple #[.int .i64 r, .int .i64 n]) ∧ (-1 ≤ r ∧ r ≤ 4) ∧ (-1 ≤ n ∧ n ≤ 1000000000001) ∧ Below w.heap.size w w'
theorem drawFs (w : World) (a : Option Addr) (len cap : Nat) (hcode : draw.Code w w.heap.size a len) :
    Calls Try.prog 13 #[.slice a len cap] w (FsDraw w) := by
  have HC := Lib.hid hcode
  clear hcode
  go_enter Try.func13, Try.ntmps13
  go_wp2_with fail
  (with_reducible refine (draw.new _ a len cap HC.out).mono ?_)
  rintro e w1 ⟨rfl, hk, hlt, hc⟩
  have K1 := Lib.hid hk
  have C1 := Lib.hid hc
  clear hk hc hlt HC
  go_wp2_with fail
  (with_reducible refine (rate _ _ a len cap C1.out).mono ?_)
  rintro e w2 ⟨r, rfl, h1, h2, hk, hc⟩
  have K2 := Lib.hid (K1.out.trans hk)
  have C2 := Lib.hid hc
  have HR := Lib.hid (And.intro h1 h2)
  clear hk hc h1 h2 K1 C1
  go_wp2_with fail
  (with_reducible refine (pickIn (-1) 1000000000001 8 (by omega) (by omega) _ _ a len cap C2.out _ rfl (by kernel_rfl)).mono ?_)
  rintro e w3 ⟨n, rfl, h1, h2, hk, hc⟩
  have HN := Lib.hid (And.intro h1 h2)
  have K3 := Lib.hid (K2.out.trans hk)
  clear hk hc h1 h2 K2 C2
  go_wp2_with fail
  go_ret2
  exact ⟨r, n, rfl, HR.out, HN.out, keep_below (Keep.refl _ _) K3.out⟩

theorem fs_on {r n : Int} (h : Vr r) (hn : 0 ≤ n ∧ n ≤ 1000000000000) : fs r n = 1 + (n + bps r - 1) / bps r := by unfold fs; rw [if_pos ⟨h, hn⟩]
theorem fs_off {r n : Int} (h : ¬ (Vr r ∧ 0 ≤ n ∧ n ≤ 1000000000000)) : fs r n = 0 := by unfold fs; rw [if_neg h]
theorem fs_rate {r n : Int} (h : Vr r) (h3 : r < 3) (hn : 0 ≤ n ∧ n ≤ 1000000000000) : fs (r + 1) n ≤ fs r n := by
  rw [fs_on h hn, fs_on (show Vr (r + 1) by unfold Vr at *; omega) hn]
  rcases vr_cases h with rfl | rfl | rfl | rfl <;> simp [bps] <;> omega
theorem fs_less {r n : Int} (h : Vr r) (hn : 0 ≤ n ∧ n ≤ 1000000000000) (h0 : 0 < n) : fs r (n - 1) ≤ fs r n := by
  rw [fs_on h hn, fs_on h (by omega)]
  rcases vr_cases h with rfl | rfl | rfl | rfl <;> simp [bps] <;> omega
theorem fs_holds {r n : Int} (h : Vr r) (hn : 0 ≤ n ∧ n ≤ 1000000000000) : n ≤ (fs r n - 1) * bps r ∧ (fs r n - 1) * bps r ≤ 30000000000000 ∧ (0 < n → (fs r n - 2) * bps r < n ∧ 0 ≤ (fs r n - 2) * bps r) := by
  rw [fs_on h hn]
  rcases vr_cases h with rfl | rfl | rfl | rfl <;> simp [bps] <;> omega
theorem fs_pos {r n : Int} (h : Vr r) (hn : 0 ≤ n ∧ n ≤ 1000000000000) : 1 ≤ fs r n ∧ fs r n ≤ 1000000000001 := by
  rw [fs_on h hn]
  rcases vr_cases h with rfl | rfl | rfl | rfl <;> simp [bps] <;> omega
theorem es_on {r n g : Int} {b : Bool} (hg : fs r n = g) (h : 1 ≤ g) : es r n b = g + (if b then 3 else 1) := by unfold es; rw [hg, if_neg (by omega)]

set_option maxRecDepth 100000 in
set_option maxHeartbeats 4000000 in
theorem airLaw (a : Option Addr) (len cap : Nat) (z0 : List Int) (w : World) (r0 : kit.IsRow .u8 w a len cap z0) :
    Calls Try.prog 3 #[.slice a len cap] w fun e w' => e = .returned (.bool true) ∧ Below w.heap.size w w' := by
  have HC := Lib.hid (draw.code_of_row r0)
  have hlen : (len : Int) ≤ 9223372036854775807 := by have := HC.out.1; omega
  clear r0
  by_cases hbig : 1048576 < (len : Int)
  · go_enter Try.func3, Try.ntmps3
    go_wp2
    go_ret
    exact ⟨rfl, Below.refl _ _⟩
  go_enter Try.func3, Try.ntmps3
  go_wp2_with (go_at_call 12; go_in)
  clear hbig
  go_wp2_with fail
  (with_reducible refine (drawFs _ a len cap HC.out).mono ?_)
  rintro e w1 ⟨r, n, rfl, hr, hn, hb⟩
  have B1 := Lib.hid hb
  clear hb HC
  obtain ⟨g, hg⟩ : ∃ g, fs r n = g := ⟨_, rfl⟩
  have HG := Lib.hid hg
  obtain ⟨r1, r2⟩ := hr
  obtain ⟨n1, n2⟩ := hn
  by_cases hv : Vr r
  · have HV := Lib.hid hv
    obtain ⟨r3, r4⟩ := (show 0 ≤ r ∧ r ≤ 3 from hv)
    by_cases hm : 0 ≤ n ∧ n ≤ 1000000000000
    · obtain ⟨g1, g2⟩ := (show 1 ≤ g ∧ g ≤ 1000000000001 by rw [← hg]; exact fs_pos hv hm)
      obtain ⟨c, hc⟩ : ∃ c, bps r = c := ⟨_, rfl⟩
      have HC := Lib.hid hc
      have hh := fs_holds hv hm
      rw [hg, hc] at hh
      obtain ⟨x, hx⟩ : ∃ x, g - 1 = x := ⟨_, rfl⟩
      obtain ⟨y, hy⟩ : ∃ y, g - 2 = y := ⟨_, rfl⟩
      obtain ⟨p, hp⟩ : ∃ p, x * c = p := ⟨_, rfl⟩
      obtain ⟨q, hq⟩ : ∃ q, y * c = q := ⟨_, rfl⟩
      rw [hx, hp, hy, hq] at hh
      obtain ⟨p1, p2, q1⟩ := hh
      have hE1 := Lib.hid (show es r n false = g + 1 by rw [es_on hg g1]; simp)
      have hE3 := Lib.hid (show es r n true = g + 3 by rw [es_on hg g1]; simp)
      obtain ⟨m1, m2⟩ := hm
      have HM := Lib.hid (show 0 ≤ n ∧ n ≤ 1000000000000 from ⟨m1, m2⟩)
      have K1 := Lib.hid (show r < 3 → fs (r + 1) n ≤ g from fun h => by rw [← hg]; exact fs_rate hv h ⟨m1, m2⟩)
      have K2 := Lib.hid (show 0 < n → fs r (n - 1) ≤ g from fun h => by rw [← hg]; exact fs_less hv ⟨m1, m2⟩ h)
      have Q1 := Lib.hid q1
      clear hg hc q1 hv
      go_wp2_with fail
      (with_reducible refine (implFs r n _).mono ?_)
      intro e w2 hpost
      obtain ⟨rfl, hb⟩ := hpost.parts HG.out
      have B2 := Lib.hid (B1.out.trans (hb.mono B1.out.size))
      clear hpost hb B1
      by_cases h3 : r < 3
      · obtain ⟨f, hf⟩ : ∃ f, fs (r + 1) n = f := ⟨_, rfl⟩
        have hfg : ¬ g < f := by have := K1.out h3; omega
        have HF := Lib.hid hf
        clear hf
        go_wp2_with fail
        (with_reducible refine (implFs (r + 1) n _).mono ?_)
        intro e w3 hpost
        obtain ⟨rfl, hb⟩ := hpost.parts HF.out
        have B3 := Lib.hid (B2.out.trans (hb.mono B2.out.size))
        clear hpost hb B2
        by_cases h0 : 0 < n
        · obtain ⟨d, hd⟩ : ∃ d, fs r (n - 1) = d := ⟨_, rfl⟩
          have hdg : ¬ g < d := by have := K2.out h0; omega
          obtain ⟨q1, q2⟩ := Q1.out h0
          have hn0 : (n == 0) = false := by rw [beq_eq_false_iff_ne]; omega
          have HD := Lib.hid hd
          clear hd
          go_wp2_with fail
          (with_reducible refine (implFs r (n - 1) _).mono ?_)
          intro e w4 hpost
          obtain ⟨rfl, hb⟩ := hpost.parts HD.out
          have B4 := Lib.hid (B3.out.trans (hb.mono B3.out.size))
          clear hpost hb B3
          go_wp2_with fail
          (with_reducible refine (implBps r _).mono ?_)
          intro e w5 hpost
          obtain ⟨rfl, hb⟩ := hpost.parts HC.out
          have B5 := Lib.hid (B4.out.trans (hb.mono B4.out.size))
          clear hpost hb B4
          go_wp2_with fail
          (with_reducible refine (implBps r _).mono ?_)
          intro e w6 hpost
          obtain ⟨rfl, hb⟩ := hpost.parts HC.out
          have B6 := Lib.hid (B5.out.trans (hb.mono B5.out.size))
          clear hpost hb B5
          go_wp2_with fail
          (with_reducible refine (implEs r n false _).mono ?_)
          intro e w7 hpost
          obtain ⟨rfl, hb⟩ := hpost.parts hE1.out
          have B7 := Lib.hid (B6.out.trans (hb.mono B6.out.size))
          clear hpost hb B6
          go_wp2_with fail
          (with_reducible refine (implEs r n true _).mono ?_)
          intro e w8 hpost
          obtain ⟨rfl, hb⟩ := hpost.parts hE3.out
          have B8 := Lib.hid (B7.out.trans (hb.mono B7.out.size))
          clear hpost hb B7
          go_wp2_with fail
          go_ret
          exact ⟨rfl, B8.out⟩
        · have hn0 : n = 0 := by omega
          subst hn0
          go_wp2_with fail
          (with_reducible refine (implBps r _).mono ?_)
          intro e w5 hpost
          obtain ⟨rfl, hb⟩ := hpost.parts HC.out
          have B5 := Lib.hid (B3.out.trans (hb.mono B3.out.size))
          clear hpost hb B3
          go_wp2_with fail
          (with_reducible refine (implEs r 0 false _).mono ?_)
          intro e w7 hpost
          obtain ⟨rfl, hb⟩ := hpost.parts hE1.out
          have B7 := Lib.hid (B5.out.trans (hb.mono B5.out.size))
          clear hpost hb B5
          go_wp2_with fail
          (with_reducible refine (implEs r 0 true _).mono ?_)
          intro e w8 hpost
          obtain ⟨rfl, hb⟩ := hpost.parts hE3.out
          have B8 := Lib.hid (B7.out.trans (hb.mono B7.out.size))
          clear hpost hb B7
          go_wp2_with fail
          go_ret
          exact ⟨rfl, B8.out⟩
      · by_cases h0 : 0 < n
        · obtain ⟨d, hd⟩ : ∃ d, fs r (n - 1) = d := ⟨_, rfl⟩
          have hdg : ¬ g < d := by have := K2.out h0; omega
          obtain ⟨q1, q2⟩ := Q1.out h0
          have hn0 : (n == 0) = false := by rw [beq_eq_false_iff_ne]; omega
          have HD := Lib.hid hd
          clear hd
          go_wp2_with fail
          (with_reducible refine (implFs r (n - 1) _).mono ?_)
          intro e w4 hpost
          obtain ⟨rfl, hb⟩ := hpost.parts HD.out
          have B4 := Lib.hid (B2.out.trans (hb.mono B2.out.size))
          clear hpost hb B2
          go_wp2_with fail
          (with_reducible refine (implBps r _).mono ?_)
          intro e w5 hpost
          obtain ⟨rfl, hb⟩ := hpost.parts HC.out
          have B5 := Lib.hid (B4.out.trans (hb.mono B4.out.size))
          clear hpost hb B4
          go_wp2_with fail
          (with_reducible refine (implBps r _).mono ?_)
          intro e w6 hpost
          obtain ⟨rfl, hb⟩ := hpost.parts HC.out
          have B6 := Lib.hid (B5.out.trans (hb.mono B5.out.size))
          clear hpost hb B5
          go_wp2_with fail
          (with_reducible refine (implEs r n false _).mono ?_)
          intro e w7 hpost
          obtain ⟨rfl, hb⟩ := hpost.parts hE1.out
          have B7 := Lib.hid (B6.out.trans (hb.mono B6.out.size))
          clear hpost hb B6
          go_wp2_with fail
          (with_reducible refine (implEs r n true _).mono ?_)
          intro e w8 hpost
          obtain ⟨rfl, hb⟩ := hpost.parts hE3.out
          have B8 := Lib.hid (B7.out.trans (hb.mono B7.out.size))
          clear hpost hb B7
          go_wp2_with fail
          go_ret
          exact ⟨rfl, B8.out⟩
        · have hn0 : n = 0 := by omega
          subst hn0
          go_wp2_with fail
          (with_reducible refine (implBps r _).mono ?_)
          intro e w5 hpost
          obtain ⟨rfl, hb⟩ := hpost.parts HC.out
          have B5 := Lib.hid (B2.out.trans (hb.mono B2.out.size))
          clear hpost hb B2
          go_wp2_with fail
          (with_reducible refine (implEs r 0 false _).mono ?_)
          intro e w7 hpost
          obtain ⟨rfl, hb⟩ := hpost.parts hE1.out
          have B7 := Lib.hid (B5.out.trans (hb.mono B5.out.size))
          clear hpost hb B5
          go_wp2_with fail
          (with_reducible refine (implEs r 0 true _).mono ?_)
          intro e w8 hpost
          obtain ⟨rfl, hb⟩ := hpost.parts hE3.out
          have B8 := Lib.hid (B7.out.trans (hb.mono B7.out.size))
          clear hpost hb B7
          go_wp2_with fail
          go_ret
          exact ⟨rfl, B8.out⟩
    · have hg0 : g = 0 := by rw [← hg]; exact fs_off fun k => hm k.2
      subst hg0
      have hE := Lib.hid (es_zero (b := true) hg)
      clear hg hv
      by_cases hn0 : n < 0
      · clear hm
        go_wp2_with fail
        (with_reducible refine (implFs r n _).mono ?_)
        intro e w2 hpost
        obtain ⟨rfl, hb⟩ := hpost.parts HG.out
        have B2 := Lib.hid (B1.out.trans (hb.mono B1.out.size))
        clear hpost hb B1
        go_wp2_with fail
        (with_reducible refine (implEs r n true _).mono ?_)
        intro e w3 hpost
        obtain ⟨rfl, hb⟩ := hpost.parts hE.out
        have B3 := Lib.hid (B2.out.trans (hb.mono B2.out.size))
        clear hpost hb B2
        go_wp2_with fail
        (with_reducible refine (implVr_yes r HV.out _).mono ?_)
        rintro e w4 ⟨rfl, rfl⟩
        go_wp2_with fail
        go_ret
        exact ⟨rfl, B3.out⟩
      · have hn1 : 1000000000000 < n := by omega
        clear hm
        go_wp2_with fail
        (with_reducible refine (implFs r n _).mono ?_)
        intro e w2 hpost
        obtain ⟨rfl, hb⟩ := hpost.parts HG.out
        have B2 := Lib.hid (B1.out.trans (hb.mono B1.out.size))
        clear hpost hb B1
        go_wp2_with fail
        (with_reducible refine (implEs r n true _).mono ?_)
        intro e w3 hpost
        obtain ⟨rfl, hb⟩ := hpost.parts hE.out
        have B3 := Lib.hid (B2.out.trans (hb.mono B2.out.size))
        clear hpost hb B2
        go_wp2_with fail
        (with_reducible refine (implVr_yes r HV.out _).mono ?_)
        rintro e w4 ⟨rfl, rfl⟩
        go_wp2_with fail
        go_ret
        exact ⟨rfl, B3.out⟩
  · have HV := Lib.hid hv
    have hg0 : g = 0 := by rw [← hg]; exact fs_off fun k => hv k.1
    subst hg0
    have hE := Lib.hid (es_zero (b := true) hg)
    by_cases hn0 : r < 0
    · have hrn : ¬ 0 ≤ r := by omega
      clear hg hv
      go_wp2_with fail
      (with_reducible refine (implFs r n _).mono ?_)
      intro e w2 hpost
      obtain ⟨rfl, hb⟩ := hpost.parts HG.out
      have B2 := Lib.hid (B1.out.trans (hb.mono B1.out.size))
      clear hpost hb B1
      go_wp2_with fail
      (with_reducible refine (implEs r n true _).mono ?_)
      intro e w3 hpost
      obtain ⟨rfl, hb⟩ := hpost.parts hE.out
      have B3 := Lib.hid (B2.out.trans (hb.mono B2.out.size))
      clear hpost hb B2
      go_wp2_with fail
      (with_reducible refine (implVr_no r HV.out _).mono ?_)
      rintro e w4 ⟨rfl, rfl⟩
      go_wp2_with fail
      go_ret
      exact ⟨rfl, B3.out⟩
    · have hr3 : 3 < r := by unfold Vr at hv; omega
      have hr0 : ¬ r ≤ 3 := by omega
      have hr5 : 0 ≤ r := by omega
      clear hg hv
      go_wp2_with fail
      (with_reducible refine (implFs r n _).mono ?_)
      intro e w2 hpost
      obtain ⟨rfl, hb⟩ := hpost.parts HG.out
      have B2 := Lib.hid (B1.out.trans (hb.mono B1.out.size))
      clear hpost hb B1
      go_wp2_with fail
      (with_reducible refine (implEs r n true _).mono ?_)
      intro e w3 hpost
      obtain ⟨rfl, hb⟩ := hpost.parts hE.out
      have B3 := Lib.hid (B2.out.trans (hb.mono B2.out.size))
      clear hpost hb B2
      go_wp2_with fail
      (with_reducible refine (implVr_no r HV.out _).mono ?_)
      rintro e w4 ⟨rfl, rfl⟩
      go_wp2_with fail
      go_ret
      have hd : decide (r ≤ 3) = false := decide_eq_false (by omega)
      refine ⟨?_, B3.out⟩
      show Ending.returned (.bool (!decide (r ≤ 3))) = _
      rw [hd]
      rfl
end Go.Proofs.Ytmhfcjdjkpoheaa.airs
