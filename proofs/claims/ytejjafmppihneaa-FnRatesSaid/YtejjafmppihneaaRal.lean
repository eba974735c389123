/- The walk of FnRates. Condition: the bytes are a slice that came in. -/
import Derived.Test.YtejjafmppihneaaFr1
import Derived.Test.YtejjafmppihneaaAirLaw
import Derived.Test.YtejjafmppihneaaAtv
import Derived.Test.YtejjafmppihneaaDraw2
namespace Go.Proofs.Ytejjafmppihneaa.ra
open Go.RowKit sl harn airs draw
set_option linter.unusedVariables false

theorem req_hi {k q : Int} (h : Vr k) : req k ≤ q ↔ k ≤ hi q := by
  have e0 : req 0 = 10 := by decide
  have e1 : req 1 = 30 := by decide
  have e2 : req 2 = 50 := by decide
  have e3 : req 3 = 80 := by decide
  rcases vr_cases h with rfl | rfl | rfl | rfl
  · rw [e0]; unfold hi; (repeat' split) <;> omega
  · rw [e1]; unfold hi; (repeat' split) <;> omega
  · rw [e2]; unfold hi; (repeat' split) <;> omega
  · rw [e3]; unfold hi; (repeat' split) <;> omega
theorem hi_rng (q : Int) : -1 ≤ hi q ∧ hi q ≤ 3 := by unfold hi; (repeat' split) <;> omega
theorem pct_yes {r q : Int} (h : Vr r) : (0 ≤ q ∧ q ≤ 100) ∧ req r ≤ q ↔ 50 ≤ pct r q := by
  unfold pct
  constructor
  · intro ⟨h1, h2⟩
    rw [if_pos ⟨h, h1, h2⟩]
    split <;> omega
  · intro h1
    apply Classical.byContradiction
    intro hn
    rw [if_neg fun k => hn k.2] at h1
    omega
theorem fd_hi {k q : Int} (h : Vr k) (hq : 0 ≤ q ∧ q ≤ 100) : fd k q 0 = decide (k ≤ hi q) := by
  unfold fd
  rw [decide_eq_decide, ← req_hi h]
  have h1 := pct_yes (q := q) h
  have h2 := pct_rng k q
  constructor
  · intro h3
    exact (h1.2 (by omega)).2
  · intro h3
    have := h1.1 ⟨hq, h3⟩
    omega
theorem ex_yes {r n q : Int} (h : Vr r) (hn : 1 ≤ n ∧ n ≤ 100) (h2 : (0 ≤ q ∧ q ≤ 100) ∧ req r ≤ q) : es r n false ≤ ex r n q ∧ 0 ≤ ex r n q := by
  have h3 := (pct_yes h).1 h2
  have h4 := pct_rng r q
  have h5 := fs_pos h (n := n) (by omega)
  unfold ex
  rw [if_neg (by omega), es_on rfl h5.1]
  generalize fs r n = f at h5
  generalize pct r q = c at h3 h4
  have h6 : (f + 1) ≤ ((f + 1) * 100 + c - 1) / c := by
    apply (Int.le_ediv_iff_mul_le (by omega)).2
    have : (f + 1) * c ≤ (f + 1) * 100 := Int.mul_le_mul_of_nonneg_left (by omega) (by omega)
    omega
  simp only [Bool.false_eq_true, if_false]
  omega
theorem ex_no {r n q : Int} (h : ¬ ((0 ≤ q ∧ q ≤ 100) ∧ req r ≤ q)) : ex r n q = -1 := by
  unfold ex
  rw [if_pos (Or.inr (by unfold pct; rw [if_neg fun k => h k.2]))]
theorem fastest_off {n q : Int} (h : ¬ ((0 ≤ q ∧ q ≤ 100) ∧ 0 ≤ hi q)) : fastest n q = -1 := fastest_none fun r hr => by
  rw [ex_no fun k => h ⟨k.1, by have := (req_hi (k := (r : Int)) ⟨by omega, by omega⟩).1 k.2; omega⟩]
  omega
/-- What holds of the fastest rate where one delivers. -/
structure Fastest (n q f : Int) : Prop where
  lo : 0 ≤ f
  hi_ : f ≤ hi q
  least : ∀ k : Nat, (k : Int) ≤ hi q → ex f n q ≤ ex k n q
  least2 : es f n false ≤ ex f n q
theorem fastest_on {n q : Int} (hn : 1 ≤ n ∧ n ≤ 100) (hq : 0 ≤ q ∧ q ≤ 100) (h : 0 ≤ hi q) : Fastest n q (fastest n q) := by
  have h3 := hi_rng q
  have hex : ∀ k : Nat, (k : Int) ≤ hi q → 0 ≤ ex k n q := fun k hk => (ex_yes ⟨by omega, by omega⟩ hn ⟨hq, (req_hi ⟨by omega, by omega⟩).2 hk⟩).2
  obtain ⟨⟨a1, a2⟩, a3, _⟩ := fastest_least (b := n) (q := q) (r := 0) (by omega) (hex 0 h)
  have hf : Vr (fastest n q) := ⟨a1, by omega⟩
  have hr : req (fastest n q) ≤ q := by
    apply Classical.byContradiction
    intro hn
    rw [ex_no fun k => hn k.2] at a3
    omega
  exact ⟨a1, (req_hi hf).1 hr, fun k hk => (fastest_least (by omega) (hex k hk)).2.2, (ex_yes hf hn ⟨hq, hr⟩).1⟩
def HqPost (w : World) (e : Ending) (w' : World) : Prop := ∃ q : Int, e = .returned (.int .i64 q) ∧ (-1 ≤ q ∧ q ≤ 101) ∧ Below w.heap.size w w'
theorem drawHq (w : World) (a : Option Addr) (len cap : Nat) (hcode : draw.Code w w.heap.size a len) :
    Calls Try.prog 13 #[.slice a len cap] w (HqPost w) := by
  have HC := Lib.hid hcode
  clear hcode
  go_enter Try.func13, Try.ntmps13
  go_wp2_with fail
  (with_reducible refine (draw.new _ a len cap HC.out).mono ?_)
  rintro e w1 ⟨rfl, hk, hlt, hc⟩
  have K1 := Lib.hid hk
  have C1 := Lib.hid hc
  clear hk hc hlt HC
  go_wp2_with fail
  (with_reducible refine (pickIn (-1) 101 10 (by omega) (by omega) _ _ a len cap C1.out _ rfl (by kernel_rfl)).mono ?_)
  rintro e w3 ⟨n, rfl, h1, h2, hk, hc⟩
  have HN := Lib.hid (And.intro h1 h2)
  have K3 := Lib.hid (K1.out.trans hk)
  clear hk hc h1 h2 K1 C1
  go_wp2_with fail
  go_ret
  exact ⟨n, rfl, HN.out, keep_below (Keep.refl _ _) K3.out⟩
set_option maxRecDepth 100000 in
set_option maxHeartbeats 4000000 in
theorem ratesLaw (a : Option Addr) (len cap : Nat) (z0 : List Int) (w : World) (r0 : kit.IsRow .u8 w a len cap z0) :
    Calls Try.prog 3 #[.slice a len cap] w fun e w' => e = .returned (.bool true) ∧ Below w.heap.size w w' := by
  have HC := Lib.hid (draw.code_of_row r0)
  obtain ⟨ys, hrd⟩ := Rd.of_row r0
  have R0 := Lib.hid hrd
  have hlen : (len : Int) ≤ 9223372036854775807 := by have := HC.out.1; omega
  clear r0 hrd
  by_cases hbig : 1048576 < (len : Int)
  · go_enter Try.func3, Try.ntmps3
    go_wp2
    go_ret
    exact ⟨rfl, Below.refl _ _⟩
  have HLE := Lib.hid (show len ≤ 1048576 by omega)
  go_enter Try.func3, Try.ntmps3
  go_wp2_with (go_at_call 12; go_in)
  clear hbig
  go_wp2_with fail
  (with_reducible refine (drawHq _ a len cap HC.out).mono ?_)
  rintro e w1 ⟨q, rfl, hq, hb⟩
  have HQ := Lib.hid hq
  have B1 := Lib.hid hb
  have R1 := Lib.hid (R0.out.below hb)
  clear hq hb HC R0
  obtain ⟨r, hr⟩ : ∃ r, hi q = r := ⟨_, rfl⟩
  have HR := Lib.hid hr
  have HRR := Lib.hid (show -1 ≤ r ∧ r ≤ 3 by rw [← hr]; exact hi_rng q)
  clear hr
  go_wp2_with fail
  (with_reducible refine (implHi q _).mono ?_)
  intro e w2 hp
  obtain ⟨rfl, hb⟩ := hp.parts HR.out
  have B2 := Lib.hid (B1.out.trans (hb.mono B1.out.size))
  have R2 := Lib.hid (R1.out.below hb)
  clear hp hb B1 R1
  go_wp2_with fail
  go_loopw [5] (fun i wr => ∃ k : Nat, i = .int .i64 k ∧ k ≤ 4 ∧ Below w.heap.size w wr ∧ Rd .u8 wr 0 w.heap.size a len cap ys) (fun i _ => 4 - (intOf i).toNat)
  case atStart => exact ⟨0, rfl, by omega, B2.out, R2.out⟩
  case round =>
    obtain ⟨k, rfl, hk, hb, hrd⟩ := hrel
    have B3 := Lib.hid hb
    have R3 := Lib.hid hrd
    clear hb hrd B2 R2
    by_cases hlt : k < 4
    · have hlt2 : (k : Int) ≤ 3 := by omega
      have HV := Lib.hid (show Vr (k : Int) from ⟨by omega, by omega⟩)
      obtain ⟨c, hc⟩ : ∃ c, req (k : Int) = c := ⟨_, rfl⟩
      have HCC := Lib.hid hc
      have HI := Lib.hid (show decide (c ≤ q) = decide ((k : Int) ≤ r) by rw [decide_eq_decide, ← hc, req_hi HV.out, HR.out])
      clear hc
      obtain ⟨t, ht⟩ : ∃ t, decide ((k : Int) ≤ r) = t := ⟨_, rfl⟩
      have HT := Lib.hid ht
      go_wp2_with fail
      (with_reducible refine (implReq (k : Int) _).mono ?_)
      intro e w3 hp
      obtain ⟨rfl, hb⟩ := hp.parts HCC.out
      have B4 := Lib.hid (B3.out.trans (hb.mono B3.out.size))
      have R4 := Lib.hid (R3.out.below hb)
      have e1 := HI.out
      rw [ht] at e1
      clear hp hb B3 R3
      have htt : (t != t) = false := by simp
      by_cases h0 : 0 ≤ q
      · by_cases h1 : q ≤ 100
        · have HF := Lib.hid (show fd (k : Int) q 0 = t by rw [fd_hi HV.out ⟨h0, h1⟩, HR.out, HT.out])
          go_wp2_with fail
          (with_reducible refine (implFd (k : Int) q 0 _).mono ?_)
          intro e w4 hp
          obtain ⟨rfl, hb⟩ := hp.parts HF.out
          have B5 := Lib.hid (B4.out.trans (hb.mono B4.out.size))
          have R5 := Lib.hid (R4.out.below hb)
          clear hp hb B4 R4
          go_wp2_with fail
          go_roundw
          case rel => exact ⟨k + 1, by go_num, by omega, B5.out, R5.out⟩
          case measure => simp [intOf]; omega
        · go_wp2_with fail
          go_roundw
          case rel => exact ⟨k + 1, by go_num, by omega, B4.out, R4.out⟩
          case measure => simp [intOf]; omega
      · go_wp2_with fail
        go_roundw
        case rel => exact ⟨k + 1, by go_num, by omega, B4.out, R4.out⟩
        case measure => simp [intOf]; omega
    · have hlt2 : ¬ (k : Int) ≤ 3 := by omega
      obtain ⟨v, hv⟩ : ∃ v, lawAt.atv ys len 0 = v := ⟨_, rfl⟩
      have HVV := Lib.hid (show 0 ≤ v ∧ v ≤ 255 by rw [← hv]; exact lawAt.atv_in R3.out 0)
      go_wp2_with fail
      (with_reducible refine (lawAt.at_v 0 0 rfl (by omega) v a len cap _ _ ys _ R3.out HLE.out hv).mono ?_)
      rintro e wq ⟨rfl, rfl⟩
      clear hv R3
      obtain ⟨n, hn⟩ : ∃ n, 1 + v % 100 = n := ⟨_, rfl⟩
      have HN := Lib.hid (show 1 ≤ n ∧ n ≤ 100 by have := HVV.out; omega)
      obtain ⟨f, hf⟩ : ∃ f, fastest n q = f := ⟨_, rfl⟩
      have HF := Lib.hid hf
      have m1 : v.tmod 100 = v % 100 := Int.tmod_eq_emod_of_nonneg HVV.out.1
      have m2 : IntKind.i64.wrap (1 + v % 100) = n := by rw [hn]; exact IntWalk.i64_in _ (by have := HN.out; omega)
      clear hf
      go_wp2_with fail
      (with_reducible refine (implFr n q _).mono ?_)
      intro e w4 hp
      obtain ⟨rfl, hb⟩ := hp.parts HF.out
      have B5 := Lib.hid (B3.out.trans (hb.mono B3.out.size))
      clear hp hb B3 hn m1 m2
      by_cases hon : (0 ≤ q ∧ q ≤ 100) ∧ 0 ≤ r
      · have HO := Lib.hid (show Fastest n q f by rw [← HF.out]; exact fastest_on HN.out hon.1 (by rw [HR.out]; exact hon.2))
        obtain ⟨⟨q1, q2⟩, r1⟩ := hon
        have hf1 := HO.out.lo
        have hf2 : f ≤ r := by rw [← HR.out]; exact HO.out.hi_
        obtain ⟨u, hu⟩ : ∃ u, ex f n q = u := ⟨_, rfl⟩
        have HU := Lib.hid hu
        clear hu
        go_wp2_with fail
        go_loopw [8] (fun i wr => ∃ k : Nat, i = .int .i64 k ∧ (k : Int) ≤ r + 1 ∧ Below w.heap.size w wr) (fun i _ => (r + 1 - intOf i).toNat)
        case atStart => exact ⟨0, rfl, by omega, B5.out⟩
        case round =>
          obtain ⟨j, rfl, hj, hb⟩ := hrel
          have B6 := Lib.hid hb
          clear hb B5
          by_cases hjl : (j : Int) ≤ r
          · have hj3 : (j : Int) ≤ 3 := by have := HRR.out; omega
            obtain ⟨x, hx⟩ : ∃ x, ex (j : Int) n q = x := ⟨_, rfl⟩
            have HX := Lib.hid hx
            have hxu : ¬ x < u := by have := HO.out.least j (by rw [HR.out]; exact hjl); rw [HU.out, hx] at this; omega
            clear hx
            go_wp2_with fail
            (with_reducible refine (implEx (j : Int) n q _).mono ?_)
            intro e w5 hp
            obtain ⟨rfl, hb⟩ := hp.parts HX.out
            have B7 := Lib.hid (B6.out.trans (hb.mono B6.out.size))
            clear hp hb B6
            go_wp2_with fail
            (with_reducible refine (implEx f n q _).mono ?_)
            intro e w6 hp
            obtain ⟨rfl, hb⟩ := hp.parts HU.out
            have B8 := Lib.hid (B7.out.trans (hb.mono B7.out.size))
            clear hp hb B7
            go_wp2_with fail
            go_roundw
            case rel => exact ⟨j + 1, by go_num, by omega, B8.out⟩
            case measure => simp [intOf]; omega
          · obtain ⟨x, hx⟩ : ∃ x, es f n false = x := ⟨_, rfl⟩
            have HX := Lib.hid hx
            have hxu : x ≤ u := by have := HO.out.least2; rw [HU.out, hx] at this; omega
            clear hx
            go_wp2_with fail
            (with_reducible refine (implEx f n q _).mono ?_)
            intro e w5 hp
            obtain ⟨rfl, hb⟩ := hp.parts HU.out
            have B7 := Lib.hid (B6.out.trans (hb.mono B6.out.size))
            clear hp hb B6
            go_wp2_with fail
            (with_reducible refine (implEs f n false _).mono ?_)
            intro e w6 hp
            obtain ⟨rfl, hb⟩ := hp.parts HX.out
            have B8 := Lib.hid (B7.out.trans (hb.mono B7.out.size))
            clear hp hb B7
            go_wp2_with fail
            go_ret
            exact ⟨rfl, B8.out⟩
      · have hf1 : f = -1 := by rw [← HF.out]; exact fastest_off (by rw [HR.out]; exact hon)
        subst hf1
        by_cases h0 : q < 0
        · go_wp2_with fail
          go_ret
          exact ⟨rfl, B5.out⟩
        · by_cases h1 : 100 < q
          · go_wp2_with fail
            go_ret
            exact ⟨rfl, B5.out⟩
          · have h2 : r < 0 := by omega
            go_wp2_with fail
            go_ret
            exact ⟨rfl, B5.out⟩
end Go.Proofs.Ytejjafmppihneaa.ra
