/- Equal lists of slices of bytes; lists drawn. Condition: the bytes that are drawn from are a slice that came in. -/
import Derived.Test.YthgbmcdfbinpkaaAg6
import Derived.Test.YthgbmcdfbinpkaaDrawB
import Derived.Test.YthgbmcdfbinpkaaSame
import Derived.Test.YthgbmcdfbinpkaaRgk
namespace Go.Proofs.Ythgbmcdfbinpkaa.ag
open Go.RowKit sl harn bx rng mrw drk stw draw
set_option linter.unusedVariables false
set_option linter.unusedSimpArgs false

theorem oe_keep {w w' : World} {p lo hi n c : Nat} {A : Option Addr} {es : List (El (List Int))} (h : Oe bsS w lo hi A n c es) (hk : Keep p w w') (hp : p < lo) : Oe bsS w' lo hi A n c es :=
  h.same hk.size fun b h1 h2 => hk.block b (by have := h.hi_; omega) (by omega)
theorem keep_low {p B : Nat} {w wb wc : World} (h : Below B w wb) (k : Keep p wb wc) (hp : B ≤ p) (hs : p < wb.heap.size) : Below B w wc := h.trans (k.below hp hs)
/-- A drawn list of frames. -/
def Sml (l : List (List Int)) : Prop := l.length ≤ 5 ∧ ∀ f ∈ l, f.length ≤ 8
def LlPost (p : Nat) (a : Option Addr) (len cap : Nat) (w : World) (e : Ending) (w' : World) : Prop :=
  ∃ (A : Option Addr) (n c : Nat) (es : List (El (List Int))), e = .returned (.slice A n c) ∧ Sml (es.map fun e : El (List Int) => e.x) ∧ Oe bsS w' w.heap.size w'.heap.size A n c es ∧ Keep p w w' ∧ Cur w' p a len cap
theorem ll_parts {p : Nat} {a : Option Addr} {len cap : Nat} {w w' : World} {e : Ending} (h : LlPost p a len cap w e w') : ∃ (A : Option Addr) (n c : Nat) (es : List (El (List Int))), e = .returned (.slice A n c) ∧ Sml (es.map fun e : El (List Int) => e.x) ∧ Oe bsS w' w.heap.size w'.heap.size A n c es ∧ Keep p w w' ∧ Cur w' p a len cap := h
def LdPost (w : World) (e : Ending) (w' : World) : Prop := ∃ (A : Option Addr) (n c : Nat) (l : List (List Int)), e = .returned (.slice A n c) ∧ Sml l ∧ Rq bsS w' w.heap.size w'.heap.size A n c l ∧ Below w.heap.size w w'
theorem ld_parts {w w' : World} {e : Ending} (h : LdPost w e w') : ∃ (A : Option Addr) (n c : Nat) (l : List (List Int)), e = .returned (.slice A n c) ∧ Sml l ∧ Rq bsS w' w.heap.size w'.heap.size A n c l ∧ Below w.heap.size w w' := h
set_option maxRecDepth 100000 in
set_option maxHeartbeats 4000000 in
theorem sameL (ms : List (List Int)) (lo hi lo2 hi2 : Nat) (A A2 : Option Addr) (n cap n2 cap2 : Nat) (w : World) (h : Rq bsS w lo hi A n cap ms) (h2 : Rq bsS w lo2 hi2 A2 n2 cap2 ms) :
    Calls Try.prog 21 #[.slice A n cap, .slice A2 n2 cap2] w (BPost true w) := by
  have HQ := Lib.hid h
  have HP := Lib.hid h2
  have hl := h.len
  obtain rfl : n = n2 := hl.symm.trans h2.len
  have hcp := h.cap_
  have hcp2 := h2.cap_
  clear h h2 hl
  go_enter Try.func21, Try.ntmps21
  go_wp2_with fail
  go_loopw [5] (fun i wr => ∃ k : Nat, i = .int .i64 k ∧ k ≤ n ∧ Below w.heap.size w wr) (fun i _ => n - (intOf i).toNat)
  case atStart => exact ⟨0, rfl, by omega, Below.refl _ _⟩
  case round =>
    obtain ⟨k, rfl, hk, hb⟩ := hrel
    have HB := Lib.hid hb
    have HR := Lib.hid (HQ.out.below hb)
    have HS := Lib.hid (HP.out.below hb)
    clear hb
    by_cases hlt : k < n
    · obtain ⟨b, off, y, A', n', c', rfl, hy, hb1, hc, hd⟩ := atB HR.out hlt
      obtain ⟨b2, off2, y2, A2', n2', c2', rfl, hy2, hb2, hc2, hd2⟩ := atB HS.out hlt
      obtain rfl : y = y2 := Option.some.inj (hy.symm.trans hy2)
      have HD := Lib.hid hd
      have HE := Lib.hid hd2
      have hlt2 : (k : Int) < n := by omega
      have mc0 := af_cell hc
      have mc1 := af_cell hc2
      clear hy hy2 hc hc2 hd hd2
      go_upto_region 6 with fail
      have q0 := Lib.hid (fun m => harn.sameB_yes y lo hi lo2 hi2 A' A2' n' c' n2' c2' m.w (HD.out.below m.below) (HE.out.below m.below) : ∀ m : Af wr, Calls Try.prog 52 #[.slice A' n' c', .slice A2' n2' c2'] m.w fun e w' => e = .returned (.bool true) ∧ Below m.w.heap.size m.w w')
      refine region_after (by kernel_rfl) (by kernel_rfl) ?_
      repeat (go_big_quiet_step ((go_at_call 52; with_reducible exact Af.call (q0.out _))))
      refine wpQuiet_nil ?_
      intro _ hw'
      obtain ⟨nq, hw''⟩ := hw'
      subst hw''
      clear mc0 mc1 q0
      obtain ⟨w5, hw5⟩ : ∃ w5, nq.w = w5 := ⟨_, rfl⟩
      have NB := Lib.hid nq.below
      rw [hw5] at NB
      (try rw [hw5])
      clear hw5
      have HB5 := Lib.hid (HB.out.trans (NB.out.mono HB.out.size))
      clear NB nq HB
      go_wp2_with fail
      go_roundw
      case rel => exact ⟨k + 1, by go_num, by omega, HB5.out⟩
      case measure => simp [intOf]; omega
    · have hlt2 : ¬ (k : Int) < n := by omega
      go_wp2_with fail
      go_ret
      exact ⟨rfl, HB.out⟩
set_option maxRecDepth 100000 in
set_option maxHeartbeats 4000000 in
theorem l20frames (w : World) (p : Nat) (a : Option Addr) (len cap : Nat) (hc : Cur w p a len cap) :
    Calls Try.prog 42 #[.pointer (some ⟨p, 0, none⟩)] w (LlPost p a len cap w) := by
  obtain ⟨i0, hi0, hz0, hz1, hz2⟩ := info_parts infoBs
  have HZ := Lib.hid (And.intro hi0 (And.intro hz0 (And.intro hz1 hz2)))
  clear hi0 hz0 hz1 hz2
  have CW := Lib.hid hc
  have P0 := Lib.hid hc.lt
  have K0 := Lib.hid (Keep.refl p w)
  have C0 := CW
  clear hc
  go_enter Try.func42, Try.ntmps42
  go_upto_region 2 with fail
  obtain ⟨be, hbb⟩ : ∃ b, w.heap.size = b := ⟨_, rfl⟩
  generalize hW : w.alloc (.cells #[] 22) = w1
  have LE := Lib.hid (show w.heap.size ≤ be by have h1 := K0.out.size;  have h3 := hbb; omega)
  have E1 := Lib.hid (show Bx 22 w1 be #[] by rw [← hW, ← hbb]; exact Bx.made _ _ _)
  have hb : Below w.heap.size w w1 := by rw [← hW]; exact below_box _ _
  (try rw [hbb])
  clear hW hbb
  have SS1 := Lib.hid hb.size
  have K1 := Lib.hid (drk.later K0.out K0.out.size hb)
  have C1 := Lib.hid (drk.cur_below C0.out hb)
  clear hb K0 C0 
  have LWE := Lib.hid E1.out.lt
  have O1 := Lib.hid (show Oe bsS w1 be w1.heap.size (some ⟨be, 0, none⟩) 0 0 [] from oe_boxB E1.out)
  have HBE := Lib.hid (show w.heap.size ≤ be ∧ p < be ∧ be < w1.heap.size by have h0 := P0.out; have h1 := LE.out; have h2 := E1.out.lt; omega)
  clear E1
  go_wp2_with fail
  (with_reducible refine (draw.below 6 (by omega) _ p a len cap C1.out).mono ?_)
  rintro e w2 ⟨j0, rfl, hx0, hx1, hk, hc⟩
  have Hj0 := Lib.hid (show 0 ≤ j0 ∧ j0 < 6 from ⟨hx0, hx1 (by omega)⟩)
  have SS2 := Lib.hid hk.size
  have K2 := Lib.hid (K1.out.trans hk)
  have C2 := Lib.hid (hc)
  have O2 := Lib.hid (oe_keep O1.out hk (by have h0 := P0.out; have hs0 := SS1.out; have hs1 := LWE.out; have hs2 := HBE.out; have hs3 := SS2.out; first | omega | (simp <;> omega)))
  clear hk hc hx0 hx1 K1 C1 O1
  have HO9 := Lib.hid O2.out.up
  go_wp2_with fail
  go_loopw [3, 4] (fun v0 v1 wr => ∃ (j : Int) (A1 : Option Addr) (n : Nat) (c1 : Nat) (es : List (El (List Int))), v0 = .slice A1 n c1 ∧ v1 = .int .i64 j ∧ (0 ≤ j ∧ j ≤ 5 ∧ (n : Int) + j ≤ 5) ∧ (∀ e ∈ es, e.x.length ≤ 8) ∧ (be < wr.heap.size) ∧ Keep p w wr ∧ Cur wr p a len cap ∧ Oe bsS wr be wr.heap.size A1 n c1 es) (fun _ j _ => (intOf j).toNat)
  case atStart => exact ⟨j0, (some ⟨be, 0, none⟩), 0, 0, [], rfl, rfl, by have h := Hj0.out; omega, (fun e h => by cases h), by have h := HBE.out; have h0 := P0.out; have hs0 := SS1.out; have hs1 := LWE.out; have hs2 := HBE.out; have hs3 := SS2.out; omega, K2.out, C2.out, HO9.out⟩
  case round =>
    obtain ⟨j, A1, n, c1, es, rfl, rfl, ghj, ghl, ghbe, gK3, gC3, gO3⟩ := hrel
    have K3 := Lib.hid gK3
    have C3 := Lib.hid gC3
    have O3 := Lib.hid gO3
    have hj := Lib.hid ghj
    have hl := Lib.hid ghl
    have hbe := Lib.hid ghbe
    clear gK3 gC3 gO3 ghj ghl ghbe
    have SBR3 := Lib.hid K3.out.size
    have hj2 := hj.out
    have HNB := Lib.hid (show n ≤ 67108864 by omega)
    by_cases hlt : 0 < j
    · go_wp2_with fail
      (with_reducible refine (draw.below 9 (by omega) _ p a len cap C3.out).mono ?_)
      rintro e w4 ⟨t, rfl, hx0, hx1, hk, hc⟩
      have Ht := Lib.hid (show 0 ≤ t ∧ t < 9 from ⟨hx0, hx1 (by omega)⟩)
      have SS4 := Lib.hid hk.size
      have K4 := Lib.hid (K3.out.trans hk)
      have C4 := Lib.hid (hc)
      have O4 := Lib.hid (oe_keep O3.out hk (by have h0 := P0.out; have hs0 := SS1.out; have hs1 := LWE.out; have hs2 := HBE.out; have hs3 := SS2.out; have hs4 := SBR3.out; have hs5 := hbe.out; have hs6 := SS4.out; first | omega | (simp <;> omega)))
      clear hk hc hx0 hx1 K3 C3 O3
      go_wp2_with fail
      (with_reducible refine (draw.bytes t (by have := Ht.out; omega) (by have := Ht.out; omega) _ p a len cap C4.out).mono ?_)
      rintro e w5 ⟨A2, n2, c2, f, rfl, hn2, ho, hk, hc⟩
      have HN2 := Lib.hid (show n2 ≤ 8 by have := Ht.out; omega)
      clear hn2
      have SS5 := Lib.hid hk.size
      have K5 := Lib.hid (K4.out.trans hk)
      have C5 := Lib.hid (hc)
      have O5 := Lib.hid (oe_keep O4.out hk (by have h0 := P0.out; have hs0 := SS1.out; have hs1 := LWE.out; have hs2 := HBE.out; have hs3 := SS2.out; have hs4 := SBR3.out; have hs5 := hbe.out; have hs6 := SS4.out; have hs7 := SS5.out; first | omega | (simp <;> omega)))
      clear hk hc K4 C4 O4
      have F5 := Lib.hid ho
      clear ho
      have HFL := Lib.hid (show f.length = n2 from F5.out.len)
      go_wp2_with (at_builtin; refine list_push (S := bsS) w5 rfl _ _ 24 rfl Try.underlying24 HZ.out.1 HZ.out.2.1 HZ.out.2.2.1 (by rw [HZ.out.2.2.2]; omega) rfl rfl rfl O5.out ⟨f, A2, n2, c2⟩ F5.out (by have h0 := P0.out; have hs0 := SS1.out; have hs1 := LWE.out; have hs2 := HBE.out; have hs3 := SS2.out; have hs4 := SBR3.out; have hs5 := hbe.out; have hs6 := SS4.out; have hs7 := SS5.out; first | omega | (simp <;> omega)) (by have h0 := P0.out; have hs0 := SS1.out; have hs1 := LWE.out; have hs2 := HBE.out; have hs3 := SS2.out; have hs4 := SBR3.out; have hs5 := hbe.out; have hs6 := SS4.out; have hs7 := SS5.out; first | omega | (simp <;> omega)) (by omega) (by have h0 := P0.out; have hs0 := SS1.out; have hs1 := LWE.out; have hs2 := HBE.out; have hs3 := SS2.out; have hs4 := SBR3.out; have hs5 := hbe.out; have hs6 := SS4.out; have hs7 := SS5.out; first | omega | (simp <;> omega)) ?_; intro A3 c3 w6 ho hg; have BG := below_grown (Below.refl w.heap.size w5) hg (fun q hq => by have h0 := P0.out; have hs0 := SS1.out; have hs1 := LWE.out; have hs2 := HBE.out; have hs3 := SS2.out; have hs4 := SBR3.out; have hs5 := hbe.out; have hs6 := SS4.out; have hs7 := SS5.out; have := (O5.out.lo_ hq).1; omega) K5.out.size; have K6 := Lib.hid (drk.later K5.out (Nat.le_refl _) BG); have C6 := Lib.hid (drk.cur_later CW.out K5.out C5.out (Nat.le_refl _) BG); clear BG; have F6 := Lib.hid (ow_grown O5.out hg F5.out); have SS6 := Lib.hid hg.size; clear K5 C5 O5 F5; have O6 := Lib.hid ho; clear ho hg)
      go_roundw
      case rel => exact ⟨j - 1, A3, n + 1, c3, _, rfl, by go_num, by omega, (fun e he => by rcases List.mem_append.1 he with he | he; exact hl.out e he; obtain rfl : e = _ := (by simpa using he); have h1 := HFL.out; have h2 := HN2.out; dsimp only; omega), by have h0 := P0.out; have hs0 := SS1.out; have hs1 := LWE.out; have hs2 := HBE.out; have hs3 := SS2.out; have hs4 := SBR3.out; have hs5 := hbe.out; have hs6 := SS4.out; have hs7 := SS5.out; have hs8 := SS6.out; first | omega | (simp <;> omega), K6.out, C6.out, O6.out.up⟩
      case measure => simp [intOf]; omega
    · go_wp2_with fail
      go_ret
      exact ⟨_, _, _, es, rfl, ⟨by have h1 := O3.out.len; rw [List.length_map, h1]; omega, fun f hf => by obtain ⟨e, he, rfl⟩ := List.mem_map.1 hf; exact hl.out e he⟩, (O3.out.up).down (by have h0 := P0.out; have hs0 := SS1.out; have hs1 := LWE.out; have hs2 := HBE.out; have hs3 := SS2.out; have hs4 := SBR3.out; have hs5 := hbe.out; first | omega | (simp <;> omega)), K3.out, C3.out⟩
theorem Rq.lower {w : World} {lo hi lo2 n c : Nat} {A : Option Addr} {ms : List (List Int)} (h : Rq bsS w lo hi A n c ms) (hl : lo2 ≤ lo) : Rq bsS w lo2 hi A n c ms := by
  obtain ⟨h1, h2, h3, h4, h5⟩ := h
  refine ⟨h1, h2, h3, h4, fun hn => ?_⟩
  obtain ⟨b, off, e, g1, g2, g3⟩ := h5 hn
  refine ⟨b, off, e, by omega, g2, fun i x hx => ?_⟩
  obtain ⟨A', n', c', r1, r2⟩ := g3 i x hx
  refine ⟨A', n', c', r1, r2.1, r2.2.1, r2.2.2.1, r2.2.2.2.1, r2.2.2.2.2.1, fun hn' => ?_⟩
  obtain ⟨b', o', e', k1, k2, k3⟩ := r2.2.2.2.2.2 hn'
  exact ⟨b', o', e', by omega, k2, k3⟩
set_option maxRecDepth 100000 in
set_option maxHeartbeats 4000000 in
theorem drawSf (w : World) (a : Option Addr) (len cap : Nat) (hc : draw.Code w w.heap.size a len) :
    Calls Try.prog 13 #[.slice a len cap] w (LdPost w) := by
  have HC := Lib.hid hc
  clear hc
  go_enter Try.func13, Try.ntmps13
  have B0 := Lib.hid (Below.refl w.heap.size w)
  go_wp2_with fail
  (with_reducible refine (draw.new _ a len cap (code_later HC.out B0.out)).mono ?_)
  rintro e wb ⟨rfl, hk, hs, hc⟩
  have HB := Lib.hid (keep_bel B0.out B0.out.size hk)
  obtain ⟨p, hp⟩ : ∃ p, w.heap.size = p := ⟨_, rfl⟩
  have LP := Lib.hid (show w.heap.size ≤ p ∧ p < wb.heap.size by have h0 := B0.out.size; first | omega | (simp at hs ⊢ <;> omega))
  rw [hp] at hk hs hc ⊢
  have P0 := Lib.hid hs
  have C1 := Lib.hid hc
  have CW := Lib.hid hc
  have K1 := Lib.hid (Keep.refl p wb)
  clear hk hs hc hp B0 
  go_wp2_with fail
  (with_reducible refine (l20frames _ p a len cap C1.out).mono ?_)
  rintro e w2 hp
  obtain ⟨A1, n1, c1, es, rfl, hs9, ho9, hk, hc⟩ := ll_parts hp
  clear hp
  have HSM := Lib.hid hs9
  have HSO := Lib.hid ho9
  have SS2 := Lib.hid hk.size
  have K2 := Lib.hid (K1.out.trans hk)
  have C2 := Lib.hid (hc)
  clear hk hc hs9 ho9 K1 C1 
  go_wp2_with fail
  have HBS := Lib.hid HB.out.size
  have B2 := Lib.hid (keep_low HB.out K2.out (by have h1 := LP.out; omega) (by have h1 := LP.out; omega))
  clear K2 C2
  go_ret
  exact ⟨_, _, _, _, rfl, HSM.out, Rq.lower HSO.out.rq (by have hs0 := SS2.out; have hs1 := HBS.out; have hs2 := LP.out; first | omega | (simp <;> omega)), B2.out⟩
end Go.Proofs.Ythgbmcdfbinpkaa.ag
