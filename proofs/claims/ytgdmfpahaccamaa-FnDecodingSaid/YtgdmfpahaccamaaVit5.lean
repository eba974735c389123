/- The decoder. Condition: lengths up to 2^26. -/
import Derived.Test.YtgdmfpahaccamaaVit4
import Derived.Deep.RegionHeld3
import Derived.Deep.RegionWith
namespace Go.Proofs.Ytgdmfpahaccamaa.vts
open Go.RowKit sl harn bm rng cvm cvs vit tab

theorem field_dist (c j p : Int) (w : World) : (Instr.field 52 (.agg #[.int .i64 c, .int .i64 j, .int .i64 p]) 0).run Try.prog w = .ok (.int .i64 c) w := by kernel_rfl
/-- What a decoder hands back. -/
def VitPost (t : List Int × Int) (w : World) (e : Ending) (w' : World) : Prop :=
  ∃ A m c, e = .returned (.tuple #[.slice A m c, .int .i64 t.2]) ∧ Ow 3 .i64 w' w.heap.size w'.heap.size A m c t.1 ∧ Below w.heap.size w w'
def stage (zs : List Int) (k b : Nat) : Int → Int → Ent := if b = 2 then srv zs (k + 1) 0 0 else srv zs k b 0
theorem stage_zero (zs : List Int) (k : Nat) : stage zs k 0 = srv zs k 0 0 := by unfold stage; rw [if_neg (by omega)]; rfl
theorem stage_two (zs : List Int) (k : Nat) : stage zs k 2 = srv zs (k + 1) 0 0 := by unfold stage; rw [if_pos rfl]
theorem stage_in (zs : List Int) (k : Nat) {b : Nat} (hb : b < 2) : stage zs k b = srv zs k b 0 := by unfold stage; rw [if_neg (by omega)]
theorem stage_next (zs : List Int) (k : Nat) {b : Nat} (hb : b < 2) (j t : Int) (h : Nd j t) : srv zs k b 4 j t = stage zs k (b + 1) j t := by
  have : b = 0 ∨ b = 1 := by omega
  rcases this with rfl | rfl
  · rw [stage_in zs k (by omega)]; exact srv_bit zs k j t h
  · rw [stage_two]; exact srv_next zs k j t h
set_option maxRecDepth 100000 in
set_option maxHeartbeats 4000000 in
theorem implVit (zs : List Int) (lo hi : Nat) (A : Option Addr) (n cap : Nat) (w : World) (h : Rd .i64 w lo hi A n cap zs) :
    Calls Try.prog 14 #[.slice A n cap] w (VitPost (vit zs) w) := by
  have HL := Lib.hid h.len
  have hb := h.cap_
  have HW := Lib.hid (show (Lit.int .i64 (n : Int)).wf = true from WalkArith.wf_i64 (by omega))
  have HR := Lib.hid h
  clear h
  rcases vit_cases zs with ⟨m, hm, hs⟩ | hno
  · have hm2 := inl_nat hm
    have HV := Lib.hid (vit_yes hm hs)
    have HZ := Lib.hid hm2.1
    have HM := Lib.hid (show inl n = m by rw [← HL.out]; exact hm)
    have HS := Lib.hid hs
    have hm3 := hm2.2
    have hnm : n = 2 * (m + 2) := by rw [← HL.out]; exact hm2.1
    have hmm := @run_makeMap Try.prog
    have HNM := Lib.hid hnm
    clear hm hs hm2 hnm
    go_enter Try.func14, Try.ntmps14
    go_wp2_with fail
    (with_reducible refine (implInl _ HW.out _).mono ?_)
    rw [HM.out]
    rintro e w1 ⟨rfl, rfl⟩
    go_wp2_with fail
    (with_reducible refine (bits.implIss zs _ _ A n cap _ HR.out).mono ?_)
    rw [HS.out]
    rintro e w1 ⟨rfl, rfl⟩
    have T0 := Lib.hid (Tab.made w)
    go_wp2_with (refine wpList_ins _ rfl _ _ _ rfl T0.out (by omega) (j := 0) (t := 0) (d := 0) (i := 0) (s := 0) ⟨by omega, by omega⟩ rfl rfl rfl ?_; intro w5 hT5 hg5; have T5 := Lib.hid (hT5.congr (srv_start zs)); have B5 := Lib.hid (((Below.refl w.heap.size w).alloc (Nat.le_refl _) (.map #[] 0)).grown hg5 (by simp) (fun j hj => by cases hj; exact Nat.le_refl _)); clear hT5 hg5)
    go_loopw [26] (fun i wr => ∃ k : Nat, i = .int .i64 k ∧ k ≤ m + 2 ∧ Tab wr w.heap.size (1 + 8 * k) (srv zs k 0 0) ∧ Below w.heap.size w wr) (fun i _ => m + 2 - (intOf i).toNat)
    case atStart => exact ⟨0, rfl, by omega, T5.out, B5.out⟩
    case round =>
      clear T0 T5 B5 hmm
      obtain ⟨k, rfl, hk, hT, hB⟩ := hrel
      have TK := Lib.hid hT
      have BK := Lib.hid hB
      clear hT hB
      by_cases hlt : k < m + 2
      · have hlt2 : (k : Int) < (m : Int) + 2 := by omega
        go_wp2_with fail
        go_loopw [29] (fun i wr => ∃ b : Nat, i = .int .i64 b ∧ b ≤ 2 ∧ Tab wr w.heap.size (1 + 8 * k + 4 * b) (stage zs k b) ∧ Below w.heap.size w wr) (fun i _ => 2 - (intOf i).toNat)
        case atStart => exact ⟨0, rfl, by omega, by rw [stage_zero]; exact TK.out, BK.out⟩
        case round =>
          clear TK BK
          obtain ⟨b, rfl, hb2, hT, hB⟩ := hrel
          have TB := Lib.hid hT
          have BB := Lib.hid hB
          clear hT hB
          by_cases hlb : b < 2
          · have hlb2 : (b : Int) < 2 := by omega
            obtain ⟨r, hr⟩ : ∃ r : Nat, 2 * k = r := ⟨_, rfl⟩
            obtain ⟨r1, hr1⟩ : ∃ r1 : Nat, r + 1 = r1 := ⟨_, rfl⟩
            obtain ⟨ab, off, rfl, _, hab, hc⟩ := (HR.out.below BB.out).at_ (i := r) (by rw [HNM.out]; omega)
            obtain ⟨ab', off', e, _, _, hc'⟩ := (HR.out.below BB.out).at_ (i := r1) (by rw [HNM.out]; omega)
            injection e with e; injection e with e1 e2 e3
            subst e1 e2
            obtain ⟨x, hx⟩ : ∃ x, zs.getD r 0 = x := ⟨_, rfl⟩
            obtain ⟨y, hy⟩ : ∃ y, zs.getD r1 0 = y := ⟨_, rfl⟩
            rw [hx] at hc
            rw [hy] at hc'
            have HX := Lib.hid (show zs.getD (2 * k) 0 = x by rw [hr]; exact hx)
            have HY := Lib.hid (show zs.getD (2 * k + 1) 0 = y by rw [hr, hr1]; exact hy)
            have hi1 : (r : Int) < n := by rw [HNM.out]; omega
            have hi2 : (r1 : Int) < n := by rw [HNM.out]; omega
            have w1 : IntKind.i64.wrap (r : Int) = r := IntWalk.i64_in _ (by omega)
            have w2 : IntKind.i64.wrap (r1 : Int) = r1 := IntWalk.i64_in _ (by omega)
            have w3 : 2 * (k : Int) = r := by omega
            have w4 : (r : Int) + 1 = r1 := by omega
            have HAB := Lib.hid (show ab < w.heap.size from by have := (HR.out).hi_; omega)
            rw [stage_in zs k hlb] at TB
            clear hx hy e3 hab hr hr1
            go_wp2_with fail
            go_region_held3 (fun w' => w'.cell? ⟨ab, off + r, none⟩ = some (.int .i64 x) ∧ w'.cell? ⟨ab, off + r1, none⟩ = some (.int .i64 y)) (first | exact ⟨hc, hc'⟩ | exact ⟨c7, c8⟩)
              (first
              | (go_at_call 42; refine (implExt zs k b (by omega) (by omega) x y HX.out HY.out w.heap.size _ (by omega) _ TB.out.drew).mono ?_; rintro e w7 ⟨rfl, hT7, hg7⟩; have T7 := Lib.hid (hT7.congr (stage_next zs k hlb)); have B7 := Lib.hid (BB.out.drew.grown hg7 BB.out.size (fun j hj => by cases hj; exact Nat.le_refl _)); have c7 := (hg7.cell (w := wr.drew) (a := ⟨ab, off + r, none⟩) hc (by intro e; injection e with e; have e2 : ab = w.heap.size := e; have := HAB.out; omega)); have c8 := (hg7.cell (w := wr.drew) (a := ⟨ab, off + r1, none⟩) hc' (by intro e; injection e with e; have e2 : ab = w.heap.size := e; have := HAB.out; omega)); clear hT7 hg7))
            clear c7 c8 hc hc'
            go_wp2_with fail
            go_roundw
            case rel => exact ⟨b + 1, by go_num, by omega, T7.out.mono (by omega), B7.out⟩
            case measure => simp [intOf]; omega
          · have hlb2 : ¬ (b : Int) < 2 := by omega
            obtain rfl : b = 2 := by omega
            have T7 := Lib.hid (show Tab wr w.heap.size (1 + 8 * (k + 1)) (srv zs (k + 1) 0 0) by have := TB.out; rw [stage_two] at this; exact this.mono (by omega))
            go_wp2_with fail
            go_roundw
            case rel => exact ⟨k + 1, by go_num, by omega, T7.out, BB.out⟩
            case measure => simp [intOf]; omega
      · have hlt2 : ¬ (k : Int) < (m : Int) + 2 := by omega
        obtain rfl : k = m + 2 := by omega
        have hlive := end_live HZ.out
        have HC := Lib.hid (show srv zs (m + 2) 0 0 ((m : Int) + 2) 0 = some (cost zs (m + 2) 0, (m : Int) + 1, pre zs (m + 1) 0) by
          rw [srv_low (i := m + 2) (by omega) (Nat.le_refl _), back, ent_yes (by have h0 : 0 ≤ cost zs (m + 1 + 1) 0 := hlive.2; omega)]; simp)
        obtain ⟨c, hc⟩ : ∃ c, cost zs (m + 2) 0 = c := ⟨_, rfl⟩
        obtain ⟨p, hp⟩ : ∃ p, pre zs (m + 1) 0 = p := ⟨_, rfl⟩
        rw [hc, hp] at HC
        rw [hc] at HV
        have N0 := Lib.hid (show Nd ((m : Int) + 2) 0 from ⟨by omega, by omega⟩)
        clear hc hp hlive
        have hfd : ∀ W : World, (Instr.field 52 (.agg #[.int .i64 c, .int .i64 ((m : Int) + 1), .int .i64 p]) 0).run Try.prog W = .ok (.int .i64 c) W := fun W => field_dist c _ p W
        have TQ := Lib.hid (TK.out.alloc (.cells #[.int .i64 ((m : Int) + 2), .int .i64 0] 50))
        have BQ := Lib.hid (BK.out.alloc BK.out.size (.cells #[.int .i64 ((m : Int) + 2), .int .i64 0] 50))
        have NQ := Lib.hid (Node.made wr ((m : Int) + 2) 0)
        have q0 := NQ.out.c0
        have q1 := NQ.out.c1
        have q2 := Tab.at_ TQ.out N0.out HC.out
        have q3 := Tab.at_ TQ.out.drew N0.out HC.out
        go_wp2_with fail
        go_region_held3 (fun w' => w'.cell? ⟨wr.heap.size, 0, none⟩ = some (.int .i64 ((m : Int) + 2)) ∧ w'.cell? ⟨wr.heap.size, 1, none⟩ = some (.int .i64 0) ∧ (Instr.lookup 53 (.map (some w.heap.size)) (.agg #[.int .i64 ((m : Int) + 2), .int .i64 0]) false).run Try.prog w' = .ok (.agg #[.int .i64 c, .int .i64 ((m : Int) + 1), .int .i64 p]) w') (first | exact ⟨q0, q1, q2⟩ | exact ⟨q0, q1, q3⟩ | exact ⟨k0, k1, k2⟩)
          (first
          | (go_at_call 43; refine (implPath zs m HZ.out hm3 w.heap.size _ _ TQ.out.drew).mono ?_; rintro e w8 ⟨P, q, cq, rfl, ho8, hb8⟩; have O8 := Lib.hid ho8; have B8 := Lib.hid hb8; have N8 := NQ.out.same (hb8.block wr.heap.size (by simp)); have k0 := N8.c0; have k1 := N8.c1; have k2 := Tab.at_ (TQ.out.block hb8.size (hb8.block w.heap.size TQ.out.lt)) N0.out HC.out; clear ho8 hb8 N8))
        all_goals
         (clear q0 q1 q2 q3 k0 k1 k2 hfd
          go_wp2_with fail
          go_ret2
          rw [HV.out]
          exact ⟨P, q, cq, rfl, O8.out.down BQ.out.size, BQ.out.drew.trans (B8.out.mono BQ.out.size)⟩)
  · have HV := Lib.hid (vit_no hno)
    by_cases h0 : inl zs.length < 0
    · have HI := Lib.hid (show inl n = -1 by rw [← HL.out]; have := inl_in zs.length; omega)
      clear hno h0
      go_enter Try.func14, Try.ntmps14
      go_wp2_with fail
      (with_reducible refine (implInl _ HW.out _).mono ?_)
      rw [HI.out]
      rintro e w1 ⟨rfl, rfl⟩
      go_wp2_with fail
      go_ret2
      rw [HV.out]
      exact ⟨_, _, _, rfl, (Ow.empty _ _ _).up, (Below.refl _ _).alloc (Nat.le_refl _) _⟩
    · have hs : inr zs 0 2 = false := by
        cases h : inr zs 0 2
        · rfl
        · exact absurd ⟨by omega, h⟩ hno
      have HS := Lib.hid hs
      obtain ⟨m, hm⟩ := Int.eq_ofNat_of_zero_le (show 0 ≤ inl zs.length by omega)
      have HI := Lib.hid (show inl n = m by rw [← HL.out]; exact hm)
      have hm2 := (inl_nat hm).2
      clear hno h0 hs hm
      go_enter Try.func14, Try.ntmps14
      go_wp2_with fail
      (with_reducible refine (implInl _ HW.out _).mono ?_)
      rw [HI.out]
      rintro e w1 ⟨rfl, rfl⟩
      go_wp2_with fail
      (with_reducible refine (bits.implIss zs _ _ A n cap _ HR.out).mono ?_)
      rw [HS.out]
      rintro e w1 ⟨rfl, rfl⟩
      go_wp2_with fail
      go_ret2
      rw [HV.out]
      exact ⟨_, _, _, rfl, (Ow.empty _ _ _).up, (Below.refl _ _).alloc (Nat.le_refl _) _⟩
end Go.Proofs.Ytgdmfpahaccamaa.vts
