/- Merged texts of this seat. Sn4: Every sender with every category; AreValidSeen of both sides. Condition: the senders and categories of a list are integers of the machine. | Dsn: Draws of stage 19: sequence numbers, lists of remembered frames, a list beside a frame and a category. Condition: the bytes that are drawn from are a slice that came in. | Frd: A drawn frame with a drawn body, and a threshold. Condition: the bytes that are drawn from are a slice that came in. | Fcn: FragmentCount of both sides. Condition: none. | Rfr: Fragments of both sides. Condition: a body of up to 2^26 bytes. | Same: The comparisons of the laws: sameBytes, sameInts. Condition: none. -/
import Derived.Deep.Cut
import Derived.Test.YtbkdbdhbmabgcaaG1
import Derived.Test.YtbkdbdhbmabgcaaG3
import Derived.Test.YtbkdbdhbmabgcaaG5
import Derived.Test.YtbkdbdhbmabgcaaG8
section
namespace Go.Proofs.Ytbkdbdhbmabgcaa.sn
open Go.RowKit sl harn bx mrw drk stw
set_option linter.unusedVariables false
set_option linter.unusedSimpArgs false
open ux (Sen Fra)

def AsPost (w : World) (e : Ending) (w' : World) : Prop := ∃ B, e = .returned (.map (some B)) ∧ w.heap.size ≤ B ∧ Sset w' B 64 (grid 16 0) ∧ Below w.heap.size w w'
theorem as_parts {w w' : World} {e : Ending} (h : AsPost w e w') : ∃ B, e = .returned (.map (some B)) ∧ w.heap.size ≤ B ∧ Sset w' B 64 (grid 16 0) ∧ Below w.heap.size w w' := h
theorem Sset.more {w : World} {B u u' : Nat} {M : Int → Int → Bool} (h : Sset w B u M) (hu : u ≤ u') : Sset w B u' M := by
  obtain ⟨n, D, h0, h1, h2⟩ := h
  exact ⟨n, D, by omega, h1, h2⟩
theorem Sset.same' {w w' : World} {B u : Nat} {M : Int → Int → Bool} (h : Sset w B u M) (hs : w.heap.size ≤ w'.heap.size) (hb : w'.heap[B]? = w.heap[B]?) : Sset w' B u M := by
  obtain ⟨n, D, h0, ⟨es, clock, g1, g2⟩, h3⟩ := h
  exact ⟨n, D, h0, ⟨es, clock, by rw [hb]; exact g1, g2⟩, h3⟩
set_option maxRecDepth 100000 in
set_option maxHeartbeats 4000000 in
theorem implAs (w : World) :
    Calls Try.prog 75 #[] w (AsPost w) := by
  have hmm := @run_makeMap Try.prog
  go_enter Try.func75, Try.ntmps75
  go_upto_region 2 with fail
  clear hmm
  obtain ⟨w0, hW⟩ : ∃ w0, w.alloc (.map #[] 0) = w0 := ⟨_, rfl⟩
  rw [hW]
  have B0 := Lib.hid (show Below w.heap.size w w0 by rw [← hW]; exact below_box _ _)
  have T0 := Lib.hid (show Sset w0 w.heap.size 0 (grid 0 0) by rw [← hW]; exact (Sset.made w).congr grid_start)
  clear hW
  go_wp2_with fail
  go_loopw [5] (fun v0 wr => ∃ (k : Nat), v0 = .int .i64 ((k : Int)) ∧ (k ≤ 16) ∧ Below w.heap.size w wr ∧ Sset wr w.heap.size (4 * k) (grid k 0)) (fun i _ => 16 - (intOf i).toNat)
  case atStart => exact ⟨0, rfl, by omega, B0.out, T0.out⟩
  case round =>
    obtain ⟨k, rfl, ghk, gB1, gT1⟩ := hrel
    have B1 := Lib.hid gB1
    have T1 := Lib.hid gT1
    have hk := Lib.hid ghk
    clear gB1 gT1 ghk
    have SBR1 := Lib.hid B1.out.size
    have hk := hk.out
    by_cases hlt : k < 16
    · have hlt2 : (k : Int) < 16 := by omega
      obtain ⟨wo, rfl⟩ : ∃ w1, w1 = wr := ⟨_, rfl⟩
      go_wp2_with fail
      go_loopw [8] (fun v0 wr => ∃ (c : Nat), v0 = .int .i64 ((c : Int)) ∧ (c ≤ 4) ∧ Below w.heap.size w wr ∧ Sset wr w.heap.size (4 * k + c) (grid k c)) (fun i _ => 4 - (intOf i).toNat)
      case atStart => exact ⟨0, rfl, by omega, B1.out, T1.out⟩
      case round =>
        obtain ⟨c, rfl, ghc, gB2, gT2⟩ := hrel
        have B2 := Lib.hid gB2
        have T2 := Lib.hid gT2
        have hc := Lib.hid ghc
        clear gB2 gT2 ghc
        have SBR2 := Lib.hid B2.out.size
        have hc := hc.out
        by_cases hct : c < 4
        · have hct2 : (c : Int) < 4 := by omega
          have HWK := Lib.hid (wk_of (a := (k : Int)) (b := (c : Int)) (by omega) (by omega))
          have hku : 4 * k + c < 1000000 := by omega
          go_wp2_with (at_mapUpdate; refine list_put _ rfl _ _ _ rfl T2.out hku HWK.out rfl rfl rfl ?_; intro w3 hT hg; have B3 := Lib.hid (below_grown B2.out hg (fun q hq => by have hs0 := SBR1.out; have hs1 := SBR2.out; injection hq with hq; omega) B2.out.size); have T3 := Lib.hid hT; have ST3 := Lib.hid hg.size; clear B2 hT hg T2)
          have HG := Lib.hid (grid_put (k := (k : Int)) (c := (c : Int)) (by omega) ⟨by omega, by omega⟩)
          have HT9 := Lib.hid (show Sset w3 w.heap.size (4 * k + (c + 1)) (grid (k : Int) ((c + 1 : Nat) : Int)) by
              have h9 := T3.out.congr HG.out
              have e9 : ((c + 1 : Nat) : Int) = (c : Int) + 1 := by omega
              rw [e9]
              exact h9)
          go_roundw
          case rel => exact ⟨c + 1, by go_num, by omega, B3.out, HT9.out⟩
          case measure => simp [intOf]; omega
        · have hct2 : ¬ (c : Int) < 4 := by omega
          obtain rfl : c = 4 := by omega
          have HG := Lib.hid (grid_next (k := (k : Int)) (by omega))
          go_wp2_with fail
          have HT9 := Lib.hid (show Sset wr w.heap.size (4 * (k + 1)) (grid ((k + 1 : Nat) : Int) 0) by
              have h9 := T2.out.congr HG.out
              have e9 : ((k + 1 : Nat) : Int) = (k : Int) + 1 := by omega
              rw [e9]
              exact h9.more (by omega))
          go_roundw
          case rel => exact ⟨k + 1, by go_num, by omega, B2.out, HT9.out⟩
          case measure => simp [intOf]; omega
    · have hlt2 : ¬ (k : Int) < 16 := by omega
      obtain rfl : k = 16 := by omega
      go_wp2_with fail
      go_ret
      exact ⟨_, rfl, Nat.le_refl _, T1.out, B1.out⟩
set_option maxRecDepth 100000 in
set_option maxHeartbeats 4000000 in
theorem implVs (ms : List Sen) (A : Option Addr) (n cap lo hi : Nat) (w : World) (h : Rq senS w lo hi A n cap ms) (hwf : ∀ y ∈ ms, Wfs y) :
    Calls Try.prog 28 #[.slice A n cap] w (BPost (vs ms) w) := by
  have QW := Lib.hid h
  have hqh := h.hi_
  have hqc := h.cap_
  have HQC := Lib.hid hqc
  have HLN0 := Lib.hid h.len
  have LHQ := Lib.hid hqh
  clear h
  have HWF := Lib.hid hwf
  clear hwf
  obtain ⟨v, hv⟩ : ∃ v, vs ms = v := ⟨_, rfl⟩
  have HV := Lib.hid hv
  rw [hv]
  clear hv
  go_enter Try.func28, Try.ntmps28
  go_wp2_with fail
  have B0 := Lib.hid (Below.refl w.heap.size w)
  have Q0 := QW
  (with_reducible refine (implAs _).mono ?_)
  rintro e w1 hp
  obtain ⟨B, rfl, hB, hT, hb⟩ := as_parts hp
  clear hp
  have HBB := Lib.hid hB
  clear hB
  have SS1 := Lib.hid hb.size
  have B1 := Lib.hid (B0.out.trans (hb.mono B0.out.size))
  have Q1 := Lib.hid (Q0.out.below hb)
  clear hb B0 Q0
  have T1 := Lib.hid (hT.congr (free_start ms))
  have TL := Lib.hid hT.hi_
  clear hT
  go_wp2_with fail
  go_loopw [10] (fun v0 wr => ∃ (k : Nat), v0 = .int .i64 ((k : Int)) ∧ (k ≤ n) ∧ (∀ j, j < k → okAt ms j = true) ∧ Below w.heap.size w wr ∧ Rq senS wr lo hi A n cap ms ∧ Sset wr B 64 (free ms k)) (fun i _ => n - (intOf i).toNat)
  case atStart => exact ⟨0, rfl, by omega, fun j hj => by omega, B1.out, Q1.out, T1.out⟩
  case round =>
    obtain ⟨k, rfl, ghk, ghp, gB2, gQ2, gT2⟩ := hrel
    have B2 := Lib.hid gB2
    have Q2 := Lib.hid gQ2
    have T2 := Lib.hid gT2
    have hk := Lib.hid ghk
    have hp := Lib.hid ghp
    clear gB2 gQ2 gT2 ghk ghp
    have SBR2 := Lib.hid B2.out.size
    have hk := hk.out
    by_cases hlt : k < n
    · obtain ⟨bq, off, y, hA, hy, h1, h2, ce0, ce1, ce2, ce3⟩ := at_ Q2.out hlt
      have HY := Lib.hid hy
      clear hy h1 h2
      subst hA
      have hlt2 : (k : Int) < n := by omega
      have HWY := Lib.hid (HWF.out y (List.mem_of_getElem? HY.out))
      go_upto_region 5 with fail
      clear ce0 ce1 ce2 ce3
      obtain ⟨bv, hbb⟩ : ∃ b, wr.heap.size = b := ⟨_, rfl⟩
      generalize hW : wr.alloc (.cells #[.int .i64 y.From, .int .i64 y.Category, .int .i64 y.Seq, .int .i64 y.Fragment] 84) = w3
      have LV := Lib.hid (show w.heap.size ≤ bv ∧ hi ≤ bv ∧ (B + 1) ≤ bv by have h1 := B2.out.size; have h2Q := Q2.out.hi_; have h2T := T2.out.hi_; have h3 := hbb; omega)
      have V3 := Lib.hid (show Bx 84 w3 bv #[.int .i64 y.From, .int .i64 y.Category, .int .i64 y.Seq, .int .i64 y.Fragment] by rw [← hW, ← hbb]; exact Bx.made _ _ _)
      have hb : Below wr.heap.size wr w3 := by rw [← hW]; exact below_box _ _
      (try rw [hbb])
      clear hW hbb
      have SS3 := Lib.hid hb.size
      have B3 := Lib.hid (B2.out.trans (hb.mono B2.out.size))
      have Q3 := Lib.hid (Q2.out.below hb)
      have T3 := Lib.hid (T2.out.below hb)
      clear hb B2 Q2 T2
      have LWV := Lib.hid V3.out.lt
      have cV0 : w3.cell? ⟨bv, 0, none⟩ = some (.int .i64 y.From) := V3.out.cell 0
      have cV1 : w3.cell? ⟨bv, 1, none⟩ = some (.int .i64 y.Category) := V3.out.cell 1
      have cV2 : w3.cell? ⟨bv, 2, none⟩ = some (.int .i64 y.Seq) := V3.out.cell 2
      have cV3 : w3.cell? ⟨bv, 3, none⟩ = some (.int .i64 y.Fragment) := V3.out.cell 3
      go_wp2_with fail
      clear cV0 cV1 cV2 cV3
      (with_reducible refine (implSo y _).mono ?_)
      rintro e w4 ⟨rfl, hb⟩
      have SS4 := Lib.hid hb.size
      have B4 := Lib.hid (B3.out.trans (hb.mono B3.out.size))
      have V4 := Lib.hid (V3.out.below hb)
      have Q4 := Lib.hid (Q3.out.below hb)
      have T4 := Lib.hid (T3.out.below hb)
      clear hb B3 V3 Q3 T3
      go_upto_region 6 with fail
      obtain ⟨bu, hbb⟩ : ∃ b, w4.heap.size = b := ⟨_, rfl⟩
      generalize hW : w4.alloc (.cells #[.int .i64 y.From, .int .i64 y.Category] 88) = w5
      have LU := Lib.hid (show w.heap.size ≤ bu ∧ bv < bu ∧ hi ≤ bu ∧ (B + 1) ≤ bu by have h1 := B4.out.size; have h2V := V4.out.lt; have h2Q := Q4.out.hi_; have h2T := T4.out.hi_; have h3 := hbb; omega)
      have U5 := Lib.hid (show Bx 88 w5 bu #[.int .i64 y.From, .int .i64 y.Category] by rw [← hW, ← hbb]; exact Bx.made _ _ _)
      have hb : Below w4.heap.size w4 w5 := by rw [← hW]; exact below_box _ _
      (try rw [hbb])
      clear hW hbb
      have SS5 := Lib.hid hb.size
      have B5 := Lib.hid (B4.out.trans (hb.mono B4.out.size))
      have V5 := Lib.hid (V4.out.below hb)
      have Q5 := Lib.hid (Q4.out.below hb)
      have T5 := Lib.hid (T4.out.below hb)
      clear hb B4 V4 Q4 T4
      have LWU := Lib.hid U5.out.lt
      obtain ⟨fr, hfr⟩ : ∃ fr, free ms k y.From y.Category = fr := ⟨_, rfl⟩
      have HFR := Lib.hid hfr
      clear hfr
      obtain ⟨s, hs⟩ : ∃ s, decide (0 ≤ y.Seq ∧ y.Seq ≤ 4095) = s := ⟨_, rfl⟩
      have HS := Lib.hid hs
      clear hs
      obtain ⟨g, hg⟩ : ∃ g, decide (0 ≤ y.Fragment ∧ y.Fragment ≤ 15) = g := ⟨_, rfl⟩
      have HGG := Lib.hid hg
      clear hg
      cases fr with
      | true =>
        have cV0 : w5.cell? ⟨bv, 0, none⟩ = some (.int .i64 y.From) := V5.out.cell 0
        have cV1 : w5.cell? ⟨bv, 1, none⟩ = some (.int .i64 y.Category) := V5.out.cell 1
        have cV2 : w5.cell? ⟨bv, 2, none⟩ = some (.int .i64 y.Seq) := V5.out.cell 2
        have cV3 : w5.cell? ⟨bv, 3, none⟩ = some (.int .i64 y.Fragment) := V5.out.cell 3
        have cU0 : w5.cell? ⟨bu, 0, none⟩ = some (.int .i64 y.From) := U5.out.cell 0
        have cU1 : w5.cell? ⟨bu, 1, none⟩ = some (.int .i64 y.Category) := U5.out.cell 1
        go_wp2_with (at_lookup; refine list_look _ rfl _ _ 90 false rfl (T5.out.look HWY.out HFR.out) rfl rfl ?_)
        clear cV0 cV1 cV2 cV3 cU0 cU1
        (with_reducible refine (isSq y.Seq s _ HS.out).mono ?_)
        rintro e wq ⟨rfl, rfl⟩
        cases s with
        | true =>
          have cV0 : w5.cell? ⟨bv, 0, none⟩ = some (.int .i64 y.From) := V5.out.cell 0
          have cV1 : w5.cell? ⟨bv, 1, none⟩ = some (.int .i64 y.Category) := V5.out.cell 1
          have cV2 : w5.cell? ⟨bv, 2, none⟩ = some (.int .i64 y.Seq) := V5.out.cell 2
          have cV3 : w5.cell? ⟨bv, 3, none⟩ = some (.int .i64 y.Fragment) := V5.out.cell 3
          have cU0 : w5.cell? ⟨bu, 0, none⟩ = some (.int .i64 y.From) := U5.out.cell 0
          have cU1 : w5.cell? ⟨bu, 1, none⟩ = some (.int .i64 y.Category) := U5.out.cell 1
          go_wp2_with fail
          clear cV0 cV1 cV2 cV3 cU0 cU1
          (with_reducible refine (inR y.Fragment 0 15 g _ HGG.out).mono ?_)
          rintro e wq ⟨rfl, rfl⟩
          cases g with
          | true =>
            have HO := Lib.hid (show ∀ j, j < k + 1 → okAt ms j = true from fun j hj => by
                rcases Nat.lt_or_ge j k with h1 | h1
                · exact hp.out j h1
                · obtain rfl : j = k := by omega
                  rw [ok_free HY.out HFR.out HS.out HGG.out]; rfl)
            have HN := Lib.hid (free_next HY.out)
            have cU0 : w5.cell? ⟨bu, 0, none⟩ = some (.int .i64 y.From) := U5.out.cell 0
            have cU1 : w5.cell? ⟨bu, 1, none⟩ = some (.int .i64 y.Category) := U5.out.cell 1
            go_wp2_with (at_delete; refine list_del _ rfl _ _ rfl T5.out HWY.out rfl rfl ?_; intro w6 hT hg; have B6 := Lib.hid (below_grown B5.out hg (fun q hq => by have hlV := LV.out; have hlU := LU.out; have hs0 := LHQ.out; have hs1 := HBB.out; have hs2 := SS1.out; have hs3 := TL.out; have hs4 := SBR2.out; have hs5 := SS3.out; have hs6 := LWV.out; have hs7 := SS4.out; have hs8 := SS5.out; have hs9 := LWU.out; injection hq with hq; omega) B5.out.size); have V6 := Lib.hid (grown_bx V5.out hg (fun e => by have hlV := LV.out; have hlU := LU.out; have hs0 := LHQ.out; have hs1 := HBB.out; have hs2 := SS1.out; have hs3 := TL.out; have hs4 := SBR2.out; have hs5 := SS3.out; have hs6 := LWV.out; have hs7 := SS4.out; have hs8 := SS5.out; have hs9 := LWU.out; injection e with e; first | omega | (simp at e <;> omega))); have U6 := Lib.hid (grown_bx U5.out hg (fun e => by have hlV := LV.out; have hlU := LU.out; have hs0 := LHQ.out; have hs1 := HBB.out; have hs2 := SS1.out; have hs3 := TL.out; have hs4 := SBR2.out; have hs5 := SS3.out; have hs6 := LWV.out; have hs7 := SS4.out; have hs8 := SS5.out; have hs9 := LWU.out; injection e with e; first | omega | (simp at e <;> omega))); have Q6 := Lib.hid (Q5.out.same hg.size (fun b h1 h2 => hg.block b (by have := Q5.out.hi_; omega) (fun e => by have hlV := LV.out; have hlU := LU.out; have hs0 := LHQ.out; have hs1 := HBB.out; have hs2 := SS1.out; have hs3 := TL.out; have hs4 := SBR2.out; have hs5 := SS3.out; have hs6 := LWV.out; have hs7 := SS4.out; have hs8 := SS5.out; have hs9 := LWU.out; injection e with e; first | omega | (simp at e <;> omega)))); have T6 := Lib.hid hT; have ST6 := Lib.hid hg.size; clear B5 hT hg V5 U5 Q5 T5)
            clear cU0 cU1
            go_roundw
            case rel => exact ⟨k + 1, by go_num, by omega, HO.out, B6.out, Q6.out, T6.out.congr HN.out⟩
            case measure => simp [intOf]; omega
          | false =>
            have HE := Lib.hid (show v = false by rw [← HV.out]; exact vs_no (by rw [HLN0.out]; exact hlt) (by rw [ok_free HY.out HFR.out HS.out HGG.out]; rfl))
            go_wp2_with fail
            go_ret
            exact ⟨by (try rw [HV.out]); rw [HE.out]; try rfl, B5.out⟩
        | false =>
          have HE := Lib.hid (show v = false by rw [← HV.out]; exact vs_no (by rw [HLN0.out]; exact hlt) (by rw [ok_free HY.out HFR.out HS.out HGG.out]; rfl))
          go_wp2_with fail
          go_ret
          exact ⟨by (try rw [HV.out]); rw [HE.out]; try rfl, B5.out⟩
      | false =>
        have cV0 : w5.cell? ⟨bv, 0, none⟩ = some (.int .i64 y.From) := V5.out.cell 0
        have cV1 : w5.cell? ⟨bv, 1, none⟩ = some (.int .i64 y.Category) := V5.out.cell 1
        have cV2 : w5.cell? ⟨bv, 2, none⟩ = some (.int .i64 y.Seq) := V5.out.cell 2
        have cV3 : w5.cell? ⟨bv, 3, none⟩ = some (.int .i64 y.Fragment) := V5.out.cell 3
        have cU0 : w5.cell? ⟨bu, 0, none⟩ = some (.int .i64 y.From) := U5.out.cell 0
        have cU1 : w5.cell? ⟨bu, 1, none⟩ = some (.int .i64 y.Category) := U5.out.cell 1
        go_wp2_with (at_lookup; refine list_look _ rfl _ _ 90 false rfl (T5.out.look HWY.out HFR.out) rfl rfl ?_)
        clear cV0 cV1 cV2 cV3 cU0 cU1
        have HE := Lib.hid (show v = false by rw [← HV.out]; exact vs_no (by rw [HLN0.out]; exact hlt) (ok_taken HY.out HFR.out))
        go_ret
        exact ⟨by (try rw [HV.out]); rw [HE.out]; try rfl, B5.out⟩
    · have hlt2 : ¬ (k : Int) < n := by omega
      have HE := Lib.hid (show v = true by rw [← HV.out]; exact ok_all fun j hj => hp.out j (by rw [HLN0.out] at hj; omega))
      go_wp2_with fail
      go_ret
      exact ⟨by (try rw [HV.out]); rw [HE.out]; try rfl, B2.out⟩
theorem fst_self {l : List Sen} {k : Nat} {y : Sen} (hy : l[k]? = some y) : fst l y.From y.Category ≤ k := by
  rcases Nat.lt_or_ge k (fst l y.From y.Category) with h | h
  · have h1 := fst_before h
    rw [getD_of hy, hit_self] at h1
    cases h1
  · exact h
set_option maxRecDepth 100000 in
set_option maxHeartbeats 4000000 in
theorem specVs (ms : List Sen) (A : Option Addr) (n cap lo hi : Nat) (w : World) (h : Rq senS w lo hi A n cap ms) :
    Calls Try.prog 27 #[.slice A n cap] w (BPost (vs ms) w) := by
  have QW := Lib.hid h
  have hqh := h.hi_
  have hqc := h.cap_
  have HQC := Lib.hid hqc
  have HLN0 := Lib.hid h.len
  have LHQ := Lib.hid hqh
  clear h
  obtain ⟨v, hv⟩ : ∃ v, vs ms = v := ⟨_, rfl⟩
  have HV := Lib.hid hv
  rw [hv]
  clear hv
  go_enter Try.func27, Try.ntmps27
  go_wp2_with fail
  have B0 := Lib.hid (Below.refl w.heap.size w)
  have Q0 := QW
  go_loopw [3] (fun v0 wr => ∃ (k : Nat), v0 = .int .i64 ((k : Int)) ∧ (k ≤ n) ∧ (∀ j, j < k → okAt ms j = true) ∧ Below w.heap.size w wr ∧ Rq senS wr lo hi A n cap ms) (fun i _ => n - (intOf i).toNat)
  case atStart => exact ⟨0, rfl, by omega, fun j hj => by omega, B0.out, Q0.out⟩
  case round =>
    obtain ⟨k, rfl, ghk, ghp, gB1, gQ1⟩ := hrel
    have B1 := Lib.hid gB1
    have Q1 := Lib.hid gQ1
    have hk := Lib.hid ghk
    have hp := Lib.hid ghp
    clear gB1 gQ1 ghk ghp
    have SBR1 := Lib.hid B1.out.size
    have hk := hk.out
    by_cases hlt : k < n
    · obtain ⟨bq, off, y, hA, hy, h1, h2, ce0, ce1, ce2, ce3⟩ := at_ Q1.out hlt
      have HY := Lib.hid hy
      clear hy h1 h2
      subst hA
      have hlt2 : (k : Int) < n := by omega
      go_upto_region 5 with fail
      clear ce0 ce1 ce2 ce3
      obtain ⟨bv, hbb⟩ : ∃ b, wr.heap.size = b := ⟨_, rfl⟩
      generalize hW : wr.alloc (.cells #[.int .i64 y.From, .int .i64 y.Category, .int .i64 y.Seq, .int .i64 y.Fragment] 84) = w2
      have LV := Lib.hid (show w.heap.size ≤ bv ∧ hi ≤ bv by have h1 := B1.out.size; have h2Q := Q1.out.hi_; have h3 := hbb; omega)
      have V2 := Lib.hid (show Bx 84 w2 bv #[.int .i64 y.From, .int .i64 y.Category, .int .i64 y.Seq, .int .i64 y.Fragment] by rw [← hW, ← hbb]; exact Bx.made _ _ _)
      have hb : Below wr.heap.size wr w2 := by rw [← hW]; exact below_box _ _
      (try rw [hbb])
      clear hW hbb
      have SS2 := Lib.hid hb.size
      have B2 := Lib.hid (B1.out.trans (hb.mono B1.out.size))
      have Q2 := Lib.hid (Q1.out.below hb)
      clear hb B1 Q1
      have LWV := Lib.hid V2.out.lt
      obtain ⟨d0, hd0⟩ : ∃ d, decide (0 ≤ y.From ∧ y.From ≤ 15) = d := ⟨_, rfl⟩
      have HD0 := Lib.hid hd0
      clear hd0
      obtain ⟨d1, hd1⟩ : ∃ d, decide (0 ≤ y.Category ∧ y.Category ≤ 3) = d := ⟨_, rfl⟩
      have HD1 := Lib.hid hd1
      clear hd1
      obtain ⟨d2, hd2⟩ : ∃ d, decide (0 ≤ y.Seq ∧ y.Seq ≤ 4095) = d := ⟨_, rfl⟩
      have HD2 := Lib.hid hd2
      clear hd2
      obtain ⟨d3, hd3⟩ : ∃ d, decide (0 ≤ y.Fragment ∧ y.Fragment ≤ 15) = d := ⟨_, rfl⟩
      have HD3 := Lib.hid hd3
      clear hd3
      have HOK := Lib.hid (show okAt ms k = (d0 && (d1 && (d2 && d3)) && fst ms y.From y.Category == k) by unfold okAt inr; rw [getD_of HY.out, HD0.out, HD1.out, HD2.out, HD3.out])
      obtain ⟨i0, hi0⟩ : ∃ i, fidx ms y.From y.Category = i := ⟨_, rfl⟩
      have HI := Lib.hid hi0
      clear hi0
      obtain ⟨i, hi9⟩ : ∃ i, fst ms y.From y.Category = i := ⟨_, rfl⟩
      have HFI := Lib.hid (show i ≤ k ∧ fst ms y.From y.Category = i from ⟨by rw [← hi9]; exact fst_self HY.out, hi9⟩)
      obtain rfl : i0 = (i : Int) := by rw [← HI.out]; exact fidx_of hi9 (by have h1 := HFI.out.1; have h2 := HLN0.out; omega)
      clear hi9
      have cV0 : w2.cell? ⟨bv, 0, none⟩ = some (.int .i64 y.From) := V2.out.cell 0
      have cV1 : w2.cell? ⟨bv, 1, none⟩ = some (.int .i64 y.Category) := V2.out.cell 1
      have cV2 : w2.cell? ⟨bv, 2, none⟩ = some (.int .i64 y.Seq) := V2.out.cell 2
      have cV3 : w2.cell? ⟨bv, 3, none⟩ = some (.int .i64 y.Fragment) := V2.out.cell 3
      go_wp2_with fail
      clear cV0 cV1 cV2 cV3
      (with_reducible refine (l1R y.From 0 15 d0 _ HD0.out).mono ?_)
      rintro e wq ⟨rfl, rfl⟩
      cases d0 with
      | true =>
        have cV0 : w2.cell? ⟨bv, 0, none⟩ = some (.int .i64 y.From) := V2.out.cell 0
        have cV1 : w2.cell? ⟨bv, 1, none⟩ = some (.int .i64 y.Category) := V2.out.cell 1
        have cV2 : w2.cell? ⟨bv, 2, none⟩ = some (.int .i64 y.Seq) := V2.out.cell 2
        have cV3 : w2.cell? ⟨bv, 3, none⟩ = some (.int .i64 y.Fragment) := V2.out.cell 3
        go_wp2_with fail
        clear cV0 cV1 cV2 cV3
        (with_reducible refine (l1R y.Category 0 3 d1 _ HD1.out).mono ?_)
        rintro e wq ⟨rfl, rfl⟩
        cases d1 with
        | true =>
          have cV0 : w2.cell? ⟨bv, 0, none⟩ = some (.int .i64 y.From) := V2.out.cell 0
          have cV1 : w2.cell? ⟨bv, 1, none⟩ = some (.int .i64 y.Category) := V2.out.cell 1
          have cV2 : w2.cell? ⟨bv, 2, none⟩ = some (.int .i64 y.Seq) := V2.out.cell 2
          have cV3 : w2.cell? ⟨bv, 3, none⟩ = some (.int .i64 y.Fragment) := V2.out.cell 3
          go_wp2_with fail
          clear cV0 cV1 cV2 cV3
          (with_reducible refine (l1R y.Seq 0 4095 d2 _ HD2.out).mono ?_)
          rintro e wq ⟨rfl, rfl⟩
          cases d2 with
          | true =>
            have cV0 : w2.cell? ⟨bv, 0, none⟩ = some (.int .i64 y.From) := V2.out.cell 0
            have cV1 : w2.cell? ⟨bv, 1, none⟩ = some (.int .i64 y.Category) := V2.out.cell 1
            have cV2 : w2.cell? ⟨bv, 2, none⟩ = some (.int .i64 y.Seq) := V2.out.cell 2
            have cV3 : w2.cell? ⟨bv, 3, none⟩ = some (.int .i64 y.Fragment) := V2.out.cell 3
            go_wp2_with fail
            clear cV0 cV1 cV2 cV3
            (with_reducible refine (l1R y.Fragment 0 15 d3 _ HD3.out).mono ?_)
            rintro e wq ⟨rfl, rfl⟩
            cases d3 with
            | true =>
              have cV0 : w2.cell? ⟨bv, 0, none⟩ = some (.int .i64 y.From) := V2.out.cell 0
              have cV1 : w2.cell? ⟨bv, 1, none⟩ = some (.int .i64 y.Category) := V2.out.cell 1
              have cV2 : w2.cell? ⟨bv, 2, none⟩ = some (.int .i64 y.Seq) := V2.out.cell 2
              have cV3 : w2.cell? ⟨bv, 3, none⟩ = some (.int .i64 y.Fragment) := V2.out.cell 3
              go_wp2_with fail
              clear cV0 cV1 cV2 cV3
              (with_reducible refine (specFd y.From y.Category ms (some ⟨bq, off, none⟩) n cap _ _ _ Q2.out).mono ?_)
              rintro e w3 hp
              obtain ⟨rfl, hb⟩ := n_parts HI.out hp
              clear hp
              have SS3 := Lib.hid hb.size
              have B3 := Lib.hid (B2.out.trans (hb.mono B2.out.size))
              have V3 := Lib.hid (V2.out.below hb)
              have Q3 := Lib.hid (Q2.out.below hb)
              clear hb  B2 V2 Q2
              by_cases hik : i = k
              · obtain rfl : i = k := hik
                have HO := Lib.hid (show ∀ j, j < i + 1 → okAt ms j = true from fun j hj => by
                    rcases Nat.lt_or_ge j i with h1 | h1
                    · exact hp.out j h1
                    · obtain rfl : j = i := by omega
                      rw [HOK.out, HFI.out.2]; simp)
                go_wp2_with fail
                go_roundw
                case rel => exact ⟨i + 1, by go_num, by omega, HO.out, B3.out, Q3.out⟩
                case measure => simp [intOf]; omega
              · have hne : ((i : Int) != (k : Int)) = true := by simp; omega
                have HFN := Lib.hid (show (fst ms y.From y.Category == k) = false by rw [HFI.out.2]; simp [hik])
                have HE := Lib.hid (show v = false by rw [← HV.out]; exact vs_no (by rw [HLN0.out]; exact hlt) (by rw [HOK.out]; rw [HFN.out]; simp))
                go_wp2_with fail
                go_ret
                exact ⟨by (try rw [HV.out]); rw [HE.out]; try rfl, B3.out⟩
            | false =>
              have HE := Lib.hid (show v = false by rw [← HV.out]; exact vs_no (by rw [HLN0.out]; exact hlt) (by rw [HOK.out]; simp))
              go_wp2_with fail
              go_ret
              exact ⟨by (try rw [HV.out]); rw [HE.out]; try rfl, B2.out⟩
          | false =>
            have HE := Lib.hid (show v = false by rw [← HV.out]; exact vs_no (by rw [HLN0.out]; exact hlt) (by rw [HOK.out]; simp))
            go_wp2_with fail
            go_ret
            exact ⟨by (try rw [HV.out]); rw [HE.out]; try rfl, B2.out⟩
        | false =>
          have HE := Lib.hid (show v = false by rw [← HV.out]; exact vs_no (by rw [HLN0.out]; exact hlt) (by rw [HOK.out]; simp))
          go_wp2_with fail
          go_ret
          exact ⟨by (try rw [HV.out]); rw [HE.out]; try rfl, B2.out⟩
      | false =>
        have HE := Lib.hid (show v = false by rw [← HV.out]; exact vs_no (by rw [HLN0.out]; exact hlt) (by rw [HOK.out]; rfl))
        go_wp2_with fail
        go_ret
        exact ⟨by (try rw [HV.out]); rw [HE.out]; try rfl, B2.out⟩
    · have hlt2 : ¬ (k : Int) < n := by omega
      have HE := Lib.hid (show v = true by rw [← HV.out]; exact ok_all fun j hj => hp.out j (by rw [HLN0.out] at hj; omega))
      go_wp2_with fail
      go_ret
      exact ⟨by (try rw [HV.out]); rw [HE.out]; try rfl, B1.out⟩
end Go.Proofs.Ytbkdbdhbmabgcaa.sn
end

section
namespace Go.Proofs.Ytbkdbdhbmabgcaa.sn
open Go.RowKit sl harn bx mrw drk stw draw
set_option linter.unusedVariables false
set_option linter.unusedSimpArgs false
open ux (Sen Fra)

theorem oe_keep {w w' : World} {p lo hi n c : Nat} {A : Option Addr} {es : List (El Sen)} (h : Oe senS w lo hi A n c es) (hk : Keep p w w') (hp : p < lo) : Oe senS w' lo hi A n c es :=
  h.same hk.size fun b h1 h2 => hk.block b (by have := h.hi_; omega) (by omega)
def Sm (x : Int) : Prop := -100000 ≤ x ∧ x ≤ 100000
/-- Remembered frames, and frames, of small numbers. -/
def SmS (y : Sen) : Prop := Sm y.From ∧ Sm y.Category ∧ Sm y.Seq ∧ Sm y.Fragment
def SmF (f : Fra) : Prop := Sm f.From ∧ Sm f.Seq ∧ Sm f.Fragment
theorem SmS.wf {y : Sen} (h : SmS y) : Wfs y := wk_of (by have := h.1; unfold Sm at this; omega) (by have := h.2.1; unfold Sm at this; omega)
theorem rem_mem {l : List Sen} {f : Fra} {k : Int} (h : ∀ y ∈ l, SmS y) (hf : SmF f) (hk : Sm k) : ∀ y ∈ rem l f k, SmS y := by
  intro y hy
  have hs : SmS (see f k) := ⟨hf.1, hk, hf.2.1, hf.2.2⟩
  unfold rem at hy
  split at hy
  · rcases List.mem_or_eq_of_mem_set hy with hy | rfl
    · exact h y hy
    · exact hs
  · rcases List.mem_append.1 hy with hy | hy
    · exact h y hy
    · obtain rfl : y = see f k := by simpa using hy
      exact hs
/-- A drawn frame. -/
def FrmP (p : Nat) (a : Option Addr) (len cap : Nat) (w : World) (e : Ending) (w' : World) : Prop :=
  ∃ (f : Fra) (A : Option Addr) (n c : Nat), e = .returned (fr.fV f A n c) ∧ SmF f ∧ n ≤ 1000 ∧ Ow 5 .u8 w' w.heap.size w'.heap.size A n c f.Body ∧ Keep p w w' ∧ Cur w' p a len cap
theorem frm_parts {p : Nat} {a : Option Addr} {len cap : Nat} {w w' : World} {e : Ending} (h : FrmP p a len cap w e w') : ∃ (f : Fra) (A : Option Addr) (n c : Nat), e = .returned (fr.fV f A n c) ∧ SmF f ∧ n ≤ 1000 ∧ Ow 5 .u8 w' w.heap.size w'.heap.size A n c f.Body ∧ Keep p w w' ∧ Cur w' p a len cap := h
theorem frm_of {p : Nat} {a : Option Addr} {len cap : Nat} {w w' : World} {e : Ending} (h : draw.FrmPost p a len cap w e w') : FrmP p a len cap w e w' := by
  obtain ⟨k, f, t, s, g, m, r, d, A, n, c, z, e1, ⟨_, h2, _, h4, h5, _⟩, hn, ho, hk, hc⟩ := h
  exact ⟨⟨k, f, t, s, g, m, r, d, z⟩, A, n, c, e1, ⟨h2, h4, h5⟩, hn, ho, hk, hc⟩
theorem frmD (w : World) (p : Nat) (a : Option Addr) (len cap : Nat) (hc : Cur w p a len cap) : Calls Try.prog 86 #[.pointer (some ⟨p, 0, none⟩)] w (FrmP p a len cap w) := (draw.frm_ w p a len cap hc).mono fun _ _ h => frm_of h
theorem anyD (w : World) (p : Nat) (a : Option Addr) (len cap : Nat) (hc : Cur w p a len cap) : Calls Try.prog 49 #[.pointer (some ⟨p, 0, none⟩)] w (FrmP p a len cap w) := (draw.anyFrm w p a len cap hc).mono fun _ _ h => frm_of h
theorem keep_low {p B : Nat} {w wb wc : World} (h : Below B w wb) (k : Keep p wb wc) (hp : B ≤ p) (hs : p < wb.heap.size) : Below B w wc := h.trans (k.below hp hs)
/-- A drawn list. -/
def Nl (l : List Sen) : Prop := l.length ≤ 10 ∧ ∀ y ∈ l, SmS y
def LsPost (p : Nat) (a : Option Addr) (len cap : Nat) (w : World) (e : Ending) (w' : World) : Prop :=
  ∃ (A : Option Addr) (n c : Nat) (l : List Sen), e = .returned (.slice A n c) ∧ Nl l ∧ Oe senS w' w.heap.size w'.heap.size A n c (l.map el) ∧ Keep p w w' ∧ Cur w' p a len cap
theorem ls_parts {p : Nat} {a : Option Addr} {len cap : Nat} {w w' : World} {e : Ending} (h : LsPost p a len cap w e w') : ∃ (A : Option Addr) (n c : Nat) (l : List Sen), e = .returned (.slice A n c) ∧ Nl l ∧ Oe senS w' w.heap.size w'.heap.size A n c (l.map el) ∧ Keep p w w' ∧ Cur w' p a len cap := h
def SqP (p : Nat) (a : Option Addr) (len cap : Nat) (w : World) (e : Ending) (w' : World) : Prop := ∃ x : Int, e = .returned (.int .i64 x) ∧ -1 ≤ x ∧ x ≤ 4096 ∧ Keep p w w' ∧ Cur w' p a len cap
def SqD (w : World) (e : Ending) (w' : World) : Prop := ∃ x y : Int, e = .returned (.tuple #[.int .i64 x, .int .i64 y]) ∧ (-1 ≤ x ∧ x ≤ 4096) ∧ (-1 ≤ y ∧ y ≤ 4096) ∧ Below w.heap.size w w'
theorem sqd_parts {w w' : World} {e : Ending} (h : SqD w e w') : ∃ x y : Int, e = .returned (.tuple #[.int .i64 x, .int .i64 y]) ∧ (-1 ≤ x ∧ x ≤ 4096) ∧ (-1 ≤ y ∧ y ≤ 4096) ∧ Below w.heap.size w w' := h
set_option maxRecDepth 100000 in
set_option maxHeartbeats 4000000 in
theorem l19seq (w : World) (p : Nat) (a : Option Addr) (len cap : Nat) (hc : Cur w p a len cap) :
    Calls Try.prog 77 #[.pointer (some ⟨p, 0, none⟩)] w (SqP p a len cap w) := by
  have CW := Lib.hid hc
  have P0 := Lib.hid hc.lt
  have K0 := Lib.hid (Keep.refl p w)
  have C0 := CW
  clear hc
  go_enter Try.func77, Try.ntmps77
  go_wp2_with fail
  (with_reducible refine (draw.pickIn (-1) 4096 9 (by omega) (by omega) _ p a len cap C0.out #[.int .i64 (-1), .int .i64 0, .int .i64 1, .int .i64 5, .int .i64 2047, .int .i64 2048, .int .i64 4094, .int .i64 4095, .int .i64 4096] rfl (by decide)).mono ?_)
  rintro e w1 ⟨x, rfl, hx0, hx1, hk, hc⟩
  have Hx := Lib.hid (show -1 ≤ x ∧ x ≤ 4096 from ⟨hx0, hx1⟩)
  have SS1 := Lib.hid hk.size
  have K1 := Lib.hid (K0.out.trans hk)
  have C1 := Lib.hid (hc)
  clear hk hc hx0 hx1 K0 C0 
  go_wp2_with fail
  go_ret
  exact ⟨x, rfl, Hx.out.1, Hx.out.2, K1.out, C1.out⟩
set_option maxRecDepth 100000 in
set_option maxHeartbeats 4000000 in
theorem drawSd (w : World) (a : Option Addr) (len cap : Nat) (hc : draw.Code w w.heap.size a len) :
    Calls Try.prog 29 #[.slice a len cap] w (SqD w) := by
  have HC := Lib.hid hc
  clear hc
  go_enter Try.func29, Try.ntmps29
  have B0 := Lib.hid (Below.refl w.heap.size w)
  go_wp2_with fail
  (with_reducible refine (draw.new _ a len cap (code_later HC.out B0.out)).mono ?_)
  rintro e wb ⟨rfl, hk, hs, hc⟩
  have HB := Lib.hid (keep_bel B0.out B0.out.size hk)
  obtain ⟨p, hp⟩ : ∃ p, w.heap.size = p := ⟨_, rfl⟩
  have LP := Lib.hid (show w.heap.size ≤ p ∧ p < wb.heap.size by have h0 := B0.out.size; first | omega | (simp at hs ⊢ <;> omega))
  rw [hp] at hk hs hc ⊢
  have P0 := Lib.hid hs
  have C1 := Lib.hid hc
  have CW := Lib.hid hc
  have K1 := Lib.hid (Keep.refl p wb)
  clear hk hs hc hp B0 
  go_wp2_with fail
  (with_reducible refine (l19seq _ p a len cap C1.out).mono ?_)
  rintro e w2 ⟨x, rfl, hx0, hx1, hk, hc⟩
  have Hx := Lib.hid (show -1 ≤ x ∧ x ≤ 4096 from ⟨hx0, hx1⟩)
  have SS2 := Lib.hid hk.size
  have K2 := Lib.hid (K1.out.trans hk)
  have C2 := Lib.hid (hc)
  clear hk hc hx0 hx1 K1 C1 
  go_wp2_with fail
  (with_reducible refine (l19seq _ p a len cap C2.out).mono ?_)
  rintro e w3 ⟨y, rfl, hx0, hx1, hk, hc⟩
  have Hy := Lib.hid (show -1 ≤ y ∧ y ≤ 4096 from ⟨hx0, hx1⟩)
  have SS3 := Lib.hid hk.size
  have K3 := Lib.hid (K2.out.trans hk)
  have C3 := Lib.hid (hc)
  clear hk hc hx0 hx1 K2 C2 
  go_wp2_with fail
  have HBS := Lib.hid HB.out.size
  have B3 := Lib.hid (keep_low HB.out K3.out (by have h1 := LP.out; omega) (by have h1 := LP.out; omega))
  clear K3 C3
  go_ret2
  exact ⟨x, y, rfl, Hx.out, Hy.out, B3.out⟩
set_option maxRecDepth 100000 in
set_option maxHeartbeats 4000000 in
theorem l19list (w : World) (p : Nat) (a : Option Addr) (len cap : Nat) (hc : Cur w p a len cap) :
    Calls Try.prog 92 #[.pointer (some ⟨p, 0, none⟩)] w (LsPost p a len cap w) := by
  obtain ⟨i0, hi0, hz0, hz1, hz2⟩ := info_parts infoN
  have HZ := Lib.hid (And.intro hi0 (And.intro hz0 (And.intro hz1 hz2)))
  clear hi0 hz0 hz1 hz2
  have CW := Lib.hid hc
  have P0 := Lib.hid hc.lt
  have K0 := Lib.hid (Keep.refl p w)
  have C0 := CW
  clear hc
  go_enter Try.func92, Try.ntmps92
  go_upto_region 2 with fail
  obtain ⟨be, hbb⟩ : ∃ b, w.heap.size = b := ⟨_, rfl⟩
  generalize hW : w.alloc (.cells #[] 84) = w1
  have LE := Lib.hid (show w.heap.size ≤ be by have h1 := K0.out.size;  have h3 := hbb; omega)
  have E1 := Lib.hid (show Bx 84 w1 be #[] by rw [← hW, ← hbb]; exact Bx.made _ _ _)
  have hb : Below w.heap.size w w1 := by rw [← hW]; exact below_box _ _
  (try rw [hbb])
  clear hW hbb
  have SS1 := Lib.hid hb.size
  have K1 := Lib.hid (drk.later K0.out K0.out.size hb)
  have C1 := Lib.hid (drk.cur_below C0.out hb)
  clear hb K0 C0 
  have LWE := Lib.hid E1.out.lt
  have O1 := Lib.hid (show Oe senS w1 be w1.heap.size (some ⟨be, 0, none⟩) 0 0 (([] : List Sen).map el) from fr.oe_box (S := senS) E1.out)
  have HBE := Lib.hid (show w.heap.size ≤ be ∧ p < be ∧ be < w1.heap.size by have h0 := P0.out; have h1 := LE.out; have h2 := E1.out.lt; omega)
  clear E1
  go_wp2_with fail
  (with_reducible refine (draw.below 6 (by omega) _ p a len cap C1.out).mono ?_)
  rintro e w2 ⟨j0, rfl, hx0, hx1, hk, hc⟩
  have Hj0 := Lib.hid (show 0 ≤ j0 ∧ j0 < 6 from ⟨hx0, hx1 (by omega)⟩)
  have SS2 := Lib.hid hk.size
  have K2 := Lib.hid (K1.out.trans hk)
  have C2 := Lib.hid (hc)
  have O2 := Lib.hid (oe_keep O1.out hk (by have h0 := P0.out; have hs0 := SS1.out; have hs1 := LWE.out; have hs2 := HBE.out; have hs3 := SS2.out; first | omega | (simp <;> omega)))
  clear hk hc hx0 hx1 K1 C1 O1
  have HO9 := Lib.hid O2.out.up
  go_wp2_with fail
  go_loopw [3, 4] (fun v0 v1 wr => ∃ (j : Int) (m : Nat) (A1 : Option Addr) (n : Nat) (c1 : Nat) (l : List Sen), v0 = .slice A1 n c1 ∧ v1 = .int .i64 j ∧ (0 ≤ j ∧ j ≤ 5 ∧ (m : Int) + j ≤ 5) ∧ (l.length ≤ m ∧ ∀ y ∈ l, SmS y) ∧ (be < wr.heap.size) ∧ Keep p w wr ∧ Cur wr p a len cap ∧ Oe senS wr be wr.heap.size A1 n c1 (l.map el)) (fun _ j _ => (intOf j).toNat)
  case atStart => exact ⟨j0, 0, (some ⟨be, 0, none⟩), 0, 0, [], rfl, rfl, by have h := Hj0.out; omega, ⟨by simp, by simp⟩, by have h := HBE.out; have h0 := P0.out; have hs0 := SS1.out; have hs1 := LWE.out; have hs2 := HBE.out; have hs3 := SS2.out; omega, K2.out, C2.out, HO9.out⟩
  case round =>
    obtain ⟨j, m, A1, n, c1, l, rfl, rfl, ghj, ghl, ghbe, gK3, gC3, gO3⟩ := hrel
    have K3 := Lib.hid gK3
    have C3 := Lib.hid gC3
    have O3 := Lib.hid gO3
    have hj := Lib.hid ghj
    have hl := Lib.hid ghl
    have hbe := Lib.hid ghbe
    clear gK3 gC3 gO3 ghj ghl ghbe
    have SBR3 := Lib.hid K3.out.size
    have hj2 := hj.out
    have HLN := Lib.hid (oe_n O3.out)
    have HNB := Lib.hid (show n ≤ 67108864 by have h1 := hl.out.1; have h2 := HLN.out; omega)
    by_cases hlt : 0 < j
    · go_wp2_with fail
      (with_reducible refine (frmD _ p a len cap C3.out).mono ?_)
      rintro e w4 hp
      obtain ⟨f, Af, nf, cf, rfl, hs9, hn9, ho9, hk, hc⟩ := frm_parts hp
      clear hp
      have HSf := Lib.hid hs9
      have HNf := Lib.hid hn9
      have SS4 := Lib.hid hk.size
      have K4 := Lib.hid (K3.out.trans hk)
      have C4 := Lib.hid (hc)
      have O4 := Lib.hid (oe_keep O3.out hk (by have h0 := P0.out; have hs0 := SS1.out; have hs1 := LWE.out; have hs2 := HBE.out; have hs3 := SS2.out; have hs4 := SBR3.out; have hs5 := hbe.out; have hs6 := SS4.out; first | omega | (simp <;> omega)))
      clear hk hc hs9 hn9 K3 C3 O3
      have F4 := Lib.hid ho9
      clear ho9
      go_wp2_with fail
      (with_reducible refine (draw.below 4 (by omega) _ p a len cap C4.out).mono ?_)
      rintro e w5 ⟨q, rfl, hx0, hx1, hk, hc⟩
      have Hq := Lib.hid (show 0 ≤ q ∧ q < 4 from ⟨hx0, hx1 (by omega)⟩)
      have SS5 := Lib.hid hk.size
      have K5 := Lib.hid (K4.out.trans hk)
      have C5 := Lib.hid (hc)
      have O5 := Lib.hid (oe_keep O4.out hk (by have h0 := P0.out; have hs0 := SS1.out; have hs1 := LWE.out; have hs2 := HBE.out; have hs3 := SS2.out; have hs4 := SBR3.out; have hs5 := hbe.out; have hs6 := SS4.out; have hs7 := SS5.out; first | omega | (simp <;> omega)))
      have F5 := Lib.hid (draw.ow_keep F4.out hk (by have h0 := P0.out; have hs0 := SS1.out; have hs1 := LWE.out; have hs2 := HBE.out; have hs3 := SS2.out; have hs4 := SBR3.out; have hs5 := hbe.out; have hs6 := SS4.out; have hs7 := SS5.out; first | omega | (simp <;> omega)))
      clear hk hc hx0 hx1 K4 C4 O4 F4
      go_wp2_with fail
      (with_reducible refine (specRm l A1 n c1 _ _ _ (oe_rq O5.out) HNB.out f q Af nf cf).mono ?_)
      rintro e w6 hp
      obtain ⟨A2, n2, c2, rfl, ho2, hb⟩ := nn_parts hp
      clear hp
      have SS6 := Lib.hid hb.size
      have K6 := Lib.hid (drk.later K5.out K5.out.size hb)
      have C6 := Lib.hid (drk.cur_below C5.out hb)
      have O6 := Lib.hid (O5.out.below hb)
      have F6 := Lib.hid (F5.out.below hb)
      clear hb K5 C5 O5 F5
      have N6 := Lib.hid ho2
      clear ho2
      go_wp2_with fail
      have O6 := N6
      go_roundw
      case rel => exact ⟨j - 1, m + 1, A2, n2, c2, (rem l f q), rfl, by go_num, by omega, ⟨by have h1 := rem_len l f q; have h2 := hl.out.1; omega, rem_mem hl.out.2 HSf.out (by have h1 := Hq.out; unfold Sm; omega)⟩, by have h0 := P0.out; have hs0 := SS1.out; have hs1 := LWE.out; have hs2 := HBE.out; have hs3 := SS2.out; have hs4 := SBR3.out; have hs5 := hbe.out; have hs6 := SS4.out; have hs7 := SS5.out; have hs8 := SS6.out; omega, K6.out, C6.out, (O6.out.up).down (by have h0 := P0.out; have hs0 := SS1.out; have hs1 := LWE.out; have hs2 := HBE.out; have hs3 := SS2.out; have hs4 := SBR3.out; have hs5 := hbe.out; have hs6 := SS4.out; have hs7 := SS5.out; have hs8 := SS6.out; first | omega | (simp <;> omega))⟩
      case measure => simp [intOf]; omega
    · have HO9 := Lib.hid O3.out.up
      go_wp2_with fail
      (with_reducible refine (draw.below 10 (by omega) _ p a len cap C3.out).mono ?_)
      rintro e w4 ⟨t, rfl, hx0, hx1, hk, hc⟩
      have Ht := Lib.hid (show 0 ≤ t ∧ t < 10 from ⟨hx0, hx1 (by omega)⟩)
      have SS4 := Lib.hid hk.size
      have K4 := Lib.hid (K3.out.trans hk)
      have C4 := Lib.hid (hc)
      have O4 := Lib.hid (oe_keep O3.out hk (by have h0 := P0.out; have hs0 := SS1.out; have hs1 := LWE.out; have hs2 := HBE.out; have hs3 := SS2.out; have hs4 := SBR3.out; have hs5 := hbe.out; have hs6 := SS4.out; first | omega | (simp <;> omega)))
      clear hk hc hx0 hx1 K3 C3 O3
      by_cases h0 : t = 0
      · subst h0
        go_wp2_with fail
        (with_reducible refine (draw.pickIn (-1) 16 2 (by omega) (by omega) _ p a len cap C4.out #[.int .i64 (-1), .int .i64 16] rfl (by decide)).mono ?_)
        rintro e w5 ⟨p1, rfl, hx0, hx1, hk, hc⟩
        have Hp1 := Lib.hid (show -1 ≤ p1 ∧ p1 ≤ 16 from ⟨hx0, hx1⟩)
        have SS5 := Lib.hid hk.size
        have K5 := Lib.hid (K4.out.trans hk)
        have C5 := Lib.hid (hc)
        have O5 := Lib.hid (oe_keep O4.out hk (by have h0 := P0.out; have hs0 := SS1.out; have hs1 := LWE.out; have hs2 := HBE.out; have hs3 := SS2.out; have hs4 := SBR3.out; have hs5 := hbe.out; have hs6 := SS4.out; have hs7 := SS5.out; first | omega | (simp <;> omega)))
        clear hk hc hx0 hx1 K4 C4 O4
        go_wp2_with fail
        (with_reducible refine (draw.pickIn 0 4096 2 (by omega) (by omega) _ p a len cap C5.out #[.int .i64 0, .int .i64 4096] rfl (by decide)).mono ?_)
        rintro e w6 ⟨p2, rfl, hx0, hx1, hk, hc⟩
        have Hp2 := Lib.hid (show 0 ≤ p2 ∧ p2 ≤ 4096 from ⟨hx0, hx1⟩)
        have SS6 := Lib.hid hk.size
        have K6 := Lib.hid (K5.out.trans hk)
        have C6 := Lib.hid (hc)
        have O6 := Lib.hid (oe_keep O5.out hk (by have h0 := P0.out; have hs0 := SS1.out; have hs1 := LWE.out; have hs2 := HBE.out; have hs3 := SS2.out; have hs4 := SBR3.out; have hs5 := hbe.out; have hs6 := SS4.out; have hs7 := SS5.out; have hs8 := SS6.out; first | omega | (simp <;> omega)))
        clear hk hc hx0 hx1 K5 C5 O5
        have H00 := Lib.hid (bx.ow_none 5 .u8 w6 w6.heap.size w6.heap.size (Nat.le_refl _))
        go_wp2_with (at_builtin; refine list_push (S := senS) w6 rfl _ _ 40 rfl Try.underlying40 HZ.out.1 HZ.out.2.1 HZ.out.2.2.1 (by rw [HZ.out.2.2.2]; omega) rfl rfl rfl O6.out (el (⟨p1, 0, p2, 0⟩ : Sen)) H00.out (by have h0 := P0.out; have hs0 := SS1.out; have hs1 := LWE.out; have hs2 := HBE.out; have hs3 := SS2.out; have hs4 := SBR3.out; have hs5 := hbe.out; have hs6 := SS4.out; have hs7 := SS5.out; have hs8 := SS6.out; first | omega | (simp <;> omega)) (by have h0 := P0.out; have hs0 := SS1.out; have hs1 := LWE.out; have hs2 := HBE.out; have hs3 := SS2.out; have hs4 := SBR3.out; have hs5 := hbe.out; have hs6 := SS4.out; have hs7 := SS5.out; have hs8 := SS6.out; first | omega | (simp <;> omega)) (by have := HNB.out; omega) (by have h0 := P0.out; have hs0 := SS1.out; have hs1 := LWE.out; have hs2 := HBE.out; have hs3 := SS2.out; have hs4 := SBR3.out; have hs5 := hbe.out; have hs6 := SS4.out; have hs7 := SS5.out; have hs8 := SS6.out; first | omega | (simp <;> omega)) ?_; intro A3 c3 w7 ho hg; have BG := below_grown (Below.refl w.heap.size w6) hg (fun q hq => by have h0 := P0.out; have hs0 := SS1.out; have hs1 := LWE.out; have hs2 := HBE.out; have hs3 := SS2.out; have hs4 := SBR3.out; have hs5 := hbe.out; have hs6 := SS4.out; have hs7 := SS5.out; have hs8 := SS6.out; have := (O6.out.lo_ hq).1; omega) K6.out.size; have K7 := Lib.hid (drk.later K6.out (Nat.le_refl _) BG); have C7 := Lib.hid (drk.cur_later CW.out K6.out C6.out (Nat.le_refl _) BG); clear BG; have SS7 := Lib.hid hg.size; clear K6 C6 O6; have O7 := Lib.hid (show Oe senS w7 be w7.heap.size A3 (n + 1) c3 ((l ++ [(⟨p1, 0, p2, 0⟩ : Sen)]).map el) by rw [List.map_append]; exact ho); clear ho hg)
        clear H00
        go_ret
        exact ⟨_, _, _, _, rfl, ⟨by have h1 := hl.out.1; rw [List.length_append]; simp; omega, fun y hy => by rcases List.mem_append.1 hy with hy | hy; exact hl.out.2 y hy; obtain rfl : y = (⟨p1, 0, p2, 0⟩ : Sen) := (by simpa using hy); have h1 := Hp1.out; have h2 := Hp2.out; exact ⟨(by unfold Sm; dsimp only; omega), (by unfold Sm; dsimp only; omega), (by unfold Sm; dsimp only; omega), (by unfold Sm; dsimp only; omega)⟩⟩, (O7.out.up).down (by have h0 := P0.out; have hs0 := SS1.out; have hs1 := LWE.out; have hs2 := HBE.out; have hs3 := SS2.out; have hs4 := SBR3.out; have hs5 := hbe.out; have hs6 := SS4.out; have hs7 := SS5.out; have hs8 := SS6.out; have hs9 := SS7.out; first | omega | (simp <;> omega)), K7.out, C7.out⟩
      · have e0 : (t == 0) = false := by simpa using h0
        by_cases h1 : t = 1
        · subst h1
          go_upto_region 10 with fail
          go_upto_region 11 with (first
            | (at_builtin; refine list_catE w4 rfl _ _ 40 rfl Try.underlying40 HZ.out.1 HZ.out.2.1 HZ.out.2.2.1 (by rw [HZ.out.2.2.2]; omega) rfl rfl rfl (oe_rq O4.out) (by have := HNB.out; omega) ?_; intro A3 c3 w5 ho2 hb; have SS5 := Lib.hid hb.size; have K5 := Lib.hid (drk.later K4.out K4.out.size hb); have C5 := Lib.hid (drk.cur_below C4.out hb); have O5 := Lib.hid (O4.out.below hb); clear hb K4 C4 O4; have D5 := Lib.hid ho2; clear ho2)
            | (at_builtin; refine list_cat w5 rfl _ _ 40 rfl Try.underlying40 HZ.out.1 HZ.out.2.1 HZ.out.2.2.1 (by rw [HZ.out.2.2.2]; omega) rfl rfl rfl O5.out (oe_rq D5.out) (by have := HNB.out; omega) (by have h0 := P0.out; have hs0 := SS1.out; have hs1 := LWE.out; have hs2 := HBE.out; have hs3 := SS2.out; have hs4 := SBR3.out; have hs5 := hbe.out; have hs6 := SS4.out; have hs7 := SS5.out; first | omega | (simp <;> omega)) ?_; intro A4 c4 w6 ho hg; have BG := below_grown (Below.refl w.heap.size w5) hg (fun q hq => by have h0 := P0.out; have hs0 := SS1.out; have hs1 := LWE.out; have hs2 := HBE.out; have hs3 := SS2.out; have hs4 := SBR3.out; have hs5 := hbe.out; have hs6 := SS4.out; have hs7 := SS5.out; have := (O5.out.lo_ hq).1; omega) K5.out.size; have K6 := Lib.hid (drk.later K5.out (Nat.le_refl _) BG); have C6 := Lib.hid (drk.cur_later CW.out K5.out C5.out (Nat.le_refl _) BG); clear BG; have D6 := Lib.hid (oe_grown D5.out O5.out hg (by have h0 := P0.out; have hs0 := SS1.out; have hs1 := LWE.out; have hs2 := HBE.out; have hs3 := SS2.out; have hs4 := SBR3.out; have hs5 := hbe.out; have hs6 := SS4.out; have hs7 := SS5.out; first | omega | (simp <;> omega))); have SS6 := Lib.hid hg.size; clear K5 C5 O5 D5; have O6 := Lib.hid (show Oe senS w6 be w6.heap.size A4 (n + n) c4 ((l ++ l).map el) from ho); clear ho hg))
          go_wp2_with fail
          go_ret
          exact ⟨_, _, _, _, rfl, ⟨by have h1 := hl.out.1; rw [List.length_append]; omega, fun y hy => by rcases List.mem_append.1 hy with hy | hy <;> exact hl.out.2 y hy⟩, (O6.out.up).down (by have h0 := P0.out; have hs0 := SS1.out; have hs1 := LWE.out; have hs2 := HBE.out; have hs3 := SS2.out; have hs4 := SBR3.out; have hs5 := hbe.out; have hs6 := SS4.out; have hs7 := SS5.out; have hs8 := SS6.out; first | omega | (simp <;> omega)), K6.out, C6.out⟩
        · have e1 : (t == 1) = false := by simpa using h1
          go_wp2_with fail
          go_ret
          exact ⟨_, _, _, _, rfl, ⟨by have h1 := hl.out.1; omega, hl.out.2⟩, (O4.out.up).down (by have h0 := P0.out; have hs0 := SS1.out; have hs1 := LWE.out; have hs2 := HBE.out; have hs3 := SS2.out; have hs4 := SBR3.out; have hs5 := hbe.out; have hs6 := SS4.out; first | omega | (simp <;> omega)), K4.out, C4.out⟩
end Go.Proofs.Ytbkdbdhbmabgcaa.sn
end

section
namespace Go.Proofs.Ytbkdbdhbmabgcaa.sn
open Go.RowKit sl harn bx mrw drk stw draw
set_option linter.unusedVariables false
set_option linter.unusedSimpArgs false
open ux (Sen Fra)

def FdPost (w : World) (e : Ending) (w' : World) : Prop :=
  ∃ (f : Fra) (A : Option Addr) (n c : Nat) (t : Int) (lo hi : Nat), e = .returned (.tuple #[fr.fV f A n c, .int .i64 t]) ∧ n ≤ 32 ∧ (0 ≤ t ∧ t ≤ 101) ∧ w.heap.size ≤ lo ∧ Ow 5 .u8 w' lo hi A n c f.Body ∧ Below w.heap.size w w'
theorem fd_parts {w w' : World} {e : Ending} (h : FdPost w e w') : ∃ (f : Fra) (A : Option Addr) (n c : Nat) (t : Int) (lo hi : Nat), e = .returned (.tuple #[fr.fV f A n c, .int .i64 t]) ∧ n ≤ 32 ∧ (0 ≤ t ∧ t ≤ 101) ∧ w.heap.size ≤ lo ∧ Ow 5 .u8 w' lo hi A n c f.Body ∧ Below w.heap.size w w' := h
set_option maxRecDepth 100000 in
set_option maxHeartbeats 4000000 in
theorem drawFd (w : World) (a : Option Addr) (len cap : Nat) (hc : draw.Code w w.heap.size a len) :
    Calls Try.prog 14 #[.slice a len cap] w (FdPost w) := by
  have HC := Lib.hid hc
  clear hc
  go_enter Try.func14, Try.ntmps14
  go_upto_region 1 with fail
  obtain ⟨w0, hW⟩ : ∃ w0, w.alloc (.cells #[.int .i64 0, .int .i64 0, .int .i64 0, .int .i64 0, .int .i64 0, .bool false, .bool false, .int .i64 0, .slice none 0 0] 25) = w0 := ⟨_, rfl⟩
  rw [hW]
  have B0 := Lib.hid (show Below w.heap.size w w0 by rw [← hW]; exact (Below.refl _ _).alloc (by simp <;> omega) _)
  have Z0 := Lib.hid (show Bx 25 w0 (w.heap.size) #[.int .i64 0, .int .i64 0, .int .i64 0, .int .i64 0, .int .i64 0, .bool false, .bool false, .int .i64 0, .slice none 0 0] by
      rw [← hW]
      have hh := Bx.made 25 w #[.int .i64 0, .int .i64 0, .int .i64 0, .int .i64 0, .int .i64 0, .bool false, .bool false, .int .i64 0, .slice none 0 0]
      exact hh)
  clear hW
  have LTZ := Lib.hid Z0.out.lt
  go_wp2_with fail
  (with_reducible refine (draw.new _ a len cap (code_later HC.out B0.out)).mono ?_)
  rintro e wb ⟨rfl, hk, hs, hc⟩
  have HB := Lib.hid (keep_bel B0.out B0.out.size hk)
  obtain ⟨p, hp⟩ : ∃ p, w0.heap.size = p := ⟨_, rfl⟩
  have LP := Lib.hid (show w.heap.size ≤ p ∧ p < wb.heap.size ∧ w.heap.size < p by have h0 := B0.out.size; have hZ := Z0.out.lt; first | omega | (simp at hs ⊢ <;> omega))
  rw [hp] at hk hs hc ⊢
  have Z1 := Lib.hid (drk.bx_keep Z0.out hk (by have h1 := LP.out; omega))
  have P0 := Lib.hid hs
  have C1 := Lib.hid hc
  have CW := Lib.hid hc
  have K1 := Lib.hid (Keep.refl p wb)
  clear hk hs hc hp B0 Z0
  go_wp2_with fail
  (with_reducible refine (anyD _ p a len cap C1.out).mono ?_)
  rintro e w2 hp
  obtain ⟨f, Af, nf, cf, rfl, hs9, hn9, ho9, hk, hc⟩ := frm_parts hp
  clear hp
  have HSf := Lib.hid hs9
  have HNf := Lib.hid hn9
  have SS2 := Lib.hid hk.size
  have K2 := Lib.hid (K1.out.trans hk)
  have C2 := Lib.hid (hc)
  have Z2 := Lib.hid (drk.bx_keep Z1.out hk (by have hlP := LP.out; have h0 := P0.out; have hs0 := LTZ.out; have hs1 := SS2.out; first | omega | (simp <;> omega)))
  clear hk hc hs9 hn9 K1 C1 Z1
  have F2 := Lib.hid ho9
  clear ho9
  go_upto_region 3 with fail
  obtain ⟨bx, hbb⟩ : ∃ b, w2.heap.size = b := ⟨_, rfl⟩
  generalize hW : w2.alloc (.cells #[.int .i64 f.Kind, .int .i64 f.From, .int .i64 f.To, .int .i64 f.Seq, .int .i64 f.Fragment, .bool f.More, .bool f.Retry, .int .i64 f.Duration, .slice Af nf cf] 25) = w3
  have LX := Lib.hid (show wb.heap.size ≤ bx ∧ w.heap.size < bx by have h1 := K2.out.size; have h2Z := Z2.out.lt; have h3 := hbb; omega)
  have X3 := Lib.hid (show Bx 25 w3 bx #[.int .i64 f.Kind, .int .i64 f.From, .int .i64 f.To, .int .i64 f.Seq, .int .i64 f.Fragment, .bool f.More, .bool f.Retry, .int .i64 f.Duration, .slice Af nf cf] by rw [← hW, ← hbb]; exact Bx.made _ _ _)
  have hb : Below w2.heap.size w2 w3 := by rw [← hW]; exact below_box _ _
  (try rw [hbb])
  clear hW hbb
  have SS3 := Lib.hid hb.size
  have K3 := Lib.hid (drk.later K2.out K2.out.size hb)
  have C3 := Lib.hid (drk.cur_below C2.out hb)
  have Z3 := Lib.hid (Z2.out.below hb)
  clear hb K2 C2 Z2
  have LWX := Lib.hid X3.out.lt
  go_wp2_with fail
  (with_reducible refine (draw.pickIn 0 32 6 (by omega) (by omega) _ p a len cap C3.out #[.int .i64 0, .int .i64 1, .int .i64 5, .int .i64 16, .int .i64 17, .int .i64 32] rfl (by decide)).mono ?_)
  rintro e w4 ⟨v, rfl, hx0, hx1, hk, hc⟩
  have Hv := Lib.hid (show 0 ≤ v ∧ v ≤ 32 from ⟨hx0, hx1⟩)
  have SS4 := Lib.hid hk.size
  have K4 := Lib.hid (K3.out.trans hk)
  have C4 := Lib.hid (hc)
  have Z4 := Lib.hid (drk.bx_keep Z3.out hk (by have hlP := LP.out; have hlX := LX.out; have h0 := P0.out; have hs0 := LTZ.out; have hs1 := SS2.out; have hs2 := SS3.out; have hs3 := LWX.out; have hs4 := SS4.out; first | omega | (simp <;> omega)))
  have X4 := Lib.hid (drk.bx_keep X3.out hk (by have hlP := LP.out; have hlX := LX.out; have h0 := P0.out; have hs0 := LTZ.out; have hs1 := SS2.out; have hs2 := SS3.out; have hs3 := LWX.out; have hs4 := SS4.out; first | omega | (simp <;> omega)))
  clear hk hc hx0 hx1 K3 C3 Z3 X3
  go_wp2_with fail
  (with_reducible refine (draw.bytes v Hv.out.1 (by have := Hv.out.2; omega) _ p a len cap C4.out).mono ?_)
  rintro e w5 ⟨A, n, c, zs, rfl, hn, ho, hk, hc⟩
  have HN := Lib.hid (show n ≤ 32 by have := Hv.out; omega)
  clear hn
  have SS5 := Lib.hid hk.size
  have K5 := Lib.hid (K4.out.trans hk)
  have C5 := Lib.hid (hc)
  have Z5 := Lib.hid (drk.bx_keep Z4.out hk (by have hlP := LP.out; have hlX := LX.out; have h0 := P0.out; have hs0 := LTZ.out; have hs1 := SS2.out; have hs2 := SS3.out; have hs3 := LWX.out; have hs4 := SS4.out; have hs5 := SS5.out; first | omega | (simp <;> omega)))
  have X5 := Lib.hid (drk.bx_keep X4.out hk (by have hlP := LP.out; have hlX := LX.out; have h0 := P0.out; have hs0 := LTZ.out; have hs1 := SS2.out; have hs2 := SS3.out; have hs3 := LWX.out; have hs4 := SS4.out; have hs5 := SS5.out; first | omega | (simp <;> omega)))
  clear hk hc K4 C4 Z4 X4
  have R5 := Lib.hid ho
  clear ho
  have cX8 : w5.cell? ⟨bx, 8, none⟩ = some (.slice Af nf cf) := X5.out.cell 8
  have fX8 : w5.frozen? ⟨bx, 8, none⟩ = false := X5.out.free 8
  go_upto_region 4 with fail
  clear cX8 fX8
  have BB := Lib.hid (show Below wb.heap.size w5 (w5.setCell ⟨bx, 8, none⟩ (.slice A n c)) from (Below.refl _ _).setCell (p := ⟨bx, 8, none⟩) (by have hlP := LP.out; have hlX := LX.out; have h0 := P0.out; have hs0 := LTZ.out; have hs1 := SS2.out; have hs2 := SS3.out; have hs3 := LWX.out; have hs4 := SS4.out; have hs5 := SS5.out; (try simp only []); omega) _)
  have hWW : (w5.setCell ⟨bx, 8, none⟩ (.slice A n c)) = (w5.setCell ⟨bx, 8, none⟩ (.slice A n c)) := rfl
  obtain ⟨w6, hW⟩ : ∃ wy, (w5.setCell ⟨bx, 8, none⟩ (.slice A n c)) = wy := ⟨_, rfl⟩
  rw [hW]
  clear hWW
  have K6 := Lib.hid (drk.later K5.out (Nat.le_refl _) (hW ▸ BB.out))
  have C6 := Lib.hid (drk.cur_later CW.out K5.out C5.out (Nat.le_refl _) (hW ▸ BB.out))
  have Z6 := Lib.hid (show Bx 25 w6 (w.heap.size) #[.int .i64 0, .int .i64 0, .int .i64 0, .int .i64 0, .int .i64 0, .bool false, .bool false, .int .i64 0, .slice none 0 0] by rw [← hW]; exact (Z5.out.other (by have hlP := LP.out; have hlX := LX.out; have h0 := P0.out; have hs0 := LTZ.out; have hs1 := SS2.out; have hs2 := SS3.out; have hs3 := LWX.out; have hs4 := SS4.out; have hs5 := SS5.out; first | omega | (simp <;> omega)) _ _))
  have X6 := Lib.hid (show Bx 25 w6 (bx) #[.int .i64 f.Kind, .int .i64 f.From, .int .i64 f.To, .int .i64 f.Seq, .int .i64 f.Fragment, .bool f.More, .bool f.Retry, .int .i64 f.Duration, .slice A n c] by rw [← hW]; exact (X5.out.set 8 _))
  have R6 := Lib.hid (show Ow 5 .u8 w6 (w4.heap.size) (w5.heap.size) A n c zs by rw [← hW]; exact (R5.out.same (by simp [World.setCell]) fun b h1 h2 => by rw [Below.heap_setCell _ _ _ _ (by have hlP := LP.out; have hlX := LX.out; have h0 := P0.out; have hs0 := LTZ.out; have hs1 := SS2.out; have hs2 := SS3.out; have hs3 := LWX.out; have hs4 := SS4.out; have hs5 := SS5.out; first | omega | (simp <;> omega))]))
  clear hW BB K5 C5 Z5 X5 R5
  have SQ6 := Lib.hid X6.out.lt
  refine reg.region_free (stw.E3 (drk.Dr p a len cap) [(4, ⟨25, w.heap.size, #[.int .i64 f.Kind, .int .i64 f.From, .int .i64 f.To, .int .i64 f.Seq, .int .i64 f.Fragment, .bool f.More, .bool f.Retry, .int .i64 f.Duration, .slice A n c]⟩)]) 20 [(4, 16)] [some [], some [], some [], some [(1, 17), (2, 18)], some [(0, 16)], some [(3, 19)]] [(0, 16), (1, 17), (2, 18), (3, 19), (5, 3)]
    (fun w' => Cur w' p a len cap ∧ stw.KS [p, w.heap.size] wb w' ∧ Bx 25 w' (bx) #[.int .i64 f.Kind, .int .i64 f.From, .int .i64 f.To, .int .i64 f.Seq, .int .i64 f.Fragment, .bool f.More, .bool f.Retry, .int .i64 f.Duration, .slice A n c] ∧ Ow 5 .u8 w' (w4.heap.size) (w5.heap.size) A n c zs ∧ stw.Lies 25 (w.heap.size) 9 w' ∧ True)
    (stw.r3 (drk.Dr p a len cap) [(4, ⟨25, w.heap.size, #[.int .i64 f.Kind, .int .i64 f.From, .int .i64 f.To, .int .i64 f.Seq, .int .i64 f.Fragment, .bool f.More, .bool f.Retry, .int .i64 f.Duration, .slice A n c]⟩)] [stw.is3 (drk.Dr p a len cap) [(4, ⟨25, w.heap.size, #[.int .i64 f.Kind, .int .i64 f.From, .int .i64 f.To, .int .i64 f.Seq, .int .i64 f.Fragment, .bool f.More, .bool f.Retry, .int .i64 f.Duration, .slice A n c]⟩)] (.agg #[.int .i64 f.Kind, .int .i64 f.From, .int .i64 f.To, .int .i64 f.Seq, .int .i64 f.Fragment, .bool f.More, .bool f.Retry, .int .i64 f.Duration, .slice A n c]), stw.is3 (drk.Dr p a len cap) [(4, ⟨25, w.heap.size, #[.int .i64 f.Kind, .int .i64 f.From, .int .i64 f.To, .int .i64 f.Seq, .int .i64 f.Fragment, .bool f.More, .bool f.Retry, .int .i64 f.Duration, .slice A n c]⟩)] (.pointer (some ⟨p, 0, none⟩)), stw.blk3 (drk.Dr p a len cap) [(4, ⟨25, w.heap.size, #[.int .i64 f.Kind, .int .i64 f.From, .int .i64 f.To, .int .i64 f.Seq, .int .i64 f.Fragment, .bool f.More, .bool f.Retry, .int .i64 f.Duration, .slice A n c]⟩)] (fun b => b ≠ p) (fun h hb hX => drk.bx_keep hX h.1 hb) (fun N => .slice (some ⟨N, 0, none⟩) 7 7) 3 #[.int .i64 0, .int .i64 1, .int .i64 2, .int .i64 3, .int .i64 7, .int .i64 100, .int .i64 101], stw.val3 (drk.Dr p a len cap) [(4, ⟨25, w.heap.size, #[.int .i64 f.Kind, .int .i64 f.From, .int .i64 f.To, .int .i64 f.Seq, .int .i64 f.Fragment, .bool f.More, .bool f.Retry, .int .i64 f.Duration, .slice A n c]⟩)] (fun v => ∃ x : Int, v = .int .i64 x ∧ 0 ≤ x ∧ x ≤ 101), stw.val3 (drk.Dr p a len cap) [(4, ⟨25, w.heap.size, #[.int .i64 f.Kind, .int .i64 f.From, .int .i64 f.To, .int .i64 f.Seq, .int .i64 f.Fragment, .bool f.More, .bool f.Retry, .int .i64 f.Duration, .slice A n c]⟩)] fun _ => True, stw.val3 (drk.Dr p a len cap) [(4, ⟨25, w.heap.size, #[.int .i64 f.Kind, .int .i64 f.From, .int .i64 f.To, .int .i64 f.Seq, .int .i64 f.Fragment, .bool f.More, .bool f.Retry, .int .i64 f.Duration, .slice A n c]⟩)] (fun v => ∃ x : Int, v = .int .i64 x ∧ 0 ≤ x ∧ x ≤ 101)])
    (by kernel_rfl) (by kernel_rfl) rfl
    (fun i w1 w2 hc he => he.cases (fun hb => ⟨hb.2, hc.2.1.trans (stw.KS.keep hb.1 (by simp)), drk.bx_keep hc.2.2.1 hb.1 (by have hlP := LP.out; have hlX := LX.out; have h0 := P0.out; have hs0 := LTZ.out; have hs1 := SS2.out; have hs2 := SS3.out; have hs3 := LWX.out; have hs4 := SS4.out; have hs5 := SS5.out; have hs6 := SQ6.out; first | omega | (simp <;> omega)), draw.ow_keep hc.2.2.2.1 hb.1 (by have hlP := LP.out; have hlX := LX.out; have h0 := P0.out; have hs0 := LTZ.out; have hs1 := SS2.out; have hs2 := SS3.out; have hs3 := LWX.out; have hs4 := SS4.out; have hs5 := SS5.out; have hs6 := SQ6.out; first | omega | (simp <;> omega)), (hc.2.2.2.2.1).same (hb.1.block _ (hc.2.2.2.2.1).lt (by have hlP := LP.out; have hlX := LX.out; have h0 := P0.out; have hs0 := LTZ.out; have hs1 := SS2.out; have hs2 := SS3.out; have hs3 := LWX.out; have hs4 := SS4.out; have hs5 := SS5.out; have hs6 := SQ6.out; first | omega | (simp <;> omega))), trivial⟩) (fun x hx hp => by
      simp only [List.mem_cons, List.not_mem_nil, or_false] at hx
      rcases hx with rfl
      · have hp : stw.Put 25 w1 (w.heap.size) #[.int .i64 f.Kind, .int .i64 f.From, .int .i64 f.To, .int .i64 f.Seq, .int .i64 f.Fragment, .bool f.More, .bool f.Retry, .int .i64 f.Duration, .slice A n c] w2 := hp; exact ⟨stw.cur_put HC.out hc.1 hp (by have hlP := LP.out; have hlX := LX.out; have h0 := P0.out; have hs0 := LTZ.out; have hs1 := SS2.out; have hs2 := SS3.out; have hs3 := LWX.out; have hs4 := SS4.out; have hs5 := SS5.out; have hs6 := SQ6.out; first | omega | (simp <;> omega)) (by have hlP := LP.out; have hlX := LX.out; have h0 := P0.out; have hs0 := LTZ.out; have hs1 := SS2.out; have hs2 := SS3.out; have hs3 := LWX.out; have hs4 := SS4.out; have hs5 := SS5.out; have hs6 := SQ6.out; first | omega | (simp <;> omega)), hc.2.1.trans (stw.KS.put hp (by simp)), hp.keep hc.2.2.1 (by have hlP := LP.out; have hlX := LX.out; have h0 := P0.out; have hs0 := LTZ.out; have hs1 := SS2.out; have hs2 := SS3.out; have hs3 := LWX.out; have hs4 := SS4.out; have hs5 := SS5.out; have hs6 := SQ6.out; first | omega | (simp <;> omega)), (hc.2.2.2.1).same hp.below.size fun b h1 h2 => hp.other b (by have hlP := LP.out; have hlX := LX.out; have h0 := P0.out; have hs0 := LTZ.out; have hs1 := SS2.out; have hs2 := SS3.out; have hs3 := LWX.out; have hs4 := SS4.out; have hs5 := SS5.out; have hs6 := SQ6.out; first | omega | (simp <;> omega)), (hc.2.2.2.2.1).put hp (fun e => ⟨rfl, rfl⟩), trivial⟩))
    (stw.r3_keep (fun b => b ≠ p) (fun h hb hX => drk.bx_keep hX h.1 hb) (by intro x hx; simp only [List.mem_cons, List.not_mem_nil, or_false] at hx; rcases hx with rfl <;> (have hlP := LP.out; have hlX := LX.out; have h0 := P0.out; have hs0 := LTZ.out; have hs1 := SS2.out; have hs2 := SS3.out; have hs3 := LWX.out; have hs4 := SS4.out; have hs5 := SS5.out; have hs6 := SQ6.out; dsimp only; omega)) (by intro x hx y hy hxy; simp only [List.mem_cons, List.not_mem_nil, or_false] at hx hy; rcases hx with rfl <;> rcases hy with rfl <;> first | exact absurd rfl hxy | (have hlP := LP.out; have hlX := LX.out; have h0 := P0.out; have hs0 := LTZ.out; have hs1 := SS2.out; have hs2 := SS3.out; have hs3 := LWX.out; have hs4 := SS4.out; have hs5 := SS5.out; have hs6 := SQ6.out; dsimp only; omega)) _) (⟨show Cur w6.drew p a len cap from C6.out, (stw.KS.keep K6.out (by simp)).trans (stw.KS.keep (Keep.drew (Keep.refl p _)) (by simp)), X6.out.same rfl, own.ow_drew R6.out, (stw.Lies.of Z6.out).same rfl, trivial⟩) (by kernel_rfl) ⟨?_, ?_, ?_, ?_, ?_, ?_, trivial⟩ ?_
  · refine fun w8 hc  K hK => ?_
    (try simp only [Act.put, List.setIfInBounds_toArray, List.set_cons_zero, List.set_cons_succ])
    rw [if_pos (by rfl)]
    refine stw.wp_load_bx 25 _ rfl (bx) rfl 25 _ hc.2.2.1 Try.underlying25 rfl fr.szFra ?_
    exact hK _ _ (stw.r3_ne rfl rfl) (stw.e3_ne rfl (stw.dr_same hc.1))
  · refine fun w8 hc  K hK => ?_
    (try simp only [Act.put, List.setIfInBounds_toArray, List.set_cons_zero, List.set_cons_succ])
    go_simp
    exact hK (.pointer (some ⟨p, 0, none⟩)) _ (stw.r3_ne rfl rfl) (stw.e3_ne rfl (stw.dr_same hc.1))
  · refine fun w8 hc  K hK => ?_
    (try simp only [Act.put, List.setIfInBounds_toArray, List.set_cons_zero, List.set_cons_succ])
    have hpl := hc.1.lt
    have hl0 := (hc.2.2.2.2.1).lt
    go_simp
    exact hK (.slice (some ⟨w8.heap.size, 0, none⟩) 7 7) _ (stw.r3_ne rfl ⟨w8.heap.size, rfl, by omega, (by intro x hx; simp only [List.mem_cons, List.not_mem_nil, or_false] at hx; rcases hx with rfl <;> (dsimp only; omega)), Bx.made _ _ _⟩) (stw.e3_ne rfl (stw.dr_below hc.1 (below_box _ _)))
  · refine fun w8 hc v1 h1 v2 h2 K hK => ?_
    have h1 := stw.r3_out rfl h1
    obtain rfl : v1 = .pointer (some ⟨p, 0, none⟩) := h1
    have h2 := stw.r3_out rfl h2
    obtain ⟨N, rfl, hN, hNt, hXN⟩ := h2
    (try simp only [Act.put, List.setIfInBounds_toArray, List.set_cons_zero, List.set_cons_succ])
    go_simp
    (with_reducible refine (stw.pickAt 0 101 7 (by omega) (by omega) _ p N a len cap #[.int .i64 0, .int .i64 1, .int .i64 2, .int .i64 3, .int .i64 7, .int .i64 100, .int .i64 101] 3 hXN hN rfl (by decide) hc.1).mono ?_)
    rintro e w3 ⟨x, rfl, h1, h2, hk, hcc⟩
    exact hK (.int .i64 x) _ (stw.r3_ne rfl ⟨x, rfl, h1, h2⟩) (stw.e3_ne rfl ⟨hk, hcc⟩)
  · refine fun w8 hc v0 h0 K hK => ?_
    have h0 := stw.r3_out rfl h0
    obtain rfl : v0 = .agg #[.int .i64 f.Kind, .int .i64 f.From, .int .i64 f.To, .int .i64 f.Seq, .int .i64 f.Fragment, .bool f.More, .bool f.Retry, .int .i64 f.Duration, .slice A n c] := h0
    (try simp only [Act.put, List.setIfInBounds_toArray, List.set_cons_zero, List.set_cons_succ])
    obtain ⟨cur, hcur, hXc⟩ := hc.2.2.2.2.1
    refine stw.step_store rfl 25 _ _ rfl (w.heap.size) #[.int .i64 f.Kind, .int .i64 f.From, .int .i64 f.To, .int .i64 f.Seq, .int .i64 f.Fragment, .bool f.More, .bool f.Retry, .int .i64 f.Duration, .slice A n c] rfl rfl 25 _ hXc (by rw [hcur]; rfl) fr.szFra (fr.oneFra _ _ _ _ _ _ _ _ _ _ _) ?_
    intro wz hz
    exact hK undef _ (stw.r3_put rfl hz.box) (stw.e3_put rfl hz)
  · refine fun w8 hc v3 h3 K hK => ?_
    have h3 := stw.r3_out rfl h3
    obtain ⟨t1, rfl, hx0, hx1⟩ := h3
    (try simp only [Act.put, List.setIfInBounds_toArray, List.set_cons_zero, List.set_cons_succ])
    go_simp
    exact hK (.int .i64 t1) _ (stw.r3_ne rfl ⟨t1, rfl, hx0, hx1⟩) (stw.e3_ne rfl (stw.dr_same hc.1))
  refine fun w9 hc v0 h0 v1 h1 v2 h2 v3 h3 v5 h5 => ?_
  have h0 := stw.r3_out rfl h0
  obtain rfl : v0 = .agg #[.int .i64 f.Kind, .int .i64 f.From, .int .i64 f.To, .int .i64 f.Seq, .int .i64 f.Fragment, .bool f.More, .bool f.Retry, .int .i64 f.Duration, .slice A n c] := h0
  have h1 := stw.r3_out rfl h1
  obtain rfl : v1 = .pointer (some ⟨p, 0, none⟩) := h1
  have h2 := stw.r3_out rfl h2
  obtain ⟨N, rfl, hN, hNt, hXN⟩ := h2
  have h3 := stw.r3_out rfl h3
  obtain ⟨t1, rfl, hx0, hx1⟩ := h3
  have h5 := stw.r3_out rfl h5
  obtain ⟨t, rfl, hx0, hx1⟩ := h5
  (try simp only [reg.Obs])
  intro hrf
  have hrf2 := hrf
  clear hrf
  have g4 := stw.r3_got rfl (hrf2 (4, 16) (by simp) rfl)
  clear hrf2
  (try simp only [Act.put, List.setIfInBounds_toArray, List.set_cons_zero, List.set_cons_succ])
  have C7 := Lib.hid hc.1
  have H7 := Lib.hid hc.2.1
  have X7 := Lib.hid hc.2.2.1
  have R7 := Lib.hid hc.2.2.2.1
  have Z7 := Lib.hid (show Bx 25 w9 (w.heap.size) #[.int .i64 f.Kind, .int .i64 f.From, .int .i64 f.To, .int .i64 f.Seq, .int .i64 f.Fragment, .bool f.More, .bool f.Retry, .int .i64 f.Duration, .slice A n c] from g4)
  clear hc g4 K6 C6 Z6 X6 R6
  have HT := Lib.hid (And.intro hx0 hx1)
  clear hx0 hx1 hN hNt hXN
  go_wp2_with fail
  (try simp only [Exit.inBlock, Exit.then])
  refine bodyPost_ret (v := .tuple #[.agg #[.int .i64 f.Kind, .int .i64 f.From, .int .i64 f.To, .int .i64 f.Seq, .int .i64 f.Fragment, .bool f.More, .bool f.Retry, .int .i64 f.Duration, .slice A n c], .int .i64 t]) ?_ rfl ?_
  · rw [results_cell_tmp1 rfl]
    exact stw.back2 Z7.out Try.underlying25 rfl fr.szFra _
  · exact ⟨⟨f.Kind, f.From, f.To, f.Seq, f.Fragment, f.More, f.Retry, f.Duration, zs⟩, A, n, c, t, _, _, rfl, HN.out, HT.out, (by have hlP := LP.out; have hlX := LX.out; have h0 := P0.out; have hs0 := LTZ.out; have hs1 := SS2.out; have hs2 := SS3.out; have hs3 := LWX.out; have hs4 := SS4.out; have hs5 := SS5.out; have hs6 := SQ6.out; have h9 := HB.out.size; omega), R7.out, HB.out.trans (H7.out.below (by have h1 := LP.out; intro x hx; simp only [List.mem_cons, List.not_mem_nil, or_false] at hx; rcases hx with rfl | rfl <;> omega) HB.out.size)⟩
end Go.Proofs.Ytbkdbdhbmabgcaa.sn
end

section
namespace Go.Proofs.Ytbkdbdhbmabgcaa.fr
open Go.RowKit sl harn bx mrw drk stw rng
set_option linter.unusedVariables false
set_option linter.unusedSimpArgs false

theorem cd_le {b t q : Int} (ht : 1 ≤ t) (hq : (b + t - 1) / t = q) : q ≤ 16 ↔ b ≤ t * 16 := by
  have h := Int.ediv_lt_iff_lt_mul (a := b + t - 1) (b := 17) (c := t) (by omega)
  rw [hq] at h
  omega
theorem cd_nn {b t q : Int} (hb : 0 ≤ b) (ht : 1 ≤ t) (hq : (b + t - 1) / t = q) : 0 ≤ q := by
  rw [← hq]; exact Int.ediv_nonneg (by omega) (by omega)
theorem cd_hi {b t q : Int} (hb : b ≤ 1000000000000) (ht : 1 ≤ t) (hq : (b + t - 1) / t = q) : q ≤ 1000000000000 := by
  have h := Int.ediv_lt_iff_lt_mul (a := b + t - 1) (b := 1000000000001) (c := t) (by omega)
  rw [hq] at h
  have h2 : b + t - 1 < 1000000000001 * t := by omega
  omega
theorem fcnt_no {b t : Int} (h : ¬ ((1 ≤ t ∧ t ≤ 100) ∧ (0 ≤ b ∧ b ≤ t * 16))) : fcnt b t = 0 := if_neg h
theorem fcnt_yes {b t q : Int} (h : (1 ≤ t ∧ t ≤ 100) ∧ (0 ≤ b ∧ b ≤ t * 16)) (hq : (b + t - 1) / t = q) : fcnt b t = if 1 < q then q else 1 := by unfold fcnt; rw [if_pos h, hq]
theorem fcnt_rng (b t : Int) : 0 ≤ fcnt b t ∧ fcnt b t ≤ 16 := by
  by_cases h : (1 ≤ t ∧ t ≤ 100) ∧ (0 ≤ b ∧ b ≤ t * 16)
  · have h1 := (cd_le h.1.1 (b := b) (t := t) rfl).2 h.2.2
    rw [fcnt_yes h rfl]; split <;> omega
  · rw [fcnt_no h]; omega
theorem implCd (n c q : Int) (h : (0 ≤ n ∧ n ≤ 1000000000000) ∧ (1 ≤ c ∧ c ≤ 100)) (hq : (n + c - 1) / c = q) (w : World) :
    Calls Try.prog 56 #[.int .i64 n, .int .i64 c] w fun e w' => e = .returned (.int .i64 q) ∧ w = w' := by
  have H1 := Lib.hid h.1
  have H2 := Lib.hid (show 1 ≤ c ∧ c ≤ 1000000000000 by omega)
  have HQ := Lib.hid hq
  obtain ⟨⟨h1, h2⟩, h3, h4⟩ := h
  clear hq
  go_enter Try.func56, Try.ntmps56
  go_wp2_with fail
  (with_reducible refine (inRange_yes n 0 1000000000000 H1.out _).mono ?_)
  rintro e w1 ⟨rfl, rfl⟩
  go_wp2_with fail
  (with_reducible refine (inRange_yes c 1 1000000000000 H2.out _).mono ?_)
  rintro e w1 ⟨rfl, rfl⟩
  go_wp2_with fail
  go_ret
  exact ⟨by rw [← HQ.out]; rfl, rfl⟩
theorem specCd (n c q : Int) (h : (0 ≤ n ∧ n ≤ 1000000000000) ∧ (1 ≤ c ∧ c ≤ 100)) (hq : (n + c - 1) / c = q) (w : World) :
    Calls Try.prog 59 #[.int .i64 n, .int .i64 c] w fun e w' => e = .returned (.int .i64 q) ∧ w = w' := by
  have H1 := Lib.hid h.1
  have H2 := Lib.hid (show 1 ≤ c ∧ c ≤ 1000000000000 by omega)
  have HQ := Lib.hid hq
  obtain ⟨⟨h1, h2⟩, h3, h4⟩ := h
  clear hq
  go_enter Try.func59, Try.ntmps59
  go_wp2_with fail
  (with_reducible refine (l1In_yes n 0 1000000000000 H1.out _).mono ?_)
  rintro e w1 ⟨rfl, rfl⟩
  go_wp2_with fail
  (with_reducible refine (l1In_yes c 1 1000000000000 H2.out _).mono ?_)
  rintro e w1 ⟨rfl, rfl⟩
  go_wp2_with fail
  go_ret
  exact ⟨by rw [← HQ.out]; rfl, rfl⟩
theorem specCd0 (n c : Int) (h : ¬ (0 ≤ n ∧ n ≤ 1000000000000)) (w : World) :
    Calls Try.prog 59 #[.int .i64 n, .int .i64 c] w fun e w' => e = .returned (.int .i64 0) ∧ w = w' := by
  have H := Lib.hid h
  clear h
  go_enter Try.func59, Try.ntmps59
  go_wp2_with fail
  (with_reducible refine (l1In_no n 0 1000000000000 H.out _).mono ?_)
  rintro e w1 ⟨rfl, rfl⟩
  go_wp2_with fail
  go_ret
  exact ⟨rfl, rfl⟩
set_option maxRecDepth 100000 in
set_option maxHeartbeats 4000000 in
theorem implFc (b t : Int) (w : World) :
    Calls Try.prog 16 #[.int .i64 b, .int .i64 t] w (NPost (fcnt b t) w) := by
  obtain ⟨v, hv⟩ : ∃ v, fcnt b t = v := ⟨_, rfl⟩
  have HV := Lib.hid hv
  rw [hv]
  clear hv
  by_cases ht : 1 ≤ t ∧ t ≤ 100
  · have HT := Lib.hid ht
    obtain ⟨ht1, ht2⟩ := ht
    by_cases hb : 0 ≤ b ∧ b ≤ t * 16
    · have HB := Lib.hid hb
      obtain ⟨hb1, hb2⟩ := hb
      obtain ⟨q, hq⟩ : ∃ q, (b + t - 1) / t = q := ⟨_, rfl⟩
      have HQ := Lib.hid hq
      have hq1 := (cd_le ht1 hq).2 hb2
      have hq0 := cd_nn hb1 ht1 hq
      have HE := Lib.hid (show v = if 1 < q then q else 1 by rw [← HV.out]; exact fcnt_yes ⟨HT.out, HB.out⟩ hq)
      clear hq
      go_enter Try.func16, Try.ntmps16
      go_wp2_with fail
      (with_reducible refine (inRange_yes t 1 100 HT.out _).mono ?_)
      rintro e w1 ⟨rfl, rfl⟩
      go_wp2_with fail
      (with_reducible refine (inRange_yes b 0 (t * 16) HB.out _).mono ?_)
      rintro e w1 ⟨rfl, rfl⟩
      go_wp2_with fail
      (with_reducible refine (implCd b t q ⟨⟨hb1, by omega⟩, HT.out⟩ HQ.out _).mono ?_)
      rintro e w1 ⟨rfl, rfl⟩
      go_wp2_with fail
      (with_reducible refine (implMax 1 q v HE.out _).mono ?_)
      rintro e w2 ⟨rfl, hb⟩
      have B := Lib.hid hb
      clear hb
      go_wp2_with fail
      go_ret
      exact ⟨rfl, B.out⟩
    · have HB := Lib.hid hb
      have HE := Lib.hid (show v = 0 by rw [← HV.out]; exact fcnt_no fun h => hb h.2)
      clear hb
      go_enter Try.func16, Try.ntmps16
      go_wp2_with fail
      (with_reducible refine (inRange_yes t 1 100 HT.out _).mono ?_)
      rintro e w1 ⟨rfl, rfl⟩
      go_wp2_with fail
      (with_reducible refine (inRange_no b 0 (t * 16) HB.out _).mono ?_)
      rintro e w1 ⟨rfl, rfl⟩
      go_wp2_with fail
      go_ret
      exact ⟨by rw [HE.out]; rfl, Below.refl _ _⟩
  · have HT := Lib.hid ht
    have HE := Lib.hid (show v = 0 by rw [← HV.out]; exact fcnt_no fun h => ht h.1)
    clear ht
    go_enter Try.func16, Try.ntmps16
    go_wp2_with fail
    (with_reducible refine (inRange_no t 1 100 HT.out _).mono ?_)
    rintro e w1 ⟨rfl, rfl⟩
    go_wp2_with fail
    go_ret
    exact ⟨by rw [HE.out]; rfl, Below.refl _ _⟩
set_option maxRecDepth 100000 in
set_option maxHeartbeats 4000000 in
theorem specFc (b t : Int) (w : World) :
    Calls Try.prog 17 #[.int .i64 b, .int .i64 t] w (NPost (fcnt b t) w) := by
  obtain ⟨v, hv⟩ : ∃ v, fcnt b t = v := ⟨_, rfl⟩
  have HV := Lib.hid hv
  rw [hv]
  clear hv
  by_cases hneg : b < 0
  · have HE := Lib.hid (show v = 0 by rw [← HV.out]; exact fcnt_no fun h => by omega)
    go_enter Try.func17, Try.ntmps17
    go_wp2_with fail
    go_ret
    exact ⟨by rw [HE.out]; rfl, Below.refl _ _⟩
  · have hb1 : 0 ≤ b := by omega
    by_cases ht : 1 ≤ t ∧ t ≤ 100
    · have HT := Lib.hid ht
      obtain ⟨ht1, ht2⟩ := ht
      by_cases hb3 : b ≤ 1000000000000
      · obtain ⟨q, hq⟩ : ∃ q, (b + t - 1) / t = q := ⟨_, rfl⟩
        have HQ := Lib.hid hq
        have hqq := cd_le ht1 hq
        have hq0 := cd_nn hb1 ht1 hq
        have hq9 := cd_hi hb3 ht1 hq
        have HY := Lib.hid (fun h : b ≤ t * 16 => (fcnt_yes ⟨HT.out, hb1, h⟩ hq : fcnt b t = if 1 < q then q else 1))
        clear hq
        obtain ⟨m, hm⟩ : ∃ m, (if 1 < q then q else 1) = m := ⟨_, rfl⟩
        have HM := Lib.hid hm
        have hm1 : 1 ≤ m ∧ (m ≤ 16 ↔ b ≤ t * 16) := by rw [← hm]; split <;> omega
        clear hm hqq
        obtain ⟨hm1, hm2⟩ := hm1
        have HM2 := Lib.hid hm2
        by_cases hg : m ≤ 16
        · have HE := Lib.hid (show v = m by rw [← HV.out, HY.out (HM2.out.1 hg)]; exact HM.out)
          clear hm2
          go_enter Try.func17, Try.ntmps17
          go_wp2_with fail
          (with_reducible refine (l1In_yes t 1 100 HT.out _).mono ?_)
          rintro e w1 ⟨rfl, rfl⟩
          go_wp2_with fail
          (with_reducible refine (specCd b t q ⟨⟨hb1, hb3⟩, HT.out⟩ HQ.out _).mono ?_)
          rintro e w1 ⟨rfl, rfl⟩
          go_wp2_with fail
          (with_reducible refine (specMax 1 q m HM.out.symm _).mono ?_)
          rintro e w1 ⟨rfl, rfl⟩
          go_wp2_with fail
          go_ret
          exact ⟨by rw [HE.out]; rfl, Below.refl _ _⟩
        · have HE := Lib.hid (show v = 0 by rw [← HV.out]; exact fcnt_no fun h => hg (HM2.out.2 h.2.2))
          clear hm2
          go_enter Try.func17, Try.ntmps17
          go_wp2_with fail
          (with_reducible refine (l1In_yes t 1 100 HT.out _).mono ?_)
          rintro e w1 ⟨rfl, rfl⟩
          go_wp2_with fail
          (with_reducible refine (specCd b t q ⟨⟨hb1, hb3⟩, HT.out⟩ HQ.out _).mono ?_)
          rintro e w1 ⟨rfl, rfl⟩
          go_wp2_with fail
          (with_reducible refine (specMax 1 q m HM.out.symm _).mono ?_)
          rintro e w1 ⟨rfl, rfl⟩
          go_wp2_with fail
          go_ret
          exact ⟨by rw [HE.out]; rfl, Below.refl _ _⟩
      · have HE := Lib.hid (show v = 0 by rw [← HV.out]; exact fcnt_no fun h => by omega)
        go_enter Try.func17, Try.ntmps17
        go_wp2_with fail
        (with_reducible refine (l1In_yes t 1 100 HT.out _).mono ?_)
        rintro e w1 ⟨rfl, rfl⟩
        go_wp2_with fail
        (with_reducible refine (specCd0 b t (by omega) _).mono ?_)
        rintro e w1 ⟨rfl, rfl⟩
        go_wp2_with fail
        (with_reducible refine (specMax 1 0 1 rfl _).mono ?_)
        rintro e w1 ⟨rfl, rfl⟩
        go_wp2_with fail
        go_ret
        exact ⟨by rw [HE.out]; rfl, Below.refl _ _⟩
    · have HT := Lib.hid ht
      have HE := Lib.hid (show v = 0 by rw [← HV.out]; exact fcnt_no fun h => ht h.1)
      clear ht
      go_enter Try.func17, Try.ntmps17
      go_wp2_with fail
      (with_reducible refine (l1In_no t 1 100 HT.out _).mono ?_)
      rintro e w1 ⟨rfl, rfl⟩
      go_wp2_with fail
      go_ret
      exact ⟨by rw [HE.out]; rfl, Below.refl _ _⟩
end Go.Proofs.Ytbkdbdhbmabgcaa.fr
end

section
namespace Go.Proofs.Ytbkdbdhbmabgcaa.fr
open Go.RowKit sl harn bx mrw drk stw rng
set_option linter.unusedVariables false
set_option linter.unusedSimpArgs false
open ux (Rea Fra rea fra)

/-- What hands back a slice of frames. -/
def FsPost (l : List Fra) (w : World) (e : Ending) (w' : World) : Prop := ∃ A n cap es, e = .returned (.slice A n cap) ∧ es.map (fun e : El Fra => e.x) = l ∧ Oe fraS w' w.heap.size w'.heap.size A n cap es ∧ Below w.heap.size w w'
theorem fs_parts {l : List Fra} {w w' : World} {e : Ending} (h : FsPost l w e w') : ∃ A n cap es, e = .returned (.slice A n cap) ∧ es.map (fun e : El Fra => e.x) = l ∧ Oe fraS w' w.heap.size w'.heap.size A n cap es ∧ Below w.heap.size w w' := h
theorem fcnt_pos {b t : Int} (h : 0 < fcnt b t) : (1 ≤ t ∧ t ≤ 100) ∧ (0 ≤ b ∧ b ≤ t * 16) := by
  by_cases hh : (1 ≤ t ∧ t ≤ 100) ∧ (0 ≤ b ∧ b ≤ t * 16)
  · exact hh
  · rw [fcnt_no hh] at h; omega
theorem nat_mul (k t : Nat) : ((k * t : Nat) : Int) = (k : Int) * (t : Int) := by simp
theorem frag_le {n tn k : Nat} {cc : Int} (h : fcnt (n : Int) (tn : Int) = cc) (hk : (k : Int) < cc) : k * tn ≤ n ∧ k * tn ≤ 1500 := by
  have hp := fcnt_pos (b := n) (t := tn) (by rw [h]; omega)
  have hr := fcnt_rng n tn
  rw [h] at hr
  have hb : k * tn ≤ 15 * 100 := Nat.mul_le_mul (by omega) (by omega)
  refine ⟨?_, by omega⟩
  rw [fcnt_yes hp rfl] at h
  split at h
  · have h1 : ((n : Int) + tn - 1) / tn * tn ≤ (n : Int) + tn - 1 := Int.ediv_mul_le _ (by omega)
    have h2 : ((k : Int) + 1) * tn ≤ ((n : Int) + tn - 1) / tn * tn := Int.mul_le_mul_of_nonneg_right (by omega) (by omega)
    rw [Int.add_mul, Int.one_mul] at h2
    have h3 := nat_mul k tn
    omega
  · have : k = 0 := by omega
    subst this; omega
theorem range_snoc {α : Type} (g : Nat → α) (k : Nat) : (List.range (k + 1)).map g = (List.range k).map g ++ [g k] := by rw [List.range_succ, List.map_append]; rfl
theorem frag_body {f : Fra} {tn k s m n : Nat} {cc : Int} (hs : k * tn = s) (hn : f.Body.length = n) (hm : min (s + tn) n = m) : (frag f (tn : Int) cc k).Body = (f.Body.drop s).take (m - s) := by
  unfold frag
  simp only [Int.toNat_natCast]
  rw [hs, hn, hm]
theorem wp_slice_lh {P : Program} {o : Oper} {a : Act} {w : World} {K : Act → World → Prop} {Q : Exit → Act → World → Prop} (t : TypeId) (x y z : Operand) (ho : o.op = .slice t x (some y) (some z) none) (v yv zv r : Value) (hx : a.eval x = v) (hy : a.eval y = yv) (hz : a.eval z = zv)
    (hr : ∀ W, (Instr.sliceAt t v (some yv) (some zv) none).run P W = .ok r W) (hK : K (a.put o.dst r) w) : Oper.wp P o a w K Q := by
  unfold Oper.wp execOp
  simp only [ho, Option.map_some, Option.map_none, hx, hy, hz, Sem.run_bind, hr, Result.andThen_ok, Sem.run_pure]
  exact hK
theorem slice_mid {P : Program} (t E : TypeId) (i0 : TypeInfo) (hu : P.underlying t = some (.slice E)) (hi : P.info? E = some i0) (hs : i0.size = 1) (A : Option Addr) (n cap i j : Nat) (hij : i ≤ j) (hj : j ≤ cap) :
    ∃ A', (i < j → A' = A.map (·.add i)) ∧ ∀ W, (Instr.slice t (.slice A n cap) (some (.int .i64 i)) (some (.int .i64 j)) none).run P W = .ok (.slice A' (j - i) (cap - i)) W := by
  refine ⟨if cap = i then A else A.map (·.add (i * 1)), fun h => ?_, fun W => ?_⟩
  · rw [if_neg (by omega), Nat.mul_one]
  · have hj2 : (i : Int) ≤ j := by omega
    have hj3 : (j : Int) ≤ cap := by omega
    simp [Instr.slice, run_underlying hu, Instr.sliceBounds, Instr.sliceBound, sizeOf, typeInfo, hi, hs, go_sem]
    split <;> (try split) <;> (try rfl) <;> (try omega) <;> simp_all <;> omega
theorem sumT_lec {α : Type} (g : α → Nat) (B : Nat) : ∀ l : List α, (∀ x ∈ l, g x ≤ B) → ux.sumT g l ≤ l.length * B
  | [], _ => by simp [ux.sumT]
  | x :: r, h => by
    have h1 := h x List.mem_cons_self
    have h2 := sumT_lec g B r fun y hy => h y (List.mem_cons_of_mem _ hy)
    rw [ux.sumT_cons, List.length_cons, Nat.add_mul, Nat.one_mul]; omega
theorem frs_sz {f : Fra} {t : Int} (h : ux.fra.sz f ≤ 1048576) : ux.rowFra.sz (frs f t) ≤ 67108864 := by
  have h0 : ux.fra.sz f = f.Body.length := rfl
  have hr := fcnt_rng f.Body.length t
  have hl : (frs f t).length ≤ 16 := by unfold frs; rw [List.length_map, List.length_range]; omega
  have hs := sumT_lec ux.fra.sz 1048576 (frs f t) fun x hx => by
    unfold frs at hx
    obtain ⟨i, _, rfl⟩ := List.mem_map.1 hx
    show ((f.Body.drop _).take _).length ≤ 1048576
    rw [List.length_take, List.length_drop]; omega
  have hm : (frs f t).length * 1048576 ≤ 16 * 1048576 := Nat.mul_le_mul_right _ hl
  show (frs f t).length + ux.sumT ux.fra.sz (frs f t) ≤ 67108864
  omega
set_option maxRecDepth 100000 in
set_option maxHeartbeats 4000000 in
theorem implFs (f : Fra) (t : Int) (A : Option Addr) (n c lo hi : Nat) (w : World) (h : Rd .u8 w lo hi A n c f.Body) (hn : n ≤ 67108864) :
    Calls Try.prog 15 #[fV f A n c, .int .i64 t] w (FsPost (frs f t) w) := by
  obtain ⟨i0, hi0, hz0, hz1, hz2⟩ := info_parts infoF
  have HZ := Lib.hid (And.intro hi0 (And.intro hz0 (And.intro hz1 hz2)))
  clear hi0 hz0 hz1 hz2
  obtain ⟨j0, hj0, hy0, hy1, hy2⟩ := info_parts u8Info
  have HY8 := Lib.hid (And.intro hj0 (And.intro hy0 (And.intro hy1 hy2)))
  clear hj0 hy0 hy1 hy2
  have RW := Lib.hid h
  have hrh := h.hi_
  have LHR := Lib.hid hrh
  have HLF := Lib.hid (show f.Body.length = n from h.len)
  have HCA := Lib.hid h.cap_
  have HN := Lib.hid hn
  clear h
  obtain ⟨cc, hcc⟩ : ∃ cc, fcnt (n : Int) t = cc := ⟨_, rfl⟩
  have HCC := Lib.hid hcc
  have hcr : 0 ≤ cc ∧ cc ≤ 16 := by rw [← hcc]; exact fcnt_rng _ _
  obtain ⟨hc0, hc9⟩ := hcr
  clear hcc
  have HFS := Lib.hid (show frs f t = (List.range cc.toNat).map (frag f t cc) by unfold frs; rw [HLF.out, HCC.out])
  rw [HFS.out]
  clear HFS
  obtain ⟨m, hm⟩ : ∃ m : Nat, cc = m := ⟨cc.toNat, by omega⟩
  have HM := Lib.hid (show cc.toNat = m by omega)
  rw [HM.out]
  have HMC := Lib.hid hm
  clear hm
  go_enter Try.func15, Try.ntmps15
  go_upto_region 1 with fail
  obtain ⟨w0, hW⟩ : ∃ w0, w.alloc (.cells #[.int .i64 f.Kind, .int .i64 f.From, .int .i64 f.To, .int .i64 f.Seq, .int .i64 f.Fragment, .bool f.More, .bool f.Retry, .int .i64 f.Duration, .slice A n c] 25) = w0 := ⟨_, rfl⟩
  rw [hW]
  have B0 := Lib.hid (show Below w.heap.size w w0 by rw [← hW]; exact (Below.refl _ _).alloc (by simp <;> omega) _)
  have X0 := Lib.hid (show Bx 25 w0 (w.heap.size) #[.int .i64 f.Kind, .int .i64 f.From, .int .i64 f.To, .int .i64 f.Seq, .int .i64 f.Fragment, .bool f.More, .bool f.Retry, .int .i64 f.Duration, .slice A n c] by
      rw [← hW]
      have hh := Bx.made 25 w #[.int .i64 f.Kind, .int .i64 f.From, .int .i64 f.To, .int .i64 f.Seq, .int .i64 f.Fragment, .bool f.More, .bool f.Retry, .int .i64 f.Duration, .slice A n c]
      exact hh)
  have R0 := Lib.hid (show Rd .u8 w0 (lo) (hi) A n c f.Body by rw [← hW]; exact (RW.out.below (below_box _ _)))
  clear hW
  have LTX := Lib.hid X0.out.lt
  have cX8 : w0.cell? ⟨w.heap.size, 8, none⟩ = some (.slice A n c) := X0.out.cell 8
  go_upto_region 2 with fail
  clear cX8
  obtain ⟨be, hbb⟩ : ∃ b, w0.heap.size = b := ⟨_, rfl⟩
  generalize hW : w0.alloc (.cells #[] 25) = w1
  have LE := Lib.hid (show w.heap.size ≤ be ∧ w.heap.size < be ∧ hi ≤ be by have h1 := B0.out.size; have h2X := X0.out.lt; have h2R := R0.out.hi_; have h3 := hbb; omega)
  have E1 := Lib.hid (show Bx 25 w1 be #[] by rw [← hW, ← hbb]; exact Bx.made _ _ _)
  have hb : Below w0.heap.size w0 w1 := by rw [← hW]; exact below_box _ _
  (try rw [hbb])
  clear hW hbb
  have SS1 := Lib.hid hb.size
  have B1 := Lib.hid (B0.out.trans (hb.mono B0.out.size))
  have X1 := Lib.hid (X0.out.below hb)
  have R1 := Lib.hid (R0.out.below hb)
  clear hb B0 X0 R0
  have LWE := Lib.hid E1.out.lt
  have cX8 : w1.cell? ⟨w.heap.size, 8, none⟩ = some (.slice A n c) := X1.out.cell 8
  go_wp2_with fail
  clear cX8
  (with_reducible refine (implFc (n : Int) t _).mono ?_)
  rintro e w2 hp
  obtain ⟨rfl, hb⟩ := n_parts HCC.out hp
  clear hp
  have SS2 := Lib.hid hb.size
  have B2 := Lib.hid (B1.out.trans (hb.mono B1.out.size))
  have X2 := Lib.hid (X1.out.below hb)
  have E2 := Lib.hid (E1.out.below hb)
  have R2 := Lib.hid (R1.out.below hb)
  clear hb B1 X1 E1 R1
  go_wp2_with fail
  have O2 := Lib.hid (show Oe fraS w2 be w2.heap.size (some ⟨be, 0, none⟩) 0 0 [] from oe_box (S := fraS) E2.out)
  have HBE := Lib.hid E2.out.lt
  clear E2
  go_loopw [5, 17] (fun v0 v1 wr => ∃ (k : Nat) (A1 : Option Addr) (c1 : Nat) (es : List (El Fra)), v0 = .slice A1 k c1 ∧ v1 = .int .i64 ((k : Int)) ∧ (k ≤ m) ∧ (es.map (fun e : El Fra => e.x) = (List.range k).map (frag f t cc)) ∧ (be < wr.heap.size) ∧ Below w.heap.size w wr ∧ Bx 25 wr w.heap.size #[.int .i64 f.Kind, .int .i64 f.From, .int .i64 f.To, .int .i64 f.Seq, .int .i64 f.Fragment, .bool f.More, .bool f.Retry, .int .i64 f.Duration, .slice A n c] ∧ Rd .u8 wr (lo) (hi) A n c f.Body ∧ Oe fraS wr be wr.heap.size A1 k c1 es) (fun _ i _ => m - (intOf i).toNat)
  case atStart => exact ⟨0, (some ⟨be, 0, none⟩), 0, [], rfl, rfl, by omega, by simp, HBE.out, B2.out, X2.out, R2.out, O2.out⟩
  case round =>
    obtain ⟨k, A1, c1, es, rfl, rfl, ghk, ghe, ghbe, gB3, gX3, gR3, gO3⟩ := hrel
    have B3 := Lib.hid gB3
    have X3 := Lib.hid gX3
    have R3 := Lib.hid gR3
    have O3 := Lib.hid gO3
    have hk := Lib.hid ghk
    have he := Lib.hid ghe
    have hbe := Lib.hid ghbe
    clear gB3 gX3 gR3 gO3 ghk ghe ghbe
    have LUX3 := Lib.hid X3.out.lt
    have SBR3 := Lib.hid B3.out.size
    have hk := hk.out
    by_cases hlt : k < m
    · have hlt2 : (k : Int) < cc := by have := HMC.out; omega
      have HP := Lib.hid (fcnt_pos (b := (n : Int)) (t := t) (by rw [HCC.out]; omega))
      obtain ⟨tn, htn⟩ : ∃ tn : Nat, t = tn := ⟨t.toNat, by have := HP.out; omega⟩
      subst htn
      have htl : (1 : Int) ≤ tn ∧ (tn : Int) ≤ 100 := HP.out.1
      obtain ⟨ht1, ht2⟩ := htl
      have HLE := Lib.hid (frag_le HCC.out hlt2)
      obtain ⟨s, hs⟩ : ∃ s, k * tn = s := ⟨_, rfl⟩
      have HS := Lib.hid hs
      have hsn : s ≤ n ∧ s ≤ 1500 := by rw [← hs]; exact HLE.out
      obtain ⟨hsn, hs15⟩ := hsn
      obtain ⟨e, he9⟩ : ∃ e, s + tn = e := ⟨_, rfl⟩
      have HE9 := Lib.hid he9
      obtain ⟨m2, hm2⟩ : ∃ m2, min e n = m2 := ⟨_, rfl⟩
      have HM2 := Lib.hid hm2
      have hmm : s ≤ m2 ∧ m2 ≤ n ∧ (m2 : Int) = (if (n : Int) < (e : Int) then (n : Int) else (e : Int)) ∧ (m2 : Int) = (if (e : Int) < (n : Int) then (e : Int) else (n : Int)) := by
        refine ⟨by omega, by omega, ?_, ?_⟩
        · split <;> omega
        · split <;> omega
      have HMM := Lib.hid hmm
      have hkI : (k : Int) * (tn : Int) = (s : Int) := by rw [← hs]; exact (nat_mul k tn).symm
      have hw1 : IntKind.i64.wrap ((k : Int) * (tn : Int)) = (s : Int) := by rw [hkI]; exact IntWalk.i64_in _ (by omega)
      have hw2 : IntKind.i64.wrap ((s : Int) + (tn : Int)) = (e : Int) := by rw [show (s : Int) + (tn : Int) = (e : Int) by omega]; exact IntWalk.i64_in _ (by omega)
      have hw4 : IntKind.i64.wrap (((k : Int) + 1) * (tn : Int)) = (e : Int) := by rw [Int.add_mul, Int.one_mul, hkI, show (s : Int) + (tn : Int) = (e : Int) by omega]; exact IntWalk.i64_in _ (by omega)
      have hw5 : IntKind.i64.wrap ((k : Int) + 1) = (k : Int) + 1 := IntWalk.i64_in _ (by omega)
      have HFB := Lib.hid (frag_body (f := f) (cc := cc) (m := m2) HS.out HLF.out (by rw [HE9.out]; exact HM2.out))
      clear hkI hs he9 hm2 hmm
      have cX0 : wr.cell? ⟨w.heap.size, 0, none⟩ = some (.int .i64 f.Kind) := X3.out.cell 0
      have cX1 : wr.cell? ⟨w.heap.size, 1, none⟩ = some (.int .i64 f.From) := X3.out.cell 1
      have cX2 : wr.cell? ⟨w.heap.size, 2, none⟩ = some (.int .i64 f.To) := X3.out.cell 2
      have cX3 : wr.cell? ⟨w.heap.size, 3, none⟩ = some (.int .i64 f.Seq) := X3.out.cell 3
      have cX4 : wr.cell? ⟨w.heap.size, 4, none⟩ = some (.int .i64 f.Fragment) := X3.out.cell 4
      have cX5 : wr.cell? ⟨w.heap.size, 5, none⟩ = some (.bool f.More) := X3.out.cell 5
      have cX6 : wr.cell? ⟨w.heap.size, 6, none⟩ = some (.bool f.Retry) := X3.out.cell 6
      have cX7 : wr.cell? ⟨w.heap.size, 7, none⟩ = some (.int .i64 f.Duration) := X3.out.cell 7
      have cX8 : wr.cell? ⟨w.heap.size, 8, none⟩ = some (.slice A n c) := X3.out.cell 8
      go_upto_region 8 with fail
      clear cX0 cX1 cX2 cX3 cX4 cX5 cX6 cX7 cX8
      obtain ⟨bv, hbb⟩ : ∃ b, wr.heap.size = b := ⟨_, rfl⟩
      generalize hW : wr.alloc (.cells #[.int .i64 f.Kind, .int .i64 f.From, .int .i64 f.To, .int .i64 f.Seq, .int .i64 f.Fragment, .bool f.More, .bool f.Retry, .int .i64 f.Duration, .slice A n c] 25) = w4
      have LV := Lib.hid (show w.heap.size ≤ bv ∧ w.heap.size < bv ∧ hi ≤ bv ∧ wr.heap.size ≤ bv by have h1 := B3.out.size; have h2X := X3.out.lt; have h2R := R3.out.hi_; have h2O := O3.out.hi_; have h3 := hbb; omega)
      have V4 := Lib.hid (show Bx 25 w4 bv #[.int .i64 f.Kind, .int .i64 f.From, .int .i64 f.To, .int .i64 f.Seq, .int .i64 f.Fragment, .bool f.More, .bool f.Retry, .int .i64 f.Duration, .slice A n c] by rw [← hW, ← hbb]; exact Bx.made _ _ _)
      have hb : Below wr.heap.size wr w4 := by rw [← hW]; exact below_box _ _
      (try rw [hbb])
      clear hW hbb
      have SS4 := Lib.hid hb.size
      have B4 := Lib.hid (B3.out.trans (hb.mono B3.out.size))
      have X4 := Lib.hid (X3.out.below hb)
      have R4 := Lib.hid (R3.out.below hb)
      have O4 := Lib.hid (O3.out.below hb)
      clear hb B3 X3 R3 O3
      have LWV := Lib.hid V4.out.lt
      have cV0 : w4.cell? ⟨bv, 0, none⟩ = some (.int .i64 f.Kind) := V4.out.cell 0
      have cV1 : w4.cell? ⟨bv, 1, none⟩ = some (.int .i64 f.From) := V4.out.cell 1
      have cV2 : w4.cell? ⟨bv, 2, none⟩ = some (.int .i64 f.To) := V4.out.cell 2
      have cV3 : w4.cell? ⟨bv, 3, none⟩ = some (.int .i64 f.Seq) := V4.out.cell 3
      have cV4 : w4.cell? ⟨bv, 4, none⟩ = some (.int .i64 f.Fragment) := V4.out.cell 4
      have cV5 : w4.cell? ⟨bv, 5, none⟩ = some (.bool f.More) := V4.out.cell 5
      have cV6 : w4.cell? ⟨bv, 6, none⟩ = some (.bool f.Retry) := V4.out.cell 6
      have cV7 : w4.cell? ⟨bv, 7, none⟩ = some (.int .i64 f.Duration) := V4.out.cell 7
      have cV8 : w4.cell? ⟨bv, 8, none⟩ = some (.slice A n c) := V4.out.cell 8
      have fV4 : w4.frozen? ⟨bv, 4, none⟩ = false := V4.out.free 4
      go_upto_region 9 with fail
      clear cV0 cV1 cV2 cV3 cV4 cV5 cV6 cV7 cV8 fV4
      have hWW : (w4.setCell ⟨bv, 4, none⟩ (.int .i64 ((k : Int)))) = (w4.setCell ⟨bv, 4, none⟩ (.int .i64 ((k : Int)))) := rfl
      obtain ⟨w5, hW⟩ : ∃ wy, (w4.setCell ⟨bv, 4, none⟩ (.int .i64 ((k : Int)))) = wy := ⟨_, rfl⟩
      rw [hW]
      clear hWW
      have B5 := Lib.hid (show Below w.heap.size w w5 by rw [← hW]; exact (B4.out.setCell (p := ⟨bv, 4, none⟩) (by have hlE := LE.out; have hlV := LV.out; have hs0 := LTX.out; have hs1 := LHR.out; have hs2 := SS1.out; have hs3 := LWE.out; have hs4 := SS2.out; have hs5 := HBE.out; have hs6 := LUX3.out; have hs7 := SBR3.out; have hs8 := hbe.out; have hs9 := SS4.out; have hs10 := LWV.out; first | omega | (simp <;> omega)) _))
      have X5 := Lib.hid (show Bx 25 w5 (w.heap.size) #[.int .i64 f.Kind, .int .i64 f.From, .int .i64 f.To, .int .i64 f.Seq, .int .i64 f.Fragment, .bool f.More, .bool f.Retry, .int .i64 f.Duration, .slice A n c] by rw [← hW]; exact (X4.out.other (by have hlE := LE.out; have hlV := LV.out; have hs0 := LTX.out; have hs1 := LHR.out; have hs2 := SS1.out; have hs3 := LWE.out; have hs4 := SS2.out; have hs5 := HBE.out; have hs6 := LUX3.out; have hs7 := SBR3.out; have hs8 := hbe.out; have hs9 := SS4.out; have hs10 := LWV.out; first | omega | (simp <;> omega)) _ _))
      have V5 := Lib.hid (show Bx 25 w5 (bv) #[.int .i64 f.Kind, .int .i64 f.From, .int .i64 f.To, .int .i64 f.Seq, .int .i64 ((k : Int)), .bool f.More, .bool f.Retry, .int .i64 f.Duration, .slice A n c] by rw [← hW]; exact (V4.out.set 4 _))
      have R5 := Lib.hid (show Rd .u8 w5 (lo) (hi) A n c f.Body by rw [← hW]; exact (R4.out.same (by simp [World.setCell]) fun b h1 h2 => by rw [Below.heap_setCell _ _ _ _ (by have hlE := LE.out; have hlV := LV.out; have hs0 := LTX.out; have hs1 := LHR.out; have hs2 := SS1.out; have hs3 := LWE.out; have hs4 := SS2.out; have hs5 := HBE.out; have hs6 := LUX3.out; have hs7 := SBR3.out; have hs8 := hbe.out; have hs9 := SS4.out; have hs10 := LWV.out; first | omega | (simp <;> omega))]))
      have O5 := Lib.hid (show Oe fraS w5 be wr.heap.size A1 k c1 es by rw [← hW]; exact (O4.out.same (by simp [World.setCell]) fun b h1 h2 => by rw [Below.heap_setCell _ _ _ _ (by have hlE := LE.out; have hlV := LV.out; have hs0 := LTX.out; have hs1 := LHR.out; have hs2 := SS1.out; have hs3 := LWE.out; have hs4 := SS2.out; have hs5 := HBE.out; have hs6 := LUX3.out; have hs7 := SBR3.out; have hs8 := hbe.out; have hs9 := SS4.out; have hs10 := LWV.out; first | omega | (simp <;> omega))]))
      clear hW B4 X4 V4 R4 O4
      have SQ5 := Lib.hid V5.out.lt
      have cV0 : w5.cell? ⟨bv, 0, none⟩ = some (.int .i64 f.Kind) := V5.out.cell 0
      have cV1 : w5.cell? ⟨bv, 1, none⟩ = some (.int .i64 f.From) := V5.out.cell 1
      have cV2 : w5.cell? ⟨bv, 2, none⟩ = some (.int .i64 f.To) := V5.out.cell 2
      have cV3 : w5.cell? ⟨bv, 3, none⟩ = some (.int .i64 f.Seq) := V5.out.cell 3
      have cV4 : w5.cell? ⟨bv, 4, none⟩ = some (.int .i64 ((k : Int))) := V5.out.cell 4
      have cV5 : w5.cell? ⟨bv, 5, none⟩ = some (.bool f.More) := V5.out.cell 5
      have cV6 : w5.cell? ⟨bv, 6, none⟩ = some (.bool f.Retry) := V5.out.cell 6
      have cV7 : w5.cell? ⟨bv, 7, none⟩ = some (.int .i64 f.Duration) := V5.out.cell 7
      have cV8 : w5.cell? ⟨bv, 8, none⟩ = some (.slice A n c) := V5.out.cell 8
      have fV5 : w5.frozen? ⟨bv, 5, none⟩ = false := V5.out.free 5
      go_upto_region 10 with fail
      clear cV0 cV1 cV2 cV3 cV4 cV5 cV6 cV7 cV8 fV5
      have hWW : (w5.setCell ⟨bv, 5, none⟩ (.bool (decide ((k : Int) < cc - 1)))) = (w5.setCell ⟨bv, 5, none⟩ (.bool (decide ((k : Int) < cc - 1)))) := rfl
      obtain ⟨w6, hW⟩ : ∃ wy, (w5.setCell ⟨bv, 5, none⟩ (.bool (decide ((k : Int) < cc - 1)))) = wy := ⟨_, rfl⟩
      rw [hW]
      clear hWW
      have B6 := Lib.hid (show Below w.heap.size w w6 by rw [← hW]; exact (B5.out.setCell (p := ⟨bv, 5, none⟩) (by have hlE := LE.out; have hlV := LV.out; have hs0 := LTX.out; have hs1 := LHR.out; have hs2 := SS1.out; have hs3 := LWE.out; have hs4 := SS2.out; have hs5 := HBE.out; have hs6 := LUX3.out; have hs7 := SBR3.out; have hs8 := hbe.out; have hs9 := SS4.out; have hs10 := LWV.out; have hs11 := SQ5.out; first | omega | (simp <;> omega)) _))
      have X6 := Lib.hid (show Bx 25 w6 (w.heap.size) #[.int .i64 f.Kind, .int .i64 f.From, .int .i64 f.To, .int .i64 f.Seq, .int .i64 f.Fragment, .bool f.More, .bool f.Retry, .int .i64 f.Duration, .slice A n c] by rw [← hW]; exact (X5.out.other (by have hlE := LE.out; have hlV := LV.out; have hs0 := LTX.out; have hs1 := LHR.out; have hs2 := SS1.out; have hs3 := LWE.out; have hs4 := SS2.out; have hs5 := HBE.out; have hs6 := LUX3.out; have hs7 := SBR3.out; have hs8 := hbe.out; have hs9 := SS4.out; have hs10 := LWV.out; have hs11 := SQ5.out; first | omega | (simp <;> omega)) _ _))
      have V6 := Lib.hid (show Bx 25 w6 (bv) #[.int .i64 f.Kind, .int .i64 f.From, .int .i64 f.To, .int .i64 f.Seq, .int .i64 ((k : Int)), .bool (decide ((k : Int) < cc - 1)), .bool f.Retry, .int .i64 f.Duration, .slice A n c] by rw [← hW]; exact (V5.out.set 5 _))
      have R6 := Lib.hid (show Rd .u8 w6 (lo) (hi) A n c f.Body by rw [← hW]; exact (R5.out.same (by simp [World.setCell]) fun b h1 h2 => by rw [Below.heap_setCell _ _ _ _ (by have hlE := LE.out; have hlV := LV.out; have hs0 := LTX.out; have hs1 := LHR.out; have hs2 := SS1.out; have hs3 := LWE.out; have hs4 := SS2.out; have hs5 := HBE.out; have hs6 := LUX3.out; have hs7 := SBR3.out; have hs8 := hbe.out; have hs9 := SS4.out; have hs10 := LWV.out; have hs11 := SQ5.out; first | omega | (simp <;> omega))]))
      have O6 := Lib.hid (show Oe fraS w6 be wr.heap.size A1 k c1 es by rw [← hW]; exact (O5.out.same (by simp [World.setCell]) fun b h1 h2 => by rw [Below.heap_setCell _ _ _ _ (by have hlE := LE.out; have hlV := LV.out; have hs0 := LTX.out; have hs1 := LHR.out; have hs2 := SS1.out; have hs3 := LWE.out; have hs4 := SS2.out; have hs5 := HBE.out; have hs6 := LUX3.out; have hs7 := SBR3.out; have hs8 := hbe.out; have hs9 := SS4.out; have hs10 := LWV.out; have hs11 := SQ5.out; first | omega | (simp <;> omega))]))
      clear hW B5 X5 V5 R5 O5
      have SQ6 := Lib.hid V6.out.lt
      refine reg.region_tail reg.Bel 12 49 [some [], some [(0, 31)], some [], some [], some [], some [(3, 34), (4, 35)], some [], some [(6, 37)], some [(7, 38)], some [(5, 36), (8, 39)], some [(1, 32), (2, 33), (9, 40)], some [], none] [(0, 31), (1, 32), (2, 33), (3, 34), (4, 35), (5, 36), (6, 37), (7, 38), (8, 39), (9, 40), (10, 41), (11, 42)]
        (fun w' => Below w.heap.size w w' ∧ Bx 25 w' (w.heap.size) #[.int .i64 f.Kind, .int .i64 f.From, .int .i64 f.To, .int .i64 f.Seq, .int .i64 f.Fragment, .bool f.More, .bool f.Retry, .int .i64 f.Duration, .slice A n c] ∧ Bx 25 w' (bv) #[.int .i64 f.Kind, .int .i64 f.From, .int .i64 f.To, .int .i64 f.Seq, .int .i64 ((k : Int)), .bool (decide ((k : Int) < cc - 1)), .bool f.Retry, .int .i64 f.Duration, .slice A n c] ∧ Rd .u8 w' (lo) (hi) A n c f.Body ∧ Oe fraS w' be wr.heap.size A1 k c1 es ∧ True)
        (reg.rl [reg.is (.pointer (some ⟨w.heap.size, 8, none⟩)), reg.is (.slice A n c), reg.is (.int .i64 ((s : Int))), reg.is (.int .i64 ((s : Int))), reg.is (.int .i64 ((tn : Int))), reg.is (.int .i64 ((e : Int))), reg.is (.pointer (some ⟨w.heap.size, 8, none⟩)), reg.is (.slice A n c), reg.is (.int .i64 ((n : Int))), reg.is (.int .i64 ((m2 : Int))), stw.ownf 5 .u8 (bv + 1) ((f.Body.drop s).take (m2 - s)) (fun A n c => .slice A n c), reg.is (.pointer (some ⟨bv, 8, none⟩)), reg.free])
        (by kernel_rfl) rfl (by kernel_rfl) (by kernel_rfl) rfl
        (fun w1 w2 hc hb => ⟨hc.1.trans (hb.mono hc.1.size), hc.2.1.below hb, hc.2.2.1.below hb, hc.2.2.2.1.below hb, hc.2.2.2.2.1.below hb, trivial⟩) (reg.rl_keep _) (⟨own.below_drew B6.out, X6.out.same rfl, V6.out.same rfl, own.rd_drew R6.out, O6.out.same (Nat.le_refl _) (fun _ _ _ => rfl), trivial⟩) (by kernel_rfl) ⟨?_, ?_, ?_, ?_, ?_, ?_, ?_, ?_, ?_, ?_, ?_, ?_, trivial⟩ ?_
      · refine fun w8 hc  K hK => ?_
        (try simp only [Act.put, List.setIfInBounds_toArray, List.set_cons_zero, List.set_cons_succ])
        go_simp
        exact hK (.pointer (some ⟨w.heap.size, 8, none⟩)) _ rfl (Below.refl _ _)
      · refine fun w8 hc v0 h0 K hK => ?_
        obtain rfl : v0 = .pointer (some ⟨w.heap.size, 8, none⟩) := h0
        (try simp only [Act.put, List.setIfInBounds_toArray, List.set_cons_zero, List.set_cons_succ])
        have c0 : w8.cell? ⟨w.heap.size, 8, none⟩ = some (.slice A n c) := hc.2.1.cell 8
        go_simp
        exact hK (.slice A n c) _ rfl (Below.refl _ _)
      · refine fun w8 hc  K hK => ?_
        (try simp only [Act.put, List.setIfInBounds_toArray, List.set_cons_zero, List.set_cons_succ])
        go_simp
        exact hK (.int .i64 ((s : Int))) _ rfl (Below.refl _ _)
      · refine fun w8 hc  K hK => ?_
        (try simp only [Act.put, List.setIfInBounds_toArray, List.set_cons_zero, List.set_cons_succ])
        go_simp
        exact hK (.int .i64 ((s : Int))) _ rfl (Below.refl _ _)
      · refine fun w8 hc  K hK => ?_
        (try simp only [Act.put, List.setIfInBounds_toArray, List.set_cons_zero, List.set_cons_succ])
        go_simp
        exact hK (.int .i64 ((tn : Int))) _ rfl (Below.refl _ _)
      · refine fun w8 hc v3 h3 v4 h4 K hK => ?_
        obtain rfl : v3 = .int .i64 ((s : Int)) := h3
        obtain rfl : v4 = .int .i64 ((tn : Int)) := h4
        (try simp only [Act.put, List.setIfInBounds_toArray, List.set_cons_zero, List.set_cons_succ])
        go_simp
        exact hK (.int .i64 ((e : Int))) _ rfl (Below.refl _ _)
      · refine fun w8 hc  K hK => ?_
        (try simp only [Act.put, List.setIfInBounds_toArray, List.set_cons_zero, List.set_cons_succ])
        go_simp
        exact hK (.pointer (some ⟨w.heap.size, 8, none⟩)) _ rfl (Below.refl _ _)
      · refine fun w8 hc v6 h6 K hK => ?_
        obtain rfl : v6 = .pointer (some ⟨w.heap.size, 8, none⟩) := h6
        (try simp only [Act.put, List.setIfInBounds_toArray, List.set_cons_zero, List.set_cons_succ])
        have c0 : w8.cell? ⟨w.heap.size, 8, none⟩ = some (.slice A n c) := hc.2.1.cell 8
        go_simp
        exact hK (.slice A n c) _ rfl (Below.refl _ _)
      · refine fun w8 hc v7 h7 K hK => ?_
        obtain rfl : v7 = .slice A n c := h7
        (try simp only [Act.put, List.setIfInBounds_toArray, List.set_cons_zero, List.set_cons_succ])
        go_simp
        exact hK (.int .i64 ((n : Int))) _ rfl (Below.refl _ _)
      · refine fun w8 hc v5 h5 v8 h8 K hK => ?_
        obtain rfl : v5 = .int .i64 ((e : Int)) := h5
        obtain rfl : v8 = .int .i64 ((n : Int)) := h8
        (try simp only [Act.put, List.setIfInBounds_toArray, List.set_cons_zero, List.set_cons_succ])
        go_simp
        (with_reducible refine (implMin (e : Int) (n : Int) (m2 : Int) HMM.out.2.2.1 _).mono ?_)
        rintro e w3 ⟨rfl, hb⟩
        exact hK _ _ rfl hb
      · refine fun w8 hc v1 h1 v2 h2 v9 h9 K hK => ?_
        obtain rfl : v1 = .slice A n c := h1
        obtain rfl : v2 = .int .i64 ((s : Int)) := h2
        obtain rfl : v9 = .int .i64 ((m2 : Int)) := h9
        (try simp only [Act.put, List.setIfInBounds_toArray, List.set_cons_zero, List.set_cons_succ])
        go_simp
        have hql := hc.2.2.1.lt
        (with_reducible refine (uvs.copyPart _ _ A n c f.Body s m2 _ hc.2.2.2.1 HMM.out.1 HMM.out.2.1 (by have := HN.out; omega)).mono ?_)
        rintro e w3 ⟨A1, n1, c1, rfl, ho, hb⟩
        exact hK _ _ ⟨A1, n1, c1, _, _, rfl, (by omega), ho⟩ hb
      · refine fun w8 hc  K hK => ?_
        (try simp only [Act.put, List.setIfInBounds_toArray, List.set_cons_zero, List.set_cons_succ])
        go_simp
        exact hK (.pointer (some ⟨bv, 8, none⟩)) _ rfl (Below.refl _ _)
      refine fun wg7 hc v0 h0 v1 h1 v2 h2 v3 h3 v4 h4 v5 h5 v6 h6 v7 h7 v8 h8 v9 h9 v10 h10 v11 h11 => ?_
      obtain rfl : v0 = .pointer (some ⟨w.heap.size, 8, none⟩) := h0
      obtain rfl : v1 = .slice A n c := h1
      obtain rfl : v2 = .int .i64 ((s : Int)) := h2
      obtain rfl : v3 = .int .i64 ((s : Int)) := h3
      obtain rfl : v4 = .int .i64 ((tn : Int)) := h4
      obtain rfl : v5 = .int .i64 ((e : Int)) := h5
      obtain rfl : v6 = .pointer (some ⟨w.heap.size, 8, none⟩) := h6
      obtain rfl : v7 = .slice A n c := h7
      obtain rfl : v8 = .int .i64 ((n : Int)) := h8
      obtain rfl : v9 = .int .i64 ((m2 : Int)) := h9
      obtain ⟨A1_, n1_, c1_, lo1, hi1, rfl, hB1, hO1⟩ := h10
      obtain rfl : v11 = .pointer (some ⟨bv, 8, none⟩) := h11
      (try simp only [reg.Obs])
      (try simp only [Act.put, List.setIfInBounds_toArray, List.set_cons_zero, List.set_cons_succ])
      simp only [List.drop_succ_cons, List.drop_zero]
      have B7 := Lib.hid hc.1
      have X7 := Lib.hid hc.2.1
      have V7 := Lib.hid hc.2.2.1
      have R7 := Lib.hid hc.2.2.2.1
      have O7 := Lib.hid hc.2.2.2.2.1
      clear hc B6 X6 V6 R6 O6
      have P7 := Lib.hid hO1
      have HB1 := Lib.hid hB1
      have HH1 := Lib.hid hO1.hi_
      clear hO1 hB1
      have cV0 : wg7.cell? ⟨bv, 0, none⟩ = some (.int .i64 f.Kind) := V7.out.cell 0
      have cV1 : wg7.cell? ⟨bv, 1, none⟩ = some (.int .i64 f.From) := V7.out.cell 1
      have cV2 : wg7.cell? ⟨bv, 2, none⟩ = some (.int .i64 f.To) := V7.out.cell 2
      have cV3 : wg7.cell? ⟨bv, 3, none⟩ = some (.int .i64 f.Seq) := V7.out.cell 3
      have cV4 : wg7.cell? ⟨bv, 4, none⟩ = some (.int .i64 ((k : Int))) := V7.out.cell 4
      have cV5 : wg7.cell? ⟨bv, 5, none⟩ = some (.bool (decide ((k : Int) < cc - 1))) := V7.out.cell 5
      have cV6 : wg7.cell? ⟨bv, 6, none⟩ = some (.bool f.Retry) := V7.out.cell 6
      have cV7 : wg7.cell? ⟨bv, 7, none⟩ = some (.int .i64 f.Duration) := V7.out.cell 7
      have cV8 : wg7.cell? ⟨bv, 8, none⟩ = some (.slice A n c) := V7.out.cell 8
      have fV8 : wg7.frozen? ⟨bv, 8, none⟩ = false := V7.out.free 8
      go_upto_region 11 with fail
      clear cV0 cV1 cV2 cV3 cV4 cV5 cV6 cV7 cV8 fV8
      have hWW : (wg7.setCell ⟨bv, 8, none⟩ (.slice A1_ n1_ c1_)) = (wg7.setCell ⟨bv, 8, none⟩ (.slice A1_ n1_ c1_)) := rfl
      obtain ⟨w8, hW⟩ : ∃ wy, (wg7.setCell ⟨bv, 8, none⟩ (.slice A1_ n1_ c1_)) = wy := ⟨_, rfl⟩
      rw [hW]
      clear hWW
      have B8 := Lib.hid (show Below w.heap.size w w8 by rw [← hW]; exact (B7.out.setCell (p := ⟨bv, 8, none⟩) (by have hlE := LE.out; have hlV := LV.out; have hs0 := LTX.out; have hs1 := LHR.out; have hs2 := SS1.out; have hs3 := LWE.out; have hs4 := SS2.out; have hs5 := HBE.out; have hs6 := LUX3.out; have hs7 := SBR3.out; have hs8 := hbe.out; have hs9 := SS4.out; have hs10 := LWV.out; have hs11 := SQ5.out; have hs12 := SQ6.out; have hs13 := HB1.out; have hs14 := HH1.out; first | omega | (simp <;> omega)) _))
      have X8 := Lib.hid (show Bx 25 w8 (w.heap.size) #[.int .i64 f.Kind, .int .i64 f.From, .int .i64 f.To, .int .i64 f.Seq, .int .i64 f.Fragment, .bool f.More, .bool f.Retry, .int .i64 f.Duration, .slice A n c] by rw [← hW]; exact (X7.out.other (by have hlE := LE.out; have hlV := LV.out; have hs0 := LTX.out; have hs1 := LHR.out; have hs2 := SS1.out; have hs3 := LWE.out; have hs4 := SS2.out; have hs5 := HBE.out; have hs6 := LUX3.out; have hs7 := SBR3.out; have hs8 := hbe.out; have hs9 := SS4.out; have hs10 := LWV.out; have hs11 := SQ5.out; have hs12 := SQ6.out; have hs13 := HB1.out; have hs14 := HH1.out; first | omega | (simp <;> omega)) _ _))
      have V8 := Lib.hid (show Bx 25 w8 (bv) #[.int .i64 f.Kind, .int .i64 f.From, .int .i64 f.To, .int .i64 f.Seq, .int .i64 ((k : Int)), .bool (decide ((k : Int) < cc - 1)), .bool f.Retry, .int .i64 f.Duration, .slice A1_ n1_ c1_] by rw [← hW]; exact (V7.out.set 8 _))
      have R8 := Lib.hid (show Rd .u8 w8 (lo) (hi) A n c f.Body by rw [← hW]; exact (R7.out.same (by simp [World.setCell]) fun b h1 h2 => by rw [Below.heap_setCell _ _ _ _ (by have hlE := LE.out; have hlV := LV.out; have hs0 := LTX.out; have hs1 := LHR.out; have hs2 := SS1.out; have hs3 := LWE.out; have hs4 := SS2.out; have hs5 := HBE.out; have hs6 := LUX3.out; have hs7 := SBR3.out; have hs8 := hbe.out; have hs9 := SS4.out; have hs10 := LWV.out; have hs11 := SQ5.out; have hs12 := SQ6.out; have hs13 := HB1.out; have hs14 := HH1.out; first | omega | (simp <;> omega))]))
      have O8 := Lib.hid (show Oe fraS w8 be wr.heap.size A1 k c1 es by rw [← hW]; exact (O7.out.same (by simp [World.setCell]) fun b h1 h2 => by rw [Below.heap_setCell _ _ _ _ (by have hlE := LE.out; have hlV := LV.out; have hs0 := LTX.out; have hs1 := LHR.out; have hs2 := SS1.out; have hs3 := LWE.out; have hs4 := SS2.out; have hs5 := HBE.out; have hs6 := LUX3.out; have hs7 := SBR3.out; have hs8 := hbe.out; have hs9 := SS4.out; have hs10 := LWV.out; have hs11 := SQ5.out; have hs12 := SQ6.out; have hs13 := HB1.out; have hs14 := HH1.out; first | omega | (simp <;> omega))]))
      have P8 := Lib.hid (show Ow 5 .u8 w8 (lo1) (hi1) A1_ n1_ c1_ ((f.Body.drop s).take (m2 - s)) by rw [← hW]; exact (P7.out.same (by simp [World.setCell]) fun b h1 h2 => by rw [Below.heap_setCell _ _ _ _ (by have hlE := LE.out; have hlV := LV.out; have hs0 := LTX.out; have hs1 := LHR.out; have hs2 := SS1.out; have hs3 := LWE.out; have hs4 := SS2.out; have hs5 := HBE.out; have hs6 := LUX3.out; have hs7 := SBR3.out; have hs8 := hbe.out; have hs9 := SS4.out; have hs10 := LWV.out; have hs11 := SQ5.out; have hs12 := SQ6.out; have hs13 := HB1.out; have hs14 := HH1.out; first | omega | (simp <;> omega))]))
      clear hW B7 X7 V7 R7 O7 P7
      have SQ8 := Lib.hid V8.out.lt
      have cV0 : w8.cell? ⟨bv, 0, none⟩ = some (.int .i64 f.Kind) := V8.out.cell 0
      have cV1 : w8.cell? ⟨bv, 1, none⟩ = some (.int .i64 f.From) := V8.out.cell 1
      have cV2 : w8.cell? ⟨bv, 2, none⟩ = some (.int .i64 f.To) := V8.out.cell 2
      have cV3 : w8.cell? ⟨bv, 3, none⟩ = some (.int .i64 f.Seq) := V8.out.cell 3
      have cV4 : w8.cell? ⟨bv, 4, none⟩ = some (.int .i64 ((k : Int))) := V8.out.cell 4
      have cV5 : w8.cell? ⟨bv, 5, none⟩ = some (.bool (decide ((k : Int) < cc - 1))) := V8.out.cell 5
      have cV6 : w8.cell? ⟨bv, 6, none⟩ = some (.bool f.Retry) := V8.out.cell 6
      have cV7 : w8.cell? ⟨bv, 7, none⟩ = some (.int .i64 f.Duration) := V8.out.cell 7
      have cV8 : w8.cell? ⟨bv, 8, none⟩ = some (.slice A1_ n1_ c1_) := V8.out.cell 8
      go_wp2_with (at_builtin; refine list_push w8 rfl _ _ 28 rfl Try.underlying28 HZ.out.1 HZ.out.2.1 HZ.out.2.2.1 (by rw [HZ.out.2.2.2]; omega) rfl rfl rfl O8.out ⟨frag f (tn : Int) cc k, A1_, n1_, c1_⟩ (show Ow 5 .u8 w8 lo1 hi1 A1_ n1_ c1_ (frag f (tn : Int) cc k).Body by rw [HFB.out]; exact P8.out) (by have hlE := LE.out; have hlV := LV.out; have hs0 := LTX.out; have hs1 := LHR.out; have hs2 := SS1.out; have hs3 := LWE.out; have hs4 := SS2.out; have hs5 := HBE.out; have hs6 := LUX3.out; have hs7 := SBR3.out; have hs8 := hbe.out; have hs9 := SS4.out; have hs10 := LWV.out; have hs11 := SQ5.out; have hs12 := SQ6.out; have hs13 := HB1.out; have hs14 := HH1.out; have hs15 := SQ8.out; first | omega | (simp <;> omega)) (by have hlE := LE.out; have hlV := LV.out; have hs0 := LTX.out; have hs1 := LHR.out; have hs2 := SS1.out; have hs3 := LWE.out; have hs4 := SS2.out; have hs5 := HBE.out; have hs6 := LUX3.out; have hs7 := SBR3.out; have hs8 := hbe.out; have hs9 := SS4.out; have hs10 := LWV.out; have hs11 := SQ5.out; have hs12 := SQ6.out; have hs13 := HB1.out; have hs14 := HH1.out; have hs15 := SQ8.out; first | omega | (simp <;> omega)) (by omega) (by have hlE := LE.out; have hlV := LV.out; have hs0 := LTX.out; have hs1 := LHR.out; have hs2 := SS1.out; have hs3 := LWE.out; have hs4 := SS2.out; have hs5 := HBE.out; have hs6 := LUX3.out; have hs7 := SBR3.out; have hs8 := hbe.out; have hs9 := SS4.out; have hs10 := LWV.out; have hs11 := SQ5.out; have hs12 := SQ6.out; have hs13 := HB1.out; have hs14 := HH1.out; have hs15 := SQ8.out; first | omega | (simp <;> omega)) ?_; intro A3 c3 w9 ho hg; have B9 := Lib.hid (below_grown B8.out hg (fun q hq => by have hlE := LE.out; have hlV := LV.out; have hs0 := LTX.out; have hs1 := LHR.out; have hs2 := SS1.out; have hs3 := LWE.out; have hs4 := SS2.out; have hs5 := HBE.out; have hs6 := LUX3.out; have hs7 := SBR3.out; have hs8 := hbe.out; have hs9 := SS4.out; have hs10 := LWV.out; have hs11 := SQ5.out; have hs12 := SQ6.out; have hs13 := HB1.out; have hs14 := HH1.out; have hs15 := SQ8.out; have := (O8.out.lo_ hq).1; omega) B8.out.size); have X9 := Lib.hid (grown_bx X8.out hg (fun e => by have hlE := LE.out; have hlV := LV.out; have hs0 := LTX.out; have hs1 := LHR.out; have hs2 := SS1.out; have hs3 := LWE.out; have hs4 := SS2.out; have hs5 := HBE.out; have hs6 := LUX3.out; have hs7 := SBR3.out; have hs8 := hbe.out; have hs9 := SS4.out; have hs10 := LWV.out; have hs11 := SQ5.out; have hs12 := SQ6.out; have hs13 := HB1.out; have hs14 := HH1.out; have hs15 := SQ8.out; have := O8.out.lo_ e.symm; omega)); have V9 := Lib.hid (grown_bx V8.out hg (fun e => by have hlE := LE.out; have hlV := LV.out; have hs0 := LTX.out; have hs1 := LHR.out; have hs2 := SS1.out; have hs3 := LWE.out; have hs4 := SS2.out; have hs5 := HBE.out; have hs6 := LUX3.out; have hs7 := SBR3.out; have hs8 := hbe.out; have hs9 := SS4.out; have hs10 := LWV.out; have hs11 := SQ5.out; have hs12 := SQ6.out; have hs13 := HB1.out; have hs14 := HH1.out; have hs15 := SQ8.out; have := O8.out.lo_ e.symm; omega)); have R9 := Lib.hid (rd_grown O8.out hg R8.out (by have hlE := LE.out; have hlV := LV.out; have hs0 := LTX.out; have hs1 := LHR.out; have hs2 := SS1.out; have hs3 := LWE.out; have hs4 := SS2.out; have hs5 := HBE.out; have hs6 := LUX3.out; have hs7 := SBR3.out; have hs8 := hbe.out; have hs9 := SS4.out; have hs10 := LWV.out; have hs11 := SQ5.out; have hs12 := SQ6.out; have hs13 := HB1.out; have hs14 := HH1.out; have hs15 := SQ8.out; first | omega | (simp <;> omega))); have P9 := Lib.hid (ow_grown O8.out hg P8.out); have SS9 := Lib.hid hg.size; clear B8 X8 V8 R8 O8 P8; have O9 := Lib.hid ho; clear ho hg)
      clear cV0 cV1 cV2 cV3 cV4 cV5 cV6 cV7 cV8
      go_roundw
      case rel => exact ⟨k + 1, A3, c3, _, rfl, by go_num, by omega, by rw [List.map_append, he.out, range_snoc]; rfl, by have hlE := LE.out; have hlV := LV.out; have hs0 := LTX.out; have hs1 := LHR.out; have hs2 := SS1.out; have hs3 := LWE.out; have hs4 := SS2.out; have hs5 := HBE.out; have hs6 := LUX3.out; have hs7 := SBR3.out; have hs8 := hbe.out; have hs9 := SS4.out; have hs10 := LWV.out; have hs11 := SQ5.out; have hs12 := SQ6.out; have hs13 := HB1.out; have hs14 := HH1.out; have hs15 := SQ8.out; have hs16 := SS9.out; first | omega | (simp <;> omega), B9.out, X9.out, R9.out, O9.out.up⟩
      case measure => simp [intOf]; omega
    · have hlt2 : ¬ (k : Int) < cc := by have := HMC.out; omega
      obtain rfl : m = k := by omega
      go_wp2_with fail
      go_ret
      exact ⟨_, _, _, es, rfl, he.out, (O3.out.up).down (by have hlE := LE.out; have hs0 := LTX.out; have hs1 := LHR.out; have hs2 := SS1.out; have hs3 := LWE.out; have hs4 := SS2.out; have hs5 := HBE.out; have hs6 := LUX3.out; have hs7 := SBR3.out; have hs8 := hbe.out; first | omega | (simp <;> omega)), B3.out⟩
end Go.Proofs.Ytbkdbdhbmabgcaa.fr
end

section
namespace Go.Proofs.Ytbkdbdhbmabgcaa.harn
open Go.RowKit sl

theorem sameB (zs ys : List Int) (lo hi lo2 hi2 : Nat) (A A2 : Option Addr) (n cap n2 cap2 : Nat) (w : World) (h : Rd .u8 w lo hi A n cap zs) (h2 : Rd .u8 w lo2 hi2 A2 n2 cap2 ys) :
    Calls Try.prog 19 #[.slice A n cap, .slice A2 n2 cap2] w (EqPost zs ys w) := by
  have hb := h.cap_
  have hb2 := h2.cap_
  have HR := Lib.hid h
  have HS := Lib.hid h2
  clear h h2
  by_cases hnn : n = n2
  · subst hnn
    go_enter Try.func19, Try.ntmps19
    go_wp2
    go_loopw [5] (fun i wr => ∃ k m : Nat, i = .int .i64 k ∧ k ≤ n ∧ wr = w.drewN m ∧ ∀ j, j < k → zs.getD j 0 = ys.getD j 0) (fun i _ => n - (intOf i).toNat)
    case atStart => exact ⟨0, 0, rfl, by omega, rfl, fun j h => absurd h (by omega)⟩
    case round =>
      obtain ⟨k, m, rfl, hk, rfl, hall⟩ := hrel
      have HA := Lib.hid hall
      clear hall
      by_cases hlt : k < n
      · obtain ⟨b, off, rfl, h1, h2, hc⟩ := HR.out.at_ hlt
        obtain ⟨b2, off2, rfl, h3, h4, hc2⟩ := HS.out.at_ hlt
        obtain ⟨x, hx⟩ : ∃ x, zs.getD k 0 = x := ⟨_, rfl⟩
        obtain ⟨y, hy⟩ : ∃ y, ys.getD k 0 = y := ⟨_, rfl⟩
        rw [hx] at hc
        rw [hy] at hc2
        have HX := Lib.hid (And.intro hx hy)
        clear hx hy
        have hlt2 : (k : Int) < n := by omega
        by_cases hxy : x = y
        · subst hxy
          go_wp2
          go_quiet (fail)
          go_wp2
          go_roundw
          case rel =>
            refine ⟨k + 1, _, by go_num, by omega, rfl, fun j hj => ?_⟩
            rcases Nat.lt_or_ge j k with hjk | hjk
            · exact HA.out j hjk
            · obtain rfl : j = k := by omega
              rw [HX.out.1, HX.out.2]
          case measure => simp [intOf]; omega
        · have hne : (x == y) = false := by simpa using hxy
          go_wp2
          go_quiet (fail)
          go_wp2
          go_ret
          refine ⟨?_, ⟨rfl, rfl, rfl, Nat.le_refl _, fun _ _ => rfl⟩⟩
          rw [eq_false (ne_at (k := k) (by rw [HX.out.1, HX.out.2]; exact hxy))]; rfl
      · have hlt2 : ¬ (k : Int) < n := by omega
        obtain rfl : k = n := by omega
        go_wp2
        go_ret
        refine ⟨?_, ⟨rfl, rfl, rfl, Nat.le_refl _, fun _ _ => rfl⟩⟩
        rw [eq_true (eq_all HR.out.len HS.out.len HA.out)]; rfl
  · have hne : ¬ (n : Int) = n2 := by omega
    have HN : Hid (¬ zs = ys) := by
      intro e
      have h1 := HR.out.len
      have h2 := HS.out.len
      rw [e] at h1
      omega
    go_enter Try.func19, Try.ntmps19
    go_wp2
    go_ret
    exact ⟨by rw [eq_false HN.out]; rfl, Below.refl _ _⟩

theorem sameB_yes (zs : List Int) (lo hi lo2 hi2 : Nat) (A A2 : Option Addr) (n cap n2 cap2 : Nat) (w : World) (h : Rd .u8 w lo hi A n cap zs) (h2 : Rd .u8 w lo2 hi2 A2 n2 cap2 zs) :
    Calls Try.prog 19 #[.slice A n cap, .slice A2 n2 cap2] w fun e w' => e = .returned (.bool true) ∧ Below w.heap.size w w' :=
  (sameB zs zs lo hi lo2 hi2 A A2 n cap n2 cap2 w h h2).mono fun e w' ⟨he, hb⟩ => ⟨by rw [he, eq_true rfl], hb⟩

end Go.Proofs.Ytbkdbdhbmabgcaa.harn
end
