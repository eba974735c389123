/- IsValidMessage, IsValidQueue, NextMessage of both sides. Condition: none. -/
import Derived.Test.YtjmenbpalihnnaaQc1
namespace Go.Proofs.Ytjmenbpalihnnaa.mq
open Go.RowKit sl harn bx mrw
set_option linter.unusedVariables false
set_option linter.unusedSimpArgs false

theorem isStn (k : Int) (v : Bool) (w : World) (h : decide (0 ≤ k ∧ k ≤ 15) = v) :
    Calls Try.prog 111 #[.int .i64 k] w fun e w' => e = .returned (.bool v) ∧ w = w' := by
  have H := Lib.hid h
  clear h
  go_enter Try.func111, Try.ntmps111
  go_wp2_with fail
  (with_reducible refine (inR _ _ _ _ _ H.out).mono ?_)
  rintro e w1 ⟨rfl, rfl⟩
  go_wp2_with fail
  go_ret
  exact ⟨rfl, rfl⟩
theorem isCat (k : Int) (v : Bool) (w : World) (h : decide (0 ≤ k ∧ k ≤ 3) = v) :
    Calls Try.prog 102 #[.int .i64 k] w fun e w' => e = .returned (.bool v) ∧ w = w' := by
  have H := Lib.hid h
  clear h
  go_enter Try.func102, Try.ntmps102
  go_wp2_with fail
  (with_reducible refine (inR _ _ _ _ _ H.out).mono ?_)
  rintro e w1 ⟨rfl, rfl⟩
  go_wp2_with fail
  go_ret
  exact ⟨rfl, rfl⟩
theorem isDst (k : Int) (v : Bool) (w : World) (h : (decide (0 ≤ k ∧ k ≤ 15) || k == 63) = v) :
    Calls Try.prog 101 #[.int .i64 k] w fun e w' => e = .returned (.bool v) ∧ w = w' := by
  obtain ⟨u, hu⟩ : ∃ u, decide (0 ≤ k ∧ k ≤ 15) = u := ⟨_, rfl⟩
  rw [hu] at h
  have H := Lib.hid h
  have HU := Lib.hid hu
  clear h hu
  go_enter Try.func101, Try.ntmps101
  go_wp2_with fail
  (with_reducible refine (isStn _ _ _ HU.out).mono ?_)
  rintro e w1 ⟨rfl, rfl⟩
  cases u with
  | true =>
    go_wp2_with fail
    go_ret
    exact ⟨by rw [← H.out]; rfl, rfl⟩
  | false =>
    go_wp2_with fail
    go_ret
    exact ⟨by rw [← H.out, Bool.false_or]; rfl, rfl⟩
set_option maxRecDepth 100000 in
set_option maxHeartbeats 4000000 in
theorem implVm (x : Msg) (A : Option Addr) (n c : Nat) (hz : x.2.2.2.length = n) (w : World) :
    Calls Try.prog 63 #[mV x A n c] w (BPost (vm x) w) := by
  obtain ⟨v0, h0⟩ : ∃ v, (decide (0 ≤ x.1 ∧ x.1 ≤ 15) || x.1 == 63) = v := ⟨_, rfl⟩
  obtain ⟨v1, h1⟩ : ∃ v, decide (0 ≤ x.2.1 ∧ x.2.1 ≤ 3) = v := ⟨_, rfl⟩
  obtain ⟨v2, h2⟩ : ∃ v, decide (0 ≤ x.2.2.1 ∧ x.2.2.1 ≤ 1000000000000) = v := ⟨_, rfl⟩
  obtain ⟨v3, h3⟩ : ∃ v, decide ((n : Int) ≤ 100) = v := ⟨_, rfl⟩
  have HV := Lib.hid (show vm x = (v0 && (v1 && (v2 && v3))) by unfold vm; rw [h0, h1, h2, hz, h3])
  have H0 := Lib.hid h0
  have H1 := Lib.hid h1
  have H2 := Lib.hid h2
  have H3 := Lib.hid h3
  have HB := Lib.hid (below_box w (.cells #[.int .i64 x.1, .int .i64 x.2.1, .int .i64 x.2.2.1, .slice A n c] 28))
  clear h0 h1 h2 h3 hz
  go_enter Try.func63, Try.ntmps63
  go_wp2_with fail
  (with_reducible refine (isDst _ _ _ H0.out).mono ?_)
  rintro e wq ⟨rfl, rfl⟩
  cases v0 with
  | true =>
    go_wp2_with fail
    (with_reducible refine (isCat _ _ _ H1.out).mono ?_)
    rintro e wq ⟨rfl, rfl⟩
    cases v1 with
    | true =>
      go_wp2_with fail
      (with_reducible refine (inR _ _ _ _ _ H2.out).mono ?_)
      rintro e wq ⟨rfl, rfl⟩
      cases v2 with
      | true =>
        go_wp2_with fail
        go_ret
        refine ⟨?_, HB.out⟩
        rw [HV.out, ← H3.out]; rfl
      | false =>
        go_wp2_with fail
        go_ret
        exact ⟨by rw [HV.out]; rfl, HB.out⟩
    | false =>
      go_wp2_with fail
      go_ret
      exact ⟨by rw [HV.out]; rfl, HB.out⟩
  | false =>
    go_wp2_with fail
    go_ret
    exact ⟨by rw [HV.out]; rfl, HB.out⟩
set_option maxRecDepth 100000 in
set_option maxHeartbeats 4000000 in
theorem specVm (x : Msg) (A : Option Addr) (n c : Nat) (hz : x.2.2.2.length = n) (w : World) :
    Calls Try.prog 16 #[mV x A n c] w (BPost (vm x) w) := by
  obtain ⟨v0, h0⟩ : ∃ v, (decide (0 ≤ x.1 ∧ x.1 ≤ 15) || x.1 == 63) = v := ⟨_, rfl⟩
  obtain ⟨v1, h1⟩ : ∃ v, decide (0 ≤ x.2.1 ∧ x.2.1 ≤ 3) = v := ⟨_, rfl⟩
  obtain ⟨v2, h2⟩ : ∃ v, decide (0 ≤ x.2.2.1 ∧ x.2.2.1 ≤ 1000000000000) = v := ⟨_, rfl⟩
  obtain ⟨v3, h3⟩ : ∃ v, decide ((n : Int) ≤ 100) = v := ⟨_, rfl⟩
  have HV := Lib.hid (show vm x = (v0 && (v1 && (v2 && v3))) by unfold vm; rw [h0, h1, h2, hz, h3])
  obtain ⟨u, hu⟩ : ∃ u, decide (0 ≤ x.1 ∧ x.1 ≤ 15) = u := ⟨_, rfl⟩
  rw [hu] at h0
  have HU := Lib.hid hu
  clear hu
  have H0 := Lib.hid h0
  have H1 := Lib.hid h1
  have H2 := Lib.hid h2
  have H3 := Lib.hid h3
  have HB := Lib.hid (below_box w (.cells #[.int .i64 x.1, .int .i64 x.2.1, .int .i64 x.2.2.1, .slice A n c] 28))
  clear h0 h1 h2 h3 hz
  go_enter Try.func16, Try.ntmps16
  go_wp2_with fail
  (with_reducible refine (l1R _ _ _ _ _ HU.out).mono ?_)
  rintro e wq ⟨rfl, rfl⟩
  cases u with
  | true =>
    have e0 : v0 = true := H0.out.symm
    subst e0
    go_wp2_with fail
    (with_reducible refine (l1R _ _ _ _ _ H1.out).mono ?_)
    rintro e wq ⟨rfl, rfl⟩
    cases v1 with
    | true =>
      go_wp2_with fail
      (with_reducible refine (l1R _ _ _ _ _ H2.out).mono ?_)
      rintro e wq ⟨rfl, rfl⟩
      cases v2 with
      | true =>
        go_wp2_with fail
        go_ret
        refine ⟨?_, HB.out⟩
        rw [HV.out, ← H3.out]; rfl
      | false =>
        go_wp2_with fail
        go_ret
        exact ⟨by rw [HV.out]; rfl, HB.out⟩
    | false =>
      go_wp2_with fail
      go_ret
      exact ⟨by rw [HV.out]; rfl, HB.out⟩
  | false =>
    have e0 : (x.1 == 63) = v0 := by rw [← H0.out, Bool.false_or]
    cases v0 with
    | true =>
      go_wp2_with fail
      (with_reducible refine (l1R _ _ _ _ _ H1.out).mono ?_)
      rintro e wq ⟨rfl, rfl⟩
      cases v1 with
      | true =>
        go_wp2_with fail
        (with_reducible refine (l1R _ _ _ _ _ H2.out).mono ?_)
        rintro e wq ⟨rfl, rfl⟩
        cases v2 with
        | true =>
          go_wp2_with fail
          go_ret
          refine ⟨?_, HB.out⟩
          rw [HV.out, ← H3.out]; rfl
        | false =>
          go_wp2_with fail
          go_ret
          exact ⟨by rw [HV.out]; rfl, HB.out⟩
      | false =>
        go_wp2_with fail
        go_ret
        exact ⟨by rw [HV.out]; rfl, HB.out⟩
    | false =>
      go_wp2_with fail
      go_ret
      exact ⟨by rw [HV.out]; rfl, HB.out⟩
theorem all_vm {ms : List Msg} {n : Nat} (hl : ms.length = n) (h : ∀ j, j < n → vm (ms.getD j zm) = true) : ms.all vm = true := by
  rw [List.all_eq_true]
  intro x hx
  obtain ⟨j, hj, e⟩ := List.getElem_of_mem hx
  have := h j (by omega)
  rw [List.getD_eq_getElem?_getD, List.getElem?_eq_getElem hj] at this
  simpa [e] using this
theorem not_vm {ms : List Msg} {n j : Nat} (hl : ms.length = n) (hj : j < n) (h : vm (ms.getD j zm) = false) : ms.all vm = false := by
  rw [List.all_eq_false]
  refine ⟨ms[j], List.getElem_mem (by omega), ?_⟩
  rw [List.getD_eq_getElem?_getD, List.getElem?_eq_getElem (show j < ms.length by omega)] at h
  simpa using h
set_option maxRecDepth 100000 in
set_option maxHeartbeats 4000000 in
theorem implVq (ms : List Msg) (d : Int) (A : Option Addr) (n cap lo hi : Nat) (w : World) (h : Rq msg w lo hi A n cap ms) :
    Calls Try.prog 18 #[qV A n cap d] w (BPost (vq ms d) w) := by
  have hc := h.cap_
  have HQ := Lib.hid h
  clear h
  have HL := Lib.hid HQ.out.len
  have HX := Lib.hid (Bx.made 26 w #[.slice A n cap, .int .i64 d])
  obtain ⟨u, hu⟩ : ∃ u, decide ((n : Int) ≤ 12) = u := ⟨_, rfl⟩
  obtain ⟨v, hv⟩ : ∃ v, decide (0 ≤ d) = v := ⟨_, rfl⟩
  have HV := Lib.hid (show vq ms d = (u && (v && ms.all vm)) by unfold vq; rw [← hu, ← hv, HL.out]; congr 1; exact decide_eq_decide.2 (by omega))
  have HU := Lib.hid hu
  have HW := Lib.hid hv
  clear hu hv
  go_enter Try.func18, Try.ntmps18
  go_upto_region 1 with fail
  have q0 : (w.alloc (.cells #[.slice A n cap, .int .i64 d] 26)).cell? ⟨w.heap.size, 0, none⟩ = some (.slice A n cap) := HX.out.cell 0
  have q1 : (w.alloc (.cells #[.slice A n cap, .int .i64 d] 26)).cell? ⟨w.heap.size, 1, none⟩ = some (.int .i64 d) := HX.out.cell 1
  have HB0 := Lib.hid (below_box w (.cells #[.slice A n cap, .int .i64 d] 26))
  cases u with
  | true =>
    have e0 : decide ((12 : Int) < n) = false := by have := of_decide_eq_true HU.out; exact decide_eq_false (by omega)
    cases v with
    | true =>
      have e1 : decide (d < 0) = false := by have := of_decide_eq_true HW.out; exact decide_eq_false (by omega)
      go_wp2_with fail
      go_loopw [17] (fun i wr => ∃ k : Nat, i = .int .i64 k ∧ k ≤ n ∧ (∀ j, j < k → vm (ms.getD j zm) = true) ∧ Below w.heap.size w wr ∧ Bx 26 wr w.heap.size #[.slice A n cap, .int .i64 d]) (fun i _ => n - (intOf i).toNat)
      case atStart => exact ⟨0, rfl, by omega, fun j h => absurd h (by omega), below_box _ _, HX.out⟩
      case round =>
        obtain ⟨k, rfl, hk, hall, hb, hx⟩ := hrel
        have HA := Lib.hid hall
        have HB := Lib.hid hb
        have HX := Lib.hid hx
        have HR := Lib.hid (HQ.out.below hb)
        have q0 : wr.cell? ⟨w.heap.size, 0, none⟩ = some (.slice A n cap) := hx.cell 0
        have q1 : wr.cell? ⟨w.heap.size, 1, none⟩ = some (.int .i64 d) := hx.cell 1
        clear hall hb hx
        by_cases hlt : k < n
        · obtain ⟨b, off, y, hA, hy, h1, h2, A', n', c', hd, c0, c1, c2, c3⟩ := at_ HR.out hlt
          have HY := Lib.hid (getD_of hy)
          have HD := Lib.hid hd
          clear hy hd
          subst hA
          have hlt2 : (k : Int) < n := by omega
          obtain ⟨t, ht⟩ : ∃ t, vm y = t := ⟨_, rfl⟩
          have HT := Lib.hid ht
          clear ht
          go_wp2_with fail
          have HB := Lib.hid (HB.out.alloc HB.out.size (.cells #[.int .i64 y.1, .int .i64 y.2.1, .int .i64 y.2.2.1, .slice A' n' c'] 28))
          have HX := Lib.hid (HX.out.below (below_box wr (.cells #[.int .i64 y.1, .int .i64 y.2.1, .int .i64 y.2.2.1, .slice A' n' c'] 28)))
          (with_reducible refine (implVm y A' n' c' HD.out.len _).mono ?_)
          rintro e w2 hp
          obtain ⟨rfl, hb2⟩ := b_parts HT.out hp
          have HB2 := Lib.hid (HB.out.trans (hb2.mono HB.out.size))
          have HX2 := Lib.hid (HX.out.below hb2)
          clear hp hb2 q0 q1 c0 c1 c2 c3
          cases t with
          | true =>
            go_wp2_with fail
            go_roundw
            case rel => exact ⟨k + 1, by go_num, by omega, fun j hj => by
              rcases Nat.lt_or_ge j k with hjk | hjk
              · exact HA.out j hjk
              · obtain rfl : j = k := by omega
                rw [HY.out]; exact HT.out, HB2.out, HX2.out⟩
            case measure => simp [intOf]; omega
          | false =>
            have HF := Lib.hid (not_vm HL.out hlt (by rw [HY.out]; exact HT.out))
            go_wp2_with fail
            go_ret
            exact ⟨by rw [HV.out, HF.out]; simp, HB2.out⟩
        · have hlt2 : ¬ (k : Int) < n := by omega
          obtain rfl : k = n := by omega
          have HF := Lib.hid (all_vm HL.out HA.out)
          go_wp2_with fail
          go_ret
          exact ⟨by rw [HV.out, HF.out]; rfl, HB.out⟩
    | false =>
      have e1 : decide (d < 0) = true := by have := of_decide_eq_false HW.out; exact decide_eq_true (by omega)
      go_wp2_with fail
      go_ret
      exact ⟨by rw [HV.out]; rfl, HB0.out⟩
  | false =>
    have e0 : decide ((12 : Int) < n) = true := by have := of_decide_eq_false HU.out; exact decide_eq_true (by omega)
    go_wp2_with fail
    go_ret
    exact ⟨by rw [HV.out]; rfl, HB0.out⟩
set_option maxRecDepth 100000 in
set_option maxHeartbeats 4000000 in
theorem specVq (ms : List Msg) (d : Int) (A : Option Addr) (n cap lo hi : Nat) (w : World) (h : Rq msg w lo hi A n cap ms) :
    Calls Try.prog 15 #[qV A n cap d] w (BPost (vq ms d) w) := by
  have hc := h.cap_
  have HQ := Lib.hid h
  clear h
  have HL := Lib.hid HQ.out.len
  have HX := Lib.hid (Bx.made 26 w #[.slice A n cap, .int .i64 d])
  obtain ⟨u, hu⟩ : ∃ u, decide ((n : Int) ≤ 12) = u := ⟨_, rfl⟩
  obtain ⟨v, hv⟩ : ∃ v, decide (0 ≤ d) = v := ⟨_, rfl⟩
  have HV := Lib.hid (show vq ms d = (u && (v && ms.all vm)) by unfold vq; rw [← hu, ← hv, HL.out]; congr 1; exact decide_eq_decide.2 (by omega))
  have HU := Lib.hid hu
  have HW := Lib.hid hv
  clear hu hv
  go_enter Try.func15, Try.ntmps15
  go_wp2_with fail
  go_loopw [3] (fun i wr => ∃ k : Nat, i = .int .i64 k ∧ k ≤ n ∧ (∀ j, j < k → vm (ms.getD j zm) = true) ∧ Below w.heap.size w wr ∧ Bx 26 wr w.heap.size #[.slice A n cap, .int .i64 d]) (fun i _ => n - (intOf i).toNat)
  case atStart => exact ⟨0, rfl, by omega, fun j h => absurd h (by omega), below_box _ _, HX.out⟩
  case round =>
    obtain ⟨k, rfl, hk, hall, hb, hx⟩ := hrel
    have HA := Lib.hid hall
    have HB := Lib.hid hb
    have HX := Lib.hid hx
    have HR := Lib.hid (HQ.out.below hb)
    have q0 : wr.cell? ⟨w.heap.size, 0, none⟩ = some (.slice A n cap) := hx.cell 0
    have q1 : wr.cell? ⟨w.heap.size, 1, none⟩ = some (.int .i64 d) := hx.cell 1
    clear hall hb hx
    by_cases hlt : k < n
    · obtain ⟨b, off, y, hA, hy, h1, h2, A', n', c', hd, c0, c1, c2, c3⟩ := at_ HR.out hlt
      have HY := Lib.hid (getD_of hy)
      have HD := Lib.hid hd
      clear hy hd
      subst hA
      have hlt2 : (k : Int) < n := by omega
      obtain ⟨t, ht⟩ : ∃ t, vm y = t := ⟨_, rfl⟩
      have HT := Lib.hid ht
      clear ht
      go_wp2_with fail
      (with_reducible refine (specVm y A' n' c' HD.out.len _).mono ?_)
      rintro e w2 hp
      obtain ⟨rfl, hb2⟩ := b_parts HT.out hp
      have HB2 := Lib.hid (HB.out.trans (hb2.mono HB.out.size))
      have HX2 := Lib.hid (HX.out.below hb2)
      clear hp hb2 q0 q1 c0 c1 c2 c3
      cases t with
      | true =>
        go_wp2_with fail
        go_roundw
        case rel => exact ⟨k + 1, by go_num, by omega, fun j hj => by
          rcases Nat.lt_or_ge j k with hjk | hjk
          · exact HA.out j hjk
          · obtain rfl : j = k := by omega
            rw [HY.out]; exact HT.out, HB2.out, HX2.out⟩
        case measure => simp [intOf]; omega
      | false =>
        have HF := Lib.hid (not_vm HL.out hlt (by rw [HY.out]; exact HT.out))
        go_wp2_with fail
        go_ret
        exact ⟨by rw [HV.out, HF.out]; simp, HB2.out⟩
    · have hlt2 : ¬ (k : Int) < n := by omega
      obtain rfl : k = n := by omega
      have HF := Lib.hid (all_vm HL.out HA.out)
      cases u with
      | true =>
        have e0 := HU.out
        have e1 := HW.out
        go_wp2_with fail
        go_ret
        exact ⟨by rw [HV.out, HF.out]; simp, HB.out⟩
      | false =>
        have e0 := HU.out
        go_wp2_with fail
        go_ret
        exact ⟨by rw [HV.out]; rfl, HB.out⟩
set_option maxRecDepth 100000 in
set_option maxHeartbeats 4000000 in
theorem implNm (ms : List Msg) (d : Int) (A : Option Addr) (n cap lo hi : Nat) (w : World) (h : Rq msg w lo hi A n cap ms) :
    Calls Try.prog 23 #[qV A n cap d] w (NPost (bst gt ms n) w) := by
  have hc := h.cap_
  have HQ := Lib.hid h
  clear h
  have HX := Lib.hid (Bx.made 26 w #[.slice A n cap, .int .i64 d])
  have HR := Lib.hid (HQ.out.below (below_box w (.cells #[.slice A n cap, .int .i64 d] 26)))
  have HB := Lib.hid (below_box w (.cells #[.slice A n cap, .int .i64 d] 26))
  go_enter Try.func23, Try.ntmps23
  go_wp2_with fail
  (with_reducible refine (chosenT ms A n cap lo hi _ HR.out).mono ?_)
  rintro e w1 ⟨rfl, hb⟩
  have HB1 := Lib.hid (HB.out.trans (hb.mono HB.out.size))
  clear hb
  go_wp2_with fail
  go_ret
  exact ⟨rfl, HB1.out⟩
end Go.Proofs.Ytjmenbpalihnnaa.mq
