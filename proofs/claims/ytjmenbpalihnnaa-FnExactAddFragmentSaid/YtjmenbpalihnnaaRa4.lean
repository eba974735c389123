/- The first reassembly of a sender; whether a fragment continues one. Condition: none. -/
import Derived.Test.YtjmenbpalihnnaaRa3
import Derived.WalkMore
import Derived.ScopeJumps
namespace Go.Proofs.Ytjmenbpalihnnaa.fr
open Go.RowKit sl harn bx mrw drk stw
set_option linter.unusedVariables false
set_option linter.unusedSimpArgs false
open ux (Rea Fra rea fra)

theorem fst_hit {l : List Rea} {x : Int} {k : Nat} {y : Rea} (hp : ∀ i, i < k → (l.getD i zr).From ≠ x) (hy : l[k]? = some y) (hx : y.From = x) : fst l x = k := by
  have hk : k < l.length := by
    rcases Nat.lt_or_ge k l.length with h | h
    · exact h
    · rw [List.getElem?_eq_none h] at hy; cases hy
  have e : l[k] = y := (List.getElem?_eq_some_iff.1 hy).2
  unfold fst
  rw [List.findIdx_eq hk]
  refine ⟨by rw [e, hx]; simp, fun j hj => ?_⟩
  have := hp j hj
  rw [List.getD_eq_getElem?_getD, List.getElem?_eq_getElem (by omega)] at this
  simpa using this
theorem fst_none {l : List Rea} {x : Int} {k : Nat} (hp : ∀ i, i < k → (l.getD i zr).From ≠ x) (hk : l.length ≤ k) : fst l x = l.length := by
  unfold fst
  rw [List.findIdx_eq_length]
  intro y hy
  obtain ⟨i, hi, e⟩ := List.getElem_of_mem hy
  have := hp i (by omega)
  rw [List.getD_eq_getElem?_getD, List.getElem?_eq_getElem hi] at this
  subst e
  simpa using this
theorem fst_le (l : List Rea) (x : Int) : fst l x ≤ l.length := List.findIdx_le_length
theorem nohit {l : List Rea} {x : Int} {k : Nat} {y : Rea} (hp : ∀ i, i < k → (l.getD i zr).From ≠ x) (hy : l[k]? = some y) (hx : ¬ y.From = x) : ∀ i, i < k + 1 → (l.getD i zr).From ≠ x := by
  intro i hi
  rcases Nat.lt_or_ge i k with h | h
  · exact hp i h
  · obtain rfl : i = k := by omega
    rw [getD_of hy]; exact hx
/-- The first reassembly's index, -1 if there is none. -/
def fidx (l : List Rea) (x : Int) : Int := if fst l x < l.length then fst l x else -1
set_option maxRecDepth 100000 in
set_option maxHeartbeats 4000000 in
theorem implFr (x : Int) (ms : List Rea) (A : Option Addr) (n cap lo hi : Nat) (w : World) (h : Rq reaS w lo hi A n cap ms) :
    Calls Try.prog 82 #[.slice A n cap, .int .i64 x] w (NPost (fidx ms x) w) := by
  have HQ := Lib.hid h
  have hc := h.cap_
  have HL := Lib.hid h.len
  obtain ⟨v, hv⟩ : ∃ v : Int, fidx ms x = v := ⟨_, rfl⟩
  have HV := Lib.hid (show (if fst ms x < ms.length then (fst ms x : Int) else -1) = v from hv)
  rw [hv]
  clear h hv
  go_enter Try.func82, Try.ntmps82
  go_wp2_with fail
  refine wp_scope_jumps 0 (fun a' w' => w' = w ∧ ∃ (k : Nat) (u4 u6 u7 u8 u9 u10 u11 u12 u13 u14 u15 u16 u17 u18 u19 : Value), a' = { tmps := #[.slice A n cap, .int .i64 x, undef, undef, u4, .int .i64 k, u6, u7, u8, u9, u10, u11, u12, u13, u14, u15, u16, u17, u18, u19], defers := [] } ∧ k ≤ n ∧ ∀ i, i < k → (ms.getD i zr).From ≠ x) (fun a' _ => n - (intOf (a'.tmps.getD 5 undef)).toNat) rfl ?_ ?_
  · have HP := Lib.hid (show ∀ i, i < 0 → (ms.getD i zr).From ≠ x from fun i hi => by omega)
    go_wp2_with fail
    by_cases hk0 : 0 = n
    · have hk1 : 0 = (n : Int) := by omega
      have HE := Lib.hid (show v = -1 by have h1 := fst_none HP.out (by rw [HL.out]; omega); rw [← HV.out, h1]; simp)
      go_step3
      go_wp2_with fail
      simp only [Exit.jump]
      go_ret
      exact ⟨by rw [HE.out]; rfl, Below.refl _ _⟩
    · have hk1 : ¬ 0 = (n : Int) := by omega
      obtain ⟨b, off, y, hA, hy, h1, h2, A', n', c', hd, ce0, ce1, ce2, ce3, ce4⟩ := at_ HQ.out (show 0 < n by omega)
      clear hd h1 h2 ce1 ce2 ce3 ce4
      have HY := Lib.hid hy
      clear hy
      subst hA
      have ce := ce0
      simp only [Nat.zero_mul, Nat.add_zero] at ce
      clear ce0
      by_cases hx : y.From = x
      · have HE := Lib.hid (show v = 0 by have h1 := fst_hit HP.out HY.out hx; rw [← HV.out, h1, if_pos (by rw [HL.out]; omega)]; rfl)
        go_step3
        go_wp2_with fail
        simp only [Exit.jump]
        go_ret
        exact ⟨by rw [HE.out]; rfl, Below.refl _ _⟩
      · have HN := Lib.hid (nohit HP.out HY.out hx)
        go_step3
        go_wp2_with fail
        go_step3
        refine ⟨rfl, rfl, 1, _, _, _, _, _, _, _, _, _, _, _, _, _, _, _, rfl, by omega, HN.out⟩
  · rintro a w1 ⟨rfl, k, u4, u6, u7, u8, u9, u10, u11, u12, u13, u14, u15, u16, u17, u18, u19, rfl, hk, hp⟩
    have HP := Lib.hid hp
    clear hp
    by_cases hk0 : k = n
    · have hk1 : (k : Int) = (n : Int) := by omega
      have HE := Lib.hid (show v = -1 by have h1 := fst_none HP.out (by rw [HL.out]; omega); rw [← HV.out, h1]; simp)
      go_wp2_with fail
      simp only [Exit.jump]
      go_ret
      exact ⟨by rw [HE.out]; rfl, Below.refl _ _⟩
    · have hk1 : ¬ (k : Int) = (n : Int) := by omega
      obtain ⟨b, off, y, hA, hy, h1, h2, A', n', c', hd, ce0, ce1, ce2, ce3, ce4⟩ := at_ HQ.out (show k < n by omega)
      clear hd h1 h2 ce1 ce2 ce3 ce4
      have HY := Lib.hid hy
      clear hy
      subst hA
      by_cases hx : y.From = x
      · have HE := Lib.hid (show v = (k : Int) by have h1 := fst_hit HP.out HY.out hx; rw [← HV.out, h1, if_pos (by rw [HL.out]; omega)])
        go_wp2_with fail
        simp only [Exit.jump]
        go_ret
        exact ⟨by rw [HE.out]; rfl, Below.refl _ _⟩
      · have HN := Lib.hid (nohit HP.out HY.out hx)
        go_wp2_with fail
        go_step3
        refine ⟨rfl, ⟨rfl, k + 1, _, _, _, _, _, _, _, _, _, _, _, _, _, _, _, rfl, by omega, HN.out⟩, ?_⟩
        have := hk1; simp [intOf]; try omega
set_option maxRecDepth 100000 in
set_option maxHeartbeats 4000000 in
theorem specFd (x : Int) (ms : List Rea) (A : Option Addr) (n cap lo hi : Nat) (w : World) (h : Rq reaS w lo hi A n cap ms) :
    Calls Try.prog 94 #[.slice A n cap, .int .i64 x] w (NPost (fidx ms x) w) := by
  have LHQ := Lib.hid h.hi_
  have HL := Lib.hid h.len
  have QW := Lib.hid h
  have hc := h.cap_
  obtain ⟨v, hv⟩ : ∃ v : Int, fidx ms x = v := ⟨_, rfl⟩
  have HV := Lib.hid (show (if fst ms x < ms.length then (fst ms x : Int) else -1) = v from hv)
  rw [hv]
  clear h hv
  go_enter Try.func94, Try.ntmps94
  go_wp2_with fail
  have B0 := Lib.hid (Below.refl w.heap.size w)
  have Q0 := QW
  go_loopw [5] (fun v0 wr => ∃ (k : Nat), v0 = .int .i64 ((k : Int)) ∧ (k ≤ n) ∧ (∀ i, i < k → (ms.getD i zr).From ≠ x) ∧ Below w.heap.size w wr ∧ Rq reaS wr lo hi A n cap ms) (fun i _ => n - (intOf i).toNat)
  case atStart => exact ⟨0, rfl, by omega, fun i hi => by omega, B0.out, Q0.out⟩
  case round =>
    obtain ⟨k, rfl, ghk, ghp, gB1, gQ1⟩ := hrel
    have B1 := Lib.hid gB1
    have Q1 := Lib.hid gQ1
    have hk := Lib.hid ghk
    have hp := Lib.hid ghp
    clear gB1 gQ1 ghk ghp
    have SBR1 := Lib.hid B1.out.size
    have hk := hk.out
    by_cases hlt : k < n
    · obtain ⟨b, off, y, hA, hy, h1, h2, A', n', c', hd, ce0, ce1, ce2, ce3, ce4⟩ := at_ Q1.out hlt
      have HY := Lib.hid hy
      have D1 := Lib.hid hd
      clear hy hd
      subst hA
      have hlt2 : (k : Int) < n := by omega
      by_cases hx : y.From = x
      · have HE := Lib.hid (show v = (k : Int) by have h1 := fst_hit hp.out HY.out hx; rw [← HV.out, h1, if_pos (by rw [HL.out]; omega)])
        go_wp2_with fail
        rw [HE.out]
        go_ret
        exact ⟨rfl, B1.out⟩
      · have HN := Lib.hid (nohit hp.out HY.out hx)
        go_wp2_with fail
        go_roundw
        case rel => exact ⟨k + 1, by go_num, by omega, HN.out, B1.out, Q1.out⟩
        case measure => simp [intOf]; omega
    · have hlt2 : ¬ (k : Int) < n := by omega
      have HE := Lib.hid (show v = -1 by have h1 := fst_none hp.out (by rw [HL.out]; omega); rw [← HV.out, h1]; simp)
      go_wp2_with fail
      rw [HE.out]
      go_ret
      exact ⟨rfl, B1.out⟩
set_option maxRecDepth 100000 in
set_option maxHeartbeats 4000000 in
theorem implCn (r : Rea) (f : Fra) (A : Option Addr) (n c : Nat) (A' : Option Addr) (n' c' : Nat) (w : World) (hn : r.Body.length = n ∧ f.Body.length = n') (hb : (n : Int) ≤ 9223372036854775807 ∧ (n' : Int) ≤ 67108864) (hb2 : (n : Int) ≤ 67108864) :
    Calls Try.prog 85 #[rV r A n c, fV f A' n' c'] w (BPost (cont r f) w) := by
  obtain ⟨v, hv⟩ : ∃ v : Bool, cont r f = v := ⟨_, rfl⟩
  have HV := Lib.hid hv
  rw [hv]
  clear hv
  have hb1 := hb
  go_enter Try.func85, Try.ntmps85
  go_upto_region 1 with fail
  obtain ⟨w0, hW⟩ : ∃ w0, (w.alloc (.cells #[.int .i64 r.From, .int .i64 r.Seq, .int .i64 r.Next, .slice A n c, .int .i64 r.Started] 58)).alloc (.cells #[.int .i64 f.Kind, .int .i64 f.From, .int .i64 f.To, .int .i64 f.Seq, .int .i64 f.Fragment, .bool f.More, .bool f.Retry, .int .i64 f.Duration, .slice A' n' c'] 45) = w0 := ⟨_, rfl⟩
  rw [hW]
  have B0 := Lib.hid (show Below w.heap.size w w0 by rw [← hW]; exact ((Below.refl _ _).alloc (by simp <;> omega) _).alloc (by simp <;> omega) _)
  have X0 := Lib.hid (show Bx 58 w0 (w.heap.size) #[.int .i64 r.From, .int .i64 r.Seq, .int .i64 r.Next, .slice A n c, .int .i64 r.Started] by
      rw [← hW]
      have hh := Bx.made 58 w #[.int .i64 r.From, .int .i64 r.Seq, .int .i64 r.Next, .slice A n c, .int .i64 r.Started]
      exact (hh.below (below_box _ _)))
  have Y0 := Lib.hid (show Bx 45 w0 (w.heap.size + 1) #[.int .i64 f.Kind, .int .i64 f.From, .int .i64 f.To, .int .i64 f.Seq, .int .i64 f.Fragment, .bool f.More, .bool f.Retry, .int .i64 f.Duration, .slice A' n' c'] by
      rw [← hW]
      have hh : Bx 45 ((w.alloc (.cells #[.int .i64 r.From, .int .i64 r.Seq, .int .i64 r.Next, .slice A n c, .int .i64 r.Started] 58)).alloc (.cells #[.int .i64 f.Kind, .int .i64 f.From, .int .i64 f.To, .int .i64 f.Seq, .int .i64 f.Fragment, .bool f.More, .bool f.Retry, .int .i64 f.Duration, .slice A' n' c'] 45)) (w.heap.size + 1) #[.int .i64 f.Kind, .int .i64 f.From, .int .i64 f.To, .int .i64 f.Seq, .int .i64 f.Fragment, .bool f.More, .bool f.Retry, .int .i64 f.Duration, .slice A' n' c'] := by have hh := Bx.made 45 (w.alloc (.cells #[.int .i64 r.From, .int .i64 r.Seq, .int .i64 r.Next, .slice A n c, .int .i64 r.Started] 58)) #[.int .i64 f.Kind, .int .i64 f.From, .int .i64 f.To, .int .i64 f.Seq, .int .i64 f.Fragment, .bool f.More, .bool f.Retry, .int .i64 f.Duration, .slice A' n' c']; simpa using hh
      exact hh)
  clear hW
  have LTX := Lib.hid X0.out.lt
  have LTY := Lib.hid Y0.out.lt
  by_cases h1 : r.Seq = f.Seq
  · by_cases h2 : r.Next = f.Fragment
    · have cX0 : w0.cell? ⟨w.heap.size, 0, none⟩ = some (.int .i64 r.From) := X0.out.cell 0
      have cX1 : w0.cell? ⟨w.heap.size, 1, none⟩ = some (.int .i64 r.Seq) := X0.out.cell 1
      have cX2 : w0.cell? ⟨w.heap.size, 2, none⟩ = some (.int .i64 r.Next) := X0.out.cell 2
      have cX3 : w0.cell? ⟨w.heap.size, 3, none⟩ = some (.slice A n c) := X0.out.cell 3
      have cX4 : w0.cell? ⟨w.heap.size, 4, none⟩ = some (.int .i64 r.Started) := X0.out.cell 4
      have cY0 : w0.cell? ⟨w.heap.size + 1, 0, none⟩ = some (.int .i64 f.Kind) := Y0.out.cell 0
      have cY1 : w0.cell? ⟨w.heap.size + 1, 1, none⟩ = some (.int .i64 f.From) := Y0.out.cell 1
      have cY2 : w0.cell? ⟨w.heap.size + 1, 2, none⟩ = some (.int .i64 f.To) := Y0.out.cell 2
      have cY3 : w0.cell? ⟨w.heap.size + 1, 3, none⟩ = some (.int .i64 f.Seq) := Y0.out.cell 3
      have cY4 : w0.cell? ⟨w.heap.size + 1, 4, none⟩ = some (.int .i64 f.Fragment) := Y0.out.cell 4
      have cY5 : w0.cell? ⟨w.heap.size + 1, 5, none⟩ = some (.bool f.More) := Y0.out.cell 5
      have cY6 : w0.cell? ⟨w.heap.size + 1, 6, none⟩ = some (.bool f.Retry) := Y0.out.cell 6
      have cY7 : w0.cell? ⟨w.heap.size + 1, 7, none⟩ = some (.int .i64 f.Duration) := Y0.out.cell 7
      have cY8 : w0.cell? ⟨w.heap.size + 1, 8, none⟩ = some (.slice A' n' c') := Y0.out.cell 8
      have hw : IntKind.i64.wrap ((n : Int) + n') = (n : Int) + n' := IntWalk.i64_in _ (by omega)
      obtain ⟨u, hu⟩ : ∃ u, decide ((n : Int) + n' ≤ 100) = u := ⟨_, rfl⟩
      have HE := Lib.hid (show v = u by rw [← HV.out, ← hu]; unfold cont; rw [hn.1, hn.2]; simp [h1, h2])
      clear hn
      go_wp2_with fail
      go_ret
      exact ⟨by rw [HE.out]; rfl, B0.out⟩
    · have cX0 : w0.cell? ⟨w.heap.size, 0, none⟩ = some (.int .i64 r.From) := X0.out.cell 0
      have cX1 : w0.cell? ⟨w.heap.size, 1, none⟩ = some (.int .i64 r.Seq) := X0.out.cell 1
      have cX2 : w0.cell? ⟨w.heap.size, 2, none⟩ = some (.int .i64 r.Next) := X0.out.cell 2
      have cX3 : w0.cell? ⟨w.heap.size, 3, none⟩ = some (.slice A n c) := X0.out.cell 3
      have cX4 : w0.cell? ⟨w.heap.size, 4, none⟩ = some (.int .i64 r.Started) := X0.out.cell 4
      have cY0 : w0.cell? ⟨w.heap.size + 1, 0, none⟩ = some (.int .i64 f.Kind) := Y0.out.cell 0
      have cY1 : w0.cell? ⟨w.heap.size + 1, 1, none⟩ = some (.int .i64 f.From) := Y0.out.cell 1
      have cY2 : w0.cell? ⟨w.heap.size + 1, 2, none⟩ = some (.int .i64 f.To) := Y0.out.cell 2
      have cY3 : w0.cell? ⟨w.heap.size + 1, 3, none⟩ = some (.int .i64 f.Seq) := Y0.out.cell 3
      have cY4 : w0.cell? ⟨w.heap.size + 1, 4, none⟩ = some (.int .i64 f.Fragment) := Y0.out.cell 4
      have cY5 : w0.cell? ⟨w.heap.size + 1, 5, none⟩ = some (.bool f.More) := Y0.out.cell 5
      have cY6 : w0.cell? ⟨w.heap.size + 1, 6, none⟩ = some (.bool f.Retry) := Y0.out.cell 6
      have cY7 : w0.cell? ⟨w.heap.size + 1, 7, none⟩ = some (.int .i64 f.Duration) := Y0.out.cell 7
      have cY8 : w0.cell? ⟨w.heap.size + 1, 8, none⟩ = some (.slice A' n' c') := Y0.out.cell 8
      have HE := Lib.hid (show v = false by rw [← HV.out]; unfold cont; simp [h2])
      go_wp2_with fail
      go_ret
      exact ⟨by rw [HE.out]; rfl, B0.out⟩
  · have cX0 : w0.cell? ⟨w.heap.size, 0, none⟩ = some (.int .i64 r.From) := X0.out.cell 0
    have cX1 : w0.cell? ⟨w.heap.size, 1, none⟩ = some (.int .i64 r.Seq) := X0.out.cell 1
    have cX2 : w0.cell? ⟨w.heap.size, 2, none⟩ = some (.int .i64 r.Next) := X0.out.cell 2
    have cX3 : w0.cell? ⟨w.heap.size, 3, none⟩ = some (.slice A n c) := X0.out.cell 3
    have cX4 : w0.cell? ⟨w.heap.size, 4, none⟩ = some (.int .i64 r.Started) := X0.out.cell 4
    have cY0 : w0.cell? ⟨w.heap.size + 1, 0, none⟩ = some (.int .i64 f.Kind) := Y0.out.cell 0
    have cY1 : w0.cell? ⟨w.heap.size + 1, 1, none⟩ = some (.int .i64 f.From) := Y0.out.cell 1
    have cY2 : w0.cell? ⟨w.heap.size + 1, 2, none⟩ = some (.int .i64 f.To) := Y0.out.cell 2
    have cY3 : w0.cell? ⟨w.heap.size + 1, 3, none⟩ = some (.int .i64 f.Seq) := Y0.out.cell 3
    have cY4 : w0.cell? ⟨w.heap.size + 1, 4, none⟩ = some (.int .i64 f.Fragment) := Y0.out.cell 4
    have cY5 : w0.cell? ⟨w.heap.size + 1, 5, none⟩ = some (.bool f.More) := Y0.out.cell 5
    have cY6 : w0.cell? ⟨w.heap.size + 1, 6, none⟩ = some (.bool f.Retry) := Y0.out.cell 6
    have cY7 : w0.cell? ⟨w.heap.size + 1, 7, none⟩ = some (.int .i64 f.Duration) := Y0.out.cell 7
    have cY8 : w0.cell? ⟨w.heap.size + 1, 8, none⟩ = some (.slice A' n' c') := Y0.out.cell 8
    have HE := Lib.hid (show v = false by rw [← HV.out]; unfold cont; simp [h1])
    go_wp2_with fail
    go_ret
    exact ⟨by rw [HE.out]; rfl, B0.out⟩
end Go.Proofs.Ytjmenbpalihnnaa.fr
