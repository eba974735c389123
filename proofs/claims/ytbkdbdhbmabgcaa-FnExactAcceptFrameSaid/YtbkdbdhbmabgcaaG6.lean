/- Merged texts of this seat. Ra4: The first reassembly of a sender; whether a fragment continues one. Condition: none. | Ra5: EqualReassemblies of both sides. Condition: none. | Uv18: The harness over reassemblies and slices of them. Condition: sizes up to 2^26. | Uw18: The harness over frames and slices of frames. Condition: sizes up to 2^26. | Rcv: Reassemblies and frames: rows as the walks tell them (Rq, Oe), as the harness tells them (RR, OO). Condition: none. -/
import Derived.WalkMore
import Derived.ScopeJumps
import Derived.Deep.QuietTactic
import Derived.Test.YtbkdbdhbmabgcaaG1
import Derived.Test.YtbkdbdhbmabgcaaG4
import Derived.Test.YtbkdbdhbmabgcaaG5
section
namespace Go.Proofs.Ytbkdbdhbmabgcaa.fr
open Go.RowKit sl harn bx mrw drk stw
set_option linter.unusedVariables false
set_option linter.unusedSimpArgs false
open ux (Rea Fra rea fra)

theorem fst_hit {l : List Rea} {x : Int} {k : Nat} {y : Rea} (hp : ∀ i, i < k → (l.getD i zr).From ≠ x) (hy : l[k]? = some y) (hx : y.From = x) : fst l x = k := by
  have hk : k < l.length := by
    rcases Nat.lt_or_ge k l.length with h | h
    · exact h
    · rw [List.getElem?_eq_none h] at hy; cases hy
  have e : l[k] = y := (List.getElem?_eq_some_iff.1 hy).2
  unfold fst
  rw [List.findIdx_eq hk]
  refine ⟨by rw [e, hx]; simp, fun j hj => ?_⟩
  have := hp j hj
  rw [List.getD_eq_getElem?_getD, List.getElem?_eq_getElem (by omega)] at this
  simpa using this
theorem fst_none {l : List Rea} {x : Int} {k : Nat} (hp : ∀ i, i < k → (l.getD i zr).From ≠ x) (hk : l.length ≤ k) : fst l x = l.length := by
  unfold fst
  rw [List.findIdx_eq_length]
  intro y hy
  obtain ⟨i, hi, e⟩ := List.getElem_of_mem hy
  have := hp i (by omega)
  rw [List.getD_eq_getElem?_getD, List.getElem?_eq_getElem hi] at this
  subst e
  simpa using this
theorem fst_le (l : List Rea) (x : Int) : fst l x ≤ l.length := List.findIdx_le_length
theorem nohit {l : List Rea} {x : Int} {k : Nat} {y : Rea} (hp : ∀ i, i < k → (l.getD i zr).From ≠ x) (hy : l[k]? = some y) (hx : ¬ y.From = x) : ∀ i, i < k + 1 → (l.getD i zr).From ≠ x := by
  intro i hi
  rcases Nat.lt_or_ge i k with h | h
  · exact hp i h
  · obtain rfl : i = k := by omega
    rw [getD_of hy]; exact hx
/-- The first reassembly's index, -1 if there is none. -/
def fidx (l : List Rea) (x : Int) : Int := if fst l x < l.length then fst l x else -1
set_option maxRecDepth 100000 in
set_option maxHeartbeats 4000000 in
theorem implFr (x : Int) (ms : List Rea) (A : Option Addr) (n cap lo hi : Nat) (w : World) (h : Rq reaS w lo hi A n cap ms) :
    Calls Try.prog 61 #[.slice A n cap, .int .i64 x] w (NPost (fidx ms x) w) := by
  have HQ := Lib.hid h
  have hc := h.cap_
  have HL := Lib.hid h.len
  obtain ⟨v, hv⟩ : ∃ v : Int, fidx ms x = v := ⟨_, rfl⟩
  have HV := Lib.hid (show (if fst ms x < ms.length then (fst ms x : Int) else -1) = v from hv)
  rw [hv]
  clear h hv
  go_enter Try.func61, Try.ntmps61
  go_wp2_with fail
  refine wp_scope_jumps 0 (fun a' w' => w' = w ∧ ∃ (k : Nat) (u4 u6 u7 u8 u9 u10 u11 u12 u13 u14 u15 u16 u17 u18 u19 : Value), a' = { tmps := #[.slice A n cap, .int .i64 x, undef, undef, u4, .int .i64 k, u6, u7, u8, u9, u10, u11, u12, u13, u14, u15, u16, u17, u18, u19], defers := [] } ∧ k ≤ n ∧ ∀ i, i < k → (ms.getD i zr).From ≠ x) (fun a' _ => n - (intOf (a'.tmps.getD 5 undef)).toNat) rfl ?_ ?_
  · have HP := Lib.hid (show ∀ i, i < 0 → (ms.getD i zr).From ≠ x from fun i hi => by omega)
    go_wp2_with fail
    by_cases hk0 : 0 = n
    · have hk1 : 0 = (n : Int) := by omega
      have HE := Lib.hid (show v = -1 by have h1 := fst_none HP.out (by rw [HL.out]; omega); rw [← HV.out, h1]; simp)
      go_step3
      go_wp2_with fail
      simp only [Exit.jump]
      go_ret
      exact ⟨by rw [HE.out]; rfl, Below.refl _ _⟩
    · have hk1 : ¬ 0 = (n : Int) := by omega
      obtain ⟨b, off, y, hA, hy, h1, h2, A', n', c', hd, ce0, ce1, ce2, ce3, ce4⟩ := at_ HQ.out (show 0 < n by omega)
      clear hd h1 h2 ce1 ce2 ce3 ce4
      have HY := Lib.hid hy
      clear hy
      subst hA
      have ce := ce0
      simp only [Nat.zero_mul, Nat.add_zero] at ce
      clear ce0
      by_cases hx : y.From = x
      · have HE := Lib.hid (show v = 0 by have h1 := fst_hit HP.out HY.out hx; rw [← HV.out, h1, if_pos (by rw [HL.out]; omega)]; rfl)
        go_step3
        go_wp2_with fail
        simp only [Exit.jump]
        go_ret
        exact ⟨by rw [HE.out]; rfl, Below.refl _ _⟩
      · have HN := Lib.hid (nohit HP.out HY.out hx)
        go_step3
        go_wp2_with fail
        go_step3
        refine ⟨rfl, rfl, 1, _, _, _, _, _, _, _, _, _, _, _, _, _, _, _, rfl, by omega, HN.out⟩
  · rintro a w1 ⟨rfl, k, u4, u6, u7, u8, u9, u10, u11, u12, u13, u14, u15, u16, u17, u18, u19, rfl, hk, hp⟩
    have HP := Lib.hid hp
    clear hp
    by_cases hk0 : k = n
    · have hk1 : (k : Int) = (n : Int) := by omega
      have HE := Lib.hid (show v = -1 by have h1 := fst_none HP.out (by rw [HL.out]; omega); rw [← HV.out, h1]; simp)
      go_wp2_with fail
      simp only [Exit.jump]
      go_ret
      exact ⟨by rw [HE.out]; rfl, Below.refl _ _⟩
    · have hk1 : ¬ (k : Int) = (n : Int) := by omega
      obtain ⟨b, off, y, hA, hy, h1, h2, A', n', c', hd, ce0, ce1, ce2, ce3, ce4⟩ := at_ HQ.out (show k < n by omega)
      clear hd h1 h2 ce1 ce2 ce3 ce4
      have HY := Lib.hid hy
      clear hy
      subst hA
      by_cases hx : y.From = x
      · have HE := Lib.hid (show v = (k : Int) by have h1 := fst_hit HP.out HY.out hx; rw [← HV.out, h1, if_pos (by rw [HL.out]; omega)])
        go_wp2_with fail
        simp only [Exit.jump]
        go_ret
        exact ⟨by rw [HE.out]; rfl, Below.refl _ _⟩
      · have HN := Lib.hid (nohit HP.out HY.out hx)
        go_wp2_with fail
        go_step3
        refine ⟨rfl, ⟨rfl, k + 1, _, _, _, _, _, _, _, _, _, _, _, _, _, _, _, rfl, by omega, HN.out⟩, ?_⟩
        have := hk1; simp [intOf]; try omega
set_option maxRecDepth 100000 in
set_option maxHeartbeats 4000000 in
theorem implCn (r : Rea) (f : Fra) (A : Option Addr) (n c : Nat) (A' : Option Addr) (n' c' : Nat) (w : World) (hn : r.Body.length = n ∧ f.Body.length = n') (hb : (n : Int) ≤ 9223372036854775807 ∧ (n' : Int) ≤ 67108864) (hb2 : (n : Int) ≤ 67108864) :
    Calls Try.prog 64 #[rV r A n c, fV f A' n' c'] w (BPost (cont r f) w) := by
  obtain ⟨v, hv⟩ : ∃ v : Bool, cont r f = v := ⟨_, rfl⟩
  have HV := Lib.hid hv
  rw [hv]
  clear hv
  have hb1 := hb
  go_enter Try.func64, Try.ntmps64
  go_upto_region 1 with fail
  obtain ⟨w0, hW⟩ : ∃ w0, (w.alloc (.cells #[.int .i64 r.From, .int .i64 r.Seq, .int .i64 r.Next, .slice A n c, .int .i64 r.Started] 38)).alloc (.cells #[.int .i64 f.Kind, .int .i64 f.From, .int .i64 f.To, .int .i64 f.Seq, .int .i64 f.Fragment, .bool f.More, .bool f.Retry, .int .i64 f.Duration, .slice A' n' c'] 25) = w0 := ⟨_, rfl⟩
  rw [hW]
  have B0 := Lib.hid (show Below w.heap.size w w0 by rw [← hW]; exact ((Below.refl _ _).alloc (by simp <;> omega) _).alloc (by simp <;> omega) _)
  have X0 := Lib.hid (show Bx 38 w0 (w.heap.size) #[.int .i64 r.From, .int .i64 r.Seq, .int .i64 r.Next, .slice A n c, .int .i64 r.Started] by
      rw [← hW]
      have hh := Bx.made 38 w #[.int .i64 r.From, .int .i64 r.Seq, .int .i64 r.Next, .slice A n c, .int .i64 r.Started]
      exact (hh.below (below_box _ _)))
  have Y0 := Lib.hid (show Bx 25 w0 (w.heap.size + 1) #[.int .i64 f.Kind, .int .i64 f.From, .int .i64 f.To, .int .i64 f.Seq, .int .i64 f.Fragment, .bool f.More, .bool f.Retry, .int .i64 f.Duration, .slice A' n' c'] by
      rw [← hW]
      have hh : Bx 25 ((w.alloc (.cells #[.int .i64 r.From, .int .i64 r.Seq, .int .i64 r.Next, .slice A n c, .int .i64 r.Started] 38)).alloc (.cells #[.int .i64 f.Kind, .int .i64 f.From, .int .i64 f.To, .int .i64 f.Seq, .int .i64 f.Fragment, .bool f.More, .bool f.Retry, .int .i64 f.Duration, .slice A' n' c'] 25)) (w.heap.size + 1) #[.int .i64 f.Kind, .int .i64 f.From, .int .i64 f.To, .int .i64 f.Seq, .int .i64 f.Fragment, .bool f.More, .bool f.Retry, .int .i64 f.Duration, .slice A' n' c'] := by have hh := Bx.made 25 (w.alloc (.cells #[.int .i64 r.From, .int .i64 r.Seq, .int .i64 r.Next, .slice A n c, .int .i64 r.Started] 38)) #[.int .i64 f.Kind, .int .i64 f.From, .int .i64 f.To, .int .i64 f.Seq, .int .i64 f.Fragment, .bool f.More, .bool f.Retry, .int .i64 f.Duration, .slice A' n' c']; simpa using hh
      exact hh)
  clear hW
  have LTX := Lib.hid X0.out.lt
  have LTY := Lib.hid Y0.out.lt
  by_cases h1 : r.Seq = f.Seq
  · by_cases h2 : r.Next = f.Fragment
    · have cX0 : w0.cell? ⟨w.heap.size, 0, none⟩ = some (.int .i64 r.From) := X0.out.cell 0
      have cX1 : w0.cell? ⟨w.heap.size, 1, none⟩ = some (.int .i64 r.Seq) := X0.out.cell 1
      have cX2 : w0.cell? ⟨w.heap.size, 2, none⟩ = some (.int .i64 r.Next) := X0.out.cell 2
      have cX3 : w0.cell? ⟨w.heap.size, 3, none⟩ = some (.slice A n c) := X0.out.cell 3
      have cX4 : w0.cell? ⟨w.heap.size, 4, none⟩ = some (.int .i64 r.Started) := X0.out.cell 4
      have cY0 : w0.cell? ⟨w.heap.size + 1, 0, none⟩ = some (.int .i64 f.Kind) := Y0.out.cell 0
      have cY1 : w0.cell? ⟨w.heap.size + 1, 1, none⟩ = some (.int .i64 f.From) := Y0.out.cell 1
      have cY2 : w0.cell? ⟨w.heap.size + 1, 2, none⟩ = some (.int .i64 f.To) := Y0.out.cell 2
      have cY3 : w0.cell? ⟨w.heap.size + 1, 3, none⟩ = some (.int .i64 f.Seq) := Y0.out.cell 3
      have cY4 : w0.cell? ⟨w.heap.size + 1, 4, none⟩ = some (.int .i64 f.Fragment) := Y0.out.cell 4
      have cY5 : w0.cell? ⟨w.heap.size + 1, 5, none⟩ = some (.bool f.More) := Y0.out.cell 5
      have cY6 : w0.cell? ⟨w.heap.size + 1, 6, none⟩ = some (.bool f.Retry) := Y0.out.cell 6
      have cY7 : w0.cell? ⟨w.heap.size + 1, 7, none⟩ = some (.int .i64 f.Duration) := Y0.out.cell 7
      have cY8 : w0.cell? ⟨w.heap.size + 1, 8, none⟩ = some (.slice A' n' c') := Y0.out.cell 8
      have hw : IntKind.i64.wrap ((n : Int) + n') = (n : Int) + n' := IntWalk.i64_in _ (by omega)
      obtain ⟨u, hu⟩ : ∃ u, decide ((n : Int) + n' ≤ 100) = u := ⟨_, rfl⟩
      have HE := Lib.hid (show v = u by rw [← HV.out, ← hu]; unfold cont; rw [hn.1, hn.2]; simp [h1, h2])
      clear hn
      go_wp2_with fail
      go_ret
      exact ⟨by rw [HE.out]; rfl, B0.out⟩
    · have cX0 : w0.cell? ⟨w.heap.size, 0, none⟩ = some (.int .i64 r.From) := X0.out.cell 0
      have cX1 : w0.cell? ⟨w.heap.size, 1, none⟩ = some (.int .i64 r.Seq) := X0.out.cell 1
      have cX2 : w0.cell? ⟨w.heap.size, 2, none⟩ = some (.int .i64 r.Next) := X0.out.cell 2
      have cX3 : w0.cell? ⟨w.heap.size, 3, none⟩ = some (.slice A n c) := X0.out.cell 3
      have cX4 : w0.cell? ⟨w.heap.size, 4, none⟩ = some (.int .i64 r.Started) := X0.out.cell 4
      have cY0 : w0.cell? ⟨w.heap.size + 1, 0, none⟩ = some (.int .i64 f.Kind) := Y0.out.cell 0
      have cY1 : w0.cell? ⟨w.heap.size + 1, 1, none⟩ = some (.int .i64 f.From) := Y0.out.cell 1
      have cY2 : w0.cell? ⟨w.heap.size + 1, 2, none⟩ = some (.int .i64 f.To) := Y0.out.cell 2
      have cY3 : w0.cell? ⟨w.heap.size + 1, 3, none⟩ = some (.int .i64 f.Seq) := Y0.out.cell 3
      have cY4 : w0.cell? ⟨w.heap.size + 1, 4, none⟩ = some (.int .i64 f.Fragment) := Y0.out.cell 4
      have cY5 : w0.cell? ⟨w.heap.size + 1, 5, none⟩ = some (.bool f.More) := Y0.out.cell 5
      have cY6 : w0.cell? ⟨w.heap.size + 1, 6, none⟩ = some (.bool f.Retry) := Y0.out.cell 6
      have cY7 : w0.cell? ⟨w.heap.size + 1, 7, none⟩ = some (.int .i64 f.Duration) := Y0.out.cell 7
      have cY8 : w0.cell? ⟨w.heap.size + 1, 8, none⟩ = some (.slice A' n' c') := Y0.out.cell 8
      have HE := Lib.hid (show v = false by rw [← HV.out]; unfold cont; simp [h2])
      go_wp2_with fail
      go_ret
      exact ⟨by rw [HE.out]; rfl, B0.out⟩
  · have cX0 : w0.cell? ⟨w.heap.size, 0, none⟩ = some (.int .i64 r.From) := X0.out.cell 0
    have cX1 : w0.cell? ⟨w.heap.size, 1, none⟩ = some (.int .i64 r.Seq) := X0.out.cell 1
    have cX2 : w0.cell? ⟨w.heap.size, 2, none⟩ = some (.int .i64 r.Next) := X0.out.cell 2
    have cX3 : w0.cell? ⟨w.heap.size, 3, none⟩ = some (.slice A n c) := X0.out.cell 3
    have cX4 : w0.cell? ⟨w.heap.size, 4, none⟩ = some (.int .i64 r.Started) := X0.out.cell 4
    have cY0 : w0.cell? ⟨w.heap.size + 1, 0, none⟩ = some (.int .i64 f.Kind) := Y0.out.cell 0
    have cY1 : w0.cell? ⟨w.heap.size + 1, 1, none⟩ = some (.int .i64 f.From) := Y0.out.cell 1
    have cY2 : w0.cell? ⟨w.heap.size + 1, 2, none⟩ = some (.int .i64 f.To) := Y0.out.cell 2
    have cY3 : w0.cell? ⟨w.heap.size + 1, 3, none⟩ = some (.int .i64 f.Seq) := Y0.out.cell 3
    have cY4 : w0.cell? ⟨w.heap.size + 1, 4, none⟩ = some (.int .i64 f.Fragment) := Y0.out.cell 4
    have cY5 : w0.cell? ⟨w.heap.size + 1, 5, none⟩ = some (.bool f.More) := Y0.out.cell 5
    have cY6 : w0.cell? ⟨w.heap.size + 1, 6, none⟩ = some (.bool f.Retry) := Y0.out.cell 6
    have cY7 : w0.cell? ⟨w.heap.size + 1, 7, none⟩ = some (.int .i64 f.Duration) := Y0.out.cell 7
    have cY8 : w0.cell? ⟨w.heap.size + 1, 8, none⟩ = some (.slice A' n' c') := Y0.out.cell 8
    have HE := Lib.hid (show v = false by rw [← HV.out]; unfold cont; simp [h1])
    go_wp2_with fail
    go_ret
    exact ⟨by rw [HE.out]; rfl, B0.out⟩
end Go.Proofs.Ytbkdbdhbmabgcaa.fr
end

section
namespace Go.Proofs.Ytbkdbdhbmabgcaa.fr
open Go.RowKit sl harn bx mrw drk stw
set_option linter.unusedVariables false
set_option linter.unusedSimpArgs false
open ux (Rea Fra rea fra)
open bx

instance : DecidableEq Rea := fun x y => decidable_of_iff (x.From = y.From ∧ x.Seq = y.Seq ∧ x.Next = y.Next ∧ x.Body = y.Body ∧ x.Started = y.Started) ⟨fun h => by obtain ⟨a, b, c, d, e⟩ := x; obtain ⟨a2, b2, c2, d2, e2⟩ := y; simp only at h; obtain ⟨rfl, rfl, rfl, rfl, rfl⟩ := h; rfl, fun h => by subst h; exact ⟨rfl, rfl, rfl, rfl, rfl⟩⟩
theorem rea_ne {x y : Rea} (h : x.From = y.From → x.Seq = y.Seq → x.Next = y.Next → x.Started = y.Started → x.Body ≠ y.Body) : decide (x = y) = false := decide_eq_false fun e => by subst e; exact h rfl rfl rfl rfl rfl
theorem rea_eq {x y : Rea} {v : Bool} (h1 : x.From = y.From) (h2 : x.Seq = y.Seq) (h3 : x.Next = y.Next) (h4 : x.Started = y.Started) (hv : decide (x.Body = y.Body) = v) : decide (x = y) = v := by
  obtain ⟨a, b, c, d, e⟩ := x
  obtain ⟨a2, b2, c2, d2, e2⟩ := y
  simp only at h1 h2 h3 h4
  subst h1 h2 h3 h4
  rw [← hv]; simp
theorem rs_ne {a b : List Rea} {k : Nat} {x y : Rea} (h1 : a[k]? = some x) (h2 : b[k]? = some y) (h : decide (x = y) = false) : decide (a = b) = false := decide_eq_false fun e => (of_decide_eq_false h) (by rw [e] at h1; exact Option.some.inj (h1.symm.trans h2))
theorem rs_step {a b : List Rea} {k : Nat} {x y : Rea} (h0 : a.take k = b.take k) (h1 : a[k]? = some x) (h2 : b[k]? = some y) (h : decide (x = y) = true) : a.take (k + 1) = b.take (k + 1) := by
  rw [take_snoc h1, take_snoc h2, h0, of_decide_eq_true h]
theorem rs_all {a b : List Rea} {n : Nat} (ha : a.length = n) (hb : b.length = n) (h : a.take n = b.take n) : decide (a = b) = true := by
  rw [List.take_of_length_le (by omega), List.take_of_length_le (by omega)] at h
  exact decide_eq_true h
theorem rs_len {a b : List Rea} {n m : Nat} (ha : a.length = n) (hb : b.length = m) (h : ¬ n = m) : decide (a = b) = false := decide_eq_false fun e => h (by rw [← ha, ← hb, e])
theorem af_cell {w : World} {ad : Addr} {v : Value} (h : w.cell? ad = some v) (m : Af w) : m.w.cell? ad = some v := by rw [m.below.cell (World.block_lt_of_cell? _ _ h)]; exact h
set_option maxRecDepth 100000 in
set_option maxHeartbeats 4000000 in
theorem implRe (x y : Rea) (A : Option Addr) (n c : Nat) (A' : Option Addr) (n' c' : Nat) (lo hi lo2 hi2 : Nat) (w : World) (h : Rd .u8 w lo hi A n c x.Body) (h2 : Rd .u8 w lo2 hi2 A' n' c' y.Body) :
    Calls Try.prog 67 #[rV x A n c, rV y A' n' c'] w (BPost (decide (x = y)) w) := by
  obtain ⟨v, hv⟩ : ∃ v : Bool, decide (x = y) = v := ⟨_, rfl⟩
  have HV := Lib.hid hv
  rw [hv]
  clear hv
  have PW := Lib.hid h
  have RW := Lib.hid h2
  have qa := h.hi_
  have qb := h2.hi_
  clear h h2
  go_enter Try.func67, Try.ntmps67
  go_upto_region 1 with fail
  obtain ⟨w0, hW⟩ : ∃ w0, (w.alloc (.cells #[.int .i64 x.From, .int .i64 x.Seq, .int .i64 x.Next, .slice A n c, .int .i64 x.Started] 38)).alloc (.cells #[.int .i64 y.From, .int .i64 y.Seq, .int .i64 y.Next, .slice A' n' c', .int .i64 y.Started] 38) = w0 := ⟨_, rfl⟩
  rw [hW]
  have B0 := Lib.hid (show Below w.heap.size w w0 by rw [← hW]; exact ((Below.refl _ _).alloc (by simp <;> omega) _).alloc (by simp <;> omega) _)
  have X0 := Lib.hid (show Bx 38 w0 (w.heap.size) #[.int .i64 x.From, .int .i64 x.Seq, .int .i64 x.Next, .slice A n c, .int .i64 x.Started] by
      rw [← hW]
      have hh := Bx.made 38 w #[.int .i64 x.From, .int .i64 x.Seq, .int .i64 x.Next, .slice A n c, .int .i64 x.Started]
      exact (hh.below (below_box _ _)))
  have Y0 := Lib.hid (show Bx 38 w0 (w.heap.size + 1) #[.int .i64 y.From, .int .i64 y.Seq, .int .i64 y.Next, .slice A' n' c', .int .i64 y.Started] by
      rw [← hW]
      have hh : Bx 38 ((w.alloc (.cells #[.int .i64 x.From, .int .i64 x.Seq, .int .i64 x.Next, .slice A n c, .int .i64 x.Started] 38)).alloc (.cells #[.int .i64 y.From, .int .i64 y.Seq, .int .i64 y.Next, .slice A' n' c', .int .i64 y.Started] 38)) (w.heap.size + 1) #[.int .i64 y.From, .int .i64 y.Seq, .int .i64 y.Next, .slice A' n' c', .int .i64 y.Started] := by have hh := Bx.made 38 (w.alloc (.cells #[.int .i64 x.From, .int .i64 x.Seq, .int .i64 x.Next, .slice A n c, .int .i64 x.Started] 38)) #[.int .i64 y.From, .int .i64 y.Seq, .int .i64 y.Next, .slice A' n' c', .int .i64 y.Started]; simpa using hh
      exact hh)
  have P0 := Lib.hid (show Rd .u8 w0 (lo) (hi) A n c x.Body by rw [← hW]; exact ((PW.out.below (below_box _ _)).below (below_box _ _)))
  have R0 := Lib.hid (show Rd .u8 w0 (lo2) (hi2) A' n' c' y.Body by rw [← hW]; exact ((RW.out.below (below_box _ _)).below (below_box _ _)))
  clear hW
  have LTX := Lib.hid X0.out.lt
  have LTY := Lib.hid Y0.out.lt
  by_cases h0 : x.From = y.From
  · by_cases h1 : x.Seq = y.Seq
    · by_cases h2 : x.Next = y.Next
      · by_cases h3 : x.Started = y.Started
        · have cX0 : w0.cell? ⟨w.heap.size, 0, none⟩ = some (.int .i64 x.From) := X0.out.cell 0
          have cX1 : w0.cell? ⟨w.heap.size, 1, none⟩ = some (.int .i64 x.Seq) := X0.out.cell 1
          have cX2 : w0.cell? ⟨w.heap.size, 2, none⟩ = some (.int .i64 x.Next) := X0.out.cell 2
          have cX3 : w0.cell? ⟨w.heap.size, 3, none⟩ = some (.slice A n c) := X0.out.cell 3
          have cX4 : w0.cell? ⟨w.heap.size, 4, none⟩ = some (.int .i64 x.Started) := X0.out.cell 4
          have cY0 : w0.cell? ⟨w.heap.size + 1, 0, none⟩ = some (.int .i64 y.From) := Y0.out.cell 0
          have cY1 : w0.cell? ⟨w.heap.size + 1, 1, none⟩ = some (.int .i64 y.Seq) := Y0.out.cell 1
          have cY2 : w0.cell? ⟨w.heap.size + 1, 2, none⟩ = some (.int .i64 y.Next) := Y0.out.cell 2
          have cY3 : w0.cell? ⟨w.heap.size + 1, 3, none⟩ = some (.slice A' n' c') := Y0.out.cell 3
          have cY4 : w0.cell? ⟨w.heap.size + 1, 4, none⟩ = some (.int .i64 y.Started) := Y0.out.cell 4
          go_wp2_with fail
          (with_reducible refine (eqs.implEqB x.Body y.Body _ _ _ _ A A' n c n' c' _ P0.out R0.out).mono ?_)
          rintro e w1 ⟨rfl, hb⟩
          have B1 := Lib.hid (B0.out.trans (hb.mono B0.out.size))
          clear hb
          obtain ⟨u, hu⟩ : ∃ u, decide (x.Body = y.Body) = u := ⟨_, rfl⟩
          have HE := Lib.hid (show v = u by rw [← HV.out]; exact rea_eq h0 h1 h2 h3 hu)
          rw [hu]
          clear hu
          go_wp2_with fail
          go_ret
          exact ⟨by rw [HE.out]; rfl, B1.out⟩
        · have cX0 : w0.cell? ⟨w.heap.size, 0, none⟩ = some (.int .i64 x.From) := X0.out.cell 0
          have cX1 : w0.cell? ⟨w.heap.size, 1, none⟩ = some (.int .i64 x.Seq) := X0.out.cell 1
          have cX2 : w0.cell? ⟨w.heap.size, 2, none⟩ = some (.int .i64 x.Next) := X0.out.cell 2
          have cX3 : w0.cell? ⟨w.heap.size, 3, none⟩ = some (.slice A n c) := X0.out.cell 3
          have cX4 : w0.cell? ⟨w.heap.size, 4, none⟩ = some (.int .i64 x.Started) := X0.out.cell 4
          have cY0 : w0.cell? ⟨w.heap.size + 1, 0, none⟩ = some (.int .i64 y.From) := Y0.out.cell 0
          have cY1 : w0.cell? ⟨w.heap.size + 1, 1, none⟩ = some (.int .i64 y.Seq) := Y0.out.cell 1
          have cY2 : w0.cell? ⟨w.heap.size + 1, 2, none⟩ = some (.int .i64 y.Next) := Y0.out.cell 2
          have cY3 : w0.cell? ⟨w.heap.size + 1, 3, none⟩ = some (.slice A' n' c') := Y0.out.cell 3
          have cY4 : w0.cell? ⟨w.heap.size + 1, 4, none⟩ = some (.int .i64 y.Started) := Y0.out.cell 4
          have HE := Lib.hid (show v = false by rw [← HV.out]; exact rea_ne fun e0 e1 e2 e3 _ => h3 e3)
          go_wp2_with fail
          go_ret
          exact ⟨by rw [HE.out]; rfl, B0.out⟩
      · have cX0 : w0.cell? ⟨w.heap.size, 0, none⟩ = some (.int .i64 x.From) := X0.out.cell 0
        have cX1 : w0.cell? ⟨w.heap.size, 1, none⟩ = some (.int .i64 x.Seq) := X0.out.cell 1
        have cX2 : w0.cell? ⟨w.heap.size, 2, none⟩ = some (.int .i64 x.Next) := X0.out.cell 2
        have cX3 : w0.cell? ⟨w.heap.size, 3, none⟩ = some (.slice A n c) := X0.out.cell 3
        have cX4 : w0.cell? ⟨w.heap.size, 4, none⟩ = some (.int .i64 x.Started) := X0.out.cell 4
        have cY0 : w0.cell? ⟨w.heap.size + 1, 0, none⟩ = some (.int .i64 y.From) := Y0.out.cell 0
        have cY1 : w0.cell? ⟨w.heap.size + 1, 1, none⟩ = some (.int .i64 y.Seq) := Y0.out.cell 1
        have cY2 : w0.cell? ⟨w.heap.size + 1, 2, none⟩ = some (.int .i64 y.Next) := Y0.out.cell 2
        have cY3 : w0.cell? ⟨w.heap.size + 1, 3, none⟩ = some (.slice A' n' c') := Y0.out.cell 3
        have cY4 : w0.cell? ⟨w.heap.size + 1, 4, none⟩ = some (.int .i64 y.Started) := Y0.out.cell 4
        have HE := Lib.hid (show v = false by rw [← HV.out]; exact rea_ne fun e0 e1 e2 e3 _ => h2 e2)
        go_wp2_with fail
        go_ret
        exact ⟨by rw [HE.out]; rfl, B0.out⟩
    · have cX0 : w0.cell? ⟨w.heap.size, 0, none⟩ = some (.int .i64 x.From) := X0.out.cell 0
      have cX1 : w0.cell? ⟨w.heap.size, 1, none⟩ = some (.int .i64 x.Seq) := X0.out.cell 1
      have cX2 : w0.cell? ⟨w.heap.size, 2, none⟩ = some (.int .i64 x.Next) := X0.out.cell 2
      have cX3 : w0.cell? ⟨w.heap.size, 3, none⟩ = some (.slice A n c) := X0.out.cell 3
      have cX4 : w0.cell? ⟨w.heap.size, 4, none⟩ = some (.int .i64 x.Started) := X0.out.cell 4
      have cY0 : w0.cell? ⟨w.heap.size + 1, 0, none⟩ = some (.int .i64 y.From) := Y0.out.cell 0
      have cY1 : w0.cell? ⟨w.heap.size + 1, 1, none⟩ = some (.int .i64 y.Seq) := Y0.out.cell 1
      have cY2 : w0.cell? ⟨w.heap.size + 1, 2, none⟩ = some (.int .i64 y.Next) := Y0.out.cell 2
      have cY3 : w0.cell? ⟨w.heap.size + 1, 3, none⟩ = some (.slice A' n' c') := Y0.out.cell 3
      have cY4 : w0.cell? ⟨w.heap.size + 1, 4, none⟩ = some (.int .i64 y.Started) := Y0.out.cell 4
      have HE := Lib.hid (show v = false by rw [← HV.out]; exact rea_ne fun e0 e1 e2 e3 _ => h1 e1)
      go_wp2_with fail
      go_ret
      exact ⟨by rw [HE.out]; rfl, B0.out⟩
  · have cX0 : w0.cell? ⟨w.heap.size, 0, none⟩ = some (.int .i64 x.From) := X0.out.cell 0
    have cX1 : w0.cell? ⟨w.heap.size, 1, none⟩ = some (.int .i64 x.Seq) := X0.out.cell 1
    have cX2 : w0.cell? ⟨w.heap.size, 2, none⟩ = some (.int .i64 x.Next) := X0.out.cell 2
    have cX3 : w0.cell? ⟨w.heap.size, 3, none⟩ = some (.slice A n c) := X0.out.cell 3
    have cX4 : w0.cell? ⟨w.heap.size, 4, none⟩ = some (.int .i64 x.Started) := X0.out.cell 4
    have cY0 : w0.cell? ⟨w.heap.size + 1, 0, none⟩ = some (.int .i64 y.From) := Y0.out.cell 0
    have cY1 : w0.cell? ⟨w.heap.size + 1, 1, none⟩ = some (.int .i64 y.Seq) := Y0.out.cell 1
    have cY2 : w0.cell? ⟨w.heap.size + 1, 2, none⟩ = some (.int .i64 y.Next) := Y0.out.cell 2
    have cY3 : w0.cell? ⟨w.heap.size + 1, 3, none⟩ = some (.slice A' n' c') := Y0.out.cell 3
    have cY4 : w0.cell? ⟨w.heap.size + 1, 4, none⟩ = some (.int .i64 y.Started) := Y0.out.cell 4
    have HE := Lib.hid (show v = false by rw [← HV.out]; exact rea_ne fun e0 e1 e2 e3 _ => h0 e0)
    go_wp2_with fail
    go_ret
    exact ⟨by rw [HE.out]; rfl, B0.out⟩
set_option maxRecDepth 100000 in
set_option maxHeartbeats 4000000 in
theorem reqFn (ms ms2 : List Rea) (A : Option Addr) (n cap lo hi : Nat) (A2 : Option Addr) (n2 cap2 lo2 hi2 : Nat) (w : World) (h : Rq reaS w lo hi A n cap ms) (h2 : Rq reaS w lo2 hi2 A2 n2 cap2 ms2) :
    Calls Try.prog 66 #[.slice A n cap, .slice A2 n2 cap2, .func (.func 67) #[] #[]] w (BPost (decide (ms = ms2)) w) := by
  have QW := Lib.hid h
  have RW := Lib.hid h2
  have qa := h.hi_
  have qb := h2.hi_
  have qc := h.cap_
  have qd := h2.cap_
  have HL1 := Lib.hid h.len
  have HL2 := Lib.hid h2.len
  clear h h2
  go_enter Try.func66, Try.ntmps66
  by_cases hne : n = n2
  · subst hne
    have B0 := Lib.hid (Below.refl w.heap.size w)
    have Q0 := QW
    have R0 := RW
    go_wp2_with fail
    go_loopw [17] (fun v0 wr => ∃ (k : Nat), v0 = .int .i64 ((k : Int)) ∧ (k ≤ n) ∧ (ms.take k = ms2.take k) ∧ Below w.heap.size w wr ∧ Rq reaS wr lo hi A n cap ms ∧ Rq reaS wr lo2 hi2 A2 n cap2 ms2) (fun i _ => n - (intOf i).toNat)
    case atStart => exact ⟨0, rfl, by omega, by simp, B0.out, Q0.out, R0.out⟩
    case round =>
      obtain ⟨k, rfl, ghk, ghe, gB1, gQ1, gR1⟩ := hrel
      have B1 := Lib.hid gB1
      have Q1 := Lib.hid gQ1
      have R1 := Lib.hid gR1
      have hk := Lib.hid ghk
      have he := Lib.hid ghe
      clear gB1 gQ1 gR1 ghk ghe
      have SBR1 := Lib.hid B1.out.size
      have hk := hk.out
      by_cases hlt : k < n
      · have hlt2 : (k : Int) < n := by omega
        obtain ⟨b, off, y, hA, hy, h1, h2, A', n', c', hd, ce0, ce1, ce2, ce3, ce4⟩ := at_ Q1.out hlt
        have HY := Lib.hid hy
        have D1 := Lib.hid hd
        clear hy hd
        subst hA
        go_upto_region 6 with fail
        clear ce0 ce1 ce2 ce3 ce4
        obtain ⟨bv, hbb⟩ : ∃ b, wr.heap.size = b := ⟨_, rfl⟩
        generalize hW : wr.alloc (.cells #[.int .i64 y.From, .int .i64 y.Seq, .int .i64 y.Next, .slice A' n' c', .int .i64 y.Started] 38) = w2
        have LV := Lib.hid (show w.heap.size ≤ bv ∧ hi ≤ bv ∧ hi2 ≤ bv ∧ hi ≤ bv by have h1 := B1.out.size; have h2Q := Q1.out.hi_; have h2R := R1.out.hi_; have h2D := D1.out.hi_; have h3 := hbb; omega)
        have V2 := Lib.hid (show Bx 38 w2 bv #[.int .i64 y.From, .int .i64 y.Seq, .int .i64 y.Next, .slice A' n' c', .int .i64 y.Started] by rw [← hW, ← hbb]; exact Bx.made _ _ _)
        have hb : Below wr.heap.size wr w2 := by rw [← hW]; exact below_box _ _
        (try rw [hbb])
        clear hW hbb
        have SS2 := Lib.hid hb.size
        have B2 := Lib.hid (B1.out.trans (hb.mono B1.out.size))
        have Q2 := Lib.hid (Q1.out.below hb)
        have R2 := Lib.hid (R1.out.below hb)
        have D2 := Lib.hid (D1.out.below hb)
        clear hb B1 Q1 R1 D1
        have LWV := Lib.hid V2.out.lt
        obtain ⟨bx, offx, x, hAx, hyx, h1x, h2x, Ax', nx', cx', hdx, ce0x, ce1x, ce2x, ce3x, ce4x⟩ := at_ R2.out hlt
        have HYx := Lib.hid hyx
        have E2 := Lib.hid hdx
        clear hyx hdx
        subst hAx
        go_upto_region 7 with fail
        clear ce0x ce1x ce2x ce3x ce4x
        obtain ⟨bu, hbb⟩ : ∃ b, w2.heap.size = b := ⟨_, rfl⟩
        generalize hW : w2.alloc (.cells #[.int .i64 x.From, .int .i64 x.Seq, .int .i64 x.Next, .slice Ax' nx' cx', .int .i64 x.Started] 38) = w3
        have LU := Lib.hid (show w.heap.size ≤ bu ∧ bv < bu ∧ hi ≤ bu ∧ hi2 ≤ bu ∧ hi ≤ bu ∧ hi2 ≤ bu by have h1 := B2.out.size; have h2V := V2.out.lt; have h2Q := Q2.out.hi_; have h2R := R2.out.hi_; have h2D := D2.out.hi_; have h2E := E2.out.hi_; have h3 := hbb; omega)
        have U3 := Lib.hid (show Bx 38 w3 bu #[.int .i64 x.From, .int .i64 x.Seq, .int .i64 x.Next, .slice Ax' nx' cx', .int .i64 x.Started] by rw [← hW, ← hbb]; exact Bx.made _ _ _)
        have hb : Below w2.heap.size w2 w3 := by rw [← hW]; exact below_box _ _
        (try rw [hbb])
        clear hW hbb
        have SS3 := Lib.hid hb.size
        have B3 := Lib.hid (B2.out.trans (hb.mono B2.out.size))
        have V3 := Lib.hid (V2.out.below hb)
        have Q3 := Lib.hid (Q2.out.below hb)
        have R3 := Lib.hid (R2.out.below hb)
        have D3 := Lib.hid (D2.out.below hb)
        have E3 := Lib.hid (E2.out.below hb)
        clear hb B2 V2 Q2 R2 D2 E2
        have LWU := Lib.hid U3.out.lt
        have cV0 : w3.cell? ⟨bv, 0, none⟩ = some (.int .i64 y.From) := V3.out.cell 0
        have cV1 : w3.cell? ⟨bv, 1, none⟩ = some (.int .i64 y.Seq) := V3.out.cell 1
        have cV2 : w3.cell? ⟨bv, 2, none⟩ = some (.int .i64 y.Next) := V3.out.cell 2
        have cV3 : w3.cell? ⟨bv, 3, none⟩ = some (.slice A' n' c') := V3.out.cell 3
        have cV4 : w3.cell? ⟨bv, 4, none⟩ = some (.int .i64 y.Started) := V3.out.cell 4
        have cU0 : w3.cell? ⟨bu, 0, none⟩ = some (.int .i64 x.From) := U3.out.cell 0
        have cU1 : w3.cell? ⟨bu, 1, none⟩ = some (.int .i64 x.Seq) := U3.out.cell 1
        have cU2 : w3.cell? ⟨bu, 2, none⟩ = some (.int .i64 x.Next) := U3.out.cell 2
        have cU3 : w3.cell? ⟨bu, 3, none⟩ = some (.slice Ax' nx' cx') := U3.out.cell 3
        have cU4 : w3.cell? ⟨bu, 4, none⟩ = some (.int .i64 x.Started) := U3.out.cell 4
        go_wp2_with fail
        clear cV0 cV1 cV2 cV3 cV4 cU0 cU1 cU2 cU3 cU4
        obtain ⟨v, hv⟩ : ∃ v, decide (y = x) = v := ⟨_, rfl⟩
        have HV := Lib.hid hv
        clear hv
        (with_reducible refine (implRe y x A' n' c' Ax' nx' cx' _ _ _ _ _ D3.out E3.out).mono ?_)
        rintro e w4 hp
        obtain ⟨rfl, hb⟩ := b_parts HV.out hp
        clear hp
        have SS4 := Lib.hid hb.size
        have B4 := Lib.hid (B3.out.trans (hb.mono B3.out.size))
        have V4 := Lib.hid (V3.out.below hb)
        have U4 := Lib.hid (U3.out.below hb)
        have Q4 := Lib.hid (Q3.out.below hb)
        have R4 := Lib.hid (R3.out.below hb)
        have D4 := Lib.hid (D3.out.below hb)
        have E4 := Lib.hid (E3.out.below hb)
        clear hb  B3 V3 U3 Q3 R3 D3 E3
        cases v with
        | true =>
          have HT := Lib.hid (rs_step he.out HY.out HYx.out HV.out)
          go_wp2_with fail
          go_roundw
          case rel => exact ⟨k + 1, by go_num, by omega, HT.out, B4.out, Q4.out, R4.out⟩
          case measure => simp [intOf]; omega
        | false =>
          have HE := Lib.hid (rs_ne HY.out HYx.out HV.out)
          go_wp2_with fail
          go_ret
          exact ⟨by rw [HE.out]; try rfl, B4.out⟩
      · have hlt2 : ¬ (k : Int) < n := by omega
        obtain rfl : n = k := by omega
        have HE := Lib.hid (rs_all HL1.out HL2.out he.out)
        go_wp2_with fail
        go_ret
        exact ⟨by rw [HE.out]; try rfl, B1.out⟩
  · have hn2 : ¬ (n : Int) = (n2 : Int) := by omega
    have HE := Lib.hid (rs_len HL1.out HL2.out hne)
    go_wp2_with fail
    go_ret
    exact ⟨by rw [HE.out]; try rfl, Below.refl _ _⟩
set_option maxRecDepth 100000 in
set_option maxHeartbeats 4000000 in
theorem implEr (ms ms2 : List Rea) (A : Option Addr) (n cap lo hi : Nat) (A2 : Option Addr) (n2 cap2 lo2 hi2 : Nat) (w : World) (h : Rq reaS w lo hi A n cap ms) (h2 : Rq reaS w lo2 hi2 A2 n2 cap2 ms2) :
    Calls Try.prog 20 #[.slice A n cap, .slice A2 n2 cap2] w (BPost (decide (ms = ms2)) w) := by
  obtain ⟨v, hv⟩ : ∃ v, decide (ms = ms2) = v := ⟨_, rfl⟩
  rw [hv]
  have HV := Lib.hid hv
  have HR := Lib.hid h
  have HS := Lib.hid h2
  clear h h2 hv
  go_enter Try.func20, Try.ntmps20
  go_wp2_with fail
  (with_reducible refine (reqFn ms ms2 A n cap _ _ A2 n2 cap2 _ _ _ HR.out HS.out).mono ?_)
  rintro e w1 hp
  obtain ⟨rfl, hb⟩ := b_parts HV.out hp
  have B1 := Lib.hid hb
  clear hb hp
  go_wp2_with fail
  go_ret
  exact ⟨rfl, B1.out⟩
end Go.Proofs.Ytbkdbdhbmabgcaa.fr
end

section
namespace Go.Proofs.Ytbkdbdhbmabgcaa.ux
open Go.RowKit sl harn bx stw
set_option linter.unusedVariables false
set_option linter.unusedSimpArgs false

theorem infoRea : (Try.prog.info? 38).map (fun i => (i.zero, i.size, i.bytes)) = some (some (.agg #[.int .i64 0, .int .i64 0, .int .i64 0, .slice none 0 0, .int .i64 0]), 5, 56) := by kernel_rfl
def rea_mv (q : Int) (x : Rea) : Rea := { x with Body := bytes.mkx (q) x.Body }
def rea_tv (x : Rea) : Nat := bytes.tot x.Body
end Go.Proofs.Ytbkdbdhbmabgcaa.ux
end

section
namespace Go.Proofs.Ytbkdbdhbmabgcaa.ux
open Go.RowKit sl harn bx stw
set_option linter.unusedVariables false
set_option linter.unusedSimpArgs false

theorem infoFra : (Try.prog.info? 25).map (fun i => (i.zero, i.size, i.bytes)) = some (some (.agg #[.int .i64 0, .int .i64 0, .int .i64 0, .int .i64 0, .int .i64 0, .bool false, .bool false, .int .i64 0, .slice none 0 0]), 9, 80) := by kernel_rfl
theorem szLFra : (Try.prog.info? 56).map (·.size) = some 9 := by kernel_rfl
set_option maxRecDepth 100000 in
set_option maxHeartbeats 4000000 in
theorem szMacFrame {w : World} {lo hi : Nat} {v : Value} {x : Fra} (left : Int) (hl : 0 ≤ left ∧ left ≤ 1048576) (h : RR fra w lo hi v x) :
    Calls Try.prog 36 #[v, .int .i64 left] w (ZPost left (fra.sz x) w) := by
  have LH := Lib.hid h.hi_
  obtain ⟨A0, n0, c0, rfl, g0⟩ := fra_r h
  show Calls Try.prog 36 #[fraV x (.slice A0 n0 c0), .int .i64 left] w (ZPost left (bytes.sz x.Body) w)
  have P0W := Lib.hid g0
  have LL0 := Lib.hid hl
  clear h hl g0
  obtain ⟨s0, hs0⟩ : ∃ s, bytes.sz x.Body = s := ⟨_, rfl⟩
  rw [hs0]
  have HS0 := Lib.hid hs0
  clear hs0
  go_enter Try.func36, Try.ntmps36
  go_wp2_with fail
  obtain ⟨w0, hW⟩ : ∃ w0, w.alloc (.cells #[.int .i64 x.Kind, .int .i64 x.From, .int .i64 x.To, .int .i64 x.Seq, .int .i64 x.Fragment, .bool x.More, .bool x.Retry, .int .i64 x.Duration, .slice A0 n0 c0] 56) = w0 := ⟨_, rfl⟩
  rw [hW]
  have B0 := Lib.hid (show Below w.heap.size w w0 by rw [← hW]; exact (Below.refl _ _).alloc (by simp <;> omega) _)
  have X0 := Lib.hid (show Bx 56 w0 (w.heap.size) #[.int .i64 x.Kind, .int .i64 x.From, .int .i64 x.To, .int .i64 x.Seq, .int .i64 x.Fragment, .bool x.More, .bool x.Retry, .int .i64 x.Duration, .slice A0 n0 c0] by
      rw [← hW]
      have hh := Bx.made 56 w #[.int .i64 x.Kind, .int .i64 x.From, .int .i64 x.To, .int .i64 x.Seq, .int .i64 x.Fragment, .bool x.More, .bool x.Retry, .int .i64 x.Duration, .slice A0 n0 c0]
      exact hh)
  have P00 := Lib.hid (show RR bytes w0 lo hi (.slice A0 n0 c0) x.Body by rw [← hW]; exact (P0W.out.below (below_box _ _)))
  clear hW
  have LTX := Lib.hid X0.out.lt
  (with_reducible refine (szByteS left LL0.out P00.out).mono ?_)
  rintro e w1 hp
  obtain ⟨r0, rfl, hor, hb⟩ := hp.parts
  rw [HS0.out] at hor
  clear hp
  have SS1 := Lib.hid hb.size
  have B1 := Lib.hid (B0.out.trans (hb.mono B0.out.size))
  have X1 := Lib.hid (X0.out.below hb)
  have P01 := Lib.hid (P00.out.below hb)
  clear hb B0 X0 P00
  rcases hor with ⟨hm, hlo⟩ | ⟨hr, hle⟩
  · subst hm
    have HLO := Lib.hid hlo
    clear hlo
    go_wp2_with fail
    go_ret
    exact ⟨-1, rfl, .inl ⟨rfl, by  have q9 := HLO.out; omega⟩, B1.out⟩
  · have HR0 := Lib.hid hr
    have HE0 := Lib.hid hle
    have hng : ¬ r0 < 0 := by omega
    have LL1 := Lib.hid (show 0 ≤ r0 ∧ r0 ≤ 1048576 by have q9 := LL0.out; omega)
    clear hr hle
    have cX0 : w1.cell? ⟨w.heap.size, 0, none⟩ = some (.int .i64 x.Kind) := X1.out.cell 0
    have cX1 : w1.cell? ⟨w.heap.size, 1, none⟩ = some (.int .i64 x.From) := X1.out.cell 1
    have cX2 : w1.cell? ⟨w.heap.size, 2, none⟩ = some (.int .i64 x.To) := X1.out.cell 2
    have cX3 : w1.cell? ⟨w.heap.size, 3, none⟩ = some (.int .i64 x.Seq) := X1.out.cell 3
    have cX4 : w1.cell? ⟨w.heap.size, 4, none⟩ = some (.int .i64 x.Fragment) := X1.out.cell 4
    have cX5 : w1.cell? ⟨w.heap.size, 5, none⟩ = some (.bool x.More) := X1.out.cell 5
    have cX6 : w1.cell? ⟨w.heap.size, 6, none⟩ = some (.bool x.Retry) := X1.out.cell 6
    have cX7 : w1.cell? ⟨w.heap.size, 7, none⟩ = some (.int .i64 x.Duration) := X1.out.cell 7
    have cX8 : w1.cell? ⟨w.heap.size, 8, none⟩ = some (.slice A0 n0 c0) := X1.out.cell 8
    go_wp2_with fail
    clear cX0 cX1 cX2 cX3 cX4 cX5 cX6 cX7 cX8
    go_ret
    exact ⟨r0, rfl, .inr ⟨by  have q0 := HR0.out; have p0 := HE0.out; omega, by  have q0 := HR0.out; have p0 := HE0.out; omega⟩, B1.out⟩
set_option maxRecDepth 100000 in
set_option maxHeartbeats 4000000 in
theorem toMacFrame {w : World} {lo hi : Nat} {v : Value} {x : Fra} (h : RR fra w lo hi v x) (hs : fra.sz x ≤ 67108864) :
    Calls Try.prog 37 #[v] w (ToPost fra x w) := by
  have LH := Lib.hid h.hi_
  obtain ⟨A0, n0, c0, rfl, g0⟩ := fra_r h
  have P0W := Lib.hid g0
  have hs9 : bytes.sz x.Body ≤ 67108864 := hs
  have HS0 := Lib.hid (show bytes.sz x.Body ≤ 67108864 by omega)
  clear hs9
  clear h hs g0
  go_enter Try.func37, Try.ntmps37
  go_upto_region 2 with fail
  obtain ⟨w0, hW⟩ : ∃ w0, ((w.alloc (.cells #[.int .i64 x.Kind, .int .i64 x.From, .int .i64 x.To, .int .i64 x.Seq, .int .i64 x.Fragment, .bool x.More, .bool x.Retry, .int .i64 x.Duration, .slice A0 n0 c0] 56)).alloc (.cells #[.int .i64 0, .int .i64 0, .int .i64 0, .int .i64 0, .int .i64 0, .bool false, .bool false, .int .i64 0, .slice none 0 0] 25)).alloc (.cells #[.int .i64 0, .int .i64 0, .int .i64 0, .int .i64 0, .int .i64 0, .bool false, .bool false, .int .i64 0, .slice none 0 0] 25) = w0 := ⟨_, rfl⟩
  rw [hW]
  have B0 := Lib.hid (show Below w.heap.size w w0 by rw [← hW]; exact (((Below.refl _ _).alloc (by simp <;> omega) _).alloc (by simp <;> omega) _).alloc (by simp <;> omega) _)
  have X0 := Lib.hid (show Bx 56 w0 (w.heap.size) #[.int .i64 x.Kind, .int .i64 x.From, .int .i64 x.To, .int .i64 x.Seq, .int .i64 x.Fragment, .bool x.More, .bool x.Retry, .int .i64 x.Duration, .slice A0 n0 c0] by
      rw [← hW]
      have hh := Bx.made 56 w #[.int .i64 x.Kind, .int .i64 x.From, .int .i64 x.To, .int .i64 x.Seq, .int .i64 x.Fragment, .bool x.More, .bool x.Retry, .int .i64 x.Duration, .slice A0 n0 c0]
      exact ((hh.below (below_box _ _)).below (below_box _ _)))
  have Z0 := Lib.hid (show Bx 25 w0 (w.heap.size + 1) #[.int .i64 0, .int .i64 0, .int .i64 0, .int .i64 0, .int .i64 0, .bool false, .bool false, .int .i64 0, .slice none 0 0] by
      rw [← hW]
      have hh : Bx 25 ((w.alloc (.cells #[.int .i64 x.Kind, .int .i64 x.From, .int .i64 x.To, .int .i64 x.Seq, .int .i64 x.Fragment, .bool x.More, .bool x.Retry, .int .i64 x.Duration, .slice A0 n0 c0] 56)).alloc (.cells #[.int .i64 0, .int .i64 0, .int .i64 0, .int .i64 0, .int .i64 0, .bool false, .bool false, .int .i64 0, .slice none 0 0] 25)) (w.heap.size + 1) #[.int .i64 0, .int .i64 0, .int .i64 0, .int .i64 0, .int .i64 0, .bool false, .bool false, .int .i64 0, .slice none 0 0] := by have hh := Bx.made 25 (w.alloc (.cells #[.int .i64 x.Kind, .int .i64 x.From, .int .i64 x.To, .int .i64 x.Seq, .int .i64 x.Fragment, .bool x.More, .bool x.Retry, .int .i64 x.Duration, .slice A0 n0 c0] 56)) #[.int .i64 0, .int .i64 0, .int .i64 0, .int .i64 0, .int .i64 0, .bool false, .bool false, .int .i64 0, .slice none 0 0]; simpa using hh
      exact (hh.below (below_box _ _)))
  have O0 := Lib.hid (show Bx 25 w0 (w.heap.size + 1 + 1) #[.int .i64 0, .int .i64 0, .int .i64 0, .int .i64 0, .int .i64 0, .bool false, .bool false, .int .i64 0, .slice none 0 0] by
      rw [← hW]
      have hh : Bx 25 (((w.alloc (.cells #[.int .i64 x.Kind, .int .i64 x.From, .int .i64 x.To, .int .i64 x.Seq, .int .i64 x.Fragment, .bool x.More, .bool x.Retry, .int .i64 x.Duration, .slice A0 n0 c0] 56)).alloc (.cells #[.int .i64 0, .int .i64 0, .int .i64 0, .int .i64 0, .int .i64 0, .bool false, .bool false, .int .i64 0, .slice none 0 0] 25)).alloc (.cells #[.int .i64 0, .int .i64 0, .int .i64 0, .int .i64 0, .int .i64 0, .bool false, .bool false, .int .i64 0, .slice none 0 0] 25)) (w.heap.size + 1 + 1) #[.int .i64 0, .int .i64 0, .int .i64 0, .int .i64 0, .int .i64 0, .bool false, .bool false, .int .i64 0, .slice none 0 0] := by have hh := Bx.made 25 ((w.alloc (.cells #[.int .i64 x.Kind, .int .i64 x.From, .int .i64 x.To, .int .i64 x.Seq, .int .i64 x.Fragment, .bool x.More, .bool x.Retry, .int .i64 x.Duration, .slice A0 n0 c0] 56)).alloc (.cells #[.int .i64 0, .int .i64 0, .int .i64 0, .int .i64 0, .int .i64 0, .bool false, .bool false, .int .i64 0, .slice none 0 0] 25)) #[.int .i64 0, .int .i64 0, .int .i64 0, .int .i64 0, .int .i64 0, .bool false, .bool false, .int .i64 0, .slice none 0 0]; simpa using hh
      exact hh)
  have P00 := Lib.hid (show RR bytes w0 lo hi (.slice A0 n0 c0) x.Body by rw [← hW]; exact (((P0W.out.below (below_box _ _)).below (below_box _ _)).below (below_box _ _)))
  clear hW
  have LTX := Lib.hid X0.out.lt
  have LTZ := Lib.hid Z0.out.lt
  have LTO := Lib.hid O0.out.lt
  have cX0 : w0.cell? ⟨w.heap.size, 0, none⟩ = some (.int .i64 x.Kind) := X0.out.cell 0
  have cX1 : w0.cell? ⟨w.heap.size, 1, none⟩ = some (.int .i64 x.From) := X0.out.cell 1
  have cX2 : w0.cell? ⟨w.heap.size, 2, none⟩ = some (.int .i64 x.To) := X0.out.cell 2
  have cX3 : w0.cell? ⟨w.heap.size, 3, none⟩ = some (.int .i64 x.Seq) := X0.out.cell 3
  have cX4 : w0.cell? ⟨w.heap.size, 4, none⟩ = some (.int .i64 x.Fragment) := X0.out.cell 4
  have cX5 : w0.cell? ⟨w.heap.size, 5, none⟩ = some (.bool x.More) := X0.out.cell 5
  have cX6 : w0.cell? ⟨w.heap.size, 6, none⟩ = some (.bool x.Retry) := X0.out.cell 6
  have cX7 : w0.cell? ⟨w.heap.size, 7, none⟩ = some (.int .i64 x.Duration) := X0.out.cell 7
  have cX8 : w0.cell? ⟨w.heap.size, 8, none⟩ = some (.slice A0 n0 c0) := X0.out.cell 8
  have cO0 : w0.cell? ⟨w.heap.size + 1 + 1, 0, none⟩ = some (.int .i64 0) := O0.out.cell 0
  have cO1 : w0.cell? ⟨w.heap.size + 1 + 1, 1, none⟩ = some (.int .i64 0) := O0.out.cell 1
  have cO2 : w0.cell? ⟨w.heap.size + 1 + 1, 2, none⟩ = some (.int .i64 0) := O0.out.cell 2
  have cO3 : w0.cell? ⟨w.heap.size + 1 + 1, 3, none⟩ = some (.int .i64 0) := O0.out.cell 3
  have cO4 : w0.cell? ⟨w.heap.size + 1 + 1, 4, none⟩ = some (.int .i64 0) := O0.out.cell 4
  have cO5 : w0.cell? ⟨w.heap.size + 1 + 1, 5, none⟩ = some (.bool false) := O0.out.cell 5
  have cO6 : w0.cell? ⟨w.heap.size + 1 + 1, 6, none⟩ = some (.bool false) := O0.out.cell 6
  have cO7 : w0.cell? ⟨w.heap.size + 1 + 1, 7, none⟩ = some (.int .i64 0) := O0.out.cell 7
  have cO8 : w0.cell? ⟨w.heap.size + 1 + 1, 8, none⟩ = some (.slice none 0 0) := O0.out.cell 8
  have fO0 : w0.frozen? ⟨w.heap.size + 1 + 1, 0, none⟩ = false := O0.out.free 0
  have fO1 : w0.frozen? ⟨w.heap.size + 1 + 1, 1, none⟩ = false := O0.out.free 1
  have fO2 : w0.frozen? ⟨w.heap.size + 1 + 1, 2, none⟩ = false := O0.out.free 2
  have fO3 : w0.frozen? ⟨w.heap.size + 1 + 1, 3, none⟩ = false := O0.out.free 3
  have fO4 : w0.frozen? ⟨w.heap.size + 1 + 1, 4, none⟩ = false := O0.out.free 4
  have fO5 : w0.frozen? ⟨w.heap.size + 1 + 1, 5, none⟩ = false := O0.out.free 5
  have fO6 : w0.frozen? ⟨w.heap.size + 1 + 1, 6, none⟩ = false := O0.out.free 6
  have fO7 : w0.frozen? ⟨w.heap.size + 1 + 1, 7, none⟩ = false := O0.out.free 7
  have fO8 : w0.frozen? ⟨w.heap.size + 1 + 1, 8, none⟩ = false := O0.out.free 8
  go_wp2_with fail
  clear cX0 cX1 cX2 cX3 cX4 cX5 cX6 cX7 cX8 cO0 cO1 cO2 cO3 cO4 cO5 cO6 cO7 cO8 fO0 fO1 fO2 fO3 fO4 fO5 fO6 fO7 fO8
  have hWW : ((((((((w0.setCell ⟨w.heap.size + 1 + 1, 0, none⟩ (.int .i64 x.Kind)).setCell ⟨w.heap.size + 1 + 1, 1, none⟩ (.int .i64 x.From)).setCell ⟨w.heap.size + 1 + 1, 2, none⟩ (.int .i64 x.To)).setCell ⟨w.heap.size + 1 + 1, 3, none⟩ (.int .i64 x.Seq)).setCell ⟨w.heap.size + 1 + 1, 4, none⟩ (.int .i64 x.Fragment)).setCell ⟨w.heap.size + 1 + 1, 5, none⟩ (.bool x.More)).setCell ⟨w.heap.size + 1 + 1, 6, none⟩ (.bool x.Retry)).setCell ⟨w.heap.size + 1 + 1, 7, none⟩ (.int .i64 x.Duration)) = ((((((((w0.setCell ⟨w.heap.size + 1 + 1, 0, none⟩ (.int .i64 x.Kind)).setCell ⟨w.heap.size + 1 + 1, 1, none⟩ (.int .i64 x.From)).setCell ⟨w.heap.size + 1 + 1, 2, none⟩ (.int .i64 x.To)).setCell ⟨w.heap.size + 1 + 1, 3, none⟩ (.int .i64 x.Seq)).setCell ⟨w.heap.size + 1 + 1, 4, none⟩ (.int .i64 x.Fragment)).setCell ⟨w.heap.size + 1 + 1, 5, none⟩ (.bool x.More)).setCell ⟨w.heap.size + 1 + 1, 6, none⟩ (.bool x.Retry)).setCell ⟨w.heap.size + 1 + 1, 7, none⟩ (.int .i64 x.Duration)) := rfl
  obtain ⟨w1, hW⟩ : ∃ wy, ((((((((w0.setCell ⟨w.heap.size + 1 + 1, 0, none⟩ (.int .i64 x.Kind)).setCell ⟨w.heap.size + 1 + 1, 1, none⟩ (.int .i64 x.From)).setCell ⟨w.heap.size + 1 + 1, 2, none⟩ (.int .i64 x.To)).setCell ⟨w.heap.size + 1 + 1, 3, none⟩ (.int .i64 x.Seq)).setCell ⟨w.heap.size + 1 + 1, 4, none⟩ (.int .i64 x.Fragment)).setCell ⟨w.heap.size + 1 + 1, 5, none⟩ (.bool x.More)).setCell ⟨w.heap.size + 1 + 1, 6, none⟩ (.bool x.Retry)).setCell ⟨w.heap.size + 1 + 1, 7, none⟩ (.int .i64 x.Duration)) = wy := ⟨_, rfl⟩
  rw [hW]
  clear hWW
  have B1 := Lib.hid (show Below w.heap.size w w1 by rw [← hW]; exact ((((((((B0.out.setCell (p := ⟨w.heap.size + 1 + 1, 0, none⟩) (by have hs0 := LTX.out; have hs1 := LTZ.out; have hs2 := LTO.out; have hs3 := LH.out; first | omega | (simp <;> omega)) _).setCell (p := ⟨w.heap.size + 1 + 1, 1, none⟩) (by have hs0 := LTX.out; have hs1 := LTZ.out; have hs2 := LTO.out; have hs3 := LH.out; first | omega | (simp <;> omega)) _).setCell (p := ⟨w.heap.size + 1 + 1, 2, none⟩) (by have hs0 := LTX.out; have hs1 := LTZ.out; have hs2 := LTO.out; have hs3 := LH.out; first | omega | (simp <;> omega)) _).setCell (p := ⟨w.heap.size + 1 + 1, 3, none⟩) (by have hs0 := LTX.out; have hs1 := LTZ.out; have hs2 := LTO.out; have hs3 := LH.out; first | omega | (simp <;> omega)) _).setCell (p := ⟨w.heap.size + 1 + 1, 4, none⟩) (by have hs0 := LTX.out; have hs1 := LTZ.out; have hs2 := LTO.out; have hs3 := LH.out; first | omega | (simp <;> omega)) _).setCell (p := ⟨w.heap.size + 1 + 1, 5, none⟩) (by have hs0 := LTX.out; have hs1 := LTZ.out; have hs2 := LTO.out; have hs3 := LH.out; first | omega | (simp <;> omega)) _).setCell (p := ⟨w.heap.size + 1 + 1, 6, none⟩) (by have hs0 := LTX.out; have hs1 := LTZ.out; have hs2 := LTO.out; have hs3 := LH.out; first | omega | (simp <;> omega)) _).setCell (p := ⟨w.heap.size + 1 + 1, 7, none⟩) (by have hs0 := LTX.out; have hs1 := LTZ.out; have hs2 := LTO.out; have hs3 := LH.out; first | omega | (simp <;> omega)) _))
  have X1 := Lib.hid (show Bx 56 w1 (w.heap.size) #[.int .i64 x.Kind, .int .i64 x.From, .int .i64 x.To, .int .i64 x.Seq, .int .i64 x.Fragment, .bool x.More, .bool x.Retry, .int .i64 x.Duration, .slice A0 n0 c0] by rw [← hW]; exact ((((((((X0.out.other (by have hs0 := LTX.out; have hs1 := LTZ.out; have hs2 := LTO.out; have hs3 := LH.out; first | omega | (simp <;> omega)) _ _).other (by have hs0 := LTX.out; have hs1 := LTZ.out; have hs2 := LTO.out; have hs3 := LH.out; first | omega | (simp <;> omega)) _ _).other (by have hs0 := LTX.out; have hs1 := LTZ.out; have hs2 := LTO.out; have hs3 := LH.out; first | omega | (simp <;> omega)) _ _).other (by have hs0 := LTX.out; have hs1 := LTZ.out; have hs2 := LTO.out; have hs3 := LH.out; first | omega | (simp <;> omega)) _ _).other (by have hs0 := LTX.out; have hs1 := LTZ.out; have hs2 := LTO.out; have hs3 := LH.out; first | omega | (simp <;> omega)) _ _).other (by have hs0 := LTX.out; have hs1 := LTZ.out; have hs2 := LTO.out; have hs3 := LH.out; first | omega | (simp <;> omega)) _ _).other (by have hs0 := LTX.out; have hs1 := LTZ.out; have hs2 := LTO.out; have hs3 := LH.out; first | omega | (simp <;> omega)) _ _).other (by have hs0 := LTX.out; have hs1 := LTZ.out; have hs2 := LTO.out; have hs3 := LH.out; first | omega | (simp <;> omega)) _ _))
  have Z1 := Lib.hid (show Bx 25 w1 (w.heap.size + 1) #[.int .i64 0, .int .i64 0, .int .i64 0, .int .i64 0, .int .i64 0, .bool false, .bool false, .int .i64 0, .slice none 0 0] by rw [← hW]; exact ((((((((Z0.out.other (by have hs0 := LTX.out; have hs1 := LTZ.out; have hs2 := LTO.out; have hs3 := LH.out; first | omega | (simp <;> omega)) _ _).other (by have hs0 := LTX.out; have hs1 := LTZ.out; have hs2 := LTO.out; have hs3 := LH.out; first | omega | (simp <;> omega)) _ _).other (by have hs0 := LTX.out; have hs1 := LTZ.out; have hs2 := LTO.out; have hs3 := LH.out; first | omega | (simp <;> omega)) _ _).other (by have hs0 := LTX.out; have hs1 := LTZ.out; have hs2 := LTO.out; have hs3 := LH.out; first | omega | (simp <;> omega)) _ _).other (by have hs0 := LTX.out; have hs1 := LTZ.out; have hs2 := LTO.out; have hs3 := LH.out; first | omega | (simp <;> omega)) _ _).other (by have hs0 := LTX.out; have hs1 := LTZ.out; have hs2 := LTO.out; have hs3 := LH.out; first | omega | (simp <;> omega)) _ _).other (by have hs0 := LTX.out; have hs1 := LTZ.out; have hs2 := LTO.out; have hs3 := LH.out; first | omega | (simp <;> omega)) _ _).other (by have hs0 := LTX.out; have hs1 := LTZ.out; have hs2 := LTO.out; have hs3 := LH.out; first | omega | (simp <;> omega)) _ _))
  have O1 := Lib.hid (show Bx 25 w1 (w.heap.size + 1 + 1) #[.int .i64 x.Kind, .int .i64 x.From, .int .i64 x.To, .int .i64 x.Seq, .int .i64 x.Fragment, .bool x.More, .bool x.Retry, .int .i64 x.Duration, .slice none 0 0] by rw [← hW]; exact ((((((((O0.out.set 0 _).set 1 _).set 2 _).set 3 _).set 4 _).set 5 _).set 6 _).set 7 _))
  have P01 := Lib.hid (show RR bytes w1 lo hi (.slice A0 n0 c0) x.Body by rw [← hW]; exact (P00.out.same (by simp [World.setCell]) fun b h1 h2 => by rw [Below.heap_setCell _ _ _ _ (by have hs0 := LTX.out; have hs1 := LTZ.out; have hs2 := LTO.out; have hs3 := LH.out; first | omega | (simp <;> omega))]; rw [Below.heap_setCell _ _ _ _ (by have hs0 := LTX.out; have hs1 := LTZ.out; have hs2 := LTO.out; have hs3 := LH.out; first | omega | (simp <;> omega))]; rw [Below.heap_setCell _ _ _ _ (by have hs0 := LTX.out; have hs1 := LTZ.out; have hs2 := LTO.out; have hs3 := LH.out; first | omega | (simp <;> omega))]; rw [Below.heap_setCell _ _ _ _ (by have hs0 := LTX.out; have hs1 := LTZ.out; have hs2 := LTO.out; have hs3 := LH.out; first | omega | (simp <;> omega))]; rw [Below.heap_setCell _ _ _ _ (by have hs0 := LTX.out; have hs1 := LTZ.out; have hs2 := LTO.out; have hs3 := LH.out; first | omega | (simp <;> omega))]; rw [Below.heap_setCell _ _ _ _ (by have hs0 := LTX.out; have hs1 := LTZ.out; have hs2 := LTO.out; have hs3 := LH.out; first | omega | (simp <;> omega))]; rw [Below.heap_setCell _ _ _ _ (by have hs0 := LTX.out; have hs1 := LTZ.out; have hs2 := LTO.out; have hs3 := LH.out; first | omega | (simp <;> omega))]; rw [Below.heap_setCell _ _ _ _ (by have hs0 := LTX.out; have hs1 := LTZ.out; have hs2 := LTO.out; have hs3 := LH.out; first | omega | (simp <;> omega))]))
  clear hW B0 X0 Z0 O0 P00
  have SP1 := Lib.hid O1.out.lt
  (with_reducible refine (toByteS P01.out HS0.out).mono ?_)
  rintro e w2 hp
  obtain ⟨u0, f0, rfl, ho, hb⟩ := hp.parts
  obtain ⟨Ab0, nb0, cb0, rfl⟩ := bytes_slo ho.1
  clear hp
  have SS2 := Lib.hid hb.size
  have B2 := Lib.hid (B1.out.trans (hb.mono B1.out.size))
  have X2 := Lib.hid (X1.out.below hb)
  have Z2 := Lib.hid (Z1.out.below hb)
  have O2 := Lib.hid (O1.out.below hb)
  have P02 := Lib.hid (P01.out.below hb)
  clear hb B1 X1 Z1 O1 P01
  have N02 := Lib.hid ho
  clear ho
  have cX0 : w2.cell? ⟨w.heap.size, 0, none⟩ = some (.int .i64 x.Kind) := X2.out.cell 0
  have cX1 : w2.cell? ⟨w.heap.size, 1, none⟩ = some (.int .i64 x.From) := X2.out.cell 1
  have cX2 : w2.cell? ⟨w.heap.size, 2, none⟩ = some (.int .i64 x.To) := X2.out.cell 2
  have cX3 : w2.cell? ⟨w.heap.size, 3, none⟩ = some (.int .i64 x.Seq) := X2.out.cell 3
  have cX4 : w2.cell? ⟨w.heap.size, 4, none⟩ = some (.int .i64 x.Fragment) := X2.out.cell 4
  have cX5 : w2.cell? ⟨w.heap.size, 5, none⟩ = some (.bool x.More) := X2.out.cell 5
  have cX6 : w2.cell? ⟨w.heap.size, 6, none⟩ = some (.bool x.Retry) := X2.out.cell 6
  have cX7 : w2.cell? ⟨w.heap.size, 7, none⟩ = some (.int .i64 x.Duration) := X2.out.cell 7
  have cX8 : w2.cell? ⟨w.heap.size, 8, none⟩ = some (.slice A0 n0 c0) := X2.out.cell 8
  have cO0 : w2.cell? ⟨w.heap.size + 1 + 1, 0, none⟩ = some (.int .i64 x.Kind) := O2.out.cell 0
  have cO1 : w2.cell? ⟨w.heap.size + 1 + 1, 1, none⟩ = some (.int .i64 x.From) := O2.out.cell 1
  have cO2 : w2.cell? ⟨w.heap.size + 1 + 1, 2, none⟩ = some (.int .i64 x.To) := O2.out.cell 2
  have cO3 : w2.cell? ⟨w.heap.size + 1 + 1, 3, none⟩ = some (.int .i64 x.Seq) := O2.out.cell 3
  have cO4 : w2.cell? ⟨w.heap.size + 1 + 1, 4, none⟩ = some (.int .i64 x.Fragment) := O2.out.cell 4
  have cO5 : w2.cell? ⟨w.heap.size + 1 + 1, 5, none⟩ = some (.bool x.More) := O2.out.cell 5
  have cO6 : w2.cell? ⟨w.heap.size + 1 + 1, 6, none⟩ = some (.bool x.Retry) := O2.out.cell 6
  have cO7 : w2.cell? ⟨w.heap.size + 1 + 1, 7, none⟩ = some (.int .i64 x.Duration) := O2.out.cell 7
  have cO8 : w2.cell? ⟨w.heap.size + 1 + 1, 8, none⟩ = some (.slice none 0 0) := O2.out.cell 8
  have fO0 : w2.frozen? ⟨w.heap.size + 1 + 1, 0, none⟩ = false := O2.out.free 0
  have fO1 : w2.frozen? ⟨w.heap.size + 1 + 1, 1, none⟩ = false := O2.out.free 1
  have fO2 : w2.frozen? ⟨w.heap.size + 1 + 1, 2, none⟩ = false := O2.out.free 2
  have fO3 : w2.frozen? ⟨w.heap.size + 1 + 1, 3, none⟩ = false := O2.out.free 3
  have fO4 : w2.frozen? ⟨w.heap.size + 1 + 1, 4, none⟩ = false := O2.out.free 4
  have fO5 : w2.frozen? ⟨w.heap.size + 1 + 1, 5, none⟩ = false := O2.out.free 5
  have fO6 : w2.frozen? ⟨w.heap.size + 1 + 1, 6, none⟩ = false := O2.out.free 6
  have fO7 : w2.frozen? ⟨w.heap.size + 1 + 1, 7, none⟩ = false := O2.out.free 7
  have fO8 : w2.frozen? ⟨w.heap.size + 1 + 1, 8, none⟩ = false := O2.out.free 8
  go_upto_region 11 with fail
  clear cX0 cX1 cX2 cX3 cX4 cX5 cX6 cX7 cX8 cO0 cO1 cO2 cO3 cO4 cO5 cO6 cO7 cO8 fO0 fO1 fO2 fO3 fO4 fO5 fO6 fO7 fO8
  have hWW : (w2.setCell ⟨w.heap.size + 1 + 1, 8, none⟩ (.slice Ab0 nb0 cb0)) = (w2.setCell ⟨w.heap.size + 1 + 1, 8, none⟩ (.slice Ab0 nb0 cb0)) := rfl
  obtain ⟨w3, hW⟩ : ∃ wy, (w2.setCell ⟨w.heap.size + 1 + 1, 8, none⟩ (.slice Ab0 nb0 cb0)) = wy := ⟨_, rfl⟩
  rw [hW]
  clear hWW
  have B3 := Lib.hid (show Below w.heap.size w w3 by rw [← hW]; exact (B2.out.setCell (p := ⟨w.heap.size + 1 + 1, 8, none⟩) (by have hs0 := LTX.out; have hs1 := LTZ.out; have hs2 := LTO.out; have hs3 := LH.out; have hs4 := SP1.out; have hs5 := SS2.out; first | omega | (simp <;> omega)) _))
  have X3 := Lib.hid (show Bx 56 w3 (w.heap.size) #[.int .i64 x.Kind, .int .i64 x.From, .int .i64 x.To, .int .i64 x.Seq, .int .i64 x.Fragment, .bool x.More, .bool x.Retry, .int .i64 x.Duration, .slice A0 n0 c0] by rw [← hW]; exact (X2.out.other (by have hs0 := LTX.out; have hs1 := LTZ.out; have hs2 := LTO.out; have hs3 := LH.out; have hs4 := SP1.out; have hs5 := SS2.out; first | omega | (simp <;> omega)) _ _))
  have Z3 := Lib.hid (show Bx 25 w3 (w.heap.size + 1) #[.int .i64 0, .int .i64 0, .int .i64 0, .int .i64 0, .int .i64 0, .bool false, .bool false, .int .i64 0, .slice none 0 0] by rw [← hW]; exact (Z2.out.other (by have hs0 := LTX.out; have hs1 := LTZ.out; have hs2 := LTO.out; have hs3 := LH.out; have hs4 := SP1.out; have hs5 := SS2.out; first | omega | (simp <;> omega)) _ _))
  have O3 := Lib.hid (show Bx 25 w3 (w.heap.size + 1 + 1) #[.int .i64 x.Kind, .int .i64 x.From, .int .i64 x.To, .int .i64 x.Seq, .int .i64 x.Fragment, .bool x.More, .bool x.Retry, .int .i64 x.Duration, .slice Ab0 nb0 cb0] by rw [← hW]; exact (O2.out.set 8 _))
  have P03 := Lib.hid (show RR bytes w3 lo hi (.slice A0 n0 c0) x.Body by rw [← hW]; exact (P02.out.same (by simp [World.setCell]) fun b h1 h2 => by rw [Below.heap_setCell _ _ _ _ (by have hs0 := LTX.out; have hs1 := LTZ.out; have hs2 := LTO.out; have hs3 := LH.out; have hs4 := SP1.out; have hs5 := SS2.out; first | omega | (simp <;> omega))]))
  have N03 := Lib.hid (show OO bytes w3 w1.heap.size w2.heap.size f0 (.slice Ab0 nb0 cb0) x.Body by rw [← hW]; exact (N02.out.same (by simp [World.setCell]) fun b h1 h2 => by rw [Below.heap_setCell _ _ _ _ (by have hs0 := LTX.out; have hs1 := LTZ.out; have hs2 := LTO.out; have hs3 := LH.out; have hs4 := SP1.out; have hs5 := SS2.out; first | omega | (simp <;> omega))]))
  clear hW B2 X2 Z2 O2 P02 N02
  go_wp2_with (first | (refine stw.list_load rfl 25 _ rfl (w.heap.size + 1 + 1) rfl 25 _ O3.out Try.underlying25 rfl szFra ?_) | (refine stw.list_store rfl 25 _ _ rfl (w.heap.size + 1) #[.int .i64 x.Kind, .int .i64 x.From, .int .i64 x.To, .int .i64 x.Seq, .int .i64 x.Fragment, .bool x.More, .bool x.Retry, .int .i64 x.Duration, .slice Ab0 nb0 cb0] rfl rfl 25 _ Z3.out rfl szFra (oneFra _ _ _ _ _ _ _ _ _ _ _) ?_; intro wz4 hz))
  have B4 := Lib.hid (hz.on B3.out (by have hs0 := LTX.out; have hs1 := LTZ.out; have hs2 := LTO.out; have hs3 := LH.out; have hs4 := SP1.out; have hs5 := SS2.out; first | omega | (simp <;> omega)))
  have X4 := Lib.hid (hz.keep X3.out (by have hs0 := LTX.out; have hs1 := LTZ.out; have hs2 := LTO.out; have hs3 := LH.out; have hs4 := SP1.out; have hs5 := SS2.out; first | omega | (simp <;> omega)))
  have Z4 := Lib.hid (hz.box)
  have O4 := Lib.hid (hz.keep O3.out (by have hs0 := LTX.out; have hs1 := LTZ.out; have hs2 := LTO.out; have hs3 := LH.out; have hs4 := SP1.out; have hs5 := SS2.out; first | omega | (simp <;> omega)))
  have P04 := Lib.hid (P03.out.same hz.below.size fun b h1 h2 => hz.other b (by have hs0 := LTX.out; have hs1 := LTZ.out; have hs2 := LTO.out; have hs3 := LH.out; have hs4 := SP1.out; have hs5 := SS2.out; first | omega | (simp <;> omega)))
  have N04 := Lib.hid (N03.out.same hz.below.size fun b h1 h2 => hz.other b (by have hs0 := LTX.out; have hs1 := LTZ.out; have hs2 := LTO.out; have hs3 := LH.out; have hs4 := SP1.out; have hs5 := SS2.out; first | omega | (simp <;> omega)))
  clear hz B3 X3 Z3 O3 P03 N03
  (try simp only [Exit.inBlock, Exit.then])
  refine bodyPost_ret (v := .agg #[.int .i64 x.Kind, .int .i64 x.From, .int .i64 x.To, .int .i64 x.Seq, .int .i64 x.Fragment, .bool x.More, .bool x.Retry, .int .i64 x.Duration, .slice Ab0 nb0 cb0]) ?_ rfl ?_
  · rw [results_cell1 rfl]
    exact stw.back Z4.out Try.underlying25 rfl szFra
  · exact ⟨_, _, rfl, fra_mk (N04.out.wide (by have hs0 := LTX.out; have hs1 := LTZ.out; have hs2 := LTO.out; have hs3 := LH.out; have hs4 := SP1.out; have hs5 := SS2.out;  first | omega | (simp <;> omega))) (bytes.nd N04.out.1), B4.out⟩
set_option maxRecDepth 100000 in
set_option maxHeartbeats 4000000 in
theorem eqMacFrame {w : World} {lo hi lo2 hi2 : Nat} {v u : Value} {x : Fra} (h : RR fra w lo hi v x) (h2 : RR fra w lo2 hi2 u x) :
    Calls Try.prog 38 #[v, u] w (BPost true w) := by
  have LH := Lib.hid h.hi_
  have LH2 := Lib.hid h2.hi_
  obtain ⟨A0, n0, c0, rfl, g0⟩ := fra_r h
  obtain ⟨Ab0, nb0, cb0, rfl, gb0⟩ := fra_r h2
  have P0W := Lib.hid g0
  have Q0W := Lib.hid gb0
  clear h h2 g0 gb0
  go_enter Try.func38, Try.ntmps38
  go_wp2_with fail
  obtain ⟨w0, hW⟩ : ∃ w0, (w.alloc (.cells #[.int .i64 x.Kind, .int .i64 x.From, .int .i64 x.To, .int .i64 x.Seq, .int .i64 x.Fragment, .bool x.More, .bool x.Retry, .int .i64 x.Duration, .slice A0 n0 c0] 25)).alloc (.cells #[.int .i64 x.Kind, .int .i64 x.From, .int .i64 x.To, .int .i64 x.Seq, .int .i64 x.Fragment, .bool x.More, .bool x.Retry, .int .i64 x.Duration, .slice Ab0 nb0 cb0] 25) = w0 := ⟨_, rfl⟩
  rw [hW]
  have B0 := Lib.hid (show Below w.heap.size w w0 by rw [← hW]; exact ((Below.refl _ _).alloc (by simp <;> omega) _).alloc (by simp <;> omega) _)
  have X0 := Lib.hid (show Bx 25 w0 (w.heap.size) #[.int .i64 x.Kind, .int .i64 x.From, .int .i64 x.To, .int .i64 x.Seq, .int .i64 x.Fragment, .bool x.More, .bool x.Retry, .int .i64 x.Duration, .slice A0 n0 c0] by
      rw [← hW]
      have hh := Bx.made 25 w #[.int .i64 x.Kind, .int .i64 x.From, .int .i64 x.To, .int .i64 x.Seq, .int .i64 x.Fragment, .bool x.More, .bool x.Retry, .int .i64 x.Duration, .slice A0 n0 c0]
      exact (hh.below (below_box _ _)))
  have Y0 := Lib.hid (show Bx 25 w0 (w.heap.size + 1) #[.int .i64 x.Kind, .int .i64 x.From, .int .i64 x.To, .int .i64 x.Seq, .int .i64 x.Fragment, .bool x.More, .bool x.Retry, .int .i64 x.Duration, .slice Ab0 nb0 cb0] by
      rw [← hW]
      have hh : Bx 25 ((w.alloc (.cells #[.int .i64 x.Kind, .int .i64 x.From, .int .i64 x.To, .int .i64 x.Seq, .int .i64 x.Fragment, .bool x.More, .bool x.Retry, .int .i64 x.Duration, .slice A0 n0 c0] 25)).alloc (.cells #[.int .i64 x.Kind, .int .i64 x.From, .int .i64 x.To, .int .i64 x.Seq, .int .i64 x.Fragment, .bool x.More, .bool x.Retry, .int .i64 x.Duration, .slice Ab0 nb0 cb0] 25)) (w.heap.size + 1) #[.int .i64 x.Kind, .int .i64 x.From, .int .i64 x.To, .int .i64 x.Seq, .int .i64 x.Fragment, .bool x.More, .bool x.Retry, .int .i64 x.Duration, .slice Ab0 nb0 cb0] := by have hh := Bx.made 25 (w.alloc (.cells #[.int .i64 x.Kind, .int .i64 x.From, .int .i64 x.To, .int .i64 x.Seq, .int .i64 x.Fragment, .bool x.More, .bool x.Retry, .int .i64 x.Duration, .slice A0 n0 c0] 25)) #[.int .i64 x.Kind, .int .i64 x.From, .int .i64 x.To, .int .i64 x.Seq, .int .i64 x.Fragment, .bool x.More, .bool x.Retry, .int .i64 x.Duration, .slice Ab0 nb0 cb0]; simpa using hh
      exact hh)
  have P00 := Lib.hid (show RR bytes w0 lo hi (.slice A0 n0 c0) x.Body by rw [← hW]; exact ((P0W.out.below (below_box _ _)).below (below_box _ _)))
  have Q00 := Lib.hid (show RR bytes w0 lo2 hi2 (.slice Ab0 nb0 cb0) x.Body by rw [← hW]; exact ((Q0W.out.below (below_box _ _)).below (below_box _ _)))
  clear hW
  have LTX := Lib.hid X0.out.lt
  have LTY := Lib.hid Y0.out.lt
  (with_reducible refine (eqByteS P00.out Q00.out).mono ?_)
  rintro e w1 ⟨rfl, hb⟩
  have SS1 := Lib.hid hb.size
  have B1 := Lib.hid (B0.out.trans (hb.mono B0.out.size))
  have X1 := Lib.hid (X0.out.below hb)
  have Y1 := Lib.hid (Y0.out.below hb)
  have P01 := Lib.hid (P00.out.below hb)
  have Q01 := Lib.hid (Q00.out.below hb)
  clear hb B0 X0 Y0 P00 Q00
  have cX0 : w1.cell? ⟨w.heap.size, 0, none⟩ = some (.int .i64 x.Kind) := X1.out.cell 0
  have cX1 : w1.cell? ⟨w.heap.size, 1, none⟩ = some (.int .i64 x.From) := X1.out.cell 1
  have cX2 : w1.cell? ⟨w.heap.size, 2, none⟩ = some (.int .i64 x.To) := X1.out.cell 2
  have cX3 : w1.cell? ⟨w.heap.size, 3, none⟩ = some (.int .i64 x.Seq) := X1.out.cell 3
  have cX4 : w1.cell? ⟨w.heap.size, 4, none⟩ = some (.int .i64 x.Fragment) := X1.out.cell 4
  have cX5 : w1.cell? ⟨w.heap.size, 5, none⟩ = some (.bool x.More) := X1.out.cell 5
  have cX6 : w1.cell? ⟨w.heap.size, 6, none⟩ = some (.bool x.Retry) := X1.out.cell 6
  have cX7 : w1.cell? ⟨w.heap.size, 7, none⟩ = some (.int .i64 x.Duration) := X1.out.cell 7
  have cX8 : w1.cell? ⟨w.heap.size, 8, none⟩ = some (.slice A0 n0 c0) := X1.out.cell 8
  have cY0 : w1.cell? ⟨w.heap.size + 1, 0, none⟩ = some (.int .i64 x.Kind) := Y1.out.cell 0
  have cY1 : w1.cell? ⟨w.heap.size + 1, 1, none⟩ = some (.int .i64 x.From) := Y1.out.cell 1
  have cY2 : w1.cell? ⟨w.heap.size + 1, 2, none⟩ = some (.int .i64 x.To) := Y1.out.cell 2
  have cY3 : w1.cell? ⟨w.heap.size + 1, 3, none⟩ = some (.int .i64 x.Seq) := Y1.out.cell 3
  have cY4 : w1.cell? ⟨w.heap.size + 1, 4, none⟩ = some (.int .i64 x.Fragment) := Y1.out.cell 4
  have cY5 : w1.cell? ⟨w.heap.size + 1, 5, none⟩ = some (.bool x.More) := Y1.out.cell 5
  have cY6 : w1.cell? ⟨w.heap.size + 1, 6, none⟩ = some (.bool x.Retry) := Y1.out.cell 6
  have cY7 : w1.cell? ⟨w.heap.size + 1, 7, none⟩ = some (.int .i64 x.Duration) := Y1.out.cell 7
  have cY8 : w1.cell? ⟨w.heap.size + 1, 8, none⟩ = some (.slice Ab0 nb0 cb0) := Y1.out.cell 8
  go_wp2_with fail
  clear cX0 cX1 cX2 cX3 cX4 cX5 cX6 cX7 cX8 cY0 cY1 cY2 cY3 cY4 cY5 cY6 cY7 cY8
  go_ret
  exact ⟨rfl, B1.out⟩
def fra_mv (q : Int) (x : Fra) : Fra := { x with Body := bytes.mkx (q) x.Body }
def fra_tv (x : Fra) : Nat := bytes.tot x.Body
set_option maxRecDepth 100000 in
set_option maxHeartbeats 4000000 in
theorem markMacFrame {w : World} {lo hi : Nat} {fp : List Nat} {v : Value} {x : Fra} (q : Int) (h : OO fra w lo hi fp v x) (hq : 0 ≤ q ∧ q + (fra_tv x : Nat) ≤ 1099511627776) (hs : fra.sz x ≤ 67108864) :
    Calls Try.prog 42 #[v, .int .i64 q] w (MkPost fra (fra_mv q x) (q + (fra_tv x : Nat)) lo hi fp v w) := by
  obtain ⟨A0, n0, c0, f0, rfl, g0, hf, hn⟩ := fra_o h
  have HH := Lib.hid h.hi_
  have P0 := Lib.hid (g0.below (below_box w (.cells #[.int .i64 x.Kind, .int .i64 x.From, .int .i64 x.To, .int .i64 x.Seq, .int .i64 x.Fragment, .bool x.More, .bool x.Retry, .int .i64 x.Duration, .slice A0 n0 c0] 25)))
  have LT0 := Lib.hid (S_lt g0)
  have hq2 : 0 ≤ q ∧ q + (bytes.tot x.Body : Nat) ≤ 1099511627776 := hq
  have HQ := Lib.hid hq2
  have HS := Lib.hid (show bytes.sz x.Body ≤ 67108864 from hs)
  subst hf
  clear h g0 hq hs hq2
  go_enter Try.func42, Try.ntmps42
  go_wp2_with fail
  (with_reducible refine (markByteS q P0.out HQ.out HS.out).mono ?_)
  rintro e w1 hp
  obtain ⟨rfl, ho, hk⟩ := hp.parts
  have O1 := Lib.hid ho
  have K1 := Lib.hid ((ks_below (below_box w (.cells #[.int .i64 x.Kind, .int .i64 x.From, .int .i64 x.To, .int .i64 x.Seq, .int .i64 x.Fragment, .bool x.More, .bool x.Retry, .int .i64 x.Duration, .slice A0 n0 c0] 25)) fp).trans hk)
  clear hp ho hk
  go_wp2_with fail
  go_ret
  exact ⟨rfl, fra_mk (x := fra_mv q x) O1.out hn, K1.out⟩

end Go.Proofs.Ytbkdbdhbmabgcaa.ux
end

section
namespace Go.Proofs.Ytbkdbdhbmabgcaa.fr
open Go.RowKit sl harn bx mrw drk stw
set_option linter.unusedVariables false
set_option linter.unusedSimpArgs false
open ux (Rea Fra rea fra rowRea rowFra RR OO Rep Ue fps blks bytes)
theorem blks_two {A : Option Addr} : (blks A).Nodup := by cases A <;> simp [blks]
theorem sumT_sub {α : Type} (f : α → Nat) {a b : List α} (h : a.Sublist b) : ux.sumT f a ≤ ux.sumT f b := by
  induction h with
  | slnil => exact Nat.le_refl _
  | cons x _ ih => rw [ux.sumT_cons]; omega
  | cons_cons x _ ih => rw [ux.sumT_cons, ux.sumT_cons]; omega
theorem row_sub {α : Type} {T : TypeId} {S : Rep α} {a b : List α} (h : a.Sublist b) : (ux.row T S).sz a ≤ (ux.row T S).sz b := by
  have h1 := h.length_le
  have h2 := sumT_sub S.sz h
  show a.length + ux.sumT S.sz a ≤ b.length + ux.sumT S.sz b
  omega
theorem row_mem {α : Type} {T : TypeId} {S : Rep α} {a : List α} {x : α} (h : x ∈ a) : S.sz x ≤ (ux.row T S).sz a := by
  have h1 := ux.sumT_mem S.sz h
  show S.sz x ≤ a.length + ux.sumT S.sz a
  omega
/-- Any list of elements, the blocks of their slices one behind the other. -/
def ues {α : Type} (v : α → Value → Value) (es : List (El α)) : List (Ue α) := es.map fun e => ⟨blks e.A, v e.x (.slice e.A e.n e.c), e.x⟩
theorem nd_bodies {α : Type} {v : α → Value → Value} : ∀ {es : List (El α)}, Ds es → (fps (ues v es)).Nodup
  | [], _ => List.nodup_nil
  | e :: r, h => by
    have h2 := List.pairwise_cons.1 h
    have e1 : fps (ues v (e :: r)) = blks e.A ++ fps (ues v r) := rfl
    rw [e1]
    refine List.nodup_append.2 ⟨blks_two, nd_bodies h2.2, fun b hb c hc hbc => ?_⟩
    subst hbc
    obtain ⟨u, hu, hb2⟩ := List.mem_flatMap.1 hc
    obtain ⟨f, hf, rfl⟩ := List.mem_map.1 hu
    obtain ⟨A, n, cc, hA⟩ : ∃ A n c, (⟨e.x, A, n, c⟩ : El α) = e := ⟨_, _, _, rfl⟩
    cases hA1 : e.A with
    | none => rw [hA1] at hb; cases hb
    | some a =>
      cases hA2 : f.A with
      | none => simp only [hA2] at hb2; cases hb2
      | some a2 =>
        rw [hA1] at hb; simp only [hA2] at hb2
        have k1 : b = a.block := by simpa [blks] using hb
        have k2 : b = a2.block := by simpa [blks] using hb2
        exact h2.1 f hf a a2 hA1 hA2 (k1.symm.trans k2)
theorem mem_body {α : Type} {v : α → Value → Value} {es : List (El α)} {b : Nat} (h : b ∈ fps (ues v es)) : ∃ e ∈ es, b ∈ blks e.A := by
  obtain ⟨u, hu, hb⟩ := List.mem_flatMap.1 h
  obtain ⟨f, hf, rfl⟩ := List.mem_map.1 hu
  exact ⟨f, hf, hb⟩
section
variable {w : World} {lo hi n c : Nat} {A : Option Addr} {l : List Rea} {es : List (El Rea)}
theorem rea_flt : ∀ es : List (El Rea), flat reaS es = ux.flt (ues ux.reaV es)
  | [] => rfl
  | e :: r => by
    have e1 : flat reaS (e :: r) = cells reaS e ++ flat reaS r := rfl
    have e2 : ux.flt (ues ux.reaV (e :: r)) = cells reaS e ++ ux.flt (ues ux.reaV r) := rfl
    rw [e1, e2, rea_flt r]
theorem rea_rq (h : RR rowRea w lo hi (.slice A n c) l) : Rq reaS w lo hi A n c l := by
  obtain ⟨A', n', c', e, h1, h2, h3, h4, h5⟩ := h
  injection e with e1 e2 e3
  subst e1 e2 e3
  refine ⟨h1, h2, h3, h4, fun hn => ?_⟩
  obtain ⟨b, off, e, g1, g2, g3⟩ := h5 hn
  refine ⟨b, off, e, g1, g2, fun i x hx => ?_⟩
  obtain ⟨u, r1, r2⟩ := g3 i x hx
  obtain ⟨A0, n0, c0, rfl, hb⟩ := ux.rea_r (r2 : RR rea w lo hi u x)
  exact ⟨A0, n0, c0, r1, ux.rd_of hb⟩
theorem rea_rr (h : Rq reaS w lo hi A n c l) : RR rowRea w lo hi (.slice A n c) l := by
  obtain ⟨h1, h2, h3, h4, h5⟩ := h
  refine ⟨A, n, c, rfl, h1, h2, h3, h4, fun hn => ?_⟩
  obtain ⟨b, off, e, g1, g2, g3⟩ := h5 hn
  refine ⟨b, off, e, g1, g2, fun i x hx => ?_⟩
  obtain ⟨A0, n0, c0, r1, r2⟩ := g3 i x hx
  exact ⟨ux.reaV x (.slice A0 n0 c0), r1, h4, _, rfl, ux.num_rd r2⟩
theorem rea_oo (h : Oe reaS w lo hi A n c es) (he : es.map (fun e : El Rea => e.x) = l) : ∃ fp, OO rowRea w lo hi fp (.slice A n c) l := by
  have hes : (ues ux.reaV es).map (fun u : Ue Rea => u.x) = l := by rw [← he]; simp [ues]
  have hel : ∀ u ∈ ues ux.reaV es, rea.O w u.fp u.v u.x ∧ u.v.cells.size = rea.n ∧ u.v.cells.all (·.oneCell') = true := by
    intro u hu
    obtain ⟨f, hf, rfl⟩ := List.mem_map.1 hu
    have hb := h.body f hf
    exact ⟨⟨_, _, rfl, (ux.num_of hb).1, rfl, blks_two⟩, rfl, rea.one (w := w) (lo := lo) (hi := hi) ⟨h.hi_, _, rfl, ux.num_rd hb.rd⟩⟩
  rcases h.form with ⟨rfl, rfl, rfl⟩ | ⟨g, cur, rfl, g1, g2, g3, g4, g5, g6, g7⟩
  · have hl := h.len
    obtain rfl : es = [] := List.length_eq_zero_iff.1 hl
    exact ⟨[], ⟨none, 0, 0, [], rfl, by rw [← he]; rfl, fun _ h => (by cases h), List.nodup_nil, .inl ⟨rfl, rfl, rfl, rfl, rfl⟩⟩, fun b hb => (by cases hb), h.hi_⟩
  · have hin : ∀ b, b ∈ fps (ues ux.reaV es) → (lo ≤ b ∧ b < hi) ∧ b ≠ g := by
      intro b hb
      obtain ⟨e, hem, hbe⟩ := mem_body hb
      have ho := h.body e hem
      refine ⟨ux.ow_in ho b hbe, fun hbg => ?_⟩
      rcases ho.form with ⟨e0, _⟩ | ⟨q, cur2, e0, _, _, q3, _⟩
      · rw [e0] at hbe; cases hbe
      · rw [e0] at hbe
        have : b = q := ux.mem_one hbe
        subst this
        rw [hbg, g3] at q3
        injection q3 with q4
        injection q4 with _ q5
        exact reaS.ne q5
    refine ⟨g :: fps (ues ux.reaV es), ⟨_, n, c, ues ux.reaV es, rfl, hes, hel, List.nodup_cons.2 ⟨fun hm => (hin g hm).2 rfl, nd_bodies h.ds⟩, .inr ⟨g, cur, rfl, g3, by rw [ues, List.length_map]; exact h.len, g4, g5, g6, ?_, rfl⟩⟩, fun b hb => ?_, h.hi_⟩
    · exact g7.trans (rea_flt es)
    · rcases List.mem_cons.1 hb with rfl | hb
      · exact ⟨g1, g2⟩
      · exact (hin b hb).1
end
section
variable {w : World} {lo hi n c : Nat} {A : Option Addr} {l : List Fra} {es : List (El Fra)}
theorem fra_flt : ∀ es : List (El Fra), flat fraS es = ux.flt (ues ux.fraV es)
  | [] => rfl
  | e :: r => by
    have e1 : flat fraS (e :: r) = cells fraS e ++ flat fraS r := rfl
    have e2 : ux.flt (ues ux.fraV (e :: r)) = cells fraS e ++ ux.flt (ues ux.fraV r) := rfl
    rw [e1, e2, fra_flt r]
theorem fra_rq (h : RR rowFra w lo hi (.slice A n c) l) : Rq fraS w lo hi A n c l := by
  obtain ⟨A', n', c', e, h1, h2, h3, h4, h5⟩ := h
  injection e with e1 e2 e3
  subst e1 e2 e3
  refine ⟨h1, h2, h3, h4, fun hn => ?_⟩
  obtain ⟨b, off, e, g1, g2, g3⟩ := h5 hn
  refine ⟨b, off, e, g1, g2, fun i x hx => ?_⟩
  obtain ⟨u, r1, r2⟩ := g3 i x hx
  obtain ⟨A0, n0, c0, rfl, hb⟩ := ux.fra_r (r2 : RR fra w lo hi u x)
  exact ⟨A0, n0, c0, r1, ux.rd_of hb⟩
theorem fra_rr (h : Rq fraS w lo hi A n c l) : RR rowFra w lo hi (.slice A n c) l := by
  obtain ⟨h1, h2, h3, h4, h5⟩ := h
  refine ⟨A, n, c, rfl, h1, h2, h3, h4, fun hn => ?_⟩
  obtain ⟨b, off, e, g1, g2, g3⟩ := h5 hn
  refine ⟨b, off, e, g1, g2, fun i x hx => ?_⟩
  obtain ⟨A0, n0, c0, r1, r2⟩ := g3 i x hx
  exact ⟨ux.fraV x (.slice A0 n0 c0), r1, h4, _, rfl, ux.num_rd r2⟩
theorem fra_oo (h : Oe fraS w lo hi A n c es) (he : es.map (fun e : El Fra => e.x) = l) : ∃ fp, OO rowFra w lo hi fp (.slice A n c) l := by
  have hes : (ues ux.fraV es).map (fun u : Ue Fra => u.x) = l := by rw [← he]; simp [ues]
  have hel : ∀ u ∈ ues ux.fraV es, fra.O w u.fp u.v u.x ∧ u.v.cells.size = fra.n ∧ u.v.cells.all (·.oneCell') = true := by
    intro u hu
    obtain ⟨f, hf, rfl⟩ := List.mem_map.1 hu
    have hb := h.body f hf
    exact ⟨⟨_, _, rfl, (ux.num_of hb).1, rfl, blks_two⟩, rfl, fra.one (w := w) (lo := lo) (hi := hi) ⟨h.hi_, _, rfl, ux.num_rd hb.rd⟩⟩
  rcases h.form with ⟨rfl, rfl, rfl⟩ | ⟨g, cur, rfl, g1, g2, g3, g4, g5, g6, g7⟩
  · have hl := h.len
    obtain rfl : es = [] := List.length_eq_zero_iff.1 hl
    exact ⟨[], ⟨none, 0, 0, [], rfl, by rw [← he]; rfl, fun _ h => (by cases h), List.nodup_nil, .inl ⟨rfl, rfl, rfl, rfl, rfl⟩⟩, fun b hb => (by cases hb), h.hi_⟩
  · have hin : ∀ b, b ∈ fps (ues ux.fraV es) → (lo ≤ b ∧ b < hi) ∧ b ≠ g := by
      intro b hb
      obtain ⟨e, hem, hbe⟩ := mem_body hb
      have ho := h.body e hem
      refine ⟨ux.ow_in ho b hbe, fun hbg => ?_⟩
      rcases ho.form with ⟨e0, _⟩ | ⟨q, cur2, e0, _, _, q3, _⟩
      · rw [e0] at hbe; cases hbe
      · rw [e0] at hbe
        have : b = q := ux.mem_one hbe
        subst this
        rw [hbg, g3] at q3
        injection q3 with q4
        injection q4 with _ q5
        exact fraS.ne q5
    refine ⟨g :: fps (ues ux.fraV es), ⟨_, n, c, ues ux.fraV es, rfl, hes, hel, List.nodup_cons.2 ⟨fun hm => (hin g hm).2 rfl, nd_bodies h.ds⟩, .inr ⟨g, cur, rfl, g3, by rw [ues, List.length_map]; exact h.len, g4, g5, g6, ?_, rfl⟩⟩, fun b hb => ?_, h.hi_⟩
    · exact g7.trans (fra_flt es)
    · rcases List.mem_cons.1 hb with rfl | hb
      · exact ⟨g1, g2⟩
      · exact (hin b hb).1
end
theorem rowRea_bd (l : List Rea) : rowRea.tot l ≤ 64 * rowRea.sz l := ux.rowRea_tot l
theorem rowFra_bd (l : List Fra) : rowFra.tot l ≤ 64 * rowFra.sz l := ux.rowFra_tot l
theorem rea_bd (l : Rea) : ux.rea_tv l ≤ 64 * rea.sz l + 64 := by have h := ux.bytes_tot l.Body; show ux.bytes.tot l.Body ≤ 64 * ux.bytes.sz l.Body + 64; omega
theorem fra_bd (l : Fra) : ux.fra_tv l ≤ 64 * fra.sz l + 64 := by have h := ux.bytes_tot l.Body; show ux.bytes.tot l.Body ≤ 64 * ux.bytes.sz l.Body + 64; omega
theorem bytes_bd (l : List Int) : ux.bytes.tot l ≤ 64 * ux.bytes.sz l := ux.bytes_tot l
/-- What holds of a list within the harness's bound. -/
theorem list_bd {l : List Rea} (h : rowRea.sz l ≤ 67108864) : l.length ≤ 67108864 ∧ ∀ y ∈ l, y.Body.length ≤ 67108864 := by
  have e : rowRea.sz l = l.length + ux.sumT rea.sz l := rfl
  exact ⟨by omega, fun y hy => by have h1 : rea.sz y ≤ rowRea.sz l := row_mem hy; have h2 : rea.sz y = y.Body.length := rfl; omega⟩
theorem fra_rd {w : World} {lo hi n c : Nat} {A : Option Addr} {f : Fra} (h : RR fra w lo hi (ux.fraV f (.slice A n c)) f) : Rd .u8 w lo hi A n c f.Body := by
  obtain ⟨A0, n0, c0, e, h0⟩ := ux.fra_r h
  have e2 : Value.slice A n c = Value.slice A0 n0 c0 := by simpa [ux.fraV] using e
  rw [← e2] at h0
  exact ux.rd_of h0
theorem fra_of {w : World} {lo hi n c : Nat} {A : Option Addr} {f : Fra} (h : Rd .u8 w lo hi A n c f.Body) : RR fra w lo hi (ux.fraV f (.slice A n c)) f := ⟨h.hi_, _, rfl, ux.num_rd h⟩
theorem bx_ks {T : TypeId} {w w' : World} {b : Nat} {cs : Array Value} {F : List Nat} (h : Bx T w b cs) (hk : KS F w w') (hb : b ∉ F) : Bx T w' b cs := h.same (hk.block b h.lt hb)
end Go.Proofs.Ytbkdbdhbmabgcaa.fr
end
