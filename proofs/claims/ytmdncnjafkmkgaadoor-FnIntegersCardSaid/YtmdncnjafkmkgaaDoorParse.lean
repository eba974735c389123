/- The two ParseInt functions return the number whose numeral the string is, and whether there is one, and leave memory as it was, but for new blocks. Conditions: the string has at most 1048576 bytes; of the program's own one, that the listed library variables hold what was laid. -/
import Derived.Test.YtmdncnjafkmkgaaDoorForm
import Derived.Test.YtmdncnjafkmkgaaDoorFacts
namespace Go.Proofs.YtmdncnjafkmkgaaDoor.parse
open Go.RowKit nums facts
open Go.Lib (itoa)

theorem below_bytes {w w' : World} {e : TypeId} (h : w' = w ∨ ∃ t, w' = Lib.bytesWorld w e t) : Below w.heap.size w w' := by
  rcases h with rfl | ⟨t, rfl⟩
  · exact Below.refl _ _
  · exact Lib.bytesWorld_below w e t

theorem inRange_yes (n a b : Int) (h : a ≤ n ∧ n ≤ b) (w : World) :
    Calls Tryd.prog 21 #[.int .i64 n, .int .i64 a, .int .i64 b] w fun e w' => e = .returned (.bool true) ∧ w = w' := by
  obtain ⟨h1, h2⟩ := h
  go_enter Tryd.func21, Tryd.ntmps21
  go_wp2
  go_ret
  exact ⟨rfl, rfl⟩
theorem inRange_no (n a b : Int) (h : ¬ (a ≤ n ∧ n ≤ b)) (w : World) :
    Calls Tryd.prog 21 #[.int .i64 n, .int .i64 a, .int .i64 b] w fun e w' => e = .returned (.bool false) ∧ w = w' := by
  by_cases h1 : a ≤ n
  · have h2 : ¬ n ≤ b := by omega
    clear h
    go_enter Tryd.func21, Tryd.ntmps21
    go_wp2
    go_ret
    exact ⟨rfl, rfl⟩
  · clear h
    go_enter Tryd.func21, Tryd.ntmps21
    go_wp2
    go_ret
    exact ⟨rfl, rfl⟩

theorem implParse_fault (s : ByteArray) (hs : s.size ≤ 1048576) (h0 : ∀ v, Lib.atoiAll s.data.toList ≠ .ok v) (h1 : Lib.atoiAll s.data.toList ≠ .range) (w : World) (he : Errs w) :
    Calls Tryd.prog 8 #[.string s] w fun e w' => e = .returned (.tuple #[.int .i64 0, .bool false]) ∧ Below w.heap.size w w' := by
  obtain ⟨⟨tp, p, hv⟩, -⟩ := he
  have hc := Tryd.strconv_Atoi_fault_var s (by omega) h0 h1 tp p w hv
  clear h0 h1 hv hs
  go_enter Tryd.func8, Tryd.ntmps8
  go_wp2_with (go_at_call 20; refine hc.mono ?_; rintro e w' ⟨N, rfl, -, -, hb⟩; have HB := Lib.hid hb; clear hb)
  go_ret2
  exact ⟨rfl, HB.out⟩
theorem implParse_range (s : ByteArray) (hs : s.size ≤ 1048576) (h : Lib.atoiAll s.data.toList = .range) (w : World) (he : Errs w) :
    Calls Tryd.prog 8 #[.string s] w fun e w' => e = .returned (.tuple #[.int .i64 0, .bool false]) ∧ Below w.heap.size w w' := by
  obtain ⟨-, ⟨tp, p, hv⟩⟩ := he
  have hc := Tryd.strconv_Atoi_range_var s (by omega) h tp p w hv
  clear h hv hs
  go_enter Tryd.func8, Tryd.ntmps8
  go_wp2_with (go_at_call 20; refine hc.mono ?_; rintro e w' ⟨N, rfl, -, -, hb⟩; have HB := Lib.hid hb; clear hb)
  go_ret2
  exact ⟨rfl, HB.out⟩
theorem implParse_out (s : ByteArray) (hs : s.size ≤ 1048576) (v : Int) (h : Lib.atoiAll s.data.toList = .ok v) (hv : v < 0 ∨ 1000000000000 < v) (w : World) :
    Calls Tryd.prog 8 #[.string s] w fun e w' => e = .returned (.tuple #[.int .i64 0, .bool false]) ∧ Below w.heap.size w w' := by
  have hc := Tryd.strconv_Atoi_ok s (by omega) v h w
  clear h hs
  have hr := fun W => inRange_no v 0 1000000000000 (by omega) W
  clear hv
  go_enter Tryd.func8, Tryd.ntmps8
  go_wp2_with (first
    | (go_at_call 20; refine hc.mono ?_; rintro e w' ⟨rfl, hb⟩; have HB := Lib.hid (below_bytes hb); clear hb)
    | (go_at_call 21; refine (hr _).mono ?_; rintro e w2 ⟨rfl, rfl⟩))
  go_ret2
  exact ⟨rfl, HB.out⟩
theorem implParse_eq (s : ByteArray) (hs : s.size ≤ 1048576) (v : Int) (h : Lib.atoiAll s.data.toList = .ok v) (h0 : 0 ≤ v) (h1 : v ≤ 1000000000000) (hq : (!itoa v == s.toList) = false) (w : World) (ht : Tab w) :
    Calls Tryd.prog 8 #[.string s] w fun e w' => e = .returned (.tuple #[.int .i64 v, .bool true]) ∧ Below w.heap.size w w' := by
  have hc := Tryd.strconv_Atoi_ok s (by omega) v h w
  have hr := fun W => inRange_yes v 0 1000000000000 ⟨h0, h1⟩ W
  have HT := Lib.hid ht
  have HV := Lib.hid (And.intro h0 h1)
  clear h hs ht h0 h1
  go_enter Tryd.func8, Tryd.ntmps8
  go_wp2_with (first
    | (go_at_call 20; refine hc.mono ?_; rintro e w' ⟨rfl, hb⟩; have HB := Lib.hid (below_bytes hb); clear hb)
    | (go_at_call 10; refine (form.implFormat v (by have := HV.out; omega) (by have := HV.out; omega) _ (HT.out.below HB.out)).mono ?_; rintro e w2 ⟨rfl, hb2⟩; have HB2 := Lib.hid hb2; clear hb2)
    | (go_at_call 21; refine (hr _).mono ?_; rintro e w2 ⟨rfl, rfl⟩))
  go_ret2
  exact ⟨rfl, HB.out.trans (HB2.out.mono HB.out.size)⟩
theorem implParse_ne (s : ByteArray) (hs : s.size ≤ 1048576) (v : Int) (h : Lib.atoiAll s.data.toList = .ok v) (h0 : 0 ≤ v) (h1 : v ≤ 1000000000000) (hq : (!itoa v == s.toList) = true) (w : World) (ht : Tab w) :
    Calls Tryd.prog 8 #[.string s] w fun e w' => e = .returned (.tuple #[.int .i64 0, .bool false]) ∧ Below w.heap.size w w' := by
  have hc := Tryd.strconv_Atoi_ok s (by omega) v h w
  have hr := fun W => inRange_yes v 0 1000000000000 ⟨h0, h1⟩ W
  have HT := Lib.hid ht
  have HV := Lib.hid (And.intro h0 h1)
  clear h hs ht h0 h1
  go_enter Tryd.func8, Tryd.ntmps8
  go_wp2_with (first
    | (go_at_call 20; refine hc.mono ?_; rintro e w' ⟨rfl, hb⟩; have HB := Lib.hid (below_bytes hb); clear hb)
    | (go_at_call 10; refine (form.implFormat v (by have := HV.out; omega) (by have := HV.out; omega) _ (HT.out.below HB.out)).mono ?_; rintro e w2 ⟨rfl, hb2⟩; have HB2 := Lib.hid hb2; clear hb2)
    | (go_at_call 21; refine (hr _).mono ?_; rintro e w2 ⟨rfl, rfl⟩))
  go_ret2
  exact ⟨rfl, HB.out.trans (HB2.out.mono HB.out.size)⟩

/-- What both functions give. -/
def parsed (l : List UInt8) : Value := .tuple #[.int .i64 ((num l).getD 0), .bool (num l).isSome]
theorem implParse (s : ByteArray) (hs : s.size ≤ 1048576) (w : World) (ht : Tab w) (he : Errs w) :
    Calls Tryd.prog 8 #[.string s] w fun e w' => e = .returned (parsed s.data.toList) ∧ Below w.heap.size w w' := by
  unfold parsed
  cases h : Lib.atoiAll s.data.toList with
  | range => rw [num_none_of_fault (fun v hv => by rw [h] at hv; cases hv)]; exact implParse_range s hs h w he
  | ok v =>
    rw [num_of_atoi h]
    by_cases hr : 0 ≤ v ∧ v ≤ 1000000000000
    · by_cases hq : itoa v = s.data.toList
      · rw [if_pos ⟨hr.1, hr.2, hq⟩]
        exact implParse_eq s hs v h hr.1 hr.2 (by rw [ByteArray.toList_eq, hq]; simp) w ht
      · rw [if_neg (fun hc => hq hc.2.2)]
        exact implParse_ne s hs v h hr.1 hr.2 (by rw [ByteArray.toList_eq]; simpa using hq) w ht
    · rw [if_neg (fun hc => hr ⟨hc.1, hc.2.1⟩)]
      exact implParse_out s hs v h (by omega) w
  | _ => rw [num_none_of_fault (fun v hv => by rw [h] at hv; cases hv)]; exact implParse_fault s hs (fun v hv => by rw [h] at hv; cases hv) (fun hv => by rw [h] at hv; cases hv) w he
end Go.Proofs.YtmdncnjafkmkgaaDoor.parse
