/- The law function of varints (FnVarints) returns true and leaves what was there. Condition: the argument is a slice of bytes that came in. -/
import Derived.Test.YtpfpikfipkdjeaaDraw4
import Derived.Test.YtpfpikfipkdjeaaUv3
import Derived.Test.YtpfpikfipkdjeaaSame
import Derived.Test.YtpfpikfipkdjeaaBytes
import Derived.Deep.RegionWith
import Derived.Deep.RegionHeld3
namespace Go.Proofs.Ytpfpikfipkdjeaa.varints
open Go.RowKit sl harn uvs enc

theorem Rd.heap {k : IntKind} {w w' : World} {lo hi n cap : Nat} {A : Option Addr} {zs : List Int} (h : Rd k w lo hi A n cap zs) (e : w'.heap = w.heap) : Rd k w' lo hi A n cap zs :=
  h.same (by rw [e]; exact Nat.le_refl _) fun b _ _ => by rw [e]
theorem sameYes (zs : List Int) (lo hi lo2 hi2 : Nat) (A A2 : Option Addr) (n cap n2 cap2 : Nat) (w : World) (h : Rd .u8 w lo hi A n cap zs) (h2 : Rd .u8 w lo2 hi2 A2 n2 cap2 zs) :
    Calls Try.prog 17 #[.slice A n cap, .slice A2 n2 cap2] w fun e w' => e = .returned (.bool true) ∧ Below w.heap.size w w' := harn.sameB_yes zs lo hi lo2 hi2 A A2 n cap n2 cap2 w h h2

/-- The first half of the law: what is read of an appended varint. -/
def First (zs : List Int) (x : Int) (k nx : Int) (ok : Bool) : Prop :=
  (¬ (0 ≤ x ∧ x ≤ 1000000000000) ∧ ok = false ∧ uv zs x = zs) ∨ ((0 ≤ x ∧ x ≤ 1000000000000) ∧ ok = true ∧ k = x ∧ nx = (uv zs x).length)
theorem first {zs : List Int} {x k nx : Int} {ok : Bool} (h : rv (uv zs x) zs.length = (k, nx, ok)) : First zs x k nx ok := by
  by_cases hx : 0 ≤ x ∧ x ≤ 1000000000000
  · right
    have := rv_enc zs [] x hx
    rw [List.append_nil, ← uv_in hx, h] at this
    injection this with e1 e2; injection e2 with e2 e3
    refine ⟨hx, e3, e1, ?_⟩
    rw [e2, uv_in hx, List.length_append]; simp
  · left
    rw [uv_out hx, rv_out (by omega)] at h
    injection h with e1 e2; injection e2 with e2 e3
    exact ⟨hx, e3.symm, uv_out hx⟩

theorem before {k : IntKind} {w W w' : World} {lo hi n cap : Nat} {A : Option Addr} {zs : List Int} (o : Obj) (h : Rd k w lo hi A n cap zs) (hb : Below W.heap.size W w') (e : W.heap = (w.alloc o).heap) : Rd k w' lo hi A n cap zs :=
  (Rd.heap (h.alloc o) e).below hb
theorem beforeB {w0 w W w' : World} (o : Obj) (h : Below w0.heap.size w0 w) (hb : Below W.heap.size W w') (e : W.heap = (w.alloc o).heap) (e1 : W.os = w.os) (e2 : W.tape = w.tape) (e3 : W.output = w.output) : Below w0.heap.size w0 w' := by
  have h2 : Below w0.heap.size w0 W := ⟨e1.trans h.os, e2.trans h.tape, e3.trans h.output, by rw [e]; exact (h.alloc h.size o).size, fun k hk => by rw [e]; exact (h.alloc h.size o).block k hk⟩
  exact h2.trans (hb.mono h2.size)
theorem zeros {b : List Int} {off m nx : Int} (h : rv b off = (m, nx, false)) : m = 0 ∧ nx = 0 := by
  have := rv_bad (b := b) (off := off) (by rw [h])
  rw [h] at this
  injection this with e1 e2; injection e2 with e2 _
  exact ⟨e1, e2⟩

set_option maxRecDepth 100000 in
set_option maxHeartbeats 4000000 in
theorem walk (a : Option Addr) (len cap : Nat) (z0 : List Int) (w : World) (r0 : kit.IsRow .u8 w a len cap z0) :
    Calls Try.prog 3 #[.slice a len cap] w fun e w' => e = .returned (.bool true) ∧ Below w.heap.size w w' := by
  have HC := Lib.hid (draw.code_of_row r0)
  have hlen : (len : Int) ≤ 9223372036854775807 := by have := HC.out.1; omega
  clear r0
  by_cases hbig : 1048576 < (len : Int)
  · go_enter Try.func3, Try.ntmps3
    go_wp2
    go_ret
    exact ⟨rfl, Below.refl _ _⟩
  go_enter Try.func3, Try.ntmps3
  go_wp2_with (first
    | (go_at_call 14; refine (draw.drawAppendUvarint _ a len cap HC.out).mono ?_; rintro e w1 ⟨A, n, c, zs, x, rfl, ho, hn, hx, hb⟩; have O1 := Lib.hid ho; have X1 := Lib.hid hx; have B1 := Lib.hid hb; have N1 := Lib.hid hn; clear hb ho hx hn)
    | (go_at_call 13; go_in))
  go_wp2_with fail
  (with_reducible refine (uvs.implUv _ _ A n c zs x _ O1.out.rd (by have := N1.out; omega)).mono ?_)
  rintro e w2 ⟨D, m, d, rfl, ho, hb⟩
  have O2 := Lib.hid (O1.out.below hb)
  have Q2 := Lib.hid ho
  have B2 := Lib.hid (B1.out.trans (hb.mono B1.out.size))
  have M2 := Lib.hid (show m ≤ 100000 by have h1 := ho.len; have h2 := uv_len zs x; have h3 := O1.out.len; have h4 := N1.out; omega)
  clear hb ho B1 O1
  obtain ⟨k, nx, ok, ht⟩ := split3 (uv zs x) (n : Int)
  have hF : First zs x k nx ok := first (by rw [O2.out.len]; exact ht)
  have T := Lib.hid ht
  have F := Lib.hid hF
  clear ht hF
  go_wp2_with fail
  (with_reducible refine (uvs.implRv _ _ D m d (uv zs x) n _ Q2.out.rd (by have := M2.out; omega)).mono ?_)
  rintro e w3 hpost
  obtain ⟨rfl, hb⟩ := hpost.parts T.out
  have O3 := Lib.hid (O2.out.below hb)
  have Q3 := Lib.hid (Q2.out.below hb)
  have B3 := Lib.hid (B2.out.trans (hb.mono B2.out.size))
  clear hb B2 O2 Q2 hpost T
  have hcase : (x < 0 ∧ ok = false ∧ uv zs x = zs) ∨ (0 ≤ x ∧ 1000000000000 < x ∧ ok = false ∧ uv zs x = zs) ∨ (0 ≤ x ∧ x ≤ 1000000000000 ∧ ok = true ∧ k = x ∧ nx = (m : Int)) := by
    rcases F.out with ⟨hx, h1, hu⟩ | ⟨⟨hx0, hx1⟩, h1, h2, h3⟩
    · rcases Int.lt_or_le x 0 with h | h
      · exact Or.inl ⟨h, h1, hu⟩
      · exact Or.inr (Or.inl ⟨h, by omega, h1, hu⟩)
    · exact Or.inr (Or.inr ⟨hx0, hx1, h1, h2, by rw [h3, Q3.out.len]⟩)
  clear F
  rcases hcase with ⟨hx, rfl, hu⟩ | ⟨hx, hx2, rfl, hu⟩ | ⟨hx, hx2, rfl, rfl, rfl⟩
  all_goals (first | (rw [hu] at Q3; clear hu) | skip)
  all_goals go_wp2_with fail
  all_goals (first
    | (go_at_call 17; (with_reducible refine (sameYes zs _ _ _ _ D A m d n c _ Q3.out.rd O3.out.rd).mono ?_); rintro e w4 ⟨rfl, hb⟩; have B4 := Lib.hid (B3.out.trans (hb.mono B3.out.size)); clear hb B3 O3 Q3; go_wp2_with fail)
    | (have B4 := B3; clear B3 O3 Q3))
  all_goals
    (with_reducible refine (draw.drawReadUvarint _ a len cap (draw.code_later HC.out B4.out)).mono ?_)
    rintro e w5 ⟨E, n5, c5, ys, off, rfl, ho, hn5, hoff, hb⟩
    have O5 := Lib.hid ho
    have N5 := Lib.hid hn5
    have B5 := Lib.hid (B4.out.trans (hb.mono B4.out.size))
    obtain ⟨m5, nx5, ok5, ht⟩ := split3 ys off
    have T5 := Lib.hid ht
    clear hb ho B4 ht hn5
    go_wp2_with fail
    (with_reducible refine (uvs.implRv _ _ E n5 c5 ys off _ O5.out.rd (by have := N5.out; omega)).mono ?_)
    rintro e w6 hpost
    obtain ⟨rfl, hb⟩ := hpost.parts T5.out
    have O6 := Lib.hid (O5.out.below hb)
    have B6 := Lib.hid (B5.out.trans (hb.mono B5.out.size))
    clear hb hpost B5 O5
    cases ok5 with
    | false =>
      obtain ⟨rfl, rfl⟩ := zeros T5.out
      go_wp2_with fail
      (with_reducible refine (uvs.specRv _ _ E n5 c5 ys off _ O6.out.rd (by have := N5.out; omega)).mono ?_)
      rintro e w7 hpost
      obtain ⟨rfl, hb⟩ := hpost.parts T5.out
      have B7 := Lib.hid (B6.out.trans (hb.mono B6.out.size))
      clear hb hpost B6 O6
      go_wp2_with fail
      go_ret
      exact ⟨rfl, B7.out⟩
    | true =>
      obtain ⟨i0, hi0, hz0, hz1, hz2⟩ := info_parts u8Info
      obtain ⟨g1, g2, g3, g4, g5, g6⟩ := rv_ok O6.out.wf.u8 T5.out
      rw [O6.out.len] at g3
      obtain ⟨hc1, hc2⟩ := O6.out.rd.cap_
      obtain ⟨A', hA', hcut⟩ := cut_run (P := Try.prog) 22 5 i0 (by kernel_rfl) (by kernel_rfl) hi0 hz1 E n5 c5 off nx5 (by omega) (by omega) (by omega)
      have CUT := Lib.hid (O6.out.rd.cut off.toNat nx5.toNat (c5 - off.toNat) A' (fun h => hA' (by omega)) (by omega) (by omega) (by omega) (by unfold maxLen; omega))
      have G6 : Hid ((ys.drop off.toNat).take (nx5.toNat - off.toNat) = uv [] m5) := by
        unfold Hid
        rw [uv_in ⟨g4, g5⟩, g6, List.nil_append]
        congr 1; omega
      rw [G6.out] at CUT
      clear hi0 hz0 hz1 hz2 hA' g6 G6 T5
      go_wp2_with fail
      have d1 : decide ((0 : Int) ≤ off) = true := by simpa using g1
      have d2 : decide (nx5 ≤ (n5 : Int)) = true := by simpa using g3
      have d3 : decide (off < nx5) = true := by simpa using g2
      clear hx X1 HC hoff
      go_region_held3 (fun w' => w'.heap.size = w'.heap.size) (rfl)
        (first
        | (go_at_call 15; refine (uvs.implUv 0 0 _ 0 0 [] m5 _ (Rd.nil .u8 _ _ 0 0 0 (by unfold maxLen; omega) (Nat.zero_le _)) (by omega)).mono ?_; rintro e w7 ⟨G, n7, c7, rfl, ho7, hb7⟩; have O7 := Lib.hid ho7; have B7 := Lib.hid (beforeB (.cells #[] 5) B6.out hb7 rfl rfl rfl rfl); have R7 := Lib.hid (before (.cells #[] 5) CUT.out hb7 rfl); clear ho7 hb7)
        | (go_at_call 17; refine (sameYes (uv [] m5) _ _ _ _ G A' n7 c7 _ _ _ O7.out.rd R7.out).mono ?_; rintro e w8 ⟨rfl, hb8⟩; have B8 := Lib.hid (B7.out.trans (hb8.mono B7.out.size)); clear hb8))
      all_goals go_wp2_with fail
      go_ret
      exact ⟨rfl, B8.out⟩
end Go.Proofs.Ytpfpikfipkdjeaa.varints
