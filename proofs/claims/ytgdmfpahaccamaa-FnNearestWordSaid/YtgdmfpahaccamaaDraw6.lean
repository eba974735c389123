/- The draws of stage 4: bit strings, sometimes with an element that is no bit; bytes. Condition: the bytes that are drawn from are a slice that came in. -/
import Derived.Test.YtgdmfpahaccamaaDraw5
namespace Go.Proofs.Ytgdmfpahaccamaa.draw
open Go.RowKit sl harn

/-- What stands behind a change of one cell of a row of the call's own. -/
theorem ow_set {E : TypeId} {k : IntKind} {w : World} {lo hi n cap b : Nat} {zs : List Int} (h : Ow E k w lo hi (some ⟨b, 0, none⟩) n cap zs) (i : Nat) (v : Int) (hv : (Lit.int k v).wf = true) : Ow E k (w.setCell ⟨b, i, none⟩ (.int k v)) lo hi (some ⟨b, 0, none⟩) n cap (zs.set i v) := by
  have hs := h.1.stored i (.int k v)
  have e : (zs.map (Value.int k)).set i (.int k v) = (zs.set i v).map (Value.int k) := by rw [List.map_set]
  refine ⟨?_, ?_, ?_, h.2.2.2⟩
  · rw [← e]; exact hs.1
  · intro z hz
    rcases List.mem_or_eq_of_mem_set hz with hz | hz
    · exact h.wf z hz
    · rw [hz]; exact hv
  · have := h.hi_; simpa [World.setCell] using this
theorem In.set {lo hi : Int} {zs : List Int} (h : In lo hi zs) (i : Nat) {x : Int} (h1 : lo ≤ x) (h2 : x ≤ hi) : In lo hi (zs.set i x) := fun z hz => by
  rcases List.mem_or_eq_of_mem_set hz with hz | hz
  · exact h z hz
  · rw [hz]; exact ⟨h1, h2⟩
theorem In.wide {lo hi lo2 hi2 : Int} {zs : List Int} (h : In lo hi zs) (h1 : lo2 ≤ lo) (h2 : hi ≤ hi2) : In lo2 hi2 zs := fun z hz => by
  have := h z hz; omega
set_option maxRecDepth 100000 in
theorem bits4 (N : Int) (h0 : 0 ≤ N) (hN : N ≤ 1000) (w : World) (p : Nat) (a : Option Addr) (len cap : Nat) (hc : Cur w p a len cap) :
    Calls Try.prog 35 #[.pointer (some ⟨p, 0, none⟩), .int .i64 N] w (SomeInts 0 1 1000 p a len cap w) := by
  obtain ⟨i0, hi0, hz0, hz1, hz2⟩ := info_parts intInfo
  have C0 := Lib.hid hc
  have P0 := Lib.hid hc.lt
  have HZ := Lib.hid (And.intro hi0 (And.intro hz0 (And.intro hz1 hz2)))
  clear hc hi0 hz0 hz1 hz2
  go_enter Try.func35, Try.ntmps35
  go_wp2
  go_loopw [5, 6] (fun v i wr => ∃ k : Nat, i = .int .i64 k ∧ (k : Int) ≤ N ∧ DrawingI 0 1 w wr p a len cap k v) (fun _ i _ => (N - intOf i).toNat)
  case atStart => exact ⟨0, rfl, by omega, _, _, [], rfl, (Ow.empty 3 .i64 w).up, In.nil _ _, (Keep.refl p w).alloc _, C0.out.alloc _⟩
  case round =>
    obtain ⟨k, rfl, hk, B, c, zs, rfl, ho, hin, hkp, hcu⟩ := hrel
    have HO := Lib.hid ho
    have HI := Lib.hid hin
    have HK := Lib.hid hkp
    have HC := Lib.hid hcu
    clear ho hkp hcu hin
    by_cases hlt : (k : Int) < N
    · go_wp2_with (first
        | (go_at_call 36; refine (below 2 (by omega) _ p a len cap HC.out).mono ?_; rintro e w2 ⟨z, rfl, hz0, hz1, hk1, hc1⟩; (have hz2 := hz1 (by omega)); have HO1 := Lib.hid (ow_keep HO.out hk1 P0.out); have HX := Lib.hid (And.intro (show (Lit.int .i64 z).wf = true from WalkArith.wf_i64 (by omega)) (HI.out.push hz0 (show z ≤ 1 by omega))); have HC1 := Lib.hid hc1; have HK1 := Lib.hid (HK.out.trans hk1); (have hs1 : w.heap.size ≤ w2.heap.size := HK1.out.size); clear hk1 hc1 hz1 HC HO HK HI)
        | (at_builtin; refine wpList_app _ rfl _ _ 24 rfl 3 i0 _ .i64 Try.underlying24 HZ.out.1 HZ.out.2.1 HZ.out.2.2.1 (by rw [HZ.out.2.2.2]; omega) rfl rfl rfl (HO1.out.alloc _) (Rd.one .i64 _ _ _ HX.out.1) (by omega) (by simp; omega) ?_; intro A1 cap1 w3 ho hb1; have HO3 := Lib.hid ho; have HB := Lib.hid (cur_then C0.out.1 P0.out HK1.out HC1.out (below_push' hs1 hb1)); clear ho hb1))
      go_roundw
      case rel => exact ⟨k + 1, by go_num, by omega, A1, cap1, _, rfl, HO3.out, HX.out.2, HB.out.1, HB.out.2⟩
      case measure => simp [intOf]; omega
    · go_wp2
      go_ret
      exact ⟨_, _, _, zs, rfl, by omega, HO.out, HI.out, HK.out, HC.out⟩
theorem SomeInts.wide {lo hi lo2 hi2 : Int} {N : Nat} {p : Nat} {a : Option Addr} {len cap : Nat} {w w' : World} {e : Ending} (h : SomeInts lo hi N p a len cap w e w') (h1 : lo2 ≤ lo) (h2 : hi ≤ hi2) : SomeInts lo2 hi2 N p a len cap w e w' := by
  obtain ⟨A, n, c, zs, e1, e2, e3, e4, e5⟩ := h
  exact ⟨A, n, c, zs, e1, e2, e3, e4.wide h1 h2, e5⟩
theorem cell_of {E : TypeId} {k : IntKind} {w : World} {lo hi n cap b : Nat} {zs : List Int} (h : Ow E k w lo hi (some ⟨b, 0, none⟩) n cap zs) {j : Nat} (hj : j < n) : w.cell? ⟨b, j, none⟩ = some (.int k (zs.getD j 0)) := by
  obtain ⟨b', off, e, _, _, hc⟩ := h.rd.at_ hj
  injection e with e; injection e with e1 e2 e3
  subst e1 e2
  rwa [Nat.zero_add] at hc
end Go.Proofs.Ytgdmfpahaccamaa.draw
