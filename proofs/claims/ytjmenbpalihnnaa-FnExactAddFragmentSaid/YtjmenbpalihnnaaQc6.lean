/- Removal of one message: slices.Delete, withoutMessage. Condition: at most 2^26 messages. -/
import Derived.Test.YtjmenbpalihnnaaQc5
import Derived.Test.YtjmenbpalihnnaaMrd
namespace Go.Proofs.Ytjmenbpalihnnaa.mq
open Go.RowKit sl harn bx mrw
set_option linter.unusedVariables false
set_option linter.unusedSimpArgs false

theorem zeroM : ∀ w : World, (zeroValue 28).run Try.prog w = .ok (.agg #[.int .i64 0, .int .i64 0, .int .i64 0, .slice none 0 0]) w := fun w => by kernel_rfl
theorem szI : (Try.prog.info? 28).map (·.size) = some 4 := by kernel_rfl
set_option maxRecDepth 100000 in
set_option maxHeartbeats 4000000 in
theorem delM (es : List (El Msg)) (g n cap lo hi i j : Nat) (hj : i + 1 = j) (hin : i < n) (hn : n ≤ 67108864) (w : World) (h : Oe msg w lo hi (some ⟨g, 0, none⟩) n cap es) :
    Calls Try.prog 103 #[.slice (some ⟨g, 0, none⟩) n cap, .int .i64 (i : Int), .int .i64 (j : Int)] w (fun e w' => e = .returned (.slice (some ⟨g, 0, none⟩) (n - 1) cap) ∧ Oe msg w' lo hi (some ⟨g, 0, none⟩) (n - 1) cap (es.eraseIdx i) ∧ w.grownBy w' (some g)) := by
  obtain ⟨i0, hi0, hz0, hz1, hz2⟩ := info_parts infoM
  have HO := Lib.hid h
  have hcp : n ≤ cap ∧ cap ≤ 9223372036854775807 := h.rq.cap_
  clear h hz0 hz2
  obtain ⟨ad, had, hs2⟩ := sliceS_post (P := Try.prog) 24 28 i0 4 Try.underlying24 hi0 hz1 g n cap (i + 1) (by omega) hcp.1
  have hs0 := fun W => sliceS_three (P := Try.prog) 24 28 i0 4 Try.underlying24 hi0 hz1 g n cap i (i + 1) n (by omega) (by omega) hcp.1 W
  have hs1 := fun W => sliceS_pre (P := Try.prog) 24 28 i0 4 Try.underlying24 hi0 hz1 g n cap i (by omega) W
  have hs3 := fun W => sliceS_mid (P := Try.prog) 24 28 i0 4 Try.underlying24 hi0 hz1 g (n - 1) cap (n - 1) n (by omega) hcp.1 W
  have e3 : n - (n - 1) = 1 := by omega
  rw [e3] at hs3
  rw [hj] at had hs2 hs0
  have HAD := Lib.hid had
  have HJ := Lib.hid hj
  have hij : ((i : Int) == (j : Int)) = false := by simp; omega
  have HI := Lib.hid (And.intro hi0 hz1)
  have HS1 := Lib.hid hs1
  have HS2 := Lib.hid hs2
  have HS3 := Lib.hid hs3
  have hz3 : ∀ W, (Instr.sliceAt 24 (.slice (some ⟨g, 0, none⟩) n cap) (some (.int .i64 i)) (some (.int .i64 j)) (some (.int .i64 n))).run Try.prog W = .ok (.slice (some ⟨g, i * 4, none⟩) (j - i) (n - i)) W := fun W => by rw [at_slice _ _ Try.underlying24]; exact hs0 W
  clear had hs1 hs2 hs3 hj hi0 hz1 hs0
  go_enter Try.func103, Try.ntmps103
  skip
  go_upto_region 5 with fail
  refine reg.region_tail reg.Bel 6 33 [some [], some [], some [(0, 20), (1, 21)], some [], some [], some [(3, 23), (4, 24)], none, none] [(0, 20), (1, 21), (2, 22), (3, 23), (4, 24), (5, 25)]
    (fun w' => Below w.heap.size w w' ∧ Oe msg w' lo hi (some ⟨g, 0, none⟩) n cap es ∧ w.grownBy w' (some g))
    (reg.rl [reg.is (.slice (some ⟨g, 0, none⟩) n cap), reg.is (.int .i64 ((i : Int))), reg.is (.slice (some ⟨g, 0, none⟩) i cap), reg.is (.slice (some ⟨g, 0, none⟩) n cap), reg.is (.int .i64 ((j : Int))), reg.is (.slice (some ad) (n - j) (cap - j)), reg.free, reg.free])
    (by kernel_rfl) rfl (by kernel_rfl) (by kernel_rfl) rfl
    (fun w1 w2 hc hb => ⟨hc.1.trans (hb.mono hc.1.size), hc.2.1.below hb, grown_trans hc.2.2 (grown_below hb _)⟩) (reg.rl_keep _) (⟨own.below_drew (Below.refl _ _), HO.out.same (Nat.le_refl _) (fun _ _ _ => rfl), grown_below (own.below_drew (Below.refl _ _)) _⟩) (by kernel_rfl) ⟨?_, ?_, ?_, ?_, ?_, ?_, trivial⟩ ?_
  · refine fun w8 hc  K hK => ?_
    (try simp only [Act.put, List.setIfInBounds_toArray, List.set_cons_zero, List.set_cons_succ])
    go_simp
    exact hK (.slice (some ⟨g, 0, none⟩) n cap) _ rfl (Below.refl _ _)
  · refine fun w8 hc  K hK => ?_
    (try simp only [Act.put, List.setIfInBounds_toArray, List.set_cons_zero, List.set_cons_succ])
    go_simp
    exact hK (.int .i64 ((i : Int))) _ rfl (Below.refl _ _)
  · refine fun w8 hc v0 h0 v1 h1 K hK => ?_
    obtain rfl : v0 = .slice (some ⟨g, 0, none⟩) n cap := h0
    obtain rfl : v1 = .int .i64 ((i : Int)) := h1
    (try simp only [Act.put, List.setIfInBounds_toArray, List.set_cons_zero, List.set_cons_succ])
    rw [if_pos (by rfl)]
    refine wp_slice_h 24 _ _ rfl (.slice (some ⟨g, 0, none⟩) n cap) (.int .i64 ((i : Int))) _ rfl rfl (fun W => by rw [at_slice _ _ Try.underlying24]; exact HS1.out W) ?_
    exact hK _ _ rfl (Below.refl _ _)
  · refine fun w8 hc  K hK => ?_
    (try simp only [Act.put, List.setIfInBounds_toArray, List.set_cons_zero, List.set_cons_succ])
    go_simp
    exact hK (.slice (some ⟨g, 0, none⟩) n cap) _ rfl (Below.refl _ _)
  · refine fun w8 hc  K hK => ?_
    (try simp only [Act.put, List.setIfInBounds_toArray, List.set_cons_zero, List.set_cons_succ])
    go_simp
    exact hK (.int .i64 ((j : Int))) _ rfl (Below.refl _ _)
  · refine fun w8 hc v3 h3 v4 h4 K hK => ?_
    obtain rfl : v3 = .slice (some ⟨g, 0, none⟩) n cap := h3
    obtain rfl : v4 = .int .i64 ((j : Int)) := h4
    (try simp only [Act.put, List.setIfInBounds_toArray, List.set_cons_zero, List.set_cons_succ])
    rw [if_pos (by rfl)]
    refine wp_slice_l 24 _ _ rfl (.slice (some ⟨g, 0, none⟩) n cap) (.int .i64 ((j : Int))) _ rfl rfl (fun W => by rw [at_slice _ _ Try.underlying24]; exact HS2.out W) ?_
    exact hK _ _ rfl (Below.refl _ _)
  refine fun w9 hc v0 h0 v1 h1 v2 h2 v3 h3 v4 h4 v5 h5 => ?_
  obtain rfl : v0 = .slice (some ⟨g, 0, none⟩) n cap := h0
  obtain rfl : v1 = .int .i64 ((i : Int)) := h1
  obtain rfl : v2 = .slice (some ⟨g, 0, none⟩) i cap := h2
  obtain rfl : v3 = .slice (some ⟨g, 0, none⟩) n cap := h3
  obtain rfl : v4 = .int .i64 ((j : Int)) := h4
  obtain rfl : v5 = .slice (some ad) (n - j) (cap - j) := h5
  (try simp only [reg.Obs])
  (try simp only [Act.put, List.setIfInBounds_toArray, List.set_cons_zero, List.set_cons_succ])
  simp only [List.drop_succ_cons, List.drop_zero]
  have O9 := Lib.hid hc.2.1
  have G9 := Lib.hid hc.2.2
  clear hc
  have hnj : n - j = n - (i + 1) := by have := HJ.out; omega
  have hz4 : ∀ W, (Instr.sliceAt 24 (.slice (some ⟨g, 0, none⟩) (n - 1) cap) (some (.int .i64 ((n - 1 : Nat) : Int))) (some (.int .i64 n)) none).run Try.prog W = .ok (.slice (some ⟨g, (n - 1) * 4, none⟩) 1 (cap - (n - 1))) W := fun W => by rw [at_slice _ _ Try.underlying24]; exact HS3.out W
  go_wp2_with (first
    | (at_builtin; refine list_drop _ rfl _ _ 24 rfl Try.underlying24 HI.out.1 HI.out.2 rfl rfl (by have := HJ.out; omega) O9.out (by omega) (fun hh => by rw [HAD.out (by have := HJ.out; omega), ← HJ.out]; rfl) ?_; intro w2 ho2 hg2; have O2 := Lib.hid ho2; have G2 := Lib.hid (grown_trans G9.out hg2); have TH := Lib.hid (O2.out.there (k := n - 1) (by omega)); have hcl := fun ty => run_clear_at (P := Try.prog) w2 24 28 ty _ Try.underlying24 zeroM (oneM 0 0 0 none 0 0) g ((n - 1) * 4) (cap - (n - 1)) (by decide) TH.out; clear ho2 hg2))
  go_ret
  exact ⟨rfl, O2.out.tail (Nat.le_refl _) _ (by show (n - 1) * 4 + 4 ≤ cap * 4; omega), grown_setCells G2.out _⟩
end Go.Proofs.Ytjmenbpalihnnaa.mq
