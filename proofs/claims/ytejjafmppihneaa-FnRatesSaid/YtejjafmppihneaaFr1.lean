/- The fastest rate, program and specification. Condition: none. -/
import Derived.Test.YtejjafmppihneaaMii
import Derived.Test.YtejjafmppihneaaFsm
import Derived.Test.YtejjafmppihneaaBox
namespace Go.Proofs.Ytejjafmppihneaa.ra
open Go.RowKit Go.Maps sl harn mii airs bx
set_option linter.unusedVariables false

theorem tk_keys (b q : Int) (l : List Int) : (tk b q l).map (·.1) = l := by unfold tk; rw [List.map_map]; exact (List.map_congr_left fun _ _ => rfl).trans (List.map_id _)
theorem tk_in {b q : Int} {l : List Int} {x : Int} (h : x ∈ l) : (x, ex x b q) ∈ tk b q l := List.mem_map.2 ⟨x, h, rfl⟩
theorem tk_snoc (b q : Int) (l : List Int) (x : Int) : tk b q (l ++ [x]) = tk b q l ++ [(x, ex x b q)] := by unfold tk; simp
/-- The slots by rate. -/
def ErPost (b q : Int) (w : World) (e : Ending) (w' : World) : Prop := ∃ n, e = .returned (.map (some w.heap.size)) ∧ Mii w' w.heap.size n (tk b q (ks b q 4)) ∧ Below w.heap.size w w'
set_option maxRecDepth 100000 in
set_option maxHeartbeats 4000000 in
theorem implEr (b q : Int) (w : World) : Calls Try.prog 52 #[.int .i64 b, .int .i64 q] w (ErPost b q w) := by
  have hmm := @run_makeMap Try.prog
  go_enter Try.func52, Try.ntmps52
  go_wp2_with fail
  go_loopw [9] (fun i wr => ∃ k n : Nat, i = .int .i64 k ∧ k ≤ 4 ∧ n ≤ k ∧ Mii wr w.heap.size n (tk b q (ks b q k)) ∧ Below w.heap.size w wr) (fun i _ => 4 - (intOf i).toNat)
  case atStart => exact ⟨0, 0, rfl, by omega, by omega, Mii.made w, (Below.refl _ _).alloc (Nat.le_refl _) _⟩
  case round =>
    clear hmm
    obtain ⟨k, n, rfl, hk, hn, hm, hb⟩ := hrel
    have HM := Lib.hid hm
    have HB := Lib.hid hb
    have HL := Lib.hid hm.lt
    clear hm hb
    by_cases hlt : k < 4
    · have hlt2 : (k : Int) < 4 := by omega
      obtain ⟨x, hx⟩ : ∃ x, ex (k : Int) b q = x := ⟨_, rfl⟩
      have HX := Lib.hid hx
      clear hx
      go_wp2_with fail
      (with_reducible refine (airs.implEx (k : Int) b q _).mono ?_)
      rintro e w2 hp
      obtain ⟨rfl, hb⟩ := airs.Num.parts HX.out hp
      have HB2 := Lib.hid (HB.out.trans (hb.mono HB.out.size))
      have HM2 := Lib.hid (HM.out.below hb HL.out)
      have HS2 := Lib.hid hb.size
      clear hp hb HB HM
      by_cases h0 : 0 ≤ x
      · have HT := Lib.hid (show tk b q (ks b q (k + 1)) = tk b q (ks b q k) ++ [((k : Int), x)] by rw [ks_yes (by rw [HX.out]; exact h0), tk_snoc, HX.out])
        have HN := Lib.hid (show (k : Int) ∉ (tk b q (ks b q k)).map (·.1) by rw [tk_keys]; exact ks_new k)
        go_wp2_with (refine mii.wpList_put _ rfl _ _ _ rfl HM2.out (by omega) (WalkArith.wf_i64 (by omega)) HN.out rfl rfl rfl ?_; intro w6 hm hg; have HM6 := Lib.hid hm; have HB6 := Lib.hid (HB2.out.trans ((Below.refl w.heap.size w2).grown hg (by have h1 := HB2.out.size; exact h1) (fun j hj => by injection hj with hj; omega))); clear hm hg)
        go_roundw
        case rel => exact ⟨k + 1, n + 1, by go_num, by omega, by omega, by rw [HT.out]; exact HM6.out, HB6.out⟩
        case measure => simp [intOf]; omega
      · have HT := Lib.hid (show ks b q (k + 1) = ks b q k from ks_no (by rw [HX.out]; exact h0))
        go_wp2_with fail
        go_roundw
        case rel => exact ⟨k + 1, n, by go_num, by omega, by omega, by rw [HT.out]; exact HM2.out, HB2.out⟩
        case measure => simp [intOf]; omega
    · have hlt2 : ¬ (k : Int) < 4 := by omega
      obtain rfl : k = 4 := by omega
      go_wp2_with fail
      go_ret
      exact ⟨n, rfl, HM.out, HB.out⟩
def FrPost (b q : Int) (w : World) (e : Ending) (w' : World) : Prop := airs.Num (fastest b q) w e w'
set_option maxRecDepth 100000 in
set_option maxHeartbeats 4000000 in
theorem implFr (b q : Int) (w : World) : Calls Try.prog 18 #[.int .i64 b, .int .i64 q] w (airs.Num (fastest b q) w) := by
  go_enter Try.func18, Try.ntmps18
  go_wp2_with fail
  (with_reducible refine (implEr b q _).mono ?_)
  rintro e w1 ⟨n, rfl, hm, hb⟩
  have HM := Lib.hid hm
  have HB := Lib.hid hb
  clear hm hb
  go_wp2_with fail
  (with_reducible refine (Try.keysC (some w.heap.size) _).mono ?_)
  rintro e w2 ⟨rfl, rfl⟩
  go_wp2_with fail
  (with_reducible refine (mii.sorted HM.out (by rw [tk_keys]; exact ks_pair 4) (by rw [tk_keys]; exact Wf.of_i64 fun z hz => by have := ks_lt z hz; omega) (by have := ks_len (b := b) (q := q) 4; unfold tk; rw [List.length_map]; omega)).mono ?_)
  rintro e w3 ⟨A, cap, rfl, ho, hb⟩
  rw [tk_keys] at ho
  obtain ⟨N, hN⟩ : ∃ N, (tk b q (ks b q 4)).length = N := ⟨_, rfl⟩
  rw [hN] at ho ⊢
  have HN := Lib.hid (show N ≤ 4 ∧ (ks b q 4).length = N by have h1 := ks_len (b := b) (q := q) 4; rw [← hN]; unfold tk; rw [List.length_map]; exact ⟨h1, rfl⟩)
  have HO := Lib.hid ho.rd
  have HB1 := Lib.hid (((Below.refl w1.heap.size w1).alloc (Nat.le_refl _) (.cells #[.map (some w.heap.size)] 69)).trans hb)
  have HM3 := Lib.hid (HM.out.below HB1.out HM.out.lt)
  have HB3 := Lib.hid (HB.out.trans (HB1.out.mono HB.out.size))
  have hN4 : (N : Int) ≤ 4 := by have := HN.out.1; omega
  clear ho hb hN HM HB HB1
  go_wp2_with fail
  go_loopw [5, 16] (fun f i wr => ∃ k : Nat, i = .int .i64 k ∧ k ≤ N ∧ f = .int .i64 (bk b q ((ks b q 4).take k)) ∧ wr = w3) (fun _ i _ => N - (intOf i).toNat)
  case atStart => exact ⟨0, rfl, by omega, rfl, rfl⟩
  case round =>
    obtain ⟨k, rfl, hk, rfl, rfl⟩ := hrel
    by_cases hlt : k < N
    · have hlt2 : (k : Int) < N := by omega
      obtain ⟨x, hx⟩ : ∃ x, (ks b q 4).getD k 0 = x := ⟨_, rfl⟩
      obtain ⟨f, hf⟩ : ∃ f, bk b q ((ks b q 4).take k) = f := ⟨_, rfl⟩
      have HXI := Lib.hid (show x ∈ ks b q 4 by rw [← hx, List.getD_eq_getElem?_getD, List.getElem?_eq_getElem (by rw [HN.out.2]; exact hlt)]; exact List.getElem_mem _)
      have HF := Lib.hid (show f = -1 ∨ f ∈ ks b q 4 by
        rcases bk_in (b := b) (q := q) ((ks b q 4).take k) with ⟨h1, _⟩ | h1
        · left; rw [← hf]; exact h1
        · right; rw [← hf]; exact List.mem_of_mem_take h1)
      have HS := Lib.hid (show bk b q ((ks b q 4).take (k + 1)) = stp b q f x by rw [bk_take (by rw [HN.out.2]; exact hlt), hx, hf])
      obtain ⟨bb, off, rfl, g1, g2, hc⟩ := HO.out.at_ hlt
      rw [hx] at hc
      rw [hf]
      clear g1 g2 hx hf
      have HXR := Lib.hid (ks_lt x HXI.out)
      by_cases h0 : f < 0
      · have HE := Lib.hid (show stp b q f x = x by unfold stp; rw [if_pos (Or.inl h0)])
        go_wp2_with fail
        go_roundw
        case rel => exact ⟨k + 1, by go_num, by omega, by rw [HS.out, HE.out], trivial⟩
        case measure => simp [intOf]; omega
      · have HFI := Lib.hid (show f ∈ ks b q 4 by rcases HF.out with h | h; · exact absurd h (by omega)
                                                  · exact h)
        have HFR := Lib.hid (ks_lt f HFI.out)
        obtain ⟨ux, hux⟩ : ∃ u, ex x b q = u := ⟨_, rfl⟩
        obtain ⟨uf, huf⟩ : ∃ u, ex f b q = u := ⟨_, rfl⟩
        have HLX := Lib.hid (HM3.out.yes (x := x) (v := ux) (WalkArith.wf_i64 (by have := HXR.out; omega)) (by rw [← hux]; exact tk_in HXI.out))
        have HLF := Lib.hid (HM3.out.yes (x := f) (v := uf) (WalkArith.wf_i64 (by have := HFR.out; omega)) (by rw [← huf]; exact tk_in HFI.out))
        by_cases h1 : ux < uf
        · have HE := Lib.hid (show stp b q f x = x by unfold stp; rw [if_pos (Or.inr (by rw [hux, huf]; exact h1))])
          clear hux huf
          go_wp2_with (first | refine mii.wpList_look _ (by rfl) _ _ _ _ rfl HLX.out rfl rfl ?_ | refine mii.wpList_look _ (by rfl) _ _ _ _ rfl HLF.out rfl rfl ?_)
          go_roundw
          case rel => exact ⟨k + 1, by go_num, by omega, by rw [HS.out, HE.out], trivial⟩
          case measure => simp [intOf]; omega
        · have HE := Lib.hid (show stp b q f x = f by unfold stp; rw [if_neg (by rw [hux, huf]; omega)])
          clear hux huf
          go_wp2_with (first | refine mii.wpList_look _ (by rfl) _ _ _ _ rfl HLX.out rfl rfl ?_ | refine mii.wpList_look _ (by rfl) _ _ _ _ rfl HLF.out rfl rfl ?_)
          go_roundw
          case rel => exact ⟨k + 1, by go_num, by omega, by rw [HS.out, HE.out], trivial⟩
          case measure => simp [intOf]; omega
    · have hlt2 : ¬ (k : Int) < N := by omega
      obtain rfl : k = N := by omega
      have HE := Lib.hid (show bk b q ((ks b q 4).take k) = fastest b q by rw [List.take_of_length_le (by rw [HN.out.2]; omega)]; rfl)
      go_wp2_with fail
      go_ret
      exact airs.num_end HE.out.symm HB3.out
set_option maxRecDepth 100000 in
set_option maxHeartbeats 4000000 in
theorem specFr (b q : Int) (w : World) : Calls Try.prog 36 #[.int .i64 b, .int .i64 q] w (airs.Num (fastest b q) w) := by
  go_enter Try.func36, Try.ntmps36
  go_wp2_with fail
  go_loopw [5, 6] (fun f i wr => ∃ k : Nat, i = .int .i64 k ∧ k ≤ 4 ∧ f = .int .i64 (bk b q (ks b q k)) ∧ Below w.heap.size w wr) (fun _ i _ => 4 - (intOf i).toNat)
  case atStart => exact ⟨0, rfl, by omega, rfl, Below.refl _ _⟩
  case round =>
    obtain ⟨k, rfl, hk, rfl, hb⟩ := hrel
    have HB := Lib.hid hb
    clear hb
    obtain ⟨f, hf⟩ : ∃ f, bk b q (ks b q k) = f := ⟨_, rfl⟩
    have HF := Lib.hid hf
    rw [hf]
    clear hf
    by_cases hlt : k < 4
    · have hlt2 : (k : Int) ≤ 3 := by omega
      obtain ⟨x, hx⟩ : ∃ x, ex (k : Int) b q = x := ⟨_, rfl⟩
      obtain ⟨y, hy⟩ : ∃ y, ex f b q = y := ⟨_, rfl⟩
      have HX := Lib.hid hx
      have HY := Lib.hid hy
      clear hx hy
      go_wp2_with fail
      (with_reducible refine (airs.specEx (k : Int) b q _).mono ?_)
      rintro e w2 hp
      obtain ⟨rfl, hb⟩ := airs.Num.parts HX.out hp
      have HB2 := Lib.hid (HB.out.trans (hb.mono HB.out.size))
      clear hp hb HB
      by_cases h0 : 0 ≤ x
      · have HK := Lib.hid (show bk b q (ks b q (k + 1)) = stp b q f k by rw [ks_yes (by rw [HX.out]; exact h0), bk_snoc, HF.out])
        by_cases h1 : f < 0
        · have HE := Lib.hid (show stp b q f k = k by unfold stp; rw [if_pos (Or.inl h1)])
          go_wp2_with fail
          go_roundw
          case rel => exact ⟨k + 1, by go_num, by omega, by rw [HK.out, HE.out], HB2.out⟩
          case measure => simp [intOf]; omega
        · go_wp2_with fail
          (with_reducible refine (airs.specEx f b q _).mono ?_)
          rintro e w3 hp
          obtain ⟨rfl, hb⟩ := airs.Num.parts HY.out hp
          have HB3 := Lib.hid (HB2.out.trans (hb.mono HB2.out.size))
          clear hp hb HB2
          by_cases h2 : x < y
          · have HE := Lib.hid (show stp b q f k = k by unfold stp; rw [if_pos (Or.inr (by rw [HX.out, HY.out]; exact h2))])
            go_wp2_with fail
            go_roundw
            case rel => exact ⟨k + 1, by go_num, by omega, by rw [HK.out, HE.out], HB3.out⟩
            case measure => simp [intOf]; omega
          · have HE := Lib.hid (show stp b q f k = f by unfold stp; rw [if_neg (by rw [HX.out, HY.out]; omega)])
            go_wp2_with fail
            go_roundw
            case rel => exact ⟨k + 1, by go_num, by omega, by rw [HK.out, HE.out], HB3.out⟩
            case measure => simp [intOf]; omega
      · have HK := Lib.hid (show bk b q (ks b q (k + 1)) = f by rw [ks_no (by rw [HX.out]; exact h0), HF.out])
        go_wp2_with fail
        go_roundw
        case rel => exact ⟨k + 1, by go_num, by omega, by rw [HK.out], HB2.out⟩
        case measure => simp [intOf]; omega
    · have hlt2 : ¬ (k : Int) ≤ 3 := by omega
      obtain rfl : k = 4 := by omega
      go_wp2_with fail
      go_ret
      exact airs.num_end HF.out HB.out
end Go.Proofs.Ytejjafmppihneaa.ra
