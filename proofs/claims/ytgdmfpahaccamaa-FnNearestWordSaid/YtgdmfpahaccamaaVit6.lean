/- A step of the specification's backtracking. Condition: none. -/
import Derived.Test.YtgdmfpahaccamaaVit1
import Derived.Test.YtgdmfpahaccamaaScst
namespace Go.Proofs.Ytgdmfpahaccamaa.vts
open Go.RowKit sl harn bm rng cvm cvs vit

/-- Block b is a row of four costs. -/
def Row4 (w : World) (b : Nat) (f : Int → Int) : Prop := w.heap[b]? = some (.cells #[.int .i64 (f 0), .int .i64 (f 1), .int .i64 (f 2), .int .i64 (f 3)] 3 (0, 0))
theorem Row4.cell {w : World} {b : Nat} {f : Int → Int} (h : Row4 w b f) {s : Nat} (hs : s < 4) : w.cell? ⟨b, s, none⟩ = some (.int .i64 (f s)) := by
  unfold Row4 at h
  have : s = 0 ∨ s = 1 ∨ s = 2 ∨ s = 3 := by omega
  rcases this with rfl | rfl | rfl | rfl <;> simp [World.cell?, h]
theorem Row4.free {w : World} {b : Nat} {f : Int → Int} (h : Row4 w b f) (i : Nat) : w.frozen? ⟨b, i, none⟩ = false := by
  unfold Row4 at h; simp [World.frozen?, h]
theorem Row4.same {w w' : World} {b : Nat} {f : Int → Int} (h : Row4 w b f) (hb : w'.heap[b]? = w.heap[b]?) : Row4 w' b f := by unfold Row4 at h ⊢; rw [hb]; exact h
theorem Row4.lt {w : World} {b : Nat} {f : Int → Int} (h : Row4 w b f) : b < w.heap.size := lt_of_block h
theorem Row4.congr {w : World} {b : Nat} {f g : Int → Int} (h : Row4 w b f) (e : ∀ t, 0 ≤ t ∧ t ≤ 3 → f t = g t) : Row4 w b g := by
  unfold Row4 at h ⊢; rw [← e 0 (by omega), ← e 1 (by omega), ← e 2 (by omega), ← e 3 (by omega)]; exact h
theorem Row4.set {w : World} {b : Nat} {f : Int → Int} (h : Row4 w b f) {s : Nat} (hs : s < 4) (d : Int) : Row4 (w.setCell ⟨b, s, none⟩ (.int .i64 d)) b (fun t => if t = s then d else f t) := by
  have h1 := heap_setCell_same w b s _ _ (.int .i64 d) h
  unfold Row4
  rw [h1]
  have : s = 0 ∨ s = 1 ∨ s = 2 ∨ s = 3 := by omega
  rcases this with rfl | rfl | rfl | rfl <;> simp
theorem Row4.made (w : World) (a b c d : Int) : Row4 (w.alloc (.cells #[.int .i64 a, .int .i64 b, .int .i64 c, .int .i64 d] 3)) w.heap.size (fun t => if t = 0 then a else if t = 1 then b else if t = 2 then c else d) := by
  unfold Row4; rw [heap_alloc_new]; simp
def BackPost (f : Int → Int) (x y t : Int) (w : World) (e : Ending) (w' : World) : Prop := e = .returned (.tuple #[.int .i64 (from_ f x y 4 t), .int .i64 (t % 2)]) ∧ ∃ q, w' = w.drewN q
set_option maxRecDepth 100000 in
set_option maxHeartbeats 4000000 in
theorem back7 (f : Int → Int) (bb : Nat) (t C x y : Int) (free : Bool) (ht : 0 ≤ t ∧ t ≤ 3) (hC : vit.part f x y 4 t = C) (h0 : 0 ≤ C) (hf : free = true ∨ t % 2 = 0) (hbd : ∀ s, -1 ≤ f s ∧ f s ≤ 5000) (w : World) (h : Row4 w bb f) :
    Calls Try.prog 53 #[.slice (some ⟨bb, 0, none⟩) 4 4, .int .i64 C, .int .i64 t, .bool free, .int .i64 x, .int .i64 y] w (BackPost f x y t w) := by
  have HR := Lib.hid h
  obtain ⟨g1, g2, g3, g4⟩ := from_ok ht (by rw [hC]; exact h0)
  have HFF := Lib.hid (fun (s : Int) (h1 : 0 ≤ s) (h2 : s < from_ f x y 4 t) (h3 : nst s (t % 2) = t) => from_first ht hC h0 h1 h2 h3)
  rw [hC] at g4
  obtain ⟨b, hb⟩ : ∃ b, t % 2 = b := ⟨_, rfl⟩
  obtain ⟨F, hF⟩ : ∃ F, from_ f x y 4 t = F := ⟨_, rfl⟩
  have hand : bits .and .i64 t 1 = b := by rw [← hb]; exact draw.low_bits 1 (by omega) t
  have HP := Lib.hid (show BackPost f x y t w = fun e w' => e = .returned (.tuple #[.int .i64 F, .int .i64 b]) ∧ ∃ q, w' = w.drewN q by unfold BackPost; rw [hF, hb])
  rw [HP.out]
  rw [hb] at g3 g4 hf HFF
  rw [hF] at g1 g2 g3 g4 HFF
  have HG := Lib.hid (And.intro g1 (And.intro g3 g4))
  have HBD := Lib.hid hbd
  have hb01 : 0 ≤ b ∧ b ≤ 1 := by omega
  have hb2 : (b == 1) = false ∨ (b == 1) = true ∧ free = true := by
    rcases hf with h | h
    · by_cases g : b = 1
      · exact Or.inr ⟨by simpa using g, h⟩
      · exact Or.inl (by simpa using g)
    · exact Or.inl (by rw [h]; rfl)
  clear h hC g1 g3 g4 hbd hF hb hf HP
  rcases hb2 with hb1 | ⟨hb1, rfl⟩
  all_goals
   (go_enter Try.func53, Try.ntmps53
    go_wp2_with fail
    go_loopw [15] (fun i wr => ∃ s q : Nat, i = .int .i64 s ∧ (s : Int) ≤ F ∧ wr = w.drewN q) (fun i _ => 4 - (intOf i).toNat)
    case atStart => exact ⟨0, 0, rfl, by omega, rfl⟩
    case round =>
      obtain ⟨s, q, rfl, hs, hwq⟩ := hrel
      have HW := Lib.hid hwq
      have hlt2 : (s : Int) < 4 := by omega
      have hc : wr.cell? ⟨bb, s, none⟩ = some (.int .i64 (f s)) := by rw [hwq]; exact HR.out.cell (s := s) (by omega)
      clear hwq
      have hfb := HBD.out s
      by_cases hsF : (s : Int) = F
      · obtain ⟨g1, g3, g4⟩ := HG.out
        rw [← hsF] at g1 g3 g4
        obtain ⟨c, hcc⟩ : ∃ c, f s = c := ⟨_, rfl⟩
        rw [hcc] at hc hfb g1 g4
        have SB := Lib.hid (show Sb s b from ⟨by omega, hb01⟩)
        have hq := bd_in s b x y
        obtain ⟨v, hv⟩ : ∃ v, bd s b x y = v := ⟨_, rfl⟩
        rw [hv] at g4 hq
        replace g4 := g4.symm
        have HQB := Lib.hid (show ∀ (W : World) (n : Nat), Calls Try.prog 23 #[.int .i64 s, .int .i64 b, .int .i64 x, .int .i64 y] (W.drewN n) fun e w' => e = .returned (.int .i64 v) ∧ w' = W.drewN n from fun W n => (specBd s b x y _).mono fun e w' ⟨h1, h2⟩ => ⟨by rw [h1, hv], h2.symm⟩)
        have HN := Lib.hid (show nxt s b = t by rw [nxt_yes SB.out, g3])
        have w1 : IntKind.i64.wrap C = C := IntWalk.i64_in _ (by omega)
        have w2 : wrap64 C = C := IntWalk.wrap64_in _ (by omega)
        have HSF := Lib.hid hsF
        clear hcc hv g3 hsF hs
        go_wp2_with fail
        (with_reducible refine (specNext s _ _).mono ?_)
        rw [HN.out]
        rintro e w3 ⟨rfl, rfl⟩
        go_wp2_with fail
        go_quiet ((go_at_call 23; exact Calls.quiet_of_same (HQB.out _ _)))
        go_wp2_with fail
        go_ret2
        exact ⟨by rw [← HSF.out]; rfl, _, by rw [HW.out, World.drewN_drewN]⟩
      · have hsF2 : (s : Int) < F := by omega
        by_cases hneg : f s < 0
        · obtain ⟨c, hcc⟩ : ∃ c, f s = c := ⟨_, rfl⟩
          rw [hcc] at hc hfb hneg
          clear hcc hsF
          go_wp2_with fail
          go_roundw
          case rel => exact ⟨s + 1, q, by go_num, by omega, HW.out⟩
          case measure => simp [intOf]; omega
        · have SB := Lib.hid (show Sb s b from ⟨by omega, hb01⟩)
          obtain ⟨u, hu⟩ : ∃ u, nst s b = u := ⟨_, rfl⟩
          have HN := Lib.hid (show nxt s b = u by rw [nxt_yes SB.out, hu])
          by_cases hut : u = t
          · have hno := HFF.out s (by omega) hsF2 (by rw [hu, hut])
            obtain ⟨c, hcc⟩ : ∃ c, f s = c := ⟨_, rfl⟩
            rw [hcc] at hc hfb hneg hno
            have hq := bd_in s b x y
            obtain ⟨v, hv⟩ : ∃ v, bd s b x y = v := ⟨_, rfl⟩
            rw [hv] at hno hq
            have HQB := Lib.hid (show ∀ (W : World) (n : Nat), Calls Try.prog 23 #[.int .i64 s, .int .i64 b, .int .i64 x, .int .i64 y] (W.drewN n) fun e w' => e = .returned (.int .i64 v) ∧ w' = W.drewN n from fun W n => (specBd s b x y _).mono fun e w' ⟨h1, h2⟩ => ⟨by rw [h1, hv], h2.symm⟩)
            obtain ⟨z, hz⟩ : ∃ z, c + v = z := ⟨_, rfl⟩
            have hzC : (z == C) = false := by
              have : ¬ z = C := by rcases hno with h | h <;> omega
              simpa using this
            have w1 : IntKind.i64.wrap z = z := IntWalk.i64_in _ (by omega)
            have w2 : wrap64 z = z := IntWalk.wrap64_in _ (by omega)
            subst hut
            clear hcc hv hno hu hsF
            go_wp2_with fail
            (with_reducible refine (specNext s _ _).mono ?_)
            rw [HN.out]
            rintro e w3 ⟨rfl, rfl⟩
            go_wp2_with fail
            go_quiet ((go_at_call 23; exact Calls.quiet_of_same (HQB.out _ _)))
            go_wp2_with fail
            go_roundw
            case rel => exact ⟨s + 1, _, by go_num, by omega, by rw [HW.out, World.drewN_drewN]⟩
            case measure => simp [intOf]; omega
          · have hut1 : (u == t) = false := by simpa using hut
            have hut2 : (u != t) = true := by simpa using hut
            obtain ⟨c, hcc⟩ : ∃ c, f s = c := ⟨_, rfl⟩
            rw [hcc] at hc hfb hneg
            clear hcc hu hut hsF
            go_wp2_with fail
            (with_reducible refine (specNext s _ _).mono ?_)
            rw [HN.out]
            rintro e w3 ⟨rfl, rfl⟩
            go_wp2_with fail
            go_roundw
            case rel => exact ⟨s + 1, q, by go_num, by omega, HW.out⟩
            case measure => simp [intOf]; omega)
end Go.Proofs.Ytgdmfpahaccamaa.vts
