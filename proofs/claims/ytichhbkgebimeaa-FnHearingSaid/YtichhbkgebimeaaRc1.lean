/- The sensed senders, the program's function. Condition: at most 2^26 positions. -/
import Derived.Test.YtichhbkgebimeaaPl3
import Derived.Test.YtichhbkgebimeaaRfm
namespace Go.Proofs.Ytichhbkgebimeaa.bx
open Go.RowKit sl harn rng plm rfm
set_option linter.unusedVariables false

theorem boolInfo : (Try.prog.info? 4).map (fun i => (i.zero, i.size, i.bytes)) = some (some (.bool false), 1, 1) := by kernel_rfl
/-- A row of bools in a block of its own. -/
def Bw (w : World) (b n : Nat) (p : Nat → Bool) : Prop := ∃ cs, w.heap[b]? = some (.cells cs 4 (0, 0)) ∧ cs.size = n ∧ ∀ j, j < n → cs[j]? = some (.bool (p j))
theorem made_at (z : Value) (n j : Nat) (h : j < n) : (madeCells #[z] n)[j]? = some z := by
  rw [Array.getElem?_eq_getElem (by rw [size_madeCells]; exact h)]
  simp [madeCells, Nat.mod_one]
theorem Bw.start (w : World) (b n : Nat) (z : Array Value) (hz : z = #[.bool false]) (hb : b = w.heap.size) (p : Nat → Bool) (hp : ∀ j, j < n → p j = false) : Bw (w.alloc (.cells (madeCells z n) 4)) b n p := by
  subst hz hb
  exact ⟨_, heap_alloc_new w _, size_madeCells _ n, fun j h => by rw [made_at _ _ _ h, hp j h]⟩
section
variable {w w' : World} {b n : Nat} {p : Nat → Bool}
theorem Bw.lt (h : Bw w b n p) : b < w.heap.size := by obtain ⟨cs, h1, _⟩ := h; exact lt_of_block h1
theorem Bw.same (h : Bw w b n p) (hb : w'.heap[b]? = w.heap[b]?) : Bw w' b n p := by obtain ⟨cs, h1, h2⟩ := h; exact ⟨cs, by rw [hb]; exact h1, h2⟩
theorem Bw.below (h : Bw w b n p) (hb : Below w.heap.size w w') : Bw w' b n p := h.same (hb.block b h.lt)
theorem Bw.cell (h : Bw w b n p) {j : Nat} (hj : j < n) : w.cell? ⟨b, j, none⟩ = some (.bool (p j)) := by
  obtain ⟨cs, h1, h2, h3⟩ := h
  simp only [World.cell?, h1]
  exact h3 j hj
theorem Bw.free (h : Bw w b n p) (i : Nat) : w.frozen? ⟨b, i, none⟩ = false := by
  obtain ⟨cs, h1, _⟩ := h
  simp [World.frozen?, h1]
theorem Bw.put (h : Bw w b n p) {x : Nat} (hx : x < n) (p' : Nat → Bool) (hp : ∀ j, p' j = (decide (j = x) || p j)) : Bw (w.setCell ⟨b, x, none⟩ (.bool true)) b n p' := by
  obtain ⟨cs, h1, h2, h3⟩ := h
  refine ⟨cs.setIfInBounds x (.bool true), heap_setCell_same w b x cs _ _ h1, by simpa using h2, fun j hj => ?_⟩
  by_cases e : j = x
  · subst e
    rw [Array.getElem?_setIfInBounds_self_of_lt (by omega), hp]; simp
  · rw [Array.getElem?_setIfInBounds_ne (by omega), h3 j hj, hp, decide_eq_false e, Bool.false_or]
theorem Bw.congr (h : Bw w b n p) (p' : Nat → Bool) (hp : ∀ j, p' j = p j) : Bw w b n p' := by
  obtain ⟨cs, h1, h2, h3⟩ := h
  exact ⟨cs, h1, h2, fun j hj => by rw [hp]; exact h3 j hj⟩
end
theorem mrk_zero (z : List Int) (s : Int) (l : List Int) (q : Int) (j : Nat) : mrk z s l q 0 j = false := by unfold mrk; exact decide_eq_false fun h => by simpa using h.1
theorem mrk_end {z : List Int} {s : Int} {l : List Int} {q : Int} {n : Nat} (h : l.length = n) (j : Nat) : mrk z s l q n j = decide ((j : Int) ∈ l ∧ win z s j q = true) := by unfold mrk; rw [List.take_of_length_le (by omega)]
set_option maxRecDepth 100000 in
set_option maxHeartbeats 4000000 in
theorem implSn (A : Option Addr) (n cap : Nat) (r s : Int) (z : List Int) (A2 : Option Addr) (n2 cap2 : Nat) (l : List Int) (q : Int) (lo hi lo2 hi2 : Nat) (w : World) (h : Rd .i64 w lo hi A n cap z) (h2 : Rd .i64 w lo2 hi2 A2 n2 cap2 l) (hn : n ≤ 67108864) :
    Calls Try.prog 51 #[.agg #[.slice A n cap, .int .i64 r, .int .i64 s], .slice A2 n2 cap2, .int .i64 q] w (SlPost 3 .i64 w (sen z s l q z.length)) := by
  obtain ⟨i1, hi1, hz3, hz4, hz5⟩ := info_parts boolInfo
  have hmk := fun W => run_make1 (P := Try.prog) 71 4 i1 _ Try.underlying71 hi1 hz3 hz4 n (by omega) hn W
  obtain ⟨i0, hi0, hz0, hz1, hz2⟩ := info_parts intInfo
  have HZ := Lib.hid (And.intro hi0 (And.intro hz0 (And.intro hz1 hz2)))
  have hc := h2.cap_
  have HR := Lib.hid h
  have HS := Lib.hid h2
  have HL := Lib.hid h.len
  have HM := Lib.hid h2.len
  clear h h2 hz5 hz4 hz3 hi1 hi0 hz0 hz1 hz2
  go_enter Try.func51, Try.ntmps51
  go_wp2_with fail
  go_loopw [18] (fun i wr => ∃ k : Nat, i = .int .i64 k ∧ k ≤ n2 ∧ Bw wr (w.heap.size + 1) n (mrk z s l q k) ∧ Bx 26 wr w.heap.size #[.slice A n cap, .int .i64 r, .int .i64 s] ∧ Below w.heap.size w wr) (fun i _ => n2 - (intOf i).toNat)
  case atStart => exact ⟨0, rfl, by omega, Bw.start _ _ _ _ rfl (by simp) _ (fun j _ => mrk_zero _ _ _ _ _), (Bx.made _ _ _).below (below_box _ _), below_box2 _ _ _⟩
  case round =>
    clear hmk
    obtain ⟨k, rfl, hk, hbw, hbx, hb0⟩ := hrel
    have HW := Lib.hid hbw
    have HX := Lib.hid hbx
    have HB := Lib.hid hb0
    have HL1 := Lib.hid (show w.heap.size + 1 < wr.heap.size from hbw.lt)
    have R1 := Lib.hid (HR.out.below hb0)
    clear hbw hbx hb0
    have c0 : wr.cell? ⟨w.heap.size, 0, none⟩ = some (.slice A n cap) := HX.out.cell 0
    have c1 : wr.cell? ⟨w.heap.size, 1, none⟩ = some (.int .i64 r) := HX.out.cell 1
    have c2 : wr.cell? ⟨w.heap.size, 2, none⟩ = some (.int .i64 s) := HX.out.cell 2
    by_cases hlt : k < n2
    · have hlt2 : (k : Int) < n2 := by omega
      have HK := Lib.hid (show k < l.length by rw [HM.out]; exact hlt)
      obtain ⟨b, off, rfl, g1, g2, hcl⟩ := (HS.out.below HB.out).at_ hlt
      obtain ⟨x, hx⟩ : ∃ x, l.getD k 0 = x := ⟨_, rfl⟩
      rw [hx] at hcl
      have HY := Lib.hid hx
      clear hx g1 g2
      by_cases hw : win z s x q = true
      · have hp := (win_iff.1 hw).2.1
        obtain ⟨i, rfl, hi⟩ := plc_nat hp HL.out
        have HV := Lib.hid hw
        have hi2 : (i : Int) < n := by omega
        clear hw hp
        go_wp2_with fail
        (with_reducible refine (implCs A n cap r s z (i : Int) q _ _ _ R1.out).mono ?_)
        rintro e w2 hp
        obtain ⟨rfl, hb⟩ := b_parts HV.out hp
        have HW2 := Lib.hid (HW.out.below hb)
        have HX2 := Lib.hid (HX.out.below hb)
        have HB2 := Lib.hid (HB.out.trans (hb.mono HB.out.size))
        clear hp hb HW HX HB R1 c0 c1 c2 hcl
        have hcell := HW2.out.cell hi
        have hfree := HW2.out.free i
        go_wp2_with fail
        go_roundw
        case rel => exact ⟨k + 1, by go_num, by omega, HW2.out.put hi _ (mrk_yes HK.out HY.out HV.out), HX2.out.other (by omega) _ _, HB2.out.setCell (p := ⟨w.heap.size + 1, i, none⟩) (by show w.heap.size ≤ w.heap.size + 1; omega) _⟩
        case measure => simp [intOf]; omega
      · have HV := Lib.hid (show win z s x q = false by simpa using hw)
        clear hw
        go_wp2_with fail
        (with_reducible refine (implCs A n cap r s z x q _ _ _ R1.out).mono ?_)
        rintro e w2 hp
        obtain ⟨rfl, hb⟩ := b_parts HV.out hp
        have HW2 := Lib.hid (HW.out.below hb)
        have HX2 := Lib.hid (HX.out.below hb)
        have HB2 := Lib.hid (HB.out.trans (hb.mono HB.out.size))
        clear hp hb HW HX HB R1 c0 c1 c2 hcl
        go_wp2_with fail
        go_roundw
        case rel => exact ⟨k + 1, by go_num, by omega, HW2.out.congr _ (mrk_no HK.out HY.out HV.out), HX2.out, HB2.out⟩
        case measure => simp [intOf]; omega
    · have hlt2 : ¬ (k : Int) < n2 := by omega
      obtain rfl : k = n2 := by omega
      clear hlt c0 c1 c2
      have d0 : (wr.alloc (.cells #[] 3)).cell? ⟨w.heap.size, 0, none⟩ = some (.slice A n cap) := (HX.out.below (below_box _ _)).cell 0
      go_wp2_with fail
      clear d0
      go_loopw [10, 34] (fun v i w3 => ∃ k : Nat, i = .int .i64 k ∧ k ≤ n ∧ ∃ A3 m3 c3, v = .slice A3 m3 c3 ∧ Ow 3 .i64 w3 wr.heap.size w3.heap.size A3 m3 c3 (sen z s l q k) ∧ Below wr.heap.size wr w3) (fun _ i _ => n - (intOf i).toNat)
      case atStart => exact ⟨0, rfl, by omega, _, _, _, rfl, (Ow.empty 3 .i64 wr).up, (Below.refl _ _).alloc (Nat.le_refl _) _⟩
      case round =>
        obtain ⟨j, rfl, hj, A3, m3, c3, rfl, ho, hb⟩ := hrel
        have HO := Lib.hid ho
        have HD := Lib.hid hb
        have hm3 : m3 ≤ 67108864 := by have h1 := ho.len; have h2 := sen_len z s l q j; omega
        have HW2 := Lib.hid (HW.out.below hb)
        clear ho hb
        by_cases hlt : j < n
        · have hlt3 : (j : Int) < n := by omega
          have HI := Lib.hid (show (Lit.int .i64 (j : Int)).wf = true from WalkArith.wf_i64 (by omega))
          have hcell := HW2.out.cell hlt
          rw [mrk_end HM.out] at hcell
          by_cases hs : (j : Int) ∈ l ∧ win z s j q = true
          · rw [decide_eq_true hs] at hcell
            have HN := Lib.hid (sen_yes hs.1 hs.2)
            clear hs
            go_wp2_with (at_builtin; refine wpList_app _ rfl _ _ 24 rfl 3 i0 _ .i64 Try.underlying24 HZ.out.1 HZ.out.2.1 HZ.out.2.2.1 (by rw [HZ.out.2.2.2]; omega) rfl rfl rfl (HO.out.alloc _) (Rd.one .i64 _ _ _ HI.out) (by omega) (by have := HD.out.size; simp; omega) ?_; intro A1 cap1 w6 ho hb1; have O6 := Lib.hid ho; have B6 := Lib.hid ((HD.out.alloc HD.out.size _).trans hb1); clear ho hb1)
            go_roundw
            case rel => exact ⟨j + 1, by go_num, by omega, _, _, _, rfl, by rw [HN.out]; exact O6.out, B6.out⟩
            case measure => simp [intOf]; omega
          · rw [decide_eq_false hs] at hcell
            have HN := Lib.hid (sen_no hs)
            clear hs
            go_wp2_with fail
            go_roundw
            case rel => exact ⟨j + 1, by go_num, by omega, _, _, _, rfl, by rw [HN.out]; exact HO.out, HD.out⟩
            case measure => simp [intOf]; omega
        · have hlt3 : ¬ (j : Int) < n := by omega
          obtain rfl : j = n := by omega
          go_wp2_with fail
          go_ret
          rw [HL.out]
          exact ⟨_, _, _, rfl, HO.out.down (by have := HL1.out; omega), HB.out.trans (HD.out.mono HB.out.size)⟩
end Go.Proofs.Ytichhbkgebimeaa.bx
