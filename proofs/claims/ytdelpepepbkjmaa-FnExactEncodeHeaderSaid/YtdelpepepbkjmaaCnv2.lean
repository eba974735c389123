/- The encoder, program and specification. Condition: lengths up to 2^26. -/
import Derived.Test.YtdelpepepbkjmaaCnv1
import Derived.Test.YtdelpepepbkjmaaConcat
import Derived.Test.YtdelpepepbkjmaaApp2
import Derived.WalkMore
namespace Go.Proofs.Ytdelpepepbkjmaa.cvs
open Go.RowKit sl harn bm rng cvm cat

theorem cell_at {w : World} {b i : Nat} {cs : Array Value} {t : TypeId} {v : Value} (h : w.heap[b]? = some (.cells cs t (0, 0))) (hi : cs[i]? = some v) : w.cell? ⟨b, i, none⟩ = some v := by simp [World.cell?, h, hi]
def pair (A : Option Addr) (n cap : Nat) (zs : List Int) (B : Option Addr) (m c : Nat) (ys : List Int) : List Piece := [⟨A, n, cap, zs⟩, ⟨B, m, c, ys⟩]
theorem pair_flat (A : Option Addr) (n cap : Nat) (zs : List Int) (B : Option Addr) (m c : Nat) (ys : List Int) : flat (pair A n cap zs B m c ys) = zs ++ ys := by simp [flat, pair]
theorem pair_tot (A : Option Addr) (n cap : Nat) (zs : List Int) (B : Option Addr) (m c : Nat) (ys : List Int) : tot (pair A n cap zs B m c ys) = n + m := by simp [tot, pair]
theorem pair_lie {w : World} {lo hi n cap lo2 hi2 m c : Nat} {A B : Option Addr} {zs ys : List Int} (h : Rd .i64 w lo hi A n cap zs) (g : Rd .i64 w lo2 hi2 B m c ys) (E : TypeId) :
    Pieces (w.alloc (.cells #[.slice A n cap, .slice B m c] E)) (some ⟨w.heap.size, 0, none⟩) 2 (pair A n cap zs B m c ys) := by
  refine ⟨rfl, fun j s hj => ?_⟩
  have hb : ∀ j v, (#[Value.slice A n cap, .slice B m c] : Array Value)[j]? = some v →
      (w.alloc (.cells #[.slice A n cap, .slice B m c] E)).cell? ⟨w.heap.size, 0 + j, none⟩ = some v := fun j v hv => by
    rw [Nat.zero_add]
    exact cell_at (heap_alloc_new w _) hv
  rcases j with _ | _ | j
  · injection hj with hj; subst hj
    exact ⟨⟨_, 0, rfl, by simp, hb 0 _ rfl⟩, (h.alloc _).wide⟩
  · injection hj with hj; subst hj
    exact ⟨⟨_, 0, rfl, by simp, hb 1 _ rfl⟩, (g.alloc _).wide⟩
  · simp [pair] at hj
theorem Rd.two (k : IntKind) (E : TypeId) (w : World) (x y : Int) (hx : (Lit.int k x).wf = true) (hy : (Lit.int k y).wf = true) : Rd k (w.alloc (.cells #[.int k x, .int k y] E)) w.heap.size (w.heap.size + 1) (some ⟨w.heap.size, 0, none⟩) 2 2 [x, y] :=
  ⟨rfl, by omega, by unfold maxLen; omega, by simp, fun z hz => by
    rcases List.mem_cons.1 hz with rfl | hz
    · exact hx
    · have : z = y := by simpa using hz
      rw [this]; exact hy, fun _ => ⟨_, 0, rfl, Nat.le_refl _, by omega, fun i hi => by
    have : i = 0 ∨ i = 1 := by omega
    rcases this with rfl | rfl <;> simp⟩⟩
theorem made_eq (v : Value) : madeCells #[v] 2 = #[v, v] := by
  apply Array.ext
  · rw [size_madeCells]; rfl
  · intro i h1 h2
    have : i = 0 ∨ i = 1 := by simp at h2; omega
    rcases this with rfl | rfl <;> simp [madeCells, Nat.mod_one]
theorem made_two (E : TypeId) (w : World) : Rd .i64 (w.alloc (.cells (madeCells #[.int .i64 0] 2) E)) w.heap.size (w.heap.size + 1) (some ⟨w.heap.size, 0, none⟩) 2 2 [0, 0] := by
  rw [made_eq]; exact Rd.two .i64 E w 0 0 (by decide) (by decide)
/-- The symbols gathered so far. -/
def Enc (w wr : World) (L : List Int) (k : Nat) (v : Value) : Prop := ∃ A c, v = .slice A (2 * k) c ∧ Ow 3 .i64 wr w.heap.size wr.heap.size A (2 * k) c (cw 0 (L.take k)) ∧ Below w.heap.size w wr
/-- The same, and that the symbols lie outside the blocks c1 to below c2. -/
def EncO (w wr : World) (L : List Int) (c1 c2 : Nat) (k : Nat) (v : Value) : Prop := ∃ A c, v = .slice A (2 * k) c ∧ Ow 3 .i64 wr w.heap.size wr.heap.size A (2 * k) c (cw 0 (L.take k)) ∧ Below w.heap.size w wr ∧ Out c1 c2 A
theorem out_at {c1 c2 g o : Nat} (h : g < c1) : Out c1 c2 (some ⟨g, o, none⟩) := fun _ _ e => by injection e with e; injection e with e _; omega
theorem bit_wf {x : Int} (h : 0 ≤ x ∧ x ≤ 1) : (Lit.int .i64 x).wf = true := WalkArith.wf_i64 (by omega)
set_option maxRecDepth 100000 in
set_option maxHeartbeats 4000000 in
theorem implCv (zs : List Int) (lo hi : Nat) (A : Option Addr) (n cap : Nat) (w : World) (h : Rd .i64 w lo hi A n cap zs) (hn : n ≤ 67108864) :
    Calls Try.prog 77 #[.slice A n cap] w (SlPost 3 .i64 w (conv zs)) := by
  obtain ⟨i0, hi0, hz0, hz1, hz2⟩ := info_parts intInfo
  have hb := h.cap_
  have HZ := Lib.hid (And.intro hi0 (And.intro hz0 (And.intro hz1 hz2)))
  have hmk : ∀ W : World, (Instr.makeSlice 27 (.int .i64 2) (.int .i64 2)).run Try.prog W = .ok (.slice (some ⟨W.heap.size, 0, none⟩) 2 2) (W.alloc (.cells (madeCells #[.int .i64 0] 2) 3)) := fun W => run_make1 (P := Try.prog) 27 3 i0 _ Try.underlying27 hi0 hz0 hz1 2 (by omega) (by omega) W
  have HL := Lib.hid (show Pieces (((w.alloc (.cells #[] 3)).alloc (.cells (madeCells #[.int .i64 0] 2) 3)).alloc (.cells #[.slice A n cap, .slice (some ⟨w.heap.size + 1, 0, none⟩) 2 2] 27)) (some ⟨w.heap.size + 1 + 1, 0, none⟩) 2 (pair A n cap zs (some ⟨w.heap.size + 1, 0, none⟩) 2 2 [0, 0]) by
    have := pair_lie ((h.alloc (.cells #[] 3)).alloc (.cells (madeCells #[.int .i64 0] 2) 3)) (made_two 3 (w.alloc (.cells #[] 3))) 27
    simpa only [World.size_alloc] using this)
  have HLen := Lib.hid h.len
  clear h hi0 hz0 hz1 hz2
  go_enter Try.func77, Try.ntmps77
  go_wp2_with fail
  go_step3
  go_wp2_with fail
  go_step3
  go_wp2_with fail
  (with_reducible refine (concat _ _ 2 2 _ HL.out (by omega) (by rw [pair_tot]; omega)).mono ?_)
  rintro e w1 ⟨B, m, c, rfl, ho, hb1⟩
  rw [pair_flat] at ho
  have hm : m = n + 2 := by have h1 := ho.len; rw [List.length_append, HLen.out] at h1; simpa using h1.symm
  subst hm
  have HO := Lib.hid (Ow.rd (show Ow 3 .i64 w1 _ _ B (n + 2) c (tail zs) from ho))
  have HB := Lib.hid ((((Below.refl w.heap.size w).alloc (Nat.le_refl _) (.cells #[] 3)).alloc (by simp) (.cells (madeCells #[.int .i64 0] 2) 3)).alloc (by simp; omega) (.cells #[.slice A n cap, .slice (some ⟨w.heap.size + 1, 0, none⟩) 2 2] 27) |>.trans (hb1.mono (by simp; omega)))
  have HE := Lib.hid ((Ow.empty 3 .i64 w).below ((((Below.refl _ _).alloc (Nat.le_refl _) (.cells (madeCells #[.int .i64 0] 2) 3)).alloc (by simp) (.cells #[.slice A n cap, .slice (some ⟨w.heap.size + 1, 0, none⟩) 2 2] 27)).trans (hb1.mono (by simp))))
  clear ho hb1 hmk
  go_wp2_with fail
  go_loopw [3, 4, 15] (fun v s i wr => ∃ k : Nat, i = .int .i64 k ∧ s = .int .i64 (fin 0 ((tail zs).take k)) ∧ k ≤ n + 2 ∧ isb ((tail zs).take k) = true ∧ EncO w wr (tail zs) (w.heap.size + 1) w1.heap.size k v ∧ Spares (w.heap.size + 1) w1.heap.size w1 wr) (fun _ _ i _ => n + 2 - (intOf i).toNat)
  case atStart => exact ⟨0, rfl, rfl, by omega, rfl, ⟨_, _, rfl, HE.out.up, HB.out, out_at (Nat.lt_succ_self _)⟩, Spares.refl _ _ _⟩
  case round =>
    clear HE HB
    obtain ⟨k, rfl, rfl, hk, hi, ⟨B', c', rfl, ho, hb2, hout⟩, hb3⟩ := hrel
    have OUT := Lib.hid hout
    clear hout
    have O2 := Lib.hid ho
    have B2 := Lib.hid hb2
    have B3 := Lib.hid hb3
    have I2 := Lib.hid hi
    clear ho hb2 hb3 hi
    obtain ⟨s, hs⟩ : ∃ s, fin 0 ((tail zs).take k) = s := ⟨_, rfl⟩
    have hs01 := fin_in 0 ((tail zs).take k) (by omega)
    rw [hs] at hs01 ⊢
    have HS := Lib.hid hs
    clear hs
    by_cases hlt : k < n + 2
    · obtain ⟨b, off, rfl, h1, h2, hc⟩ := (HO.out.spared B3.out (by simp) (Nat.le_refl _)).at_ hlt
      obtain ⟨x, hx⟩ : ∃ x, (tail zs).getD k 0 = x := ⟨_, rfl⟩
      rw [hx] at hc
      have hlt2 : (k : Int) < (n : Int) + 2 := by omega
      have HLn := Lib.hid (show k < (tail zs).length by rw [HO.out.len]; exact hlt)
      by_cases h01 : 0 ≤ x ∧ x ≤ 1
      · have HSB := Lib.hid (show Sb s x from ⟨hs01, h01⟩)
        have HX := Lib.hid hx
        have HI3 := Lib.hid (show isb ((tail zs).take (k + 1)) = true from (isb_iff _).2 fun z hz => by
          rw [take_one HLn.out, HX.out] at hz
          rcases List.mem_append.1 hz with hz | hz
          · exact isb_all I2.out z hz
          · have : z = x := by simpa using hz
            rw [this]; exact h01)
        have HP1 := Lib.hid (bit_wf (op1_in s x))
        have HP2 := Lib.hid (bit_wf (op2_in s x))
        have HCW := Lib.hid (cw_take 0 HLn.out hx)
        have HFN := Lib.hid (fin_take 0 HLn.out hx)
        obtain ⟨p, hp⟩ : ∃ p, op1 s x = p := ⟨_, rfl⟩
        obtain ⟨q, hq⟩ : ∃ q, op2 s x = q := ⟨_, rfl⟩
        obtain ⟨u, hu⟩ : ∃ u, nst s x = u := ⟨_, rfl⟩
        have HOU := Lib.hid (show outp s x = (p, q) by rw [outp_yes HSB.out, hp, hq])
        have HNX := Lib.hid (show nxt s x = u by rw [nxt_yes HSB.out, hu])
        rw [hp] at HP1
        rw [hq] at HP2
        rw [HS.out, hp, hq] at HCW
        rw [HS.out, hu] at HFN
        clear h1 h2 hx hs01 hp hq hu
        obtain ⟨h01a, h01b⟩ := h01
        have hx2 : x = 0 ∨ x = 1 := by omega
        clear h01a h01b
        rcases hx2 with rfl | rfl
        all_goals
         (go_wp2_with fail
          (with_reducible refine (implOut s _ _).mono ?_)
          intro e w5 h5
          obtain ⟨rfl, rfl⟩ := TwoPost.parts HOU.out h5
          clear h5
          go_wp2_with (at_builtin; refine wpList_app_out _ rfl _ _ 27 rfl 3 i0 _ .i64 Try.underlying27 HZ.out.1 HZ.out.2.1 HZ.out.2.2.1 (by rw [HZ.out.2.2.2]; omega) rfl rfl rfl (O2.out.alloc _) (Rd.two .i64 _ _ _ _ HP1.out HP2.out) (by omega) (by have := B2.out.size; simp; omega) (w.heap.size + 1) w1.heap.size OUT.out (by have := B3.out.1; simp; omega) ?_; intro A1 cap1 w6 ho hb1 hou hsp; have O6 := Lib.hid ho; have B6 := Lib.hid ((B2.out.alloc B2.out.size _).trans hb1); have OUT2 := Lib.hid hou; have B7 := Lib.hid ((B3.out.alloc B3.out.1 _).trans hsp); clear ho hb1 hou hsp)
          (with_reducible refine (implNext s _ _).mono ?_)
          rw [HNX.out]
          rintro e w7 ⟨rfl, rfl⟩
          go_wp2_with fail
          go_roundw
          case rel => exact ⟨k + 1, by go_num, by rw [HFN.out], by omega, HI3.out, ⟨A1, cap1, by rw [Nat.mul_add], by rw [HCW.out]; exact O6.out, B6.out, OUT2.out⟩, B7.out⟩
          case measure => simp [intOf]; omega)
      · have hne0 : (x == 0) = false := by
          have : x ≠ 0 := by omega
          simpa using this
        have hne1 : (x == 1) = false := by
          have : x ≠ 1 := by omega
          simpa using this
        have H0 := Lib.hid (conv_no (l := zs) fun g => h01 (by have := isb_getD (tail_isb g) k; rwa [hx] at this))
        clear hx h01 h1 h2
        go_wp2_with fail
        rw [Exit.noGoto_ret]
        go_ret
        rw [H0.out]
        exact ⟨_, _, _, rfl, (Ow.empty _ _ _).up.down B2.out.size, B2.out.alloc B2.out.size _⟩
    · have hlt2 : ¬ (k : Int) < (n : Int) + 2 := by omega
      obtain rfl : k = n + 2 := by omega
      have hall : (tail zs).take (n + 2) = tail zs := List.take_of_length_le (by have := HO.out.len; omega)
      have HC := Lib.hid (show cw 0 ((tail zs).take (n + 2)) = conv zs by rw [hall, conv_yes (isb_tail (by have := I2.out; rwa [hall] at this))])
      clear hall
      go_wp2_with fail
      try rw [Exit.noGoto_ret]
      go_ret
      exact ⟨_, _, _, rfl, by have := O2.out; rw [HC.out] at this; exact this, B2.out⟩
set_option maxRecDepth 100000 in
set_option maxHeartbeats 4000000 in
theorem specCv (zs : List Int) (lo hi : Nat) (A : Option Addr) (n cap : Nat) (w : World) (h : Rd .i64 w lo hi A n cap zs) (hn : n ≤ 67108864) :
    Calls Try.prog 55 #[.slice A n cap] w (SlPost 3 .i64 w (conv zs)) := by
  obtain ⟨i0, hi0, hz0, hz1, hz2⟩ := info_parts intInfo
  have hb := h.cap_
  have HZ := Lib.hid (And.intro hi0 (And.intro hz0 (And.intro hz1 hz2)))
  have HLen := Lib.hid h.len
  have HR := Lib.hid h
  clear h hi0 hz0 hz1 hz2
  by_cases hi1 : isb zs = true
  · have HI := Lib.hid hi1
    have HTL := Lib.hid (show (tail zs).length = n + 2 by rw [tail_len, HLen.out])
    clear hi1
    go_enter Try.func55, Try.ntmps55
    go_wp2_with fail
    (with_reducible refine (bits.specIsb zs _ _ A n cap _ (HR.out.alloc _)).mono ?_)
    rw [HI.out]
    rintro e w1 ⟨rfl, rfl⟩
    go_wp2_with fail
    go_loopw [3, 4, 5] (fun v s i wr => ∃ k : Nat, i = .int .i64 k ∧ s = .int .i64 (fin 0 ((tail zs).take k)) ∧ k ≤ n + 2 ∧ Enc w wr (tail zs) k v) (fun _ _ i _ => n + 2 - (intOf i).toNat)
    case atStart => exact ⟨0, rfl, rfl, by omega, ⟨_, _, rfl, (Ow.empty 3 .i64 w).up, (Below.refl _ _).alloc (Nat.le_refl _) _⟩⟩
    case round =>
      obtain ⟨k, rfl, rfl, hk, ⟨B', c', rfl, ho, hb2⟩⟩ := hrel
      have O2 := Lib.hid ho
      have B2 := Lib.hid hb2
      clear ho hb2
      obtain ⟨s, hs⟩ : ∃ s, fin 0 ((tail zs).take k) = s := ⟨_, rfl⟩
      have hs01 := fin_in 0 ((tail zs).take k) (by omega)
      rw [hs] at hs01 ⊢
      have HS := Lib.hid hs
      clear hs
      by_cases hlt : k < n + 2
      · have hlt2 : (k : Int) < (n : Int) + 2 := by omega
        have HLn := Lib.hid (show k < (tail zs).length by rw [HTL.out]; exact hlt)
        obtain ⟨x, hx⟩ : ∃ x, (tail zs).getD k 0 = x := ⟨_, rfl⟩
        have h01 := isb_getD (tail_isb HI.out) k
        rw [hx] at h01
        have HSB := Lib.hid (show Sb s x from ⟨hs01, h01⟩)
        have HP1 := Lib.hid (bit_wf (op1_in s x))
        have HP2 := Lib.hid (bit_wf (op2_in s x))
        have HCW := Lib.hid (cw_take 0 HLn.out hx)
        have HFN := Lib.hid (fin_take 0 HLn.out hx)
        obtain ⟨p, hp⟩ : ∃ p, op1 s x = p := ⟨_, rfl⟩
        obtain ⟨q, hq⟩ : ∃ q, op2 s x = q := ⟨_, rfl⟩
        obtain ⟨u, hu⟩ : ∃ u, nst s x = u := ⟨_, rfl⟩
        have HOU := Lib.hid (show outp s x = (p, q) by rw [outp_yes HSB.out, hp, hq])
        have HNX := Lib.hid (show nxt s x = u by rw [nxt_yes HSB.out, hu])
        rw [hp] at HP1
        rw [hq] at HP2
        rw [HS.out, hp, hq] at HCW
        rw [HS.out, hu] at HFN
        clear hs01 hp hq hu h01
        by_cases hlt3 : k < n
        · have hlt4 : (k : Int) < n := by omega
          obtain ⟨b, off, rfl, h1, h2, hc⟩ := (HR.out.below B2.out).at_ hlt3
          rw [tail_at zs (by rw [HLen.out]; exact hlt3)] at hx
          rw [hx] at hc
          clear h1 h2 hx
          go_wp2_with fail
          (with_reducible refine (specOut s _ _).mono ?_)
          intro e w5 h5
          obtain ⟨rfl, rfl⟩ := TwoPost.parts HOU.out h5
          clear h5
          go_wp2_with (at_builtin; refine wpList_app _ rfl _ _ 27 rfl 3 i0 _ .i64 Try.underlying27 HZ.out.1 HZ.out.2.1 HZ.out.2.2.1 (by rw [HZ.out.2.2.2]; omega) rfl rfl rfl (O2.out.alloc _) (Rd.two .i64 _ _ _ _ HP1.out HP2.out) (by omega) (by have := B2.out.size; simp; omega) ?_; intro A1 cap1 w6 ho hb1; have O6 := Lib.hid ho; have B6 := Lib.hid ((B2.out.alloc B2.out.size _).trans hb1); clear ho hb1)
          (with_reducible refine (specNext s _ _).mono ?_)
          rw [HNX.out]
          rintro e w7 ⟨rfl, rfl⟩
          go_wp2_with fail
          go_roundw
          case rel => exact ⟨k + 1, by go_num, by rw [HFN.out], by omega, ⟨A1, cap1, by rw [Nat.mul_add], by rw [HCW.out]; exact O6.out, B6.out⟩⟩
          case measure => simp [intOf]; omega
        · have hlt4 : ¬ (k : Int) < n := by omega
          rw [tail_zero zs (by rw [HLen.out]; exact hlt3)] at hx
          subst hx
          go_wp2_with fail
          (with_reducible refine (specOut s _ _).mono ?_)
          intro e w5 h5
          obtain ⟨rfl, rfl⟩ := TwoPost.parts HOU.out h5
          clear h5
          go_wp2_with (at_builtin; refine wpList_app _ rfl _ _ 27 rfl 3 i0 _ .i64 Try.underlying27 HZ.out.1 HZ.out.2.1 HZ.out.2.2.1 (by rw [HZ.out.2.2.2]; omega) rfl rfl rfl (O2.out.alloc _) (Rd.two .i64 _ _ _ _ HP1.out HP2.out) (by omega) (by have := B2.out.size; simp; omega) ?_; intro A1 cap1 w6 ho hb1; have O6 := Lib.hid ho; have B6 := Lib.hid ((B2.out.alloc B2.out.size _).trans hb1); clear ho hb1)
          (with_reducible refine (specNext s _ _).mono ?_)
          rw [HNX.out]
          rintro e w7 ⟨rfl, rfl⟩
          go_wp2_with fail
          go_roundw
          case rel => exact ⟨k + 1, by go_num, by rw [HFN.out], by omega, ⟨A1, cap1, by rw [Nat.mul_add], by rw [HCW.out]; exact O6.out, B6.out⟩⟩
          case measure => simp [intOf]; omega
      · have hlt2 : ¬ (k : Int) < (n : Int) + 2 := by omega
        obtain rfl : k = n + 2 := by omega
        have HC := Lib.hid (show cw 0 ((tail zs).take (n + 2)) = conv zs by rw [List.take_of_length_le (by rw [HTL.out]; omega), conv_yes HI.out])
        go_wp2_with fail
        go_ret
        exact ⟨_, _, _, rfl, by have := O2.out; rw [HC.out] at this; exact this, B2.out⟩
  · have HI := Lib.hid (show isb zs = false by simpa using hi1)
    have H0 := Lib.hid (conv_no hi1)
    clear hi1
    go_enter Try.func55, Try.ntmps55
    go_wp2_with fail
    (with_reducible refine (bits.specIsb zs _ _ A n cap _ (HR.out.alloc _)).mono ?_)
    rw [HI.out]
    rintro e w1 ⟨rfl, rfl⟩
    go_wp2_with fail
    go_ret
    rw [H0.out]
    exact ⟨_, _, _, rfl, (Ow.empty _ _ _).up, (Below.refl _ _).alloc (Nat.le_refl _) _⟩
end Go.Proofs.Ytdelpepepbkjmaa.cvs
