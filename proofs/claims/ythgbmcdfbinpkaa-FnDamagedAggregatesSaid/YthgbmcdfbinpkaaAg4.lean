/- A subframe built by the program. Condition: a frame of up to 200 bytes. -/
import Derived.Test.YthgbmcdfbinpkaaAg3
import Derived.Laws.CopyOwn
import Derived.Deep.Cut
namespace Go.Proofs.Ythgbmcdfbinpkaa.ag
open Go.RowKit sl harn bx rng mrw drk stw
set_option linter.unusedVariables false
set_option linter.unusedSimpArgs false

/-- A row of bytes that is known whole. -/
def Rw8 (w : World) (b : Nat) (L : List Int) : Prop := w.heap[b]? = some (.cells (L.map (Value.int .u8)).toArray 5 (0, 0))
theorem Rw8.own {w : World} {b lo n : Nat} {L : List Int} (h : Rw8 w b L) (hw : Wf .u8 L) (hl : lo ≤ b) (hn : L.length = n) (hm : n ≤ maxLen) : Ow 5 .u8 w lo w.heap.size (some ⟨b, 0, none⟩) n n L := by
  refine ⟨⟨by simpa using hn, Or.inr ⟨b, n, _, rfl, hl, h, Nat.le_refl _, hm, by simp; omega, by rw [Nat.mul_one, ← hn]; exact List.take_of_length_le (by simp)⟩⟩, hw, Nat.le_refl _, fun g o e => ?_⟩
  injection e with e; injection e with e _
  subst e
  exact lt_of_block h
theorem splice_map8 (L M : List Int) (o : Nat) : splice (L.map (Value.int .u8)) o (M.map (Value.int .u8)) = (splice L o M).map (Value.int .u8) := by simp [splice, List.map_take, List.map_drop]
theorem rd_src {k : IntKind} {w : World} {lo hi n cap : Nat} {A : Option Addr} {zs : List Int} (h : Rd k w lo hi A n cap zs) (hn : 0 < n) : ∃ ad, A = some ad ∧ ∀ j v, (zs.map (Value.int k))[j]? = some v → w.cell? (ad.add j) = some v := by
  obtain ⟨_, h2⟩ := h.reads
  obtain ⟨ad, e, _, h3⟩ := h2 hn
  exact ⟨ad, e, h3⟩
theorem one8 (L : List Int) : ∀ v ∈ L.map (Value.int .u8), v.oneCell' = true := by
  intro v hv
  obtain ⟨x, _, rfl⟩ := List.mem_map.1 hv
  rfl
theorem made8 (n : Nat) : madeCells #[.int .u8 0] n = ((List.replicate n (0 : Int)).map (Value.int .u8)).toArray := by
  apply Array.ext
  · simp [madeCells]
  · intro i h1 h2
    simp [madeCells, Nat.mod_one]
theorem splice_sfr {N : Nat} {D zs : List Int} (hD : D.length = 4) (hN : zs.length + 4 ≤ N) : splice (splice (List.replicate N (0 : Int)) 0 D) 4 zs = D ++ zs ++ List.replicate (N - 4 - zs.length) 0 := by
  have e1 : splice (List.replicate N (0 : Int)) 0 D = D ++ List.replicate (N - 4) 0 := by simp [splice, hD]
  rw [e1]
  unfold splice
  rw [List.take_append_of_le_length (by omega), List.take_of_length_le (by omega), List.drop_append, List.drop_eq_nil_of_le (by omega), List.nil_append, hD, List.drop_replicate, List.append_assoc, show N - 4 - (4 + zs.length - 4) = N - 4 - zs.length by omega]
theorem sfr_wf {zs : List Int} (h : Wf .u8 zs) (hn : zs.length ≤ 200) : Wf .u8 (sfr zs) := by
  unfold sfr
  refine Wf.append (Wf.append ?_ h) (fun z hz => ?_)
  · rw [dlm_yes (by omega)]
    intro z hz
    simp only [List.mem_cons, List.not_mem_nil, or_false] at hz
    rcases hz with rfl | rfl | rfl | rfl <;> exact WalkArith.wf_u8 (by omega)
  · have := List.eq_of_mem_replicate hz
    subst this
    exact WalkArith.wf_u8 (by omega)
set_option maxRecDepth 100000 in
set_option maxHeartbeats 4000000 in
theorem implSf (zs : List Int) (lo hi : Nat) (A : Option Addr) (n cap : Nat) (w : World) (h : Rd .u8 w lo hi A n cap zs) (hn : n ≤ 200) :
    Calls Try.prog 45 #[.slice A n cap] w (SlPost 5 .u8 w (sfr zs)) := by
  obtain ⟨i0, hi0, hz0, hz1, hz2⟩ := info_parts u8Info
  have HS := Lib.hid (show (Try.prog.info? 5).map (·.size) = some 1 by rw [hi0]; simp [hz1])
  obtain ⟨N, hN⟩ : ∃ N : Nat, sub (n : Int) = N := ⟨(sub (n : Int)).toNat, by have := sub_rng (n : Int); omega⟩
  have hNr : n + 4 ≤ N ∧ N ≤ 204 := by have h1 := sub_in (n := (n : Int)) (by omega); have h2 := sub_rng (n : Int); omega
  obtain ⟨hN4, hN204⟩ := hNr
  have HSZ := Lib.hid hN
  have hmk : ∀ W : World, (Instr.makeSlice 22 (.int .i64 (N : Int)) (.int .i64 (N : Int))).run Try.prog W = .ok (.slice (some ⟨W.heap.size, 0, none⟩) N N) (W.alloc (.cells (madeCells #[.int .u8 0] N) 5)) := fun W => run_make1 (P := Try.prog) 22 5 i0 _ Try.underlying22 hi0 hz0 hz1 N (by omega) (by omega) W
  have HLN := Lib.hid h.len
  have HWF := Lib.hid h.wf
  have HNN := Lib.hid hn
  have hb := h.cap_
  have HV := Lib.hid (show sfr zs = dlm (n : Int) ++ zs ++ List.replicate (N - 4 - zs.length) 0 by unfold sfr; rw [HLN.out, hN, Int.toNat_natCast])
  have R0 := Lib.hid (h.alloc (.cells (madeCells #[.int .u8 0] N) 5))
  have G0 := Lib.hid (show Rw8 (w.alloc (.cells (madeCells #[.int .u8 0] N) 5)) w.heap.size (List.replicate N 0) by unfold Rw8; rw [← made8]; exact heap_alloc_new w _)
  have B0 := Lib.hid ((Below.refl w.heap.size w).alloc (Nat.le_refl _) (.cells (madeCells #[.int .u8 0] N) 5))
  have HH := Lib.hid h.hi_
  have RW := Lib.hid (fun (W : World) (hW : Below w.heap.size w W) => h.below hW)
  clear h hN hi0 hz0 hz1 hz2
  go_enter Try.func45, Try.ntmps45
  go_wp2_with fail
  (with_reducible refine (implSs (n : Int) _).mono ?_)
  rw [HSZ.out]
  rintro e w1 ⟨rfl, rfl⟩
  go_wp2_with fail
  generalize w.alloc (.cells (madeCells #[.int .u8 0] N) 5) = w1 at R0 G0 B0 ⊢
  (with_reducible refine (implDb (n : Int) _).mono ?_)
  rintro e w2 ⟨C, m, c, rfl, ho, hb2⟩
  obtain rfl : m = 4 := by have h1 := ho.len; rw [dlm_yes (by omega)] at h1; simpa using h1.symm
  have O1 := Lib.hid ho
  have R1 := Lib.hid (R0.out.below hb2)
  have G1 := Lib.hid (show Rw8 w2 w.heap.size (List.replicate N 0) from (hb2.block _ (lt_of_block G0.out)).trans G0.out)
  have B1 := Lib.hid (B0.out.trans (hb2.mono B0.out.size))
  clear ho hb2 R0 G0 B0
  obtain ⟨D, hD⟩ : ∃ D, dlm (n : Int) = D := ⟨_, rfl⟩
  have HD4 := Lib.hid (show D.length = 4 by rw [← hD, dlm_yes (by omega)]; rfl)
  rw [hD] at O1 HV
  clear hD
  obtain ⟨Z, hZ⟩ : ∃ Z, List.replicate N (0 : Int) = Z := ⟨_, rfl⟩
  have HZ := Lib.hid hZ
  have HZL := Lib.hid (show Z.length = N by rw [← hZ, List.length_replicate])
  rw [hZ] at G1
  clear hZ
  obtain ⟨cs, hcs⟩ : ∃ cs, cs = D.map (Value.int .u8) := ⟨_, rfl⟩
  have HCL := Lib.hid (show cs.length = 4 by rw [hcs, List.length_map]; exact HD4.out)
  have HC := Lib.hid hcs
  clear hcs
  have h4N : 4 ≤ N := by omega
  have hmin : Nat.min 4 N = 4 := Nat.min_eq_left h4N
  go_upto_region 3 with (refine wpList_copy_splice rfl _ _ 22 22 rfl 5 Try.underlying22 HS.out _ _ N N 4 c rfl rfl w.heap.size 0 (Z.map (Value.int .u8)) 5 G1.out cs (by rw [HCL.out]; exact hmin.symm) (fun _ => ⟨rfl, by have hc := HC.out; subst hc; exact rd_src O1.out.rd (by omega)⟩) (by rw [HCL.out, List.length_map, HZL.out]; omega) (by have hc := HC.out; subst hc; exact one8 _) w.heap.size w B1.out (Nat.le_refl _) ?_; intro w3 hg2 hb2; have G2 := Lib.hid hg2.out; have B2 := Lib.hid hb2; clear hg2 hb2)
  have HCL0 : ((cs.length : Nat) : Int) = 4 := by rw [HCL.out]; rfl
  rw [HCL0]
  have G3 := Lib.hid (show Rw8 w3 w.heap.size (splice Z 0 D) by have := G2.out; rw [HC.out, splice_map8] at this; exact this)
  have HSL := Lib.hid (show (splice Z 0 D).length = N by rw [length_splice _ _ _ (by rw [HD4.out, HZL.out]; omega), HZL.out])
  obtain ⟨Y, hY⟩ : ∃ Y, splice Z 0 D = Y := ⟨_, rfl⟩
  have HY := Lib.hid hY
  rw [hY] at G3 HSL
  clear G2 HCL0 hY HCL HC hmin O1 G1
  have R2 := Lib.hid (show Rd .u8 w3 lo hi A n cap zs from RW.out w3 B2.out)
  obtain ⟨xs, hxs⟩ : ∃ xs, xs = zs.map (Value.int .u8) := ⟨_, rfl⟩
  have HXL := Lib.hid (show xs.length = n by rw [hxs, List.length_map]; exact HLN.out)
  have HX := Lib.hid hxs
  clear hxs R1
  by_cases h0 : n = 0
  · subst h0
    have hN0 : N = 4 := by have h1 := HSZ.out; rw [sub_yes (by omega)] at h1; omega
    subst hN0
    have hmin : Nat.min 0 0 = 0 := Nat.min_eq_left (by omega)
    go_wp2_with (refine wpList_copy_splice rfl _ _ 22 22 rfl 5 Try.underlying22 HS.out _ _ 0 0 0 cap rfl rfl w.heap.size 4 (Y.map (Value.int .u8)) 5 G3.out xs (by rw [HXL.out]; exact hmin.symm) (fun hp => ⟨by rw [HXL.out] at hp; omega, by have hc := HX.out; subst hc; exact rd_src R2.out (by rw [HXL.out] at hp; exact hp)⟩) (by rw [HXL.out, List.length_map, HSL.out]; omega) (by have hc := HX.out; subst hc; exact one8 _) w.heap.size w B2.out (Nat.le_refl _) ?_; intro w4 hg4 hb4; have G4 := Lib.hid hg4.out; have B4 := Lib.hid hb4; clear hg4 hb4)
    have HE := Lib.hid (show splice Y 4 zs = sfr zs by rw [HV.out, ← HY.out, ← HZ.out]; exact splice_sfr HD4.out (by rw [HLN.out]; omega))
    have G5 := Lib.hid (show Rw8 w4 w.heap.size (sfr zs) by have := G4.out; rw [HX.out, splice_map8, HE.out] at this; exact this)
    go_ret
    exact ⟨_, _, _, rfl, G5.out.own (sfr_wf HWF.out (by rw [HLN.out]; exact HNN.out)) (Nat.le_refl _) (by rw [← HE.out, length_splice _ _ _ (by rw [HLN.out, HSL.out]; omega)]; exact HSL.out) (by unfold maxLen; omega), B4.out⟩
  · have hN0 : ¬ N = 4 := by omega
    have hI0 : ¬ (N : Int) = 4 := by omega
    have hmin : Nat.min n (N - 4) = n := Nat.min_eq_left (by omega)
    go_wp2_with (refine wpList_copy_splice rfl _ _ 22 22 rfl 5 Try.underlying22 HS.out _ _ (N - 4) (N - 4) n cap rfl rfl w.heap.size 4 (Y.map (Value.int .u8)) 5 G3.out xs (by rw [HXL.out]; exact hmin.symm) (fun hp => ⟨rfl, by have hc := HX.out; subst hc; exact rd_src R2.out (by rw [HXL.out] at hp; exact hp)⟩) (by rw [HXL.out, List.length_map, HSL.out]; omega) (by have hc := HX.out; subst hc; exact one8 _) w.heap.size w B2.out (Nat.le_refl _) ?_; intro w4 hg4 hb4; have G4 := Lib.hid hg4.out; have B4 := Lib.hid hb4; clear hg4 hb4)
    have HE := Lib.hid (show splice Y 4 zs = sfr zs by rw [HV.out, ← HY.out, ← HZ.out]; exact splice_sfr HD4.out (by rw [HLN.out]; omega))
    have G5 := Lib.hid (show Rw8 w4 w.heap.size (sfr zs) by have := G4.out; rw [HX.out, splice_map8, HE.out] at this; exact this)
    go_ret
    exact ⟨_, _, _, rfl, G5.out.own (sfr_wf HWF.out (by rw [HLN.out]; exact HNN.out)) (Nat.le_refl _) (by rw [← HE.out, length_splice _ _ _ (by rw [HLN.out, HSL.out]; omega)]; exact HSL.out) (by unfold maxLen; omega), B4.out⟩
end Go.Proofs.Ythgbmcdfbinpkaa.ag
