/- DecodeFrame of the specification: one region of 35 operations with an append and a new block beside it, in three orders. Condition: up to 2^26 bytes. -/
import Derived.Test.YtnnlkkohbjolaaaFdi
import Derived.Test.YtnnlkkohbjolaaaCut
import Derived.Test.YtnnlkkohbjolaaaStp
import Derived.Deep.RegionHeld3
namespace Go.Proofs.Ytnnlkkohbjolaaa.fbx
open Go.RowKit sl harn rng frm crcs uvs crcm enc
set_option linter.unusedVariables false
theorem bx_nine {T : TypeId} {w : World} {b : Nat} {c0 c1 c2 c3 c4 c5 c6 c7 c8 : Value} (h : Bx T w b #[c0, c1, c2, c3, c4, c5, c6, c7, c8]) (v0 v1 v2 v3 v4 v5 v6 v7 v8 : Value) :
    Bx T (((((((((w.setCell ⟨b, 0, none⟩ (v0)).setCell ⟨b, 1, none⟩ (v1)).setCell ⟨b, 2, none⟩ (v2)).setCell ⟨b, 3, none⟩ (v3)).setCell ⟨b, 4, none⟩ (v4)).setCell ⟨b, 5, none⟩ (v5)).setCell ⟨b, 6, none⟩ (v6)).setCell ⟨b, 7, none⟩ (v7)).setCell ⟨b, 8, none⟩ (v8)) b #[v0, v1, v2, v3, v4, v5, v6, v7, v8] := by
  have h0 : Bx T (w.setCell ⟨b, 0, none⟩ v0) b #[v0, c1, c2, c3, c4, c5, c6, c7, c8] := h.set 0 v0
  have h1 : Bx T ((w.setCell ⟨b, 0, none⟩ v0).setCell ⟨b, 1, none⟩ v1) b #[v0, v1, c2, c3, c4, c5, c6, c7, c8] := h0.set 1 v1
  have h2 : Bx T (((w.setCell ⟨b, 0, none⟩ v0).setCell ⟨b, 1, none⟩ v1).setCell ⟨b, 2, none⟩ v2) b #[v0, v1, v2, c3, c4, c5, c6, c7, c8] := h1.set 2 v2
  have h3 : Bx T ((((w.setCell ⟨b, 0, none⟩ v0).setCell ⟨b, 1, none⟩ v1).setCell ⟨b, 2, none⟩ v2).setCell ⟨b, 3, none⟩ v3) b #[v0, v1, v2, v3, c4, c5, c6, c7, c8] := h2.set 3 v3
  have h4 : Bx T (((((w.setCell ⟨b, 0, none⟩ v0).setCell ⟨b, 1, none⟩ v1).setCell ⟨b, 2, none⟩ v2).setCell ⟨b, 3, none⟩ v3).setCell ⟨b, 4, none⟩ v4) b #[v0, v1, v2, v3, v4, c5, c6, c7, c8] := h3.set 4 v4
  have h5 : Bx T ((((((w.setCell ⟨b, 0, none⟩ v0).setCell ⟨b, 1, none⟩ v1).setCell ⟨b, 2, none⟩ v2).setCell ⟨b, 3, none⟩ v3).setCell ⟨b, 4, none⟩ v4).setCell ⟨b, 5, none⟩ v5) b #[v0, v1, v2, v3, v4, v5, c6, c7, c8] := h4.set 5 v5
  have h6 : Bx T (((((((w.setCell ⟨b, 0, none⟩ v0).setCell ⟨b, 1, none⟩ v1).setCell ⟨b, 2, none⟩ v2).setCell ⟨b, 3, none⟩ v3).setCell ⟨b, 4, none⟩ v4).setCell ⟨b, 5, none⟩ v5).setCell ⟨b, 6, none⟩ v6) b #[v0, v1, v2, v3, v4, v5, v6, c7, c8] := h5.set 6 v6
  have h7 : Bx T ((((((((w.setCell ⟨b, 0, none⟩ v0).setCell ⟨b, 1, none⟩ v1).setCell ⟨b, 2, none⟩ v2).setCell ⟨b, 3, none⟩ v3).setCell ⟨b, 4, none⟩ v4).setCell ⟨b, 5, none⟩ v5).setCell ⟨b, 6, none⟩ v6).setCell ⟨b, 7, none⟩ v7) b #[v0, v1, v2, v3, v4, v5, v6, v7, c8] := h6.set 7 v7
  have h8 : Bx T (((((((((w.setCell ⟨b, 0, none⟩ v0).setCell ⟨b, 1, none⟩ v1).setCell ⟨b, 2, none⟩ v2).setCell ⟨b, 3, none⟩ v3).setCell ⟨b, 4, none⟩ v4).setCell ⟨b, 5, none⟩ v5).setCell ⟨b, 6, none⟩ v6).setCell ⟨b, 7, none⟩ v7).setCell ⟨b, 8, none⟩ v8) b #[v0, v1, v2, v3, v4, v5, v6, v7, v8] := h7.set 8 v8
  exact h8
theorem arm_a {w w2 w8 : World} {b2 cap2 : Nat} {A : Option Addr} {l : List Int} (B2 : Below w.heap.size w w2) (Z2 : Bx 25 w2 w.heap.size #[.int .i64 0, .int .i64 0, .int .i64 0, .int .i64 0, .int .i64 0, .bool false, .bool false, .int .i64 0, .slice none 0 0]) (R2 : Rd .i64 w2 b2 (b2 + 1) A 7 cap2 l) (h9 : b2 < w2.heap.size) (hb8 : Below (w2.heap.size + 1) ((w2.drew.alloc (.cells #[.int .i64 0, .int .i64 0, .int .i64 0, .int .i64 0, .int .i64 0, .bool false, .bool false, .int .i64 0, .slice none 0 0] 25)).alloc (.cells #[] 5)) w8) :
    Below w.heap.size w w8 ∧ Bx 25 w8 w.heap.size #[.int .i64 0, .int .i64 0, .int .i64 0, .int .i64 0, .int .i64 0, .bool false, .bool false, .int .i64 0, .slice none 0 0] ∧ Rd .i64 w8 b2 (b2 + 1) A 7 cap2 l ∧ Bx 25 w8 w2.heap.size #[.int .i64 0, .int .i64 0, .int .i64 0, .int .i64 0, .int .i64 0, .bool false, .bool false, .int .i64 0, .slice none 0 0] := by
  have h8 := Z2.lt
  have hd : Below w.heap.size w w2.drew := own.below_drew B2
  have zd : Bx 25 w2.drew w.heap.size #[.int .i64 0, .int .i64 0, .int .i64 0, .int .i64 0, .int .i64 0, .bool false, .bool false, .int .i64 0, .slice none 0 0] := Z2.same rfl
  have rd : Rd .i64 w2.drew b2 (b2 + 1) A 7 cap2 l := R2.same (Nat.le_refl _) (fun _ _ _ => rfl)
  have e0 : w2.drew.heap.size = w2.heap.size := rfl
  have e1 : (w2.drew.alloc (.cells #[.int .i64 0, .int .i64 0, .int .i64 0, .int .i64 0, .int .i64 0, .bool false, .bool false, .int .i64 0, .slice none 0 0] 25)).heap.size = w2.heap.size + 1 := by simp
  have f1 : Below w.heap.size w ((w2.drew.alloc (.cells #[.int .i64 0, .int .i64 0, .int .i64 0, .int .i64 0, .int .i64 0, .bool false, .bool false, .int .i64 0, .slice none 0 0] 25)).alloc (.cells #[] 5)) := (hd.alloc hd.size (.cells #[.int .i64 0, .int .i64 0, .int .i64 0, .int .i64 0, .int .i64 0, .bool false, .bool false, .int .i64 0, .slice none 0 0] 25)).alloc (by rw [e1]; omega) (.cells #[] 5)
  exact ⟨f1.trans (hb8.mono (by omega)), (zd.below (below_box2 _ _ _)).up hb8 (by omega), (rd.below (below_box2 _ _ _)).same hb8.size (fun bb q1 q2 => hb8.block bb (by omega)), ((Bx.made 25 w2.drew #[.int .i64 0, .int .i64 0, .int .i64 0, .int .i64 0, .int .i64 0, .bool false, .bool false, .int .i64 0, .slice none 0 0]).below (below_box _ _)).up hb8 (by omega)⟩
theorem empty_a (w2 : World) : Ow 5 .u8 ((w2.drew.alloc (.cells #[.int .i64 0, .int .i64 0, .int .i64 0, .int .i64 0, .int .i64 0, .bool false, .bool false, .int .i64 0, .slice none 0 0] 25)).alloc (.cells #[] 5)) (w2.heap.size + 1) ((w2.drew.alloc (.cells #[.int .i64 0, .int .i64 0, .int .i64 0, .int .i64 0, .int .i64 0, .bool false, .bool false, .int .i64 0, .slice none 0 0] 25)).alloc (.cells #[] 5)).heap.size (some ⟨w2.heap.size + 1, 0, none⟩) 0 0 [] := by
  have h := Ow.empty 5 .u8 (w2.drew.alloc (.cells #[.int .i64 0, .int .i64 0, .int .i64 0, .int .i64 0, .int .i64 0, .bool false, .bool false, .int .i64 0, .slice none 0 0] 25))
  have e1 : (w2.drew.alloc (.cells #[.int .i64 0, .int .i64 0, .int .i64 0, .int .i64 0, .int .i64 0, .bool false, .bool false, .int .i64 0, .slice none 0 0] 25)).heap.size = w2.heap.size + 1 := by simp
  rw [e1] at h
  exact h.up
theorem ow_other {E : TypeId} {k : IntKind} {w w' : World} {lo hi n cap : Nat} {A : Option Addr} {zs : List Int} (h : Ow E k w lo hi A n cap zs) (hs : w.heap.size ≤ w'.heap.size) (hb : ∀ g o, A = some ⟨g, o, none⟩ → w'.heap[g]? = w.heap[g]?) : Ow E k w' lo hi A n cap zs := by
  obtain ⟨⟨h1, h2⟩, h3, h4, h5⟩ := h
  refine ⟨⟨h1, ?_⟩, h3, by omega, h5⟩
  rcases h2 with h2 | ⟨g, c, cur, e, g1, g2, g3⟩
  · exact Or.inl h2
  · injection e with e1 e2 e3
    refine Or.inr ⟨g, c, cur, by rw [e1, e3], g1, ?_, g3⟩
    rw [hb g 0 e1]; exact g2
theorem ow_ne {E T : TypeId} {k : IntKind} {w : World} {lo hi n cap c : Nat} {A : Option Addr} {zs : List Int} {cs : Array Value} (h : Ow E k w lo hi A n cap zs) (hx : Bx T w c cs) (hT : E ≠ T) : ∀ g o, A = some ⟨g, o, none⟩ → g ≠ c := by
  rintro g o rfl rfl
  rcases h.form with ⟨h0, _⟩ | ⟨g', cur, e, _, _, h3, _⟩
  · cases h0
  · injection e with e; injection e with e1 _
    subst e1
    unfold Bx at hx
    rw [h3] at hx
    injection hx with hx
    injection hx with _ h4
    exact hT h4
/-- The seven numbers of a row. -/
theorem nseven {w : World} {b cap lo hi : Nat} {a b' c d e y g : Int} (h : Rd .i64 w lo hi (some ⟨b, 0, none⟩) 7 cap [a, b', c, d, e, y, g]) :
    w.cell? ⟨b, 0, none⟩ = some (.int .i64 a) ∧ w.cell? ⟨b, 1, none⟩ = some (.int .i64 b') ∧ w.cell? ⟨b, 2, none⟩ = some (.int .i64 c) ∧ w.cell? ⟨b, 3, none⟩ = some (.int .i64 d) ∧ w.cell? ⟨b, 4, none⟩ = some (.int .i64 e) ∧ w.cell? ⟨b, 5, none⟩ = some (.int .i64 y) ∧ w.cell? ⟨b, 6, none⟩ = some (.int .i64 g) := by
  refine ⟨?_, ?_, ?_, ?_, ?_, ?_, ?_⟩
  · have h1 := rd_cell h (i := 0) (by omega); simpa using h1
  · have h1 := rd_cell h (i := 1) (by omega); simpa using h1
  · have h1 := rd_cell h (i := 2) (by omega); simpa using h1
  · have h1 := rd_cell h (i := 3) (by omega); simpa using h1
  · have h1 := rd_cell h (i := 4) (by omega); simpa using h1
  · have h1 := rd_cell h (i := 5) (by omega); simpa using h1
  · have h1 := rd_cell h (i := 6) (by omega); simpa using h1

set_option maxRecDepth 100000 in
set_option maxHeartbeats 4000000 in
theorem specDf (zs : List Int) (lo hi : Nat) (A : Option Addr) (n cap : Nat) (w : World) (h : Rd .u8 w lo hi A n cap zs) (hn : n ≤ 67108864) :
    Calls Try.prog 16 #[.slice A n cap] w (DPost (df zs) w) := by
  obtain ⟨i0, hi0, hz0, hz1, hz2⟩ := info_parts u8Info
  have HZ := Lib.hid (And.intro hi0 (And.intro hz0 (And.intro hz1 hz2)))
  clear hi0 hz0 hz1 hz2
  obtain ⟨ys, cb, hck⟩ : ∃ ys cb, chk zs = (ys, cb) := ⟨_, _, rfl⟩
  obtain ⟨l, i, ok, hdv⟩ : ∃ l i ok, dv ys 0 7 = (l, i, ok) := ⟨_, _, _, rfl⟩
  have HCK := Lib.hid hck
  have HDV := Lib.hid hdv
  have HLY := Lib.hid (show ys.length ≤ n by have h1 := chk_len zs; rw [hck] at h1; have h2 := h.len; simp only at h1; omega)
  have R := Lib.hid h
  have HBZ := Lib.hid (show Byt zs from h.wf.u8)
  clear h hck hdv
  go_enter Try.func16, Try.ntmps16
  go_wp2_with fail
  obtain ⟨w0, hW⟩ : ∃ w0, w.alloc (.cells #[.int .i64 0, .int .i64 0, .int .i64 0, .int .i64 0, .int .i64 0, .bool false, .bool false, .int .i64 0, .slice none 0 0] 25) = w0 := ⟨_, rfl⟩
  rw [hW]
  have B0 := Lib.hid (show Below w.heap.size w w0 by rw [← hW]; exact below_box _ _)
  have Z0 := Lib.hid (show Bx 25 w0 w.heap.size #[.int .i64 0, .int .i64 0, .int .i64 0, .int .i64 0, .int .i64 0, .bool false, .bool false, .int .i64 0, .slice none 0 0] by rw [← hW]; exact Bx.made _ _ _)
  have R0 := Lib.hid (R.out.below B0.out)
  clear hW R
  (with_reducible refine (crcs.specCheck zs _ _ A n cap _ R0.out hn).mono ?_)
  rintro en w1 hp
  obtain ⟨A1, n1, cap1, rfl, ho, hb⟩ := crcs.CkPost.parts HCK.out hp
  have O1 := Lib.hid ho
  clear ho hp
  have B1 := Lib.hid (B0.out.trans (hb.mono B0.out.size))
  have Z1 := Lib.hid (Z0.out.below hb)
  clear hb Z0 B0
  cases cb with
  | false =>
    have HD := Lib.hid (show df zs = (⟨0, 0, 0, 0, 0, false, false, 0, []⟩, false) from df_chk HCK.out)
    clear HCK HDV
    have z0 : w1.cell? ⟨w.heap.size, 0, none⟩ = some (.int .i64 0) := Z1.out.cell 0
    have z1 : w1.cell? ⟨w.heap.size, 1, none⟩ = some (.int .i64 0) := Z1.out.cell 1
    have z2 : w1.cell? ⟨w.heap.size, 2, none⟩ = some (.int .i64 0) := Z1.out.cell 2
    have z3 : w1.cell? ⟨w.heap.size, 3, none⟩ = some (.int .i64 0) := Z1.out.cell 3
    have z4 : w1.cell? ⟨w.heap.size, 4, none⟩ = some (.int .i64 0) := Z1.out.cell 4
    have z5 : w1.cell? ⟨w.heap.size, 5, none⟩ = some (.bool false) := Z1.out.cell 5
    have z6 : w1.cell? ⟨w.heap.size, 6, none⟩ = some (.bool false) := Z1.out.cell 6
    have z7 : w1.cell? ⟨w.heap.size, 7, none⟩ = some (.int .i64 0) := Z1.out.cell 7
    have z8 : w1.cell? ⟨w.heap.size, 8, none⟩ = some (.slice none 0 0) := Z1.out.cell 8
    have u0 : w1.frozen? ⟨w.heap.size, 0, none⟩ = false := Z1.out.free 0
    have u1 : w1.frozen? ⟨w.heap.size, 1, none⟩ = false := Z1.out.free 1
    have u2 : w1.frozen? ⟨w.heap.size, 2, none⟩ = false := Z1.out.free 2
    have u3 : w1.frozen? ⟨w.heap.size, 3, none⟩ = false := Z1.out.free 3
    have u4 : w1.frozen? ⟨w.heap.size, 4, none⟩ = false := Z1.out.free 4
    have u5 : w1.frozen? ⟨w.heap.size, 5, none⟩ = false := Z1.out.free 5
    have u6 : w1.frozen? ⟨w.heap.size, 6, none⟩ = false := Z1.out.free 6
    have u7 : w1.frozen? ⟨w.heap.size, 7, none⟩ = false := Z1.out.free 7
    have u8 : w1.frozen? ⟨w.heap.size, 8, none⟩ = false := Z1.out.free 8
    go_wp2_with fail
    (try simp only [Exit.inBlock, Exit.then])
    refine bodyPost_ret (v := .tuple #[.agg #[.int .i64 0, .int .i64 0, .int .i64 0, .int .i64 0, .int .i64 0, .bool false, .bool false, .int .i64 0, .slice none 0 0], .bool false]) ?_ rfl (DPost.make HD.out (ow_none _ _ _ w.heap.size w.heap.size (by rw [size_nine]; exact B1.out.size)) ?_)
    · rw [results_cell_tmp1 rfl]
      go_simp
    · exact below_nine B1.out (by omega) _ _ _ _ _ _ _ _ _
  | true =>
    go_wp2_with fail
    (with_reducible refine (uvs.specDv _ _ A1 n1 cap1 ys 0 7 _ O1.out.rd (by have h1 := O1.out.len; have h2 := HLY.out; omega)).mono ?_)
    rintro en w2 hp
    obtain ⟨A2, n2, cap2, rfl, ho, hb⟩ := hp.parts HDV.out
    have N2 := Lib.hid ho
    clear ho hp
    have B2 := Lib.hid (B1.out.trans (hb.mono B1.out.size))
    have Z2 := Lib.hid (Z1.out.below hb)
    have O2 := Lib.hid (O1.out.below hb)
    clear hb Z1 O1 B1
    cases ok with
    | false =>
      have HD := Lib.hid (show df zs = (⟨0, 0, 0, 0, 0, false, false, 0, []⟩, false) from df_dv HCK.out HDV.out)
      clear HCK HDV N2 O2
      have z0 : w2.cell? ⟨w.heap.size, 0, none⟩ = some (.int .i64 0) := Z2.out.cell 0
      have z1 : w2.cell? ⟨w.heap.size, 1, none⟩ = some (.int .i64 0) := Z2.out.cell 1
      have z2 : w2.cell? ⟨w.heap.size, 2, none⟩ = some (.int .i64 0) := Z2.out.cell 2
      have z3 : w2.cell? ⟨w.heap.size, 3, none⟩ = some (.int .i64 0) := Z2.out.cell 3
      have z4 : w2.cell? ⟨w.heap.size, 4, none⟩ = some (.int .i64 0) := Z2.out.cell 4
      have z5 : w2.cell? ⟨w.heap.size, 5, none⟩ = some (.bool false) := Z2.out.cell 5
      have z6 : w2.cell? ⟨w.heap.size, 6, none⟩ = some (.bool false) := Z2.out.cell 6
      have z7 : w2.cell? ⟨w.heap.size, 7, none⟩ = some (.int .i64 0) := Z2.out.cell 7
      have z8 : w2.cell? ⟨w.heap.size, 8, none⟩ = some (.slice none 0 0) := Z2.out.cell 8
      have u0 : w2.frozen? ⟨w.heap.size, 0, none⟩ = false := Z2.out.free 0
      have u1 : w2.frozen? ⟨w.heap.size, 1, none⟩ = false := Z2.out.free 1
      have u2 : w2.frozen? ⟨w.heap.size, 2, none⟩ = false := Z2.out.free 2
      have u3 : w2.frozen? ⟨w.heap.size, 3, none⟩ = false := Z2.out.free 3
      have u4 : w2.frozen? ⟨w.heap.size, 4, none⟩ = false := Z2.out.free 4
      have u5 : w2.frozen? ⟨w.heap.size, 5, none⟩ = false := Z2.out.free 5
      have u6 : w2.frozen? ⟨w.heap.size, 6, none⟩ = false := Z2.out.free 6
      have u7 : w2.frozen? ⟨w.heap.size, 7, none⟩ = false := Z2.out.free 7
      have u8 : w2.frozen? ⟨w.heap.size, 8, none⟩ = false := Z2.out.free 8
      go_wp2_with fail
      (try simp only [Exit.inBlock, Exit.then])
      refine bodyPost_ret (v := .tuple #[.agg #[.int .i64 0, .int .i64 0, .int .i64 0, .int .i64 0, .int .i64 0, .bool false, .bool false, .int .i64 0, .slice none 0 0], .bool false]) ?_ rfl (DPost.make HD.out (ow_none _ _ _ w.heap.size w.heap.size (by rw [size_nine]; exact B2.out.size)) ?_)
      · rw [results_cell_tmp1 rfl]
        go_simp
      · exact below_nine B2.out (by omega) _ _ _ _ _ _ _ _ _
    | true =>
      obtain ⟨g1, g2, g3, g4, g5⟩ := dv_ok (show Byt ys from O2.out.wf.u8) HDV.out
      obtain ⟨a, b, c, d, e, y, g, rfl⟩ := seven g1
      obtain ⟨p, rfl⟩ := Int.eq_ofNat_of_zero_le g3
      have hy : 0 ≤ y ∧ y ≤ 1000000000000 := g2 y (by simp)
      obtain rfl : n2 = 7 := by have h1 := N2.out.len; simpa using h1.symm
      have hpn : p ≤ n1 := by have h1 := O2.out.len; omega
      obtain ⟨b2, rfl, hb2⟩ := own.own_some N2.out (by omega)
      obtain ⟨m0, m1, m2, m3, m4, m5, m6⟩ := nseven N2.out.rd
      have HN2 := Lib.hid (show w2.heap.size > b2 from by have h1 := N2.out.hi_; have h2 := N2.out.2.2.2 b2 0 rfl; omega)
      by_cases h3 : y ≤ 3
      · have h3d : decide (3 < y) = false := decide_eq_false (by omega)
        obtain ⟨ZL, hZL⟩ : ∃ ZL, ys.drop p = ZL := ⟨_, rfl⟩
        obtain ⟨p1, hp1⟩ : ∃ p1, decide (y % 2 = 1) = p1 := ⟨_, rfl⟩
        obtain ⟨q1, hq1⟩ : ∃ q1, decide (y / 2 % 2 = 1) = q1 := ⟨_, rfl⟩
        obtain ⟨y1, hy1⟩ : ∃ y1, bits .and .i64 y 1 = y1 := ⟨_, rfl⟩
        have f1 : (y1 == 1) = p1 := by
          rw [← hp1, ← hy1, and1 y hy.1 hy.2]
          rcases Int.emod_two_eq y with h | h <;> rw [h] <;> rfl
        have f2 : decide (1 < y) = q1 := by
          rw [← hq1]
          have : y = 0 ∨ y = 1 ∨ y = 2 ∨ y = 3 := by omega
          rcases this with rfl | rfl | rfl | rfl <;> rfl
        have HE1 := Lib.hid (show frOf [a, b, c, d, e, y, g] (ys.drop ((p : Int)).toNat) = ⟨a, b, c, d, e, p1, q1, g, ZL⟩ by rw [Int.toNat_natCast, hZL, ← hp1, ← hq1]; rfl)
        have HYES := Lib.hid (show Vf ⟨a, b, c, d, e, p1, q1, g, ZL⟩ → df zs = (⟨a, b, c, d, e, p1, q1, g, ZL⟩, true) by
          intro hh
          have h4 := df_yes HCK.out HDV.out (show [a, b, c, d, e, y, g].getD 5 0 ≤ 3 from h3) (by rw [HE1.out]; exact hh)
          rw [HE1.out] at h4; exact h4)
        have HNO := Lib.hid (show ¬ Vf ⟨a, b, c, d, e, p1, q1, g, ZL⟩ → df zs = (⟨0, 0, 0, 0, 0, false, false, 0, []⟩, false) from fun hh => df_vf HCK.out HDV.out (by rw [HE1.out]; exact hh))
        obtain ⟨AC, hAC, hcut⟩ := cuts.slice_post (P := Try.prog) 22 5 i0 Try.underlying22 HZ.out.1 HZ.out.2.2.1 A1 n1 cap1 p hpn O2.out.rd.cap_.1
        have CUT := Lib.hid (cuts.rd_post O2.out.rd hpn AC hAC)
        rw [hZL] at CUT
        have HLZ := Lib.hid (show ZL.length = n1 - p from CUT.out.len)
        have HNC := Lib.hid (show n1 ≤ 67108864 by have h1 := O2.out.len; have h2 := HLY.out; omega)
        have hpi : (0 : Int) ≤ (p : Int) := by omega
        have hpj : (p : Int) ≤ (n1 : Int) := by omega
        have L2 := Lib.hid Z2.out.lt
        clear hy hp1 hq1 hZL hAC h3 g1 g2 g3 g4 g5 HE1 O2 hpn
        go_wp2_with fail
        have d0 : w2.drew.cell? ⟨b2, 0, none⟩ = some (.int .i64 a) := m0
        have d1 : w2.drew.cell? ⟨b2, 1, none⟩ = some (.int .i64 b) := m1
        have d2 : w2.drew.cell? ⟨b2, 2, none⟩ = some (.int .i64 c) := m2
        have d3 : w2.drew.cell? ⟨b2, 3, none⟩ = some (.int .i64 d) := m3
        have d4 : w2.drew.cell? ⟨b2, 4, none⟩ = some (.int .i64 e) := m4
        have d5 : w2.drew.cell? ⟨b2, 5, none⟩ = some (.int .i64 y) := m5
        have d6 : w2.drew.cell? ⟨b2, 6, none⟩ = some (.int .i64 g) := m6
        have KA1 := Lib.hid (fun (o : Obj) => nseven ((own.rd_drew N2.out.rd).below (below_box w2.drew o)))
        have KA2 := Lib.hid (fun (o o' : Obj) => nseven ((own.rd_drew N2.out.rd).below (below_box2 w2.drew o o')))
        have NR2 := Lib.hid (show Rd .i64 w2 b2 (b2 + 1) (some ⟨b2, 0, none⟩) 7 cap2 [a, b, c, d, e, y, g] from by
          obtain ⟨e1, e2, e3, e4, e5, e6⟩ := N2.out.rd
          refine ⟨e1, e2, e3, by have h9 := HN2.out; omega, e5, fun h => ?_⟩
          obtain ⟨bq, oq, eq1, _, _, hc⟩ := e6 h
          injection eq1 with eq1; injection eq1 with q1 q2
          subst q1 q2
          exact ⟨_, _, rfl, Nat.le_refl _, by omega, hc⟩)
        go_region_held3 (fun w' => w'.cell? ⟨b2, 0, none⟩ = some (.int .i64 a) ∧ w'.cell? ⟨b2, 1, none⟩ = some (.int .i64 b) ∧ w'.cell? ⟨b2, 2, none⟩ = some (.int .i64 c) ∧ w'.cell? ⟨b2, 3, none⟩ = some (.int .i64 d) ∧ w'.cell? ⟨b2, 4, none⟩ = some (.int .i64 e) ∧ w'.cell? ⟨b2, 5, none⟩ = some (.int .i64 y) ∧ w'.cell? ⟨b2, 6, none⟩ = some (.int .i64 g)) (first | (with_reducible exact KS8.out _ _ _ _ _ _ _ _ _) | (with_reducible exact ⟨t0, t1, t2, t3, t4, t5, t6⟩) | (with_reducible exact ⟨d0, d1, d2, d3, d4, d5, d6⟩) | exact KA8.out _ | exact KA2.out _ _ | exact KA1.out _)
          (first
          | (refine stp.step_spare (c1 := w2.heap.size + 1) (c2 := w2.heap.size + 2) rfl _ _ 22 rfl 5 i0 _ .u8 Try.underlying22 HZ.out.1 HZ.out.2.1 HZ.out.2.2.1 (by rw [HZ.out.2.2.2]; omega) rfl rfl rfl ((Ow.empty 5 .u8 w2.drew).alloc (.cells #[.int .i64 0, .int .i64 0, .int .i64 0, .int .i64 0, .int .i64 0, .bool false, .bool false, .int .i64 0, .slice none 0 0] 25)) ((CUT.out.alloc (.cells #[] 5)).alloc (.cells #[.int .i64 0, .int .i64 0, .int .i64 0, .int .i64 0, .int .i64 0, .bool false, .bool false, .int .i64 0, .slice none 0 0] 25)) (by have h1 := HNC.out; omega) (by simp <;> omega) (fun g o e => by injection e with e; injection e with e1 e2; left; subst e1; show w2.heap.size < w2.heap.size + 1; omega) (by simp) ?_; intro A3 cap3 w8 ho8 hb8 hs8; have Y8 := Lib.hid ho8; have B8 := Lib.hid ((((own.below_drew B2.out : Below w.heap.size w w2.drew).alloc B2.out.size (.cells #[] 5)).alloc (by have h9 := HN2.out; have h8 := L2.out; have h7 := B2.out.size; simp <;> omega) (.cells #[.int .i64 0, .int .i64 0, .int .i64 0, .int .i64 0, .int .i64 0, .bool false, .bool false, .int .i64 0, .slice none 0 0] 25)).trans (hb8.mono (by have h9 := HN2.out; have h8 := L2.out; have h7 := B2.out.size; exact h7))); have Z8 := Lib.hid (((Z2.out.same rfl : Bx 25 w2.drew w.heap.size #[.int .i64 0, .int .i64 0, .int .i64 0, .int .i64 0, .int .i64 0, .bool false, .bool false, .int .i64 0, .slice none 0 0]).below (below_box2 _ (.cells #[] 5) (.cells #[.int .i64 0, .int .i64 0, .int .i64 0, .int .i64 0, .int .i64 0, .bool false, .bool false, .int .i64 0, .slice none 0 0] 25))).up hb8 (by have h9 := HN2.out; have h8 := L2.out; have h7 := B2.out.size; exact h8)); have R8 := Lib.hid (((NR2.out.same (Nat.le_refl _) (fun _ _ _ => rfl) : Rd .i64 w2.drew b2 (b2 + 1) _ 7 cap2 _).below (below_box2 _ (.cells #[] 5) (.cells #[.int .i64 0, .int .i64 0, .int .i64 0, .int .i64 0, .int .i64 0, .bool false, .bool false, .int .i64 0, .slice none 0 0] 25))).same hb8.size (fun bb q1 q2 => hb8.block bb (by have h9 := HN2.out; have h8 := L2.out; have h7 := B2.out.size; show bb < w2.heap.size; omega))); have X8 := Lib.hid (show Bx 25 w8 (w2.heap.size + 1) #[.int .i64 0, .int .i64 0, .int .i64 0, .int .i64 0, .int .i64 0, .bool false, .bool false, .int .i64 0, .slice none 0 0] from (show Bx 25 ((w2.drew.alloc (.cells #[] 5)).alloc (.cells #[.int .i64 0, .int .i64 0, .int .i64 0, .int .i64 0, .int .i64 0, .bool false, .bool false, .int .i64 0, .slice none 0 0] 25)) (w2.heap.size + 1) #[.int .i64 0, .int .i64 0, .int .i64 0, .int .i64 0, .int .i64 0, .bool false, .bool false, .int .i64 0, .slice none 0 0] by have hh := Bx.made 25 (w2.drew.alloc (.cells #[] 5)) #[.int .i64 0, .int .i64 0, .int .i64 0, .int .i64 0, .int .i64 0, .bool false, .bool false, .int .i64 0, .slice none 0 0]; simpa using hh).same (hs8.2 _ (by omega) (by omega))); clear hs8; have ns8 := nseven R8.out; have t0 := ns8.1; have t1 := ns8.2.1; have t2 := ns8.2.2.1; have t3 := ns8.2.2.2.1; have t4 := ns8.2.2.2.2.1; have t5 := ns8.2.2.2.2.2.1; have t6 := ns8.2.2.2.2.2.2; have KA8 := Lib.hid (fun (o : Obj) => nseven (R8.out.below (below_box w8 o))); have z0 : w8.cell? ⟨w2.heap.size + 1, 0, none⟩ = some (.int .i64 0) := X8.out.cell 0; have z1 : w8.cell? ⟨w2.heap.size + 1, 1, none⟩ = some (.int .i64 0) := X8.out.cell 1; have z2 : w8.cell? ⟨w2.heap.size + 1, 2, none⟩ = some (.int .i64 0) := X8.out.cell 2; have z3 : w8.cell? ⟨w2.heap.size + 1, 3, none⟩ = some (.int .i64 0) := X8.out.cell 3; have z4 : w8.cell? ⟨w2.heap.size + 1, 4, none⟩ = some (.int .i64 0) := X8.out.cell 4; have z5 : w8.cell? ⟨w2.heap.size + 1, 5, none⟩ = some (.bool false) := X8.out.cell 5; have z6 : w8.cell? ⟨w2.heap.size + 1, 6, none⟩ = some (.bool false) := X8.out.cell 6; have z7 : w8.cell? ⟨w2.heap.size + 1, 7, none⟩ = some (.int .i64 0) := X8.out.cell 7; have z8 : w8.cell? ⟨w2.heap.size + 1, 8, none⟩ = some (.slice none 0 0) := X8.out.cell 8; have u0 : w8.frozen? ⟨w2.heap.size + 1, 0, none⟩ = false := X8.out.free 0; have u1 : w8.frozen? ⟨w2.heap.size + 1, 1, none⟩ = false := X8.out.free 1; have u2 : w8.frozen? ⟨w2.heap.size + 1, 2, none⟩ = false := X8.out.free 2; have u3 : w8.frozen? ⟨w2.heap.size + 1, 3, none⟩ = false := X8.out.free 3; have u4 : w8.frozen? ⟨w2.heap.size + 1, 4, none⟩ = false := X8.out.free 4; have u5 : w8.frozen? ⟨w2.heap.size + 1, 5, none⟩ = false := X8.out.free 5; have u6 : w8.frozen? ⟨w2.heap.size + 1, 6, none⟩ = false := X8.out.free 6; have u7 : w8.frozen? ⟨w2.heap.size + 1, 7, none⟩ = false := X8.out.free 7; have u8 : w8.frozen? ⟨w2.heap.size + 1, 8, none⟩ = false := X8.out.free 8; have KS8 := Lib.hid (fun v0 v1 v2 v3 v4 v5 v6 v7 v8 => nseven (R8.out.same (by rw [size_nine]; exact Nat.le_refl _) (fun bb hb1 hb2 => block_nine w8 (w2.heap.size + 1) bb (by have h9 := HN2.out; omega) v0 v1 v2 v3 v4 v5 v6 v7 v8))); clear ho8 hb8)
          | (refine stp.step_app rfl _ _ 22 rfl 5 i0 _ .u8 Try.underlying22 HZ.out.1 HZ.out.2.1 HZ.out.2.2.1 (by rw [HZ.out.2.2.2]; omega) rfl rfl rfl (Ow.empty 5 .u8 w2.drew) (CUT.out.alloc (.cells #[] 5)) (by have h1 := HNC.out; omega) (by simp) ?_; intro A3 cap3 w8 ho8 hb8; have Y8 := Lib.hid ho8; have B8 := Lib.hid (((own.below_drew B2.out : Below w.heap.size w w2.drew).alloc B2.out.size (.cells #[] 5)).trans (hb8.mono (by have h9 := HN2.out; have h8 := L2.out; have h7 := B2.out.size; exact h7))); have Z8 := Lib.hid (((Z2.out.same rfl : Bx 25 w2.drew w.heap.size #[.int .i64 0, .int .i64 0, .int .i64 0, .int .i64 0, .int .i64 0, .bool false, .bool false, .int .i64 0, .slice none 0 0]).below (below_box _ (.cells #[] 5))).up hb8 (by have h9 := HN2.out; have h8 := L2.out; have h7 := B2.out.size; exact h8)); have R8 := Lib.hid (((NR2.out.same (Nat.le_refl _) (fun _ _ _ => rfl) : Rd .i64 w2.drew b2 (b2 + 1) _ 7 cap2 _).below (below_box _ (.cells #[] 5))).same hb8.size (fun bb q1 q2 => hb8.block bb (by have h9 := HN2.out; have h8 := L2.out; have h7 := B2.out.size; show bb < w2.heap.size; omega))); have ns8 := nseven R8.out; have t0 := ns8.1; have t1 := ns8.2.1; have t2 := ns8.2.2.1; have t3 := ns8.2.2.2.1; have t4 := ns8.2.2.2.2.1; have t5 := ns8.2.2.2.2.2.1; have t6 := ns8.2.2.2.2.2.2; have KA8 := Lib.hid (fun (o : Obj) => nseven (R8.out.below (below_box w8 o))); clear ho8 hb8)
          | (refine stp.step_app rfl _ _ 22 rfl 5 i0 _ .u8 Try.underlying22 HZ.out.1 HZ.out.2.1 HZ.out.2.2.1 (by rw [HZ.out.2.2.2]; omega) rfl rfl rfl (empty_a w2) ((CUT.out.alloc (.cells #[.int .i64 0, .int .i64 0, .int .i64 0, .int .i64 0, .int .i64 0, .bool false, .bool false, .int .i64 0, .slice none 0 0] 25)).alloc (.cells #[] 5)) (by have h1 := HNC.out; omega) (by simp) ?_; intro A3 cap3 w8 ho8 hb8; have Y8 := Lib.hid ho8; obtain ⟨fb8, fz8, fr8, fx8⟩ := arm_a B2.out Z2.out NR2.out HN2.out hb8; have B8 := Lib.hid fb8; have Z8 := Lib.hid fz8; have R8 := Lib.hid fr8; have X8 := Lib.hid fx8; clear fb8 fz8 fr8 fx8; have ns8 := nseven R8.out; have t0 := ns8.1; have t1 := ns8.2.1; have t2 := ns8.2.2.1; have t3 := ns8.2.2.2.1; have t4 := ns8.2.2.2.2.1; have t5 := ns8.2.2.2.2.2.1; have t6 := ns8.2.2.2.2.2.2; have KA8 := Lib.hid (fun (o : Obj) => nseven (R8.out.below (below_box w8 o))); have z0 : w8.cell? ⟨w2.heap.size, 0, none⟩ = some (.int .i64 0) := X8.out.cell 0; have z1 : w8.cell? ⟨w2.heap.size, 1, none⟩ = some (.int .i64 0) := X8.out.cell 1; have z2 : w8.cell? ⟨w2.heap.size, 2, none⟩ = some (.int .i64 0) := X8.out.cell 2; have z3 : w8.cell? ⟨w2.heap.size, 3, none⟩ = some (.int .i64 0) := X8.out.cell 3; have z4 : w8.cell? ⟨w2.heap.size, 4, none⟩ = some (.int .i64 0) := X8.out.cell 4; have z5 : w8.cell? ⟨w2.heap.size, 5, none⟩ = some (.bool false) := X8.out.cell 5; have z6 : w8.cell? ⟨w2.heap.size, 6, none⟩ = some (.bool false) := X8.out.cell 6; have z7 : w8.cell? ⟨w2.heap.size, 7, none⟩ = some (.int .i64 0) := X8.out.cell 7; have z8 : w8.cell? ⟨w2.heap.size, 8, none⟩ = some (.slice none 0 0) := X8.out.cell 8; have u0 : w8.frozen? ⟨w2.heap.size, 0, none⟩ = false := X8.out.free 0; have u1 : w8.frozen? ⟨w2.heap.size, 1, none⟩ = false := X8.out.free 1; have u2 : w8.frozen? ⟨w2.heap.size, 2, none⟩ = false := X8.out.free 2; have u3 : w8.frozen? ⟨w2.heap.size, 3, none⟩ = false := X8.out.free 3; have u4 : w8.frozen? ⟨w2.heap.size, 4, none⟩ = false := X8.out.free 4; have u5 : w8.frozen? ⟨w2.heap.size, 5, none⟩ = false := X8.out.free 5; have u6 : w8.frozen? ⟨w2.heap.size, 6, none⟩ = false := X8.out.free 6; have u7 : w8.frozen? ⟨w2.heap.size, 7, none⟩ = false := X8.out.free 7; have u8 : w8.frozen? ⟨w2.heap.size, 8, none⟩ = false := X8.out.free 8; have KS8 := Lib.hid (fun v0 v1 v2 v3 v4 v5 v6 v7 v8 => nseven (R8.out.same (by rw [size_nine]; exact Nat.le_refl _) (fun bb hb1 hb2 => block_nine w8 (w2.heap.size) bb (by have h9 := HN2.out; omega) v0 v1 v2 v3 v4 v5 v6 v7 v8))); clear ho8 hb8))
        · have Y8n := Lib.hid (show Ow 5 .u8 w8 w2.heap.size w8.heap.size A3 (n1 - p) cap3 ZL from by have hh := Y8.out; have hh2 := hh.down (lo2 := w2.heap.size) (by first | exact Nat.le_refl _ | omega); simpa using hh2)
          clear Y8
          obtain ⟨w9, hW⟩ : ∃ w9, w8.alloc (.cells #[.int .i64 a, .int .i64 b, .int .i64 c, .int .i64 d, .int .i64 e, .bool p1, .bool q1, .int .i64 g, .slice A3 (n1 - p) cap3] 25) = w9 := ⟨_, rfl⟩
          rw [hW]
          have X9 := Lib.hid (show Bx 25 w9 w8.heap.size #[.int .i64 a, .int .i64 b, .int .i64 c, .int .i64 d, .int .i64 e, .bool p1, .bool q1, .int .i64 g, .slice A3 (n1 - p) cap3] by rw [← hW]; exact Bx.made _ _ _)
          have hb : Below w8.heap.size w8 w9 := by rw [← hW]; exact below_box _ _
          have B9 := Lib.hid (B8.out.trans (hb.mono B8.out.size))
          have Z9 := Lib.hid (Z8.out.below hb)
          have Y9 := Lib.hid (Y8n.out.below hb)
          clear hb hW
          clear B8 Z8 Y8n R8 t0 t1 t2 t3 t4 t5 t6 ns8 KA8
          clear d0 d1 d2 d3 d4 d5 d6 m0 m1 m2 m3 m4 m5 m6 hcut
          have x0 : w9.cell? ⟨w8.heap.size, 0, none⟩ = some (.int .i64 a) := X9.out.cell 0
          have x1 : w9.cell? ⟨w8.heap.size, 1, none⟩ = some (.int .i64 b) := X9.out.cell 1
          have x2 : w9.cell? ⟨w8.heap.size, 2, none⟩ = some (.int .i64 c) := X9.out.cell 2
          have x3 : w9.cell? ⟨w8.heap.size, 3, none⟩ = some (.int .i64 d) := X9.out.cell 3
          have x4 : w9.cell? ⟨w8.heap.size, 4, none⟩ = some (.int .i64 e) := X9.out.cell 4
          have x5 : w9.cell? ⟨w8.heap.size, 5, none⟩ = some (.bool p1) := X9.out.cell 5
          have x6 : w9.cell? ⟨w8.heap.size, 6, none⟩ = some (.bool q1) := X9.out.cell 6
          have x7 : w9.cell? ⟨w8.heap.size, 7, none⟩ = some (.int .i64 g) := X9.out.cell 7
          have x8 : w9.cell? ⟨w8.heap.size, 8, none⟩ = some (.slice A3 (n1 - p) cap3) := X9.out.cell 8
          go_wp2_with fail
          clear x0 x1 x2 x3 x4 x5 x6 x7 x8
          obtain ⟨vb, hvb⟩ : ∃ vb, decide (Vf ⟨a, b, c, d, e, p1, q1, g, ZL⟩) = vb := ⟨_, rfl⟩
          have HVB := Lib.hid hvb
          clear hvb
          (with_reducible refine (specVf a b c d e p1 q1 g A3 (n1 - p) cap3 ZL HLZ.out _).mono ?_)
          rw [HVB.out]
          rintro en w10 ⟨rfl, hb⟩
          have B10 := Lib.hid (B9.out.trans (hb.mono B9.out.size))
          have Z10 := Lib.hid (Z9.out.below hb)
          have Y10 := Lib.hid (Y9.out.below hb)
          have X10 := Lib.hid (X9.out.below hb)
          clear hb Z9 Y9 X9 B9
          cases vb with
          | true =>
            have HD := Lib.hid (HYES.out (of_decide_eq_true HVB.out))
            clear HYES HNO HVB
            have z0 : w10.cell? ⟨w.heap.size, 0, none⟩ = some (.int .i64 0) := Z10.out.cell 0
            have z1 : w10.cell? ⟨w.heap.size, 1, none⟩ = some (.int .i64 0) := Z10.out.cell 1
            have z2 : w10.cell? ⟨w.heap.size, 2, none⟩ = some (.int .i64 0) := Z10.out.cell 2
            have z3 : w10.cell? ⟨w.heap.size, 3, none⟩ = some (.int .i64 0) := Z10.out.cell 3
            have z4 : w10.cell? ⟨w.heap.size, 4, none⟩ = some (.int .i64 0) := Z10.out.cell 4
            have z5 : w10.cell? ⟨w.heap.size, 5, none⟩ = some (.bool false) := Z10.out.cell 5
            have z6 : w10.cell? ⟨w.heap.size, 6, none⟩ = some (.bool false) := Z10.out.cell 6
            have z7 : w10.cell? ⟨w.heap.size, 7, none⟩ = some (.int .i64 0) := Z10.out.cell 7
            have z8 : w10.cell? ⟨w.heap.size, 8, none⟩ = some (.slice none 0 0) := Z10.out.cell 8
            have u0 : w10.frozen? ⟨w.heap.size, 0, none⟩ = false := Z10.out.free 0
            have u1 : w10.frozen? ⟨w.heap.size, 1, none⟩ = false := Z10.out.free 1
            have u2 : w10.frozen? ⟨w.heap.size, 2, none⟩ = false := Z10.out.free 2
            have u3 : w10.frozen? ⟨w.heap.size, 3, none⟩ = false := Z10.out.free 3
            have u4 : w10.frozen? ⟨w.heap.size, 4, none⟩ = false := Z10.out.free 4
            have u5 : w10.frozen? ⟨w.heap.size, 5, none⟩ = false := Z10.out.free 5
            have u6 : w10.frozen? ⟨w.heap.size, 6, none⟩ = false := Z10.out.free 6
            have u7 : w10.frozen? ⟨w.heap.size, 7, none⟩ = false := Z10.out.free 7
            have u8 : w10.frozen? ⟨w.heap.size, 8, none⟩ = false := Z10.out.free 8
            have x0 : w10.cell? ⟨w8.heap.size, 0, none⟩ = some (.int .i64 a) := X10.out.cell 0
            have x1 : w10.cell? ⟨w8.heap.size, 1, none⟩ = some (.int .i64 b) := X10.out.cell 1
            have x2 : w10.cell? ⟨w8.heap.size, 2, none⟩ = some (.int .i64 c) := X10.out.cell 2
            have x3 : w10.cell? ⟨w8.heap.size, 3, none⟩ = some (.int .i64 d) := X10.out.cell 3
            have x4 : w10.cell? ⟨w8.heap.size, 4, none⟩ = some (.int .i64 e) := X10.out.cell 4
            have x5 : w10.cell? ⟨w8.heap.size, 5, none⟩ = some (.bool p1) := X10.out.cell 5
            have x6 : w10.cell? ⟨w8.heap.size, 6, none⟩ = some (.bool q1) := X10.out.cell 6
            have x7 : w10.cell? ⟨w8.heap.size, 7, none⟩ = some (.int .i64 g) := X10.out.cell 7
            have x8 : w10.cell? ⟨w8.heap.size, 8, none⟩ = some (.slice A3 (n1 - p) cap3) := X10.out.cell 8
            go_wp2_with fail
            (try simp only [Exit.inBlock, Exit.then])
            refine bodyPost_ret (v := .tuple #[.agg #[.int .i64 a, .int .i64 b, .int .i64 c, .int .i64 d, .int .i64 e, .bool p1, .bool q1, .int .i64 g, .slice A3 (n1 - p) cap3], .bool true]) ?_ rfl (DPost.make HD.out (Ow.down (ow_nine Y10.out L2.out _ _ _ _ _ _ _ _ _) (Nat.le_of_lt L2.out)) ?_)
            · rw [results_cell_tmp1 rfl]
              go_simp
            · exact below_nine B10.out (by omega) _ _ _ _ _ _ _ _ _
          | false =>
            have HD := Lib.hid (HNO.out (of_decide_eq_false HVB.out))
            clear HYES HNO HVB
            have z0 : w10.cell? ⟨w.heap.size, 0, none⟩ = some (.int .i64 0) := Z10.out.cell 0
            have z1 : w10.cell? ⟨w.heap.size, 1, none⟩ = some (.int .i64 0) := Z10.out.cell 1
            have z2 : w10.cell? ⟨w.heap.size, 2, none⟩ = some (.int .i64 0) := Z10.out.cell 2
            have z3 : w10.cell? ⟨w.heap.size, 3, none⟩ = some (.int .i64 0) := Z10.out.cell 3
            have z4 : w10.cell? ⟨w.heap.size, 4, none⟩ = some (.int .i64 0) := Z10.out.cell 4
            have z5 : w10.cell? ⟨w.heap.size, 5, none⟩ = some (.bool false) := Z10.out.cell 5
            have z6 : w10.cell? ⟨w.heap.size, 6, none⟩ = some (.bool false) := Z10.out.cell 6
            have z7 : w10.cell? ⟨w.heap.size, 7, none⟩ = some (.int .i64 0) := Z10.out.cell 7
            have z8 : w10.cell? ⟨w.heap.size, 8, none⟩ = some (.slice none 0 0) := Z10.out.cell 8
            have u0 : w10.frozen? ⟨w.heap.size, 0, none⟩ = false := Z10.out.free 0
            have u1 : w10.frozen? ⟨w.heap.size, 1, none⟩ = false := Z10.out.free 1
            have u2 : w10.frozen? ⟨w.heap.size, 2, none⟩ = false := Z10.out.free 2
            have u3 : w10.frozen? ⟨w.heap.size, 3, none⟩ = false := Z10.out.free 3
            have u4 : w10.frozen? ⟨w.heap.size, 4, none⟩ = false := Z10.out.free 4
            have u5 : w10.frozen? ⟨w.heap.size, 5, none⟩ = false := Z10.out.free 5
            have u6 : w10.frozen? ⟨w.heap.size, 6, none⟩ = false := Z10.out.free 6
            have u7 : w10.frozen? ⟨w.heap.size, 7, none⟩ = false := Z10.out.free 7
            have u8 : w10.frozen? ⟨w.heap.size, 8, none⟩ = false := Z10.out.free 8
            go_wp2_with fail
            (try simp only [Exit.inBlock, Exit.then])
            refine bodyPost_ret (v := .tuple #[.agg #[.int .i64 0, .int .i64 0, .int .i64 0, .int .i64 0, .int .i64 0, .bool false, .bool false, .int .i64 0, .slice none 0 0], .bool false]) ?_ rfl (DPost.make HD.out (ow_none _ _ _ w.heap.size w.heap.size (by rw [size_nine]; exact B10.out.size)) ?_)
            · rw [results_cell_tmp1 rfl]
              go_simp
            · exact below_nine B10.out (by omega) _ _ _ _ _ _ _ _ _
        · have Y8n := Lib.hid (show Ow 5 .u8 w8 w2.heap.size w8.heap.size A3 (n1 - p) cap3 ZL from by have hh := Y8.out; have hh2 := hh.down (lo2 := w2.heap.size) (by first | exact Nat.le_refl _ | omega); simpa using hh2)
          clear Y8
          obtain ⟨w9, hW⟩ : ∃ w9, (((((((((w8.setCell ⟨w2.heap.size + 1, 0, none⟩ (.int .i64 a)).setCell ⟨w2.heap.size + 1, 1, none⟩ (.int .i64 b)).setCell ⟨w2.heap.size + 1, 2, none⟩ (.int .i64 c)).setCell ⟨w2.heap.size + 1, 3, none⟩ (.int .i64 d)).setCell ⟨w2.heap.size + 1, 4, none⟩ (.int .i64 e)).setCell ⟨w2.heap.size + 1, 5, none⟩ (.bool p1)).setCell ⟨w2.heap.size + 1, 6, none⟩ (.bool q1)).setCell ⟨w2.heap.size + 1, 7, none⟩ (.int .i64 g)).setCell ⟨w2.heap.size + 1, 8, none⟩ (.slice A3 (n1 - p) cap3)) = w9 := ⟨_, rfl⟩
          rw [hW]
          have X9 := Lib.hid (show Bx 25 w9 (w2.heap.size + 1) #[.int .i64 a, .int .i64 b, .int .i64 c, .int .i64 d, .int .i64 e, .bool p1, .bool q1, .int .i64 g, .slice A3 (n1 - p) cap3] by rw [← hW]; exact bx_nine X8.out _ _ _ _ _ _ _ _ _)
          have B9 := Lib.hid (show Below w.heap.size w w9 by rw [← hW]; exact below_nine B8.out (by have h8 := L2.out; omega) _ _ _ _ _ _ _ _ _)
          have Z9 := Lib.hid (show Bx 25 w9 w.heap.size #[.int .i64 0, .int .i64 0, .int .i64 0, .int .i64 0, .int .i64 0, .bool false, .bool false, .int .i64 0, .slice none 0 0] by rw [← hW]; exact Z8.out.same (block_nine _ _ _ (by have h8 := L2.out; omega) _ _ _ _ _ _ _ _ _))
          have Y9 := Lib.hid (show Ow 5 .u8 w9 w2.heap.size w8.heap.size A3 (n1 - p) cap3 ZL by rw [← hW]; exact ow_other Y8n.out (by rw [size_nine]; exact Nat.le_refl _) (fun g o e => block_nine _ _ _ (ow_ne Y8n.out X8.out (by decide) g o e) _ _ _ _ _ _ _ _ _))
          clear hW z0 z1 z2 z3 z4 z5 z6 z7 z8 u0 u1 u2 u3 u4 u5 u6 u7 u8 KS8
          clear X8 B8 Z8 Y8n R8 t0 t1 t2 t3 t4 t5 t6 ns8 KA8
          clear d0 d1 d2 d3 d4 d5 d6 m0 m1 m2 m3 m4 m5 m6 hcut
          have x0 : w9.cell? ⟨w2.heap.size + 1, 0, none⟩ = some (.int .i64 a) := X9.out.cell 0
          have x1 : w9.cell? ⟨w2.heap.size + 1, 1, none⟩ = some (.int .i64 b) := X9.out.cell 1
          have x2 : w9.cell? ⟨w2.heap.size + 1, 2, none⟩ = some (.int .i64 c) := X9.out.cell 2
          have x3 : w9.cell? ⟨w2.heap.size + 1, 3, none⟩ = some (.int .i64 d) := X9.out.cell 3
          have x4 : w9.cell? ⟨w2.heap.size + 1, 4, none⟩ = some (.int .i64 e) := X9.out.cell 4
          have x5 : w9.cell? ⟨w2.heap.size + 1, 5, none⟩ = some (.bool p1) := X9.out.cell 5
          have x6 : w9.cell? ⟨w2.heap.size + 1, 6, none⟩ = some (.bool q1) := X9.out.cell 6
          have x7 : w9.cell? ⟨w2.heap.size + 1, 7, none⟩ = some (.int .i64 g) := X9.out.cell 7
          have x8 : w9.cell? ⟨w2.heap.size + 1, 8, none⟩ = some (.slice A3 (n1 - p) cap3) := X9.out.cell 8
          go_wp2_with fail
          clear x0 x1 x2 x3 x4 x5 x6 x7 x8
          obtain ⟨vb, hvb⟩ : ∃ vb, decide (Vf ⟨a, b, c, d, e, p1, q1, g, ZL⟩) = vb := ⟨_, rfl⟩
          have HVB := Lib.hid hvb
          clear hvb
          (with_reducible refine (specVf a b c d e p1 q1 g A3 (n1 - p) cap3 ZL HLZ.out _).mono ?_)
          rw [HVB.out]
          rintro en w10 ⟨rfl, hb⟩
          have B10 := Lib.hid (B9.out.trans (hb.mono B9.out.size))
          have Z10 := Lib.hid (Z9.out.below hb)
          have Y10 := Lib.hid (Y9.out.below hb)
          have X10 := Lib.hid (X9.out.below hb)
          clear hb Z9 Y9 X9 B9
          cases vb with
          | true =>
            have HD := Lib.hid (HYES.out (of_decide_eq_true HVB.out))
            clear HYES HNO HVB
            have z0 : w10.cell? ⟨w.heap.size, 0, none⟩ = some (.int .i64 0) := Z10.out.cell 0
            have z1 : w10.cell? ⟨w.heap.size, 1, none⟩ = some (.int .i64 0) := Z10.out.cell 1
            have z2 : w10.cell? ⟨w.heap.size, 2, none⟩ = some (.int .i64 0) := Z10.out.cell 2
            have z3 : w10.cell? ⟨w.heap.size, 3, none⟩ = some (.int .i64 0) := Z10.out.cell 3
            have z4 : w10.cell? ⟨w.heap.size, 4, none⟩ = some (.int .i64 0) := Z10.out.cell 4
            have z5 : w10.cell? ⟨w.heap.size, 5, none⟩ = some (.bool false) := Z10.out.cell 5
            have z6 : w10.cell? ⟨w.heap.size, 6, none⟩ = some (.bool false) := Z10.out.cell 6
            have z7 : w10.cell? ⟨w.heap.size, 7, none⟩ = some (.int .i64 0) := Z10.out.cell 7
            have z8 : w10.cell? ⟨w.heap.size, 8, none⟩ = some (.slice none 0 0) := Z10.out.cell 8
            have u0 : w10.frozen? ⟨w.heap.size, 0, none⟩ = false := Z10.out.free 0
            have u1 : w10.frozen? ⟨w.heap.size, 1, none⟩ = false := Z10.out.free 1
            have u2 : w10.frozen? ⟨w.heap.size, 2, none⟩ = false := Z10.out.free 2
            have u3 : w10.frozen? ⟨w.heap.size, 3, none⟩ = false := Z10.out.free 3
            have u4 : w10.frozen? ⟨w.heap.size, 4, none⟩ = false := Z10.out.free 4
            have u5 : w10.frozen? ⟨w.heap.size, 5, none⟩ = false := Z10.out.free 5
            have u6 : w10.frozen? ⟨w.heap.size, 6, none⟩ = false := Z10.out.free 6
            have u7 : w10.frozen? ⟨w.heap.size, 7, none⟩ = false := Z10.out.free 7
            have u8 : w10.frozen? ⟨w.heap.size, 8, none⟩ = false := Z10.out.free 8
            have x0 : w10.cell? ⟨w2.heap.size + 1, 0, none⟩ = some (.int .i64 a) := X10.out.cell 0
            have x1 : w10.cell? ⟨w2.heap.size + 1, 1, none⟩ = some (.int .i64 b) := X10.out.cell 1
            have x2 : w10.cell? ⟨w2.heap.size + 1, 2, none⟩ = some (.int .i64 c) := X10.out.cell 2
            have x3 : w10.cell? ⟨w2.heap.size + 1, 3, none⟩ = some (.int .i64 d) := X10.out.cell 3
            have x4 : w10.cell? ⟨w2.heap.size + 1, 4, none⟩ = some (.int .i64 e) := X10.out.cell 4
            have x5 : w10.cell? ⟨w2.heap.size + 1, 5, none⟩ = some (.bool p1) := X10.out.cell 5
            have x6 : w10.cell? ⟨w2.heap.size + 1, 6, none⟩ = some (.bool q1) := X10.out.cell 6
            have x7 : w10.cell? ⟨w2.heap.size + 1, 7, none⟩ = some (.int .i64 g) := X10.out.cell 7
            have x8 : w10.cell? ⟨w2.heap.size + 1, 8, none⟩ = some (.slice A3 (n1 - p) cap3) := X10.out.cell 8
            go_wp2_with fail
            (try simp only [Exit.inBlock, Exit.then])
            refine bodyPost_ret (v := .tuple #[.agg #[.int .i64 a, .int .i64 b, .int .i64 c, .int .i64 d, .int .i64 e, .bool p1, .bool q1, .int .i64 g, .slice A3 (n1 - p) cap3], .bool true]) ?_ rfl (DPost.make HD.out (Ow.down (ow_nine Y10.out L2.out _ _ _ _ _ _ _ _ _) (Nat.le_of_lt L2.out)) ?_)
            · rw [results_cell_tmp1 rfl]
              go_simp
            · exact below_nine B10.out (by omega) _ _ _ _ _ _ _ _ _
          | false =>
            have HD := Lib.hid (HNO.out (of_decide_eq_false HVB.out))
            clear HYES HNO HVB
            have z0 : w10.cell? ⟨w.heap.size, 0, none⟩ = some (.int .i64 0) := Z10.out.cell 0
            have z1 : w10.cell? ⟨w.heap.size, 1, none⟩ = some (.int .i64 0) := Z10.out.cell 1
            have z2 : w10.cell? ⟨w.heap.size, 2, none⟩ = some (.int .i64 0) := Z10.out.cell 2
            have z3 : w10.cell? ⟨w.heap.size, 3, none⟩ = some (.int .i64 0) := Z10.out.cell 3
            have z4 : w10.cell? ⟨w.heap.size, 4, none⟩ = some (.int .i64 0) := Z10.out.cell 4
            have z5 : w10.cell? ⟨w.heap.size, 5, none⟩ = some (.bool false) := Z10.out.cell 5
            have z6 : w10.cell? ⟨w.heap.size, 6, none⟩ = some (.bool false) := Z10.out.cell 6
            have z7 : w10.cell? ⟨w.heap.size, 7, none⟩ = some (.int .i64 0) := Z10.out.cell 7
            have z8 : w10.cell? ⟨w.heap.size, 8, none⟩ = some (.slice none 0 0) := Z10.out.cell 8
            have u0 : w10.frozen? ⟨w.heap.size, 0, none⟩ = false := Z10.out.free 0
            have u1 : w10.frozen? ⟨w.heap.size, 1, none⟩ = false := Z10.out.free 1
            have u2 : w10.frozen? ⟨w.heap.size, 2, none⟩ = false := Z10.out.free 2
            have u3 : w10.frozen? ⟨w.heap.size, 3, none⟩ = false := Z10.out.free 3
            have u4 : w10.frozen? ⟨w.heap.size, 4, none⟩ = false := Z10.out.free 4
            have u5 : w10.frozen? ⟨w.heap.size, 5, none⟩ = false := Z10.out.free 5
            have u6 : w10.frozen? ⟨w.heap.size, 6, none⟩ = false := Z10.out.free 6
            have u7 : w10.frozen? ⟨w.heap.size, 7, none⟩ = false := Z10.out.free 7
            have u8 : w10.frozen? ⟨w.heap.size, 8, none⟩ = false := Z10.out.free 8
            go_wp2_with fail
            (try simp only [Exit.inBlock, Exit.then])
            refine bodyPost_ret (v := .tuple #[.agg #[.int .i64 0, .int .i64 0, .int .i64 0, .int .i64 0, .int .i64 0, .bool false, .bool false, .int .i64 0, .slice none 0 0], .bool false]) ?_ rfl (DPost.make HD.out (ow_none _ _ _ w.heap.size w.heap.size (by rw [size_nine]; exact B10.out.size)) ?_)
            · rw [results_cell_tmp1 rfl]
              go_simp
            · exact below_nine B10.out (by omega) _ _ _ _ _ _ _ _ _
        · have Y8n := Lib.hid (show Ow 5 .u8 w8 w2.heap.size w8.heap.size A3 (n1 - p) cap3 ZL from by have hh := Y8.out; have hh2 := hh.down (lo2 := w2.heap.size) (by first | exact Nat.le_refl _ | omega); simpa using hh2)
          clear Y8
          obtain ⟨w9, hW⟩ : ∃ w9, (((((((((w8.setCell ⟨w2.heap.size, 0, none⟩ (.int .i64 a)).setCell ⟨w2.heap.size, 1, none⟩ (.int .i64 b)).setCell ⟨w2.heap.size, 2, none⟩ (.int .i64 c)).setCell ⟨w2.heap.size, 3, none⟩ (.int .i64 d)).setCell ⟨w2.heap.size, 4, none⟩ (.int .i64 e)).setCell ⟨w2.heap.size, 5, none⟩ (.bool p1)).setCell ⟨w2.heap.size, 6, none⟩ (.bool q1)).setCell ⟨w2.heap.size, 7, none⟩ (.int .i64 g)).setCell ⟨w2.heap.size, 8, none⟩ (.slice A3 (n1 - p) cap3)) = w9 := ⟨_, rfl⟩
          rw [hW]
          have X9 := Lib.hid (show Bx 25 w9 (w2.heap.size) #[.int .i64 a, .int .i64 b, .int .i64 c, .int .i64 d, .int .i64 e, .bool p1, .bool q1, .int .i64 g, .slice A3 (n1 - p) cap3] by rw [← hW]; exact bx_nine X8.out _ _ _ _ _ _ _ _ _)
          have B9 := Lib.hid (show Below w.heap.size w w9 by rw [← hW]; exact below_nine B8.out (by have h8 := L2.out; omega) _ _ _ _ _ _ _ _ _)
          have Z9 := Lib.hid (show Bx 25 w9 w.heap.size #[.int .i64 0, .int .i64 0, .int .i64 0, .int .i64 0, .int .i64 0, .bool false, .bool false, .int .i64 0, .slice none 0 0] by rw [← hW]; exact Z8.out.same (block_nine _ _ _ (by have h8 := L2.out; omega) _ _ _ _ _ _ _ _ _))
          have Y9 := Lib.hid (show Ow 5 .u8 w9 w2.heap.size w8.heap.size A3 (n1 - p) cap3 ZL by rw [← hW]; exact ow_other Y8n.out (by rw [size_nine]; exact Nat.le_refl _) (fun g o e => block_nine _ _ _ (ow_ne Y8n.out X8.out (by decide) g o e) _ _ _ _ _ _ _ _ _))
          clear hW z0 z1 z2 z3 z4 z5 z6 z7 z8 u0 u1 u2 u3 u4 u5 u6 u7 u8 KS8
          clear X8 B8 Z8 Y8n R8 t0 t1 t2 t3 t4 t5 t6 ns8 KA8
          clear d0 d1 d2 d3 d4 d5 d6 m0 m1 m2 m3 m4 m5 m6 hcut
          have x0 : w9.cell? ⟨w2.heap.size, 0, none⟩ = some (.int .i64 a) := X9.out.cell 0
          have x1 : w9.cell? ⟨w2.heap.size, 1, none⟩ = some (.int .i64 b) := X9.out.cell 1
          have x2 : w9.cell? ⟨w2.heap.size, 2, none⟩ = some (.int .i64 c) := X9.out.cell 2
          have x3 : w9.cell? ⟨w2.heap.size, 3, none⟩ = some (.int .i64 d) := X9.out.cell 3
          have x4 : w9.cell? ⟨w2.heap.size, 4, none⟩ = some (.int .i64 e) := X9.out.cell 4
          have x5 : w9.cell? ⟨w2.heap.size, 5, none⟩ = some (.bool p1) := X9.out.cell 5
          have x6 : w9.cell? ⟨w2.heap.size, 6, none⟩ = some (.bool q1) := X9.out.cell 6
          have x7 : w9.cell? ⟨w2.heap.size, 7, none⟩ = some (.int .i64 g) := X9.out.cell 7
          have x8 : w9.cell? ⟨w2.heap.size, 8, none⟩ = some (.slice A3 (n1 - p) cap3) := X9.out.cell 8
          go_wp2_with fail
          clear x0 x1 x2 x3 x4 x5 x6 x7 x8
          obtain ⟨vb, hvb⟩ : ∃ vb, decide (Vf ⟨a, b, c, d, e, p1, q1, g, ZL⟩) = vb := ⟨_, rfl⟩
          have HVB := Lib.hid hvb
          clear hvb
          (with_reducible refine (specVf a b c d e p1 q1 g A3 (n1 - p) cap3 ZL HLZ.out _).mono ?_)
          rw [HVB.out]
          rintro en w10 ⟨rfl, hb⟩
          have B10 := Lib.hid (B9.out.trans (hb.mono B9.out.size))
          have Z10 := Lib.hid (Z9.out.below hb)
          have Y10 := Lib.hid (Y9.out.below hb)
          have X10 := Lib.hid (X9.out.below hb)
          clear hb Z9 Y9 X9 B9
          cases vb with
          | true =>
            have HD := Lib.hid (HYES.out (of_decide_eq_true HVB.out))
            clear HYES HNO HVB
            have z0 : w10.cell? ⟨w.heap.size, 0, none⟩ = some (.int .i64 0) := Z10.out.cell 0
            have z1 : w10.cell? ⟨w.heap.size, 1, none⟩ = some (.int .i64 0) := Z10.out.cell 1
            have z2 : w10.cell? ⟨w.heap.size, 2, none⟩ = some (.int .i64 0) := Z10.out.cell 2
            have z3 : w10.cell? ⟨w.heap.size, 3, none⟩ = some (.int .i64 0) := Z10.out.cell 3
            have z4 : w10.cell? ⟨w.heap.size, 4, none⟩ = some (.int .i64 0) := Z10.out.cell 4
            have z5 : w10.cell? ⟨w.heap.size, 5, none⟩ = some (.bool false) := Z10.out.cell 5
            have z6 : w10.cell? ⟨w.heap.size, 6, none⟩ = some (.bool false) := Z10.out.cell 6
            have z7 : w10.cell? ⟨w.heap.size, 7, none⟩ = some (.int .i64 0) := Z10.out.cell 7
            have z8 : w10.cell? ⟨w.heap.size, 8, none⟩ = some (.slice none 0 0) := Z10.out.cell 8
            have u0 : w10.frozen? ⟨w.heap.size, 0, none⟩ = false := Z10.out.free 0
            have u1 : w10.frozen? ⟨w.heap.size, 1, none⟩ = false := Z10.out.free 1
            have u2 : w10.frozen? ⟨w.heap.size, 2, none⟩ = false := Z10.out.free 2
            have u3 : w10.frozen? ⟨w.heap.size, 3, none⟩ = false := Z10.out.free 3
            have u4 : w10.frozen? ⟨w.heap.size, 4, none⟩ = false := Z10.out.free 4
            have u5 : w10.frozen? ⟨w.heap.size, 5, none⟩ = false := Z10.out.free 5
            have u6 : w10.frozen? ⟨w.heap.size, 6, none⟩ = false := Z10.out.free 6
            have u7 : w10.frozen? ⟨w.heap.size, 7, none⟩ = false := Z10.out.free 7
            have u8 : w10.frozen? ⟨w.heap.size, 8, none⟩ = false := Z10.out.free 8
            have x0 : w10.cell? ⟨w2.heap.size, 0, none⟩ = some (.int .i64 a) := X10.out.cell 0
            have x1 : w10.cell? ⟨w2.heap.size, 1, none⟩ = some (.int .i64 b) := X10.out.cell 1
            have x2 : w10.cell? ⟨w2.heap.size, 2, none⟩ = some (.int .i64 c) := X10.out.cell 2
            have x3 : w10.cell? ⟨w2.heap.size, 3, none⟩ = some (.int .i64 d) := X10.out.cell 3
            have x4 : w10.cell? ⟨w2.heap.size, 4, none⟩ = some (.int .i64 e) := X10.out.cell 4
            have x5 : w10.cell? ⟨w2.heap.size, 5, none⟩ = some (.bool p1) := X10.out.cell 5
            have x6 : w10.cell? ⟨w2.heap.size, 6, none⟩ = some (.bool q1) := X10.out.cell 6
            have x7 : w10.cell? ⟨w2.heap.size, 7, none⟩ = some (.int .i64 g) := X10.out.cell 7
            have x8 : w10.cell? ⟨w2.heap.size, 8, none⟩ = some (.slice A3 (n1 - p) cap3) := X10.out.cell 8
            go_wp2_with fail
            (try simp only [Exit.inBlock, Exit.then])
            refine bodyPost_ret (v := .tuple #[.agg #[.int .i64 a, .int .i64 b, .int .i64 c, .int .i64 d, .int .i64 e, .bool p1, .bool q1, .int .i64 g, .slice A3 (n1 - p) cap3], .bool true]) ?_ rfl (DPost.make HD.out (Ow.down (ow_nine Y10.out L2.out _ _ _ _ _ _ _ _ _) (Nat.le_of_lt L2.out)) ?_)
            · rw [results_cell_tmp1 rfl]
              go_simp
            · exact below_nine B10.out (by omega) _ _ _ _ _ _ _ _ _
          | false =>
            have HD := Lib.hid (HNO.out (of_decide_eq_false HVB.out))
            clear HYES HNO HVB
            have z0 : w10.cell? ⟨w.heap.size, 0, none⟩ = some (.int .i64 0) := Z10.out.cell 0
            have z1 : w10.cell? ⟨w.heap.size, 1, none⟩ = some (.int .i64 0) := Z10.out.cell 1
            have z2 : w10.cell? ⟨w.heap.size, 2, none⟩ = some (.int .i64 0) := Z10.out.cell 2
            have z3 : w10.cell? ⟨w.heap.size, 3, none⟩ = some (.int .i64 0) := Z10.out.cell 3
            have z4 : w10.cell? ⟨w.heap.size, 4, none⟩ = some (.int .i64 0) := Z10.out.cell 4
            have z5 : w10.cell? ⟨w.heap.size, 5, none⟩ = some (.bool false) := Z10.out.cell 5
            have z6 : w10.cell? ⟨w.heap.size, 6, none⟩ = some (.bool false) := Z10.out.cell 6
            have z7 : w10.cell? ⟨w.heap.size, 7, none⟩ = some (.int .i64 0) := Z10.out.cell 7
            have z8 : w10.cell? ⟨w.heap.size, 8, none⟩ = some (.slice none 0 0) := Z10.out.cell 8
            have u0 : w10.frozen? ⟨w.heap.size, 0, none⟩ = false := Z10.out.free 0
            have u1 : w10.frozen? ⟨w.heap.size, 1, none⟩ = false := Z10.out.free 1
            have u2 : w10.frozen? ⟨w.heap.size, 2, none⟩ = false := Z10.out.free 2
            have u3 : w10.frozen? ⟨w.heap.size, 3, none⟩ = false := Z10.out.free 3
            have u4 : w10.frozen? ⟨w.heap.size, 4, none⟩ = false := Z10.out.free 4
            have u5 : w10.frozen? ⟨w.heap.size, 5, none⟩ = false := Z10.out.free 5
            have u6 : w10.frozen? ⟨w.heap.size, 6, none⟩ = false := Z10.out.free 6
            have u7 : w10.frozen? ⟨w.heap.size, 7, none⟩ = false := Z10.out.free 7
            have u8 : w10.frozen? ⟨w.heap.size, 8, none⟩ = false := Z10.out.free 8
            go_wp2_with fail
            (try simp only [Exit.inBlock, Exit.then])
            refine bodyPost_ret (v := .tuple #[.agg #[.int .i64 0, .int .i64 0, .int .i64 0, .int .i64 0, .int .i64 0, .bool false, .bool false, .int .i64 0, .slice none 0 0], .bool false]) ?_ rfl (DPost.make HD.out (ow_none _ _ _ w.heap.size w.heap.size (by rw [size_nine]; exact B10.out.size)) ?_)
            · rw [results_cell_tmp1 rfl]
              go_simp
            · exact below_nine B10.out (by omega) _ _ _ _ _ _ _ _ _
      · have h3d : decide (3 < y) = true := decide_eq_true (by omega)
        have HD := Lib.hid (show df zs = (⟨0, 0, 0, 0, 0, false, false, 0, []⟩, false) from df_flag HCK.out HDV.out h3)
        clear HCK HDV g1 g2 g3 g4 g5
        have z0 : w2.cell? ⟨w.heap.size, 0, none⟩ = some (.int .i64 0) := Z2.out.cell 0
        have z1 : w2.cell? ⟨w.heap.size, 1, none⟩ = some (.int .i64 0) := Z2.out.cell 1
        have z2 : w2.cell? ⟨w.heap.size, 2, none⟩ = some (.int .i64 0) := Z2.out.cell 2
        have z3 : w2.cell? ⟨w.heap.size, 3, none⟩ = some (.int .i64 0) := Z2.out.cell 3
        have z4 : w2.cell? ⟨w.heap.size, 4, none⟩ = some (.int .i64 0) := Z2.out.cell 4
        have z5 : w2.cell? ⟨w.heap.size, 5, none⟩ = some (.bool false) := Z2.out.cell 5
        have z6 : w2.cell? ⟨w.heap.size, 6, none⟩ = some (.bool false) := Z2.out.cell 6
        have z7 : w2.cell? ⟨w.heap.size, 7, none⟩ = some (.int .i64 0) := Z2.out.cell 7
        have z8 : w2.cell? ⟨w.heap.size, 8, none⟩ = some (.slice none 0 0) := Z2.out.cell 8
        have u0 : w2.frozen? ⟨w.heap.size, 0, none⟩ = false := Z2.out.free 0
        have u1 : w2.frozen? ⟨w.heap.size, 1, none⟩ = false := Z2.out.free 1
        have u2 : w2.frozen? ⟨w.heap.size, 2, none⟩ = false := Z2.out.free 2
        have u3 : w2.frozen? ⟨w.heap.size, 3, none⟩ = false := Z2.out.free 3
        have u4 : w2.frozen? ⟨w.heap.size, 4, none⟩ = false := Z2.out.free 4
        have u5 : w2.frozen? ⟨w.heap.size, 5, none⟩ = false := Z2.out.free 5
        have u6 : w2.frozen? ⟨w.heap.size, 6, none⟩ = false := Z2.out.free 6
        have u7 : w2.frozen? ⟨w.heap.size, 7, none⟩ = false := Z2.out.free 7
        have u8 : w2.frozen? ⟨w.heap.size, 8, none⟩ = false := Z2.out.free 8
        go_wp2_with fail
        (try simp only [Exit.inBlock, Exit.then])
        refine bodyPost_ret (v := .tuple #[.agg #[.int .i64 0, .int .i64 0, .int .i64 0, .int .i64 0, .int .i64 0, .bool false, .bool false, .int .i64 0, .slice none 0 0], .bool false]) ?_ rfl (DPost.make HD.out (ow_none _ _ _ w.heap.size w.heap.size (by rw [size_nine]; exact B2.out.size)) ?_)
        · rw [results_cell_tmp1 rfl]
          go_simp
        · exact below_nine B2.out (by omega) _ _ _ _ _ _ _ _ _
end Go.Proofs.Ytnnlkkohbjolaaa.fbx
