/- The law function of FnExactIsValidQueue returns true and leaves what was there. Condition: the slices among the arguments are slices that came in. -/
import Derived.Test.YtbifggfmfiocoaaQlw
import Derived.Deep.RegionHeld3
namespace Go.Proofs.Ytbifggfmfiocoaa.xExactIsValidQueue
open Go.RowKit sl harn bx mrw mq
set_option linter.unusedVariables false
set_option maxRecDepth 100000 in
set_option maxHeartbeats 4000000 in
theorem walk (ms : List Msg) (d : Int) (A : Option Addr) (n cap : Nat) (w : World) (row0 : Rq msg w 0 w.heap.size A n cap ms) :
    Calls Try.prog 6 #[qV A n cap d] w fun e w' => e = .returned (.bool true) ∧ Below w.heap.size w w' := by
  have R0 := Lib.hid row0
  have HLN := Lib.hid row0.len
  have hn0 : n ≤ cap ∧ cap ≤ 9223372036854775807 := row0.cap_
  clear row0
  have B0 := Lib.hid (Below.refl w.heap.size w)
  go_enter Try.func6, Try.ntmps6
  go_wp2_with fail
  obtain ⟨W0, hW0⟩ : ∃ y, w.alloc (.cells #[.slice A n cap, .int .i64 d] 50) = y := ⟨_, rfl⟩
  rw [hW0]
  have hb0 : Below w.heap.size w W0 := by rw [← hW0]; exact bx.below_box _ _
  have LB0 := Lib.hid (show bx.Bx 50 W0 w.heap.size #[.slice A n cap, .int .i64 d] by rw [← hW0]; exact bx.Bx.made _ _ _)
  have S00 := Lib.hid (show w.heap.size + 1 ≤ W0.heap.size by rw [← hW0]; simp)
  clear hW0
  have R0 := Lib.hid (R0.out.below hb0)
  have B0 := Lib.hid hb0
  clear hb0
  (with_reducible refine (szQue ms d A n cap _ _ 1048576 (by omega) _ R0.out).mono ?_)
  rintro e w1 ⟨r0, rfl, hr, hb⟩
  rcases hr with ⟨hr1, hlt⟩ | ⟨hrl, hle⟩
  · subst hr1
    go_wp2_with fail
    go_ret
    exact ⟨rfl, B0.out.trans (hb.mono B0.out.size)⟩
  have hng0 : ¬ r0 < 0 := by omega
  have S3 := Lib.hid (hb.size)
  have B2 := Lib.hid (B0.out.trans (hb.mono B0.out.size))
  clear B0
  have F4 := Lib.hid (LB0.out.below hb)
  clear LB0
  have F5 := Lib.hid (R0.out.below hb)
  clear R0
  clear hb
  have hq0 : n + blk ms ≤ 1048576 := by omega
  have HR0 := Lib.hid (show 0 ≤ r0 ∧ r0 ≤ 1048576 by omega)
  clear hrl hle
  have HN := Lib.hid (show n ≤ 67108864 by omega)
  have BD0 := Lib.hid (bd_of (List.Sublist.refl ms) (by rw [HLN.out]; omega))
  have HBD := Lib.hid BD0.out.1
  have HQ0 := Lib.hid hq0
  clear hq0
  obtain ⟨vb, hvb⟩ : ∃ vb, vq ms d = vb := ⟨_, rfl⟩
  have VB := Lib.hid hvb
  clear hvb
  have cc0_0 : w1.cell? ⟨w.heap.size, 0, none⟩ = some (.slice A n cap) := F4.out.cell 0
  have cc0_1 : w1.cell? ⟨w.heap.size, 1, none⟩ = some (.int .i64 d) := F4.out.cell 1
  go_wp2_with fail
  clear cc0_0 cc0_1
  (with_reducible refine (toQue ms d A n cap _ _ HN.out HBD.out _ F5.out).mono ?_)
  rintro e w6 hp
  obtain ⟨A7, m8, c9, es10, rfl, g9, ho, hb⟩ := q_parts2 hp
  clear hp
  obtain rfl : n = m8 := (by have h1 := ho.len; have h2 := congrArg List.length g9; have h3 := HLN.out; simp at h2; omega)
  have HE11 := Lib.hid g9
  clear g9
  have F12 := Lib.hid ho
  clear ho
  have S14 := Lib.hid (hb.size)
  have B13 := Lib.hid (B2.out.trans (hb.mono B2.out.size))
  clear B2
  have F15 := Lib.hid (F4.out.below hb)
  clear F4
  have F16 := Lib.hid (F5.out.below hb)
  clear F5
  clear hb
  go_wp2_with fail
  (with_reducible refine (specVq ms d A7 n c9 _ _ _ (rq_of HE11.out F12.out)).mono ?_)
  rintro e w17 hp
  obtain ⟨rfl, hb⟩ := b_parts VB.out hp
  clear hp
  have S19 := Lib.hid (hb.size)
  have B18 := Lib.hid (B13.out.trans (hb.mono B13.out.size))
  clear B13
  have F20 := Lib.hid (F15.out.below hb)
  clear F15
  have F21 := Lib.hid (F16.out.below hb)
  clear F16
  have F22 := Lib.hid (F12.out.below hb)
  clear F12
  clear hb
  clear F22
  have cc0_0 : w17.cell? ⟨w.heap.size, 0, none⟩ = some (.slice A n cap) := F20.out.cell 0
  have cc0_1 : w17.cell? ⟨w.heap.size, 1, none⟩ = some (.int .i64 d) := F20.out.cell 1
  go_wp2_with fail
  clear cc0_0 cc0_1
  (with_reducible refine (toQue ms d A n cap _ _ HN.out HBD.out _ F21.out).mono ?_)
  rintro e w23 hp
  obtain ⟨A24, m25, c26, es27, rfl, g9, ho, hb⟩ := q_parts2 hp
  clear hp
  obtain rfl : n = m25 := (by have h1 := ho.len; have h2 := congrArg List.length g9; have h3 := HLN.out; simp at h2; omega)
  have HE28 := Lib.hid g9
  clear g9
  have F29 := Lib.hid ho
  clear ho
  have S31 := Lib.hid (hb.size)
  have B30 := Lib.hid (B18.out.trans (hb.mono B18.out.size))
  clear B18
  have F32 := Lib.hid (F20.out.below hb)
  clear F20
  have F33 := Lib.hid (F21.out.below hb)
  clear F21
  clear hb
  obtain ⟨V34, hV34⟩ : ∃ x, x = w23.alloc (.cells #[.slice A24 n c26, .int .i64 d] 26) := ⟨_, rfl⟩
  have hbV34 : Below w23.heap.size w23 V34 := by rw [hV34]; exact bx.below_box _ _
  have S35 := Lib.hid (show w23.heap.size + 1 ≤ V34.heap.size by rw [hV34]; simp)
  have S37 := Lib.hid (hbV34.size)
  have B36 := Lib.hid (B30.out.trans (hbV34.mono B30.out.size))
  clear B30
  have F38 := Lib.hid (F32.out.below hbV34)
  clear F32
  have F39 := Lib.hid (F33.out.below hbV34)
  clear F33
  have F40 := Lib.hid (F29.out.below hbV34)
  clear F29
  have X41 := Lib.hid (show bx.Bx 26 V34 w23.heap.size #[.slice A24 n c26, .int .i64 d] by rw [hV34]; exact bx.Bx.made _ _ _)
  clear hbV34
  go_wp2_with fail
  rw [← hV34]
  clear hV34 
  (with_reducible refine (implVq ms d A24 n c26 _ _ _ (rq_of HE28.out F40.out)).mono ?_)
  rintro e w42 hp
  obtain ⟨rfl, hb⟩ := b_parts VB.out hp
  clear hp
  have S44 := Lib.hid (hb.size)
  have B43 := Lib.hid (B36.out.trans (hb.mono B36.out.size))
  clear B36
  have F45 := Lib.hid (F38.out.below hb)
  clear F38
  have F46 := Lib.hid (F39.out.below hb)
  clear F39
  have F47 := Lib.hid (F40.out.below hb)
  clear F40
  have F48 := Lib.hid (X41.out.below hb)
  clear X41
  clear hb
  go_wp2_with fail
  have hbd : Below w42.heap.size w42 w42.drew := own.below_drew (Below.refl _ _)
  have S50 := Lib.hid (hbd.size)
  have B49 := Lib.hid (B43.out.trans (hbd.mono B43.out.size))
  clear B43
  have F51 := Lib.hid (F45.out.below hbd)
  clear F45
  have F52 := Lib.hid (F46.out.below hbd)
  clear F46
  have F53 := Lib.hid (F47.out.below hbd)
  clear F47
  have F54 := Lib.hid (F48.out.below hbd)
  clear F48
  clear hbd
  have ca0_0 : w42.drew.cell? ⟨w23.heap.size, 0, none⟩ = some (.slice A24 n c26) := F54.out.cell 0
  have ca0_1 : w42.drew.cell? ⟨w23.heap.size, 1, none⟩ = some (.int .i64 d) := F54.out.cell 1
  have ca1_0 : w42.drew.cell? ⟨w.heap.size, 0, none⟩ = some (.slice A n cap) := F51.out.cell 0
  have ca1_1 : w42.drew.cell? ⟨w.heap.size, 1, none⟩ = some (.int .i64 d) := F51.out.cell 1
  go_region_held3 (fun w' => w'.cell? ⟨w23.heap.size, 0, none⟩ = some (.slice A24 n c26) ∧ w'.cell? ⟨w23.heap.size, 1, none⟩ = some (.int .i64 d) ∧ w'.cell? ⟨w.heap.size, 0, none⟩ = some (.slice A n cap) ∧ w'.cell? ⟨w.heap.size, 1, none⟩ = some (.int .i64 d)) (first | (with_reducible exact ⟨ca0_0, ca0_1, ca1_0, ca1_1⟩) | (with_reducible exact ⟨cb0_0, cb0_1, cb1_0, cb1_1⟩) | (with_reducible exact ⟨cd0_0, cd0_1, cd1_0, cd1_1⟩))
    (first
    | (go_at_call 33; refine (toQue ms d A n cap _ _ HN.out HBD.out _ F52.out).mono ?_; rintro e w55 hp; obtain ⟨A57, m58, c59, es60, rfl, g9, ho, hb⟩ := q_parts2 hp; clear hp; obtain rfl : n = m58 := (by have h1 := ho.len; have h2 := congrArg List.length g9; have h3 := HLN.out; simp at h2; omega); have HE61 := Lib.hid g9; clear g9; have F62 := Lib.hid ho; clear ho; have S64 := Lib.hid (hb.size); have B63 := Lib.hid (B49.out.trans (hb.mono B49.out.size)); clear B49; have F65 := Lib.hid (F51.out.below hb); clear F51; have F66 := Lib.hid (F52.out.below hb); clear F52; have F67 := Lib.hid (F53.out.below hb); clear F53; have F68 := Lib.hid (F54.out.below hb); clear F54; clear hb; have cb0_0 : w55.cell? ⟨w23.heap.size, 0, none⟩ = some (.slice A24 n c26) := F68.out.cell 0; have cb0_1 : w55.cell? ⟨w23.heap.size, 1, none⟩ = some (.int .i64 d) := F68.out.cell 1; have cb1_0 : w55.cell? ⟨w.heap.size, 0, none⟩ = some (.slice A n cap) := F65.out.cell 0; have cb1_1 : w55.cell? ⟨w.heap.size, 1, none⟩ = some (.int .i64 d) := F65.out.cell 1)
    | (go_at_call 34; refine (eqQue_yes ms d A24 A57 n c26 n c59 _ _ _ _ _ (rq_of HE28.out F67.out) (rq_of HE61.out F62.out)).mono ?_; rintro e w56 ⟨rfl, hb⟩; have S70 := Lib.hid (hb.size); have B69 := Lib.hid (B63.out.trans (hb.mono B63.out.size)); clear B63; have F71 := Lib.hid (F65.out.below hb); clear F65; have F72 := Lib.hid (F66.out.below hb); clear F66; have F73 := Lib.hid (F67.out.below hb); clear F67; have F74 := Lib.hid (F68.out.below hb); clear F68; clear hb; have cd0_0 : w56.cell? ⟨w23.heap.size, 0, none⟩ = some (.slice A24 n c26) := F74.out.cell 0; have cd0_1 : w56.cell? ⟨w23.heap.size, 1, none⟩ = some (.int .i64 d) := F74.out.cell 1; have cd1_0 : w56.cell? ⟨w.heap.size, 0, none⟩ = some (.slice A n cap) := F71.out.cell 0; have cd1_1 : w56.cell? ⟨w.heap.size, 1, none⟩ = some (.int .i64 d) := F71.out.cell 1))
  clear ca0_0 ca0_1 ca1_0 ca1_1 cb0_0 cb0_1 cb1_0 cb1_1 cd0_0 cd0_1 cd1_0 cd1_1
  go_wp2_with fail
  go_ret
  exact ⟨rfl, B69.out⟩
end Go.Proofs.Ytbifggfmfiocoaa.xExactIsValidQueue
