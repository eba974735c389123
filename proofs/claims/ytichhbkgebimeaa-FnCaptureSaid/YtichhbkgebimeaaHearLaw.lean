/- The law function of hearing (FnHearing) returns true and leaves what was there. Condition: the argument is a slice of bytes that came in. -/
import Derived.Test.YtichhbkgebimeaaDrawR
import Derived.Test.YtichhbkgebimeaaRc2
import Derived.Test.YtichhbkgebimeaaRfm
import Derived.Deep.RegionHeld3
namespace Go.Proofs.Ytichhbkgebimeaa.hearLaw
open Go.RowKit sl harn plm rfm draw
set_option linter.unusedVariables false
set_option linter.unusedSimpArgs false
theorem sm_of_in {lo hi : Int} {z : List Int} (h : In lo hi z) (h1 : -1073741824 ≤ lo) (h2 : hi ≤ 1073741824) : Sm z := fun x hx => by have := h x hx; omega
theorem vpl_of {z : List Int} {x y : Int} (hl : 1 ≤ z.length ∧ z.length ≤ 6) (h : In 0 75 z) (hx : 10 ≤ x ∧ x ≤ y ∧ y ≤ 60) : bx.vpl z x y = true := by
  unfold bx.vpl
  rw [decide_eq_true (by omega), decide_eq_true (by omega), decide_eq_true (by omega)]
  have : bm.inr z 0 1000 = true := (bm.inr_iff _ _ _).2 fun v hv => by have := h v hv; omega
  rw [this]; rfl
theorem dst_self {z : List Int} (h : Sm z) {a : Int} (ha : plc z a = true) : dst z a a = 0 := by
  rw [(dst_sm h ha ha).1]; unfold mx mn; split <;> omega
theorem dst_tri {z : List Int} (h : Sm z) {a b c : Int} (ha : plc z a = true) (hb : plc z b = true) (hc : plc z c = true) : dst z a c ≤ dst z a b + dst z b c := by
  rw [(dst_sm h ha hc).1, (dst_sm h ha hb).1, (dst_sm h hb hc).1]
  unfold mx mn
  split <;> split <;> split <;> split <;> split <;> split <;> omega
theorem dst_top {z : List Int} (h : In 0 75 z) {a b : Int} (ha : plc z a = true) (hb : plc z b = true) : 0 ≤ dst z a b ∧ dst z a b ≤ 75 := by
  have hs : Sm z := sm_of_in h (by omega) (by omega)
  have h1 : 0 ≤ at_ z a ∧ at_ z a ≤ 75 := by obtain ⟨i, rfl, hi⟩ := plc_nat ha rfl; rw [at_nat]; exact h _ (mem_getD hi)
  have h2 : 0 ≤ at_ z b ∧ at_ z b ≤ 75 := by obtain ⟨i, rfl, hi⟩ := plc_nat hb rfl; rw [at_nat]; exact h _ (mem_getD hi)
  rw [(dst_sm hs ha hb).1]
  unfold mx mn
  split <;> split <;> omega
theorem mem_nbs (z : List Int) (l a b : Int) : b ∈ nbs z l a z.length ↔ win z l a b = true := by
  rw [nbs_mem]
  constructor
  · rintro ⟨i, _, rfl, h⟩; exact h
  · intro h
    obtain ⟨i, rfl, hi⟩ := plc_nat (win_iff.1 h).2.2.1 rfl
    exact ⟨i, hi, rfl, h⟩
theorem hdn_comm (z : List Int) (r s a b q : Int) : hdn z r s b a q = hdn z r s a b q := by
  unfold hdn
  rw [win_comm z s b a]
  exact decide_eq_decide.2 ⟨fun ⟨h1, h2, h3, h4⟩ => ⟨fun e => h1 e.symm, h3, h2, h4⟩, fun ⟨h1, h2, h3, h4⟩ => ⟨fun e => h1 e.symm, h3, h2, h4⟩⟩
theorem win_wide {z : List Int} {r s a b : Int} (h : win z r a b = true) (hs : r ≤ s) : win z s a b = true := by
  obtain ⟨h1, h2, h3, h4⟩ := win_iff.1 h
  exact win_iff.2 ⟨h1, h2, h3, by omega⟩

set_option maxRecDepth 100000 in
set_option maxHeartbeats 4000000 in
theorem walk (a : Option Addr) (len cap : Nat) (z0 : List Int) (w : World) (r0 : kit.IsRow .u8 w a len cap z0) :
    Calls Try.prog 3 #[.slice a len cap] w fun e w' => e = .returned (.bool true) ∧ Below w.heap.size w w' := by
  have HC := Lib.hid (draw.code_of_row r0)
  have hlen : (len : Int) ≤ 9223372036854775807 := by have := HC.out.1; omega
  clear r0
  by_cases hbig : 1048576 < (len : Int)
  · go_enter Try.func3, Try.ntmps3
    go_wp2
    go_ret
    exact ⟨rfl, Below.refl _ _⟩
  go_enter Try.func3, Try.ntmps3
  go_wp2_with (go_at_call 12; go_in)
  clear hbig
  go_wp2_with fail
  (with_reducible refine (placed a len cap _ HC.out).mono ?_)
  rintro e w1 ⟨A, n, c, x, y, z, i, j, k, rfl, hn, hin, ⟨hi, hj, hk⟩, ho, hb⟩
  go_wp2_with fail
  have hl := ho.len
  have HI := Lib.hid hin
  have HN := Lib.hid hn
  have PI := Lib.hid (show plc z i = true from plc_iff.2 (by omega))
  have PJ := Lib.hid (show plc z j = true from plc_iff.2 (by omega))
  have PK := Lib.hid (show plc z k = true from plc_iff.2 (by omega))
  have HS := Lib.hid (sm_of_in hin (by omega) (by omega))
  have HV := Lib.hid (vpl_of (z := z) (x := x) (y := y) (by omega) hin (by omega))
  have HL := Lib.hid (show n ≤ 67108864 by omega)
  have HXY := Lib.hid (show x ≤ y by omega)
  obtain ⟨b, hbb⟩ : ∃ b, w1.heap.size = b := ⟨_, rfl⟩
  obtain ⟨w2, hW⟩ : ∃ u, w1.alloc (.cells #[.slice A n c, .int .i64 x, .int .i64 y] 26) = u := ⟨_, rfl⟩
  try rw [hbb]
  try rw [hW]
  have B2 := Lib.hid (show Below w.heap.size w w2 by rw [← hW]; exact hb.alloc hb.size _)
  have X2 := Lib.hid (show bx.Bx 26 w2 b #[.slice A n c, .int .i64 x, .int .i64 y] by rw [← hW, ← hbb]; exact bx.Bx.made _ _ _)
  have R2 := Lib.hid (show Rd .i64 w2 w.heap.size w1.heap.size A n c z by rw [← hW]; exact ho.rd.below (bx.below_box _ _))
  clear hn hin hi hj hk ho hb hl hbb hW HC
  obtain ⟨d1, hd1⟩ : ∃ d, dst z i j = d := ⟨_, rfl⟩
  obtain ⟨d2, hd2⟩ : ∃ d, dst z j k = d := ⟨_, rfl⟩
  obtain ⟨d3, hd3⟩ : ∃ d, dst z i k = d := ⟨_, rfl⟩
  have r1 := dst_top HI.out PI.out PJ.out
  have r2 := dst_top HI.out PJ.out PK.out
  have r3 := dst_tri HS.out PI.out PJ.out PK.out
  rw [hd1] at r1
  rw [hd2] at r2
  rw [hd1, hd2, hd3] at r3
  have HD1 := Lib.hid hd1
  have HD2 := Lib.hid hd2
  have HD3 := Lib.hid hd3
  have HD4 := Lib.hid (show dst z j i = d1 by rw [dst_comm]; exact hd1)
  have HD5 := Lib.hid (dst_self HS.out PI.out)
  have m1 : IntKind.i64.wrap (d1 + d2) = d1 + d2 := IntWalk.i64_in _ (by omega)
  have hf1 : decide (d1 + d2 < d3) = false := decide_eq_false (by omega)
  clear hd1 hd2 hd3 r1 r2 r3
  have c0 : ∀ m : bx.Af w2, m.w.cell? ⟨b, 0, none⟩ = some (.slice A n c) := fun m => (bx.Af.cells X2.out m).cell 0
  have c1 : ∀ m : bx.Af w2, m.w.cell? ⟨b, 1, none⟩ = some (.int .i64 x) := fun m => (bx.Af.cells X2.out m).cell 1
  have c2 : ∀ m : bx.Af w2, m.w.cell? ⟨b, 2, none⟩ = some (.int .i64 y) := fun m => (bx.Af.cells X2.out m).cell 2
  have k0 := Lib.hid (fun m => by have hh := bx.implVp A n c x y z _ _ _ (bx.Af.rd R2.out m); rw [HV.out] at hh; exact hh : ∀ m : bx.Af w2, Calls Try.prog 14 #[.agg #[.slice A n c, .int .i64 x, .int .i64 y]] m.w fun e w' => e = .returned (.bool true) ∧ Below m.w.heap.size m.w w')
  have k1 := Lib.hid (fun m => by have hh := bx.implDst A n c x y z i j _ _ _ (bx.Af.rd R2.out m); rw [HD1.out] at hh; exact hh : ∀ m : bx.Af w2, Calls Try.prog 15 #[.agg #[.slice A n c, .int .i64 x, .int .i64 y], .int .i64 i, .int .i64 j] m.w fun e w' => e = .returned (.int .i64 d1) ∧ Below m.w.heap.size m.w w')
  have k2 := Lib.hid (fun m => by have hh := bx.implDst A n c x y z j i _ _ _ (bx.Af.rd R2.out m); rw [HD4.out] at hh; exact hh : ∀ m : bx.Af w2, Calls Try.prog 15 #[.agg #[.slice A n c, .int .i64 x, .int .i64 y], .int .i64 j, .int .i64 i] m.w fun e w' => e = .returned (.int .i64 d1) ∧ Below m.w.heap.size m.w w')
  have k3 := Lib.hid (fun m => by have hh := bx.implDst A n c x y z i k _ _ _ (bx.Af.rd R2.out m); rw [HD3.out] at hh; exact hh : ∀ m : bx.Af w2, Calls Try.prog 15 #[.agg #[.slice A n c, .int .i64 x, .int .i64 y], .int .i64 i, .int .i64 k] m.w fun e w' => e = .returned (.int .i64 d3) ∧ Below m.w.heap.size m.w w')
  have k4 := Lib.hid (fun m => by have hh := bx.implDst A n c x y z j k _ _ _ (bx.Af.rd R2.out m); rw [HD2.out] at hh; exact hh : ∀ m : bx.Af w2, Calls Try.prog 15 #[.agg #[.slice A n c, .int .i64 x, .int .i64 y], .int .i64 j, .int .i64 k] m.w fun e w' => e = .returned (.int .i64 d2) ∧ Below m.w.heap.size m.w w')
  have k5 := Lib.hid (fun m => by have hh := bx.implDst A n c x y z i i _ _ _ (bx.Af.rd R2.out m); rw [HD5.out] at hh; exact hh : ∀ m : bx.Af w2, Calls Try.prog 15 #[.agg #[.slice A n c, .int .i64 x, .int .i64 y], .int .i64 i, .int .i64 i] m.w fun e w' => e = .returned (.int .i64 0) ∧ Below m.w.heap.size m.w w')
  refine bx.region_after (by kernel_rfl) (by kernel_rfl) ?_
  repeat (go_big_quiet_step ((first
    | (go_at_call 14; with_reducible exact bx.Af.call (k0.out _))
    | (go_at_call 15; with_reducible exact bx.Af.call (k1.out _))
    | (go_at_call 15; with_reducible exact bx.Af.call (k2.out _))
    | (go_at_call 15; with_reducible exact bx.Af.call (k3.out _))
    | (go_at_call 15; with_reducible exact bx.Af.call (k4.out _))
    | (go_at_call 15; with_reducible exact bx.Af.call (k5.out _)))))
  refine wpQuiet_nil ?_
  intro _ hw'
  obtain ⟨nq, hw''⟩ := hw'
  subst hw''
  clear c0 c1 c2 k0 k1 k2 k3 k4 k5
  clear m1 hf1
  obtain ⟨w3, hW⟩ : ∃ u, nq.w = u := ⟨_, rfl⟩
  have hq : Below w2.heap.size w2 w3 := by rw [← hW]; exact nq.below
  rw [hW]
  have B3 := Lib.hid (B2.out.trans (hq.mono B2.out.size))
  have X3 := Lib.hid (X2.out.below hq)
  have R3 := Lib.hid (R2.out.below hq)
  clear hW hq nq B2 X2 R2
  clear HD2 HD3 HD4 HD5 HV
  go_wp2_with fail
  by_cases hij : i = j
  · have hn1 : (i == j) = true := by simpa using hij
    have hn2 : (i != j) = false := by simp [hij]
    have W1 := Lib.hid (win_no0 (z := z) (l := x) hij)
    have W2 := Lib.hid (win_no0 (z := z) (l := x) hij.symm)
    have WN := Lib.hid (show decide (j ∈ nbs z x i z.length) = false from decide_eq_false fun h => by have := (mem_nbs z x i j).1 h; rw [W1.out] at this; cases this)
    have HE := Lib.hid hij
    clear hij
    have hbd : Below w3.heap.size w3 w3.drew := Below.of_drew _
    have BA0 := Lib.hid (B3.out.trans (hbd.mono B3.out.size))
    have XA0 := Lib.hid (X3.out.below hbd)
    have RA0 := Lib.hid (R3.out.below hbd)
    clear hbd B3 X3 R3
    have e0_0 : w3.drew.cell? ⟨b, 0, none⟩ = some (.slice A n c) := XA0.out.cell 0
    have e0_1 : w3.drew.cell? ⟨b, 1, none⟩ = some (.int .i64 x) := XA0.out.cell 1
    have e0_2 : w3.drew.cell? ⟨b, 2, none⟩ = some (.int .i64 y) := XA0.out.cell 2
    refine wp_region_held_drew (S := fun w' => w'.cell? ⟨b, 0, none⟩ = some (.slice A n c) ∧ w'.cell? ⟨b, 1, none⟩ = some (.int .i64 x) ∧ w'.cell? ⟨b, 2, none⟩ = some (.int .i64 y)) (by kernel_rfl) ⟨e0_0, e0_1, e0_2⟩ (fun hHeld => ?_)
    refine wpAnyH_take (i := 0) (v := ?va0) rfl (by kernel_rfl) (by kernel_rfl) (by kernel_rfl) (fun _ _ _ h => h) (Or.inl ⟨by rfl, ?hya0⟩) (by assumption) ?resta0
    case hya0 => (intro u hSu; (try dsimp only at hSu); go_simp; try with_reducible rfl)
    try simp only [Act.put, List.setIfInBounds_toArray, List.set_cons_zero, List.set_cons_succ, List.getElem_toArray, List.getElem_cons_succ, List.getElem_cons_zero]
    refine wpAnyH_take (i := 1) (v := ?va1) rfl (by kernel_rfl) (by kernel_rfl) (by kernel_rfl) (fun _ _ _ h => h) (Or.inl ⟨by rfl, ?hya1⟩) (by assumption) ?resta1
    case hya1 => (intro u hSu; (try dsimp only at hSu); go_simp; try with_reducible rfl)
    try simp only [Act.put, List.setIfInBounds_toArray, List.set_cons_zero, List.set_cons_succ, List.getElem_toArray, List.getElem_cons_succ, List.getElem_cons_zero]
    refine wpAnyH_take (i := 2) (v := ?va2) rfl (by kernel_rfl) (by kernel_rfl) (by kernel_rfl) (fun _ _ _ h => h) (Or.inl ⟨by rfl, ?hya2⟩) (by assumption) ?resta2
    case hya2 => (intro u hSu; (try dsimp only at hSu); go_simp; try with_reducible rfl)
    try simp only [Act.put, List.setIfInBounds_toArray, List.set_cons_zero, List.set_cons_succ, List.getElem_toArray, List.getElem_cons_succ, List.getElem_cons_zero]
    refine wpAnyH_take (i := 4) (v := ?va4) rfl (by kernel_rfl) (by kernel_rfl) (by kernel_rfl) (fun _ _ _ h => h) (Or.inl ⟨by rfl, ?hya4⟩) (by assumption) ?resta4
    case hya4 => (intro u hSu; (try dsimp only at hSu); go_simp; try with_reducible rfl)
    try simp only [Act.put, List.setIfInBounds_toArray, List.set_cons_zero, List.set_cons_succ, List.getElem_toArray, List.getElem_cons_succ, List.getElem_cons_zero]
    refine wpAnyH_take (i := 5) (v := ?va5) rfl (by kernel_rfl) (by kernel_rfl) (by kernel_rfl) (fun _ _ _ h => h) (Or.inl ⟨by rfl, ?hya5⟩) (by assumption) ?resta5
    case hya5 => (intro u hSu; (try dsimp only at hSu); go_simp; try with_reducible rfl)
    try simp only [Act.put, List.setIfInBounds_toArray, List.set_cons_zero, List.set_cons_succ, List.getElem_toArray, List.getElem_cons_succ, List.getElem_cons_zero]
    refine wpAnyH_take (i := 6) (v := ?va6) rfl (by kernel_rfl) (by kernel_rfl) (by kernel_rfl) (fun _ _ _ h => h) (Or.inl ⟨by rfl, ?hya6⟩) (by assumption) ?resta6
    case hya6 => (intro u hSu; (try dsimp only at hSu); go_simp; try with_reducible rfl)
    try simp only [Act.put, List.setIfInBounds_toArray, List.set_cons_zero, List.set_cons_succ, List.getElem_toArray, List.getElem_cons_succ, List.getElem_cons_zero]
    refine wpAnyH_ready (rs := [3]) (by kernel_rfl) (by simp) ?_
    refine AllReadyH.cons rfl (fun K hK => ?_) AllReadyH.nil
    go_simp
    refine (bx.implCr A n c x y z i j _ _ _ RA0.out).mono ?_
    rintro e v1 hp
    obtain ⟨rfl, hb⟩ := bx.b_parts W1.out hp
    clear hp
    have BA1 := Lib.hid (BA0.out.trans (hb.mono BA0.out.size))
    have XA1 := Lib.hid (XA0.out.below hb)
    have RA1 := Lib.hid (RA0.out.below hb)
    clear hb BA0 XA0 RA0
    have e1_0 : v1.cell? ⟨b, 0, none⟩ = some (.slice A n c) := XA1.out.cell 0
    have e1_1 : v1.cell? ⟨b, 1, none⟩ = some (.int .i64 x) := XA1.out.cell 1
    have e1_2 : v1.cell? ⟨b, 2, none⟩ = some (.int .i64 y) := XA1.out.cell 2
    refine hK.out _ _ ⟨e1_0, e1_1, e1_2⟩ (fun hHeld => ?_)
    clear hK K
    try simp only [Act.put, List.setIfInBounds_toArray, List.set_cons_zero, List.set_cons_succ, List.getElem_toArray, List.getElem_cons_succ, List.getElem_cons_zero]
    refine wpAnyH_take (i := 7) (v := ?va7) rfl (by kernel_rfl) (by kernel_rfl) (by kernel_rfl) (fun _ _ _ h => h) (Or.inl ⟨by rfl, ?hya7⟩) (by assumption) ?resta7
    case hya7 => (intro u hSu; (try dsimp only at hSu); go_simp; try with_reducible rfl)
    try simp only [Act.put, List.setIfInBounds_toArray, List.set_cons_zero, List.set_cons_succ, List.getElem_toArray, List.getElem_cons_succ, List.getElem_cons_zero]
    refine wpAnyH_take (i := 8) (v := undef) rfl (by kernel_rfl) (by kernel_rfl) (by kernel_rfl) (fun _ _ _ h => h) (Or.inr ⟨by rfl, rfl⟩) (by assumption) ?_
    try simp only [Act.put, List.setIfInBounds_toArray, List.set_cons_zero, List.set_cons_succ, List.getElem_toArray, List.getElem_cons_succ, List.getElem_cons_zero]
    refine wpAnyH_take (i := 9) (v := undef) rfl (by kernel_rfl) (by kernel_rfl) (by kernel_rfl) (fun _ _ _ h => h) (Or.inr ⟨by rfl, rfl⟩) (by assumption) ?_
    try simp only [Act.put, List.setIfInBounds_toArray, List.set_cons_zero, List.set_cons_succ, List.getElem_toArray, List.getElem_cons_succ, List.getElem_cons_zero]
    refine wpAnyH_take (i := 10) (v := undef) rfl (by kernel_rfl) (by kernel_rfl) (by kernel_rfl) (fun _ _ _ h => h) (Or.inr ⟨by rfl, rfl⟩) (by assumption) ?_
    try simp only [Act.put, List.setIfInBounds_toArray, List.set_cons_zero, List.set_cons_succ, List.getElem_toArray, List.getElem_cons_succ, List.getElem_cons_zero]
    refine wpAnyH_take (i := 11) (v := undef) rfl (by kernel_rfl) (by kernel_rfl) (by kernel_rfl) (fun _ _ _ h => h) (Or.inr ⟨by rfl, rfl⟩) (by assumption) ?_
    try simp only [Act.put, List.setIfInBounds_toArray, List.set_cons_zero, List.set_cons_succ, List.getElem_toArray, List.getElem_cons_succ, List.getElem_cons_zero]
    refine wpAnyH_take (i := 12) (v := undef) rfl (by kernel_rfl) (by kernel_rfl) (by kernel_rfl) (fun _ _ _ h => h) (Or.inr ⟨by rfl, rfl⟩) (by assumption) ?_
    try simp only [Act.put, List.setIfInBounds_toArray, List.set_cons_zero, List.set_cons_succ, List.getElem_toArray, List.getElem_cons_succ, List.getElem_cons_zero]
    refine wpAnyH_take (i := 13) (v := undef) rfl (by kernel_rfl) (by kernel_rfl) (by kernel_rfl) (fun _ _ _ h => h) (Or.inr ⟨by rfl, rfl⟩) (by assumption) ?_
    try simp only [Act.put, List.setIfInBounds_toArray, List.set_cons_zero, List.set_cons_succ, List.getElem_toArray, List.getElem_cons_succ, List.getElem_cons_zero]
    refine wpAnyH_take (i := 14) (v := undef) rfl (by kernel_rfl) (by kernel_rfl) (by kernel_rfl) (fun _ _ _ h => h) (Or.inr ⟨by rfl, rfl⟩) (by assumption) ?_
    try simp only [Act.put, List.setIfInBounds_toArray, List.set_cons_zero, List.set_cons_succ, List.getElem_toArray, List.getElem_cons_succ, List.getElem_cons_zero]
    refine wpAnyH_take (i := 15) (v := ?va15) rfl (by kernel_rfl) (by kernel_rfl) (by kernel_rfl) (fun _ _ _ h => h) (Or.inl ⟨by rfl, ?hya15⟩) (by assumption) ?resta15
    case hya15 => (intro u hSu; (try dsimp only at hSu); go_simp; try with_reducible rfl)
    try simp only [Act.put, List.setIfInBounds_toArray, List.set_cons_zero, List.set_cons_succ, List.getElem_toArray, List.getElem_cons_succ, List.getElem_cons_zero]
    refine wpAnyH_take (i := 16) (v := ?va16) rfl (by kernel_rfl) (by kernel_rfl) (by kernel_rfl) (fun _ _ _ h => h) (Or.inl ⟨by rfl, ?hya16⟩) (by assumption) ?resta16
    case hya16 => (intro u hSu; (try dsimp only at hSu); go_simp; try with_reducible rfl)
    try simp only [Act.put, List.setIfInBounds_toArray, List.set_cons_zero, List.set_cons_succ, List.getElem_toArray, List.getElem_cons_succ, List.getElem_cons_zero]
    refine wpAnyH_take (i := 17) (v := ?va17) rfl (by kernel_rfl) (by kernel_rfl) (by kernel_rfl) (fun _ _ _ h => h) (Or.inl ⟨by rfl, ?hya17⟩) (by assumption) ?resta17
    case hya17 => (intro u hSu; (try dsimp only at hSu); go_simp; try with_reducible rfl)
    try simp only [Act.put, List.setIfInBounds_toArray, List.set_cons_zero, List.set_cons_succ, List.getElem_toArray, List.getElem_cons_succ, List.getElem_cons_zero]
    refine wpAnyH_take (i := 18) (v := ?va18) rfl (by kernel_rfl) (by kernel_rfl) (by kernel_rfl) (fun _ _ _ h => h) (Or.inl ⟨by rfl, ?hya18⟩) (by assumption) ?resta18
    case hya18 => (intro u hSu; (try dsimp only at hSu); go_simp; try with_reducible rfl)
    try simp only [Act.put, List.setIfInBounds_toArray, List.set_cons_zero, List.set_cons_succ, List.getElem_toArray, List.getElem_cons_succ, List.getElem_cons_zero]
    refine wpAnyH_take (i := 19) (v := ?va19) rfl (by kernel_rfl) (by kernel_rfl) (by kernel_rfl) (fun _ _ _ h => h) (Or.inl ⟨by rfl, ?hya19⟩) (by assumption) ?resta19
    case hya19 => (intro u hSu; (try dsimp only at hSu); go_simp; try with_reducible rfl)
    try simp only [Act.put, List.setIfInBounds_toArray, List.set_cons_zero, List.set_cons_succ, List.getElem_toArray, List.getElem_cons_succ, List.getElem_cons_zero]
    refine wpAnyH_take (i := 20) (v := ?va20) rfl (by kernel_rfl) (by kernel_rfl) (by kernel_rfl) (fun _ _ _ h => h) (Or.inl ⟨by rfl, ?hya20⟩) (by assumption) ?resta20
    case hya20 => (intro u hSu; (try dsimp only at hSu); go_simp; try with_reducible rfl)
    try simp only [Act.put, List.setIfInBounds_toArray, List.set_cons_zero, List.set_cons_succ, List.getElem_toArray, List.getElem_cons_succ, List.getElem_cons_zero]
    refine wpAnyH_ready (rs := [21]) (by kernel_rfl) (by simp) ?_
    refine AllReadyH.cons rfl (fun K hK => ?_) AllReadyH.nil
    go_simp
    refine (bx.implCr A n c x y z i j _ _ _ RA1.out).mono ?_
    rintro e v2 hp
    obtain ⟨rfl, hb⟩ := bx.b_parts W1.out hp
    clear hp
    have BA2 := Lib.hid (BA1.out.trans (hb.mono BA1.out.size))
    have XA2 := Lib.hid (XA1.out.below hb)
    have RA2 := Lib.hid (RA1.out.below hb)
    clear hb BA1 XA1 RA1
    have e2_0 : v2.cell? ⟨b, 0, none⟩ = some (.slice A n c) := XA2.out.cell 0
    have e2_1 : v2.cell? ⟨b, 1, none⟩ = some (.int .i64 x) := XA2.out.cell 1
    have e2_2 : v2.cell? ⟨b, 2, none⟩ = some (.int .i64 y) := XA2.out.cell 2
    refine hK.out _ _ ⟨e2_0, e2_1, e2_2⟩ (fun hHeld => ?_)
    clear hK K
    try simp only [Act.put, List.setIfInBounds_toArray, List.set_cons_zero, List.set_cons_succ, List.getElem_toArray, List.getElem_cons_succ, List.getElem_cons_zero]
    refine wpAnyH_take (i := 22) (v := ?va22) rfl (by kernel_rfl) (by kernel_rfl) (by kernel_rfl) (fun _ _ _ h => h) (Or.inl ⟨by rfl, ?hya22⟩) (by assumption) ?resta22
    case hya22 => (intro u hSu; (try dsimp only at hSu); go_simp; try with_reducible rfl)
    try simp only [Act.put, List.setIfInBounds_toArray, List.set_cons_zero, List.set_cons_succ, List.getElem_toArray, List.getElem_cons_succ, List.getElem_cons_zero]
    refine wpAnyH_take (i := 23) (v := undef) rfl (by kernel_rfl) (by kernel_rfl) (by kernel_rfl) (fun _ _ _ h => h) (Or.inr ⟨by rfl, rfl⟩) (by assumption) ?_
    try simp only [Act.put, List.setIfInBounds_toArray, List.set_cons_zero, List.set_cons_succ, List.getElem_toArray, List.getElem_cons_succ, List.getElem_cons_zero]
    refine wpAnyH_take (i := 24) (v := undef) rfl (by kernel_rfl) (by kernel_rfl) (by kernel_rfl) (fun _ _ _ h => h) (Or.inr ⟨by rfl, rfl⟩) (by assumption) ?_
    try simp only [Act.put, List.setIfInBounds_toArray, List.set_cons_zero, List.set_cons_succ, List.getElem_toArray, List.getElem_cons_succ, List.getElem_cons_zero]
    refine wpAnyH_take (i := 25) (v := undef) rfl (by kernel_rfl) (by kernel_rfl) (by kernel_rfl) (fun _ _ _ h => h) (Or.inr ⟨by rfl, rfl⟩) (by assumption) ?_
    try simp only [Act.put, List.setIfInBounds_toArray, List.set_cons_zero, List.set_cons_succ, List.getElem_toArray, List.getElem_cons_succ, List.getElem_cons_zero]
    refine wpAnyH_take (i := 26) (v := undef) rfl (by kernel_rfl) (by kernel_rfl) (by kernel_rfl) (fun _ _ _ h => h) (Or.inr ⟨by rfl, rfl⟩) (by assumption) ?_
    try simp only [Act.put, List.setIfInBounds_toArray, List.set_cons_zero, List.set_cons_succ, List.getElem_toArray, List.getElem_cons_succ, List.getElem_cons_zero]
    refine wpAnyH_take (i := 27) (v := undef) rfl (by kernel_rfl) (by kernel_rfl) (by kernel_rfl) (fun _ _ _ h => h) (Or.inr ⟨by rfl, rfl⟩) (by assumption) ?_
    try simp only [Act.put, List.setIfInBounds_toArray, List.set_cons_zero, List.set_cons_succ, List.getElem_toArray, List.getElem_cons_succ, List.getElem_cons_zero]
    refine wpAnyH_take (i := 28) (v := ?va28) rfl (by kernel_rfl) (by kernel_rfl) (by kernel_rfl) (fun _ _ _ h => h) (Or.inl ⟨by rfl, ?hya28⟩) (by assumption) ?resta28
    case hya28 => (intro u hSu; (try dsimp only at hSu); go_simp; try with_reducible rfl)
    try simp only [Act.put, List.setIfInBounds_toArray, List.set_cons_zero, List.set_cons_succ, List.getElem_toArray, List.getElem_cons_succ, List.getElem_cons_zero]
    refine wpAnyH_take (i := 29) (v := ?va29) rfl (by kernel_rfl) (by kernel_rfl) (by kernel_rfl) (fun _ _ _ h => h) (Or.inl ⟨by rfl, ?hya29⟩) (by assumption) ?resta29
    case hya29 => (intro u hSu; (try dsimp only at hSu); go_simp; try with_reducible rfl)
    try simp only [Act.put, List.setIfInBounds_toArray, List.set_cons_zero, List.set_cons_succ, List.getElem_toArray, List.getElem_cons_succ, List.getElem_cons_zero]
    refine wpAnyH_take (i := 30) (v := ?va30) rfl (by kernel_rfl) (by kernel_rfl) (by kernel_rfl) (fun _ _ _ h => h) (Or.inl ⟨by rfl, ?hya30⟩) (by assumption) ?resta30
    case hya30 => (intro u hSu; (try dsimp only at hSu); go_simp; try with_reducible rfl)
    try simp only [Act.put, List.setIfInBounds_toArray, List.set_cons_zero, List.set_cons_succ, List.getElem_toArray, List.getElem_cons_succ, List.getElem_cons_zero]
    refine wpAnyH_take (i := 31) (v := ?va31) rfl (by kernel_rfl) (by kernel_rfl) (by kernel_rfl) (fun _ _ _ h => h) (Or.inl ⟨by rfl, ?hya31⟩) (by assumption) ?resta31
    case hya31 => (intro u hSu; (try dsimp only at hSu); go_simp; try with_reducible rfl)
    try simp only [Act.put, List.setIfInBounds_toArray, List.set_cons_zero, List.set_cons_succ, List.getElem_toArray, List.getElem_cons_succ, List.getElem_cons_zero]
    refine wpAnyH_take (i := 32) (v := ?va32) rfl (by kernel_rfl) (by kernel_rfl) (by kernel_rfl) (fun _ _ _ h => h) (Or.inl ⟨by rfl, ?hya32⟩) (by assumption) ?resta32
    case hya32 => (intro u hSu; (try dsimp only at hSu); go_simp; try with_reducible rfl)
    try simp only [Act.put, List.setIfInBounds_toArray, List.set_cons_zero, List.set_cons_succ, List.getElem_toArray, List.getElem_cons_succ, List.getElem_cons_zero]
    refine wpAnyH_take (i := 34) (v := ?va34) rfl (by kernel_rfl) (by kernel_rfl) (by kernel_rfl) (fun _ _ _ h => h) (Or.inl ⟨by rfl, ?hya34⟩) (by assumption) ?resta34
    case hya34 => (intro u hSu; (try dsimp only at hSu); go_simp; try with_reducible rfl)
    try simp only [Act.put, List.setIfInBounds_toArray, List.set_cons_zero, List.set_cons_succ, List.getElem_toArray, List.getElem_cons_succ, List.getElem_cons_zero]
    refine wpAnyH_take (i := 36) (v := ?va36) rfl (by kernel_rfl) (by kernel_rfl) (by kernel_rfl) (fun _ _ _ h => h) (Or.inl ⟨by rfl, ?hya36⟩) (by assumption) ?resta36
    case hya36 => (intro u hSu; (try dsimp only at hSu); go_simp; try with_reducible rfl)
    try simp only [Act.put, List.setIfInBounds_toArray, List.set_cons_zero, List.set_cons_succ, List.getElem_toArray, List.getElem_cons_succ, List.getElem_cons_zero]
    refine wpAnyH_take (i := 37) (v := ?va37) rfl (by kernel_rfl) (by kernel_rfl) (by kernel_rfl) (fun _ _ _ h => h) (Or.inl ⟨by rfl, ?hya37⟩) (by assumption) ?resta37
    case hya37 => (intro u hSu; (try dsimp only at hSu); go_simp; try with_reducible rfl)
    try simp only [Act.put, List.setIfInBounds_toArray, List.set_cons_zero, List.set_cons_succ, List.getElem_toArray, List.getElem_cons_succ, List.getElem_cons_zero]
    refine wpAnyH_take (i := 38) (v := ?va38) rfl (by kernel_rfl) (by kernel_rfl) (by kernel_rfl) (fun _ _ _ h => h) (Or.inl ⟨by rfl, ?hya38⟩) (by assumption) ?resta38
    case hya38 => (intro u hSu; (try dsimp only at hSu); go_simp; try with_reducible rfl)
    try simp only [Act.put, List.setIfInBounds_toArray, List.set_cons_zero, List.set_cons_succ, List.getElem_toArray, List.getElem_cons_succ, List.getElem_cons_zero]
    refine wpAnyH_ready (rs := [33]) (by kernel_rfl) (by simp) ?_
    refine AllReadyH.cons rfl (fun K hK => ?_) AllReadyH.nil
    go_simp
    refine (bx.implNb A n c x y z i _ _ _ RA2.out HL.out).mono ?_
    rintro e v3 ⟨A4, n4, c4, rfl, ho4, hb⟩
    have NO := Lib.hid ho4
    have BA3 := Lib.hid (BA2.out.trans (hb.mono BA2.out.size))
    have XA3 := Lib.hid (XA2.out.below hb)
    have RA3 := Lib.hid (RA2.out.below hb)
    clear ho4 hb BA2 XA2 RA2
    have e3_0 : v3.cell? ⟨b, 0, none⟩ = some (.slice A n c) := XA3.out.cell 0
    have e3_1 : v3.cell? ⟨b, 1, none⟩ = some (.int .i64 x) := XA3.out.cell 1
    have e3_2 : v3.cell? ⟨b, 2, none⟩ = some (.int .i64 y) := XA3.out.cell 2
    refine hK.out _ _ ⟨e3_0, e3_1, e3_2⟩ (fun hHeld => ?_)
    clear hK K
    try simp only [Act.put, List.setIfInBounds_toArray, List.set_cons_zero, List.set_cons_succ, List.getElem_toArray, List.getElem_cons_succ, List.getElem_cons_zero]
    refine wpAnyH_ready (rs := [35]) (by kernel_rfl) (by simp) ?_
    refine AllReadyH.cons rfl (fun K hK => ?_) AllReadyH.nil
    go_simp
    refine (bx.lawContains _ j _ _ A4 n4 c4 _ NO.out.rd).mono ?_
    rw [WN.out]
    rintro e v9 ⟨rfl, rfl⟩
    refine hK.out _ _ ⟨e3_0, e3_1, e3_2⟩ (fun hHeld => ?_)
    clear hK K
    try simp only [Act.put, List.setIfInBounds_toArray, List.set_cons_zero, List.set_cons_succ, List.getElem_toArray, List.getElem_cons_succ, List.getElem_cons_zero]
    refine wpAnyH_ready (rs := [39]) (by kernel_rfl) (by simp) ?_
    refine AllReadyH.cons rfl (fun K hK => ?_) AllReadyH.nil
    go_simp
    refine (bx.implCr A n c x y z j i _ _ _ RA3.out).mono ?_
    rintro e v4 hp
    obtain ⟨rfl, hb⟩ := bx.b_parts W2.out hp
    clear hp
    have BA4 := Lib.hid (BA3.out.trans (hb.mono BA3.out.size))
    have XA4 := Lib.hid (XA3.out.below hb)
    have RA4 := Lib.hid (RA3.out.below hb)
    clear hb BA3 XA3 RA3
    have e4_0 : v4.cell? ⟨b, 0, none⟩ = some (.slice A n c) := XA4.out.cell 0
    have e4_1 : v4.cell? ⟨b, 1, none⟩ = some (.int .i64 x) := XA4.out.cell 1
    have e4_2 : v4.cell? ⟨b, 2, none⟩ = some (.int .i64 y) := XA4.out.cell 2
    refine hK.out _ _ ⟨e4_0, e4_1, e4_2⟩ (fun hHeld => ?_)
    clear hK K
    try simp only [Act.put, List.setIfInBounds_toArray, List.set_cons_zero, List.set_cons_succ, List.getElem_toArray, List.getElem_cons_succ, List.getElem_cons_zero]
    refine wpAnyH_take (i := 40) (v := ?va40) rfl (by kernel_rfl) (by kernel_rfl) (by kernel_rfl) (fun _ _ _ h => h) (Or.inl ⟨by rfl, ?hya40⟩) (by assumption) ?resta40
    case hya40 => (intro u hSu; (try dsimp only at hSu); go_simp; try with_reducible rfl)
    try simp only [Act.put, List.setIfInBounds_toArray, List.set_cons_zero, List.set_cons_succ, List.getElem_toArray, List.getElem_cons_succ, List.getElem_cons_zero]
    refine wpAnyH_take (i := 41) (v := ?va41) rfl (by kernel_rfl) (by kernel_rfl) (by kernel_rfl) (fun _ _ _ h => h) (Or.inl ⟨by rfl, ?hya41⟩) (by assumption) ?resta41
    case hya41 => (intro u hSu; (try dsimp only at hSu); go_simp; try with_reducible rfl)
    try simp only [Act.put, List.setIfInBounds_toArray, List.set_cons_zero, List.set_cons_succ, List.getElem_toArray, List.getElem_cons_succ, List.getElem_cons_zero]
    refine wpAnyH_done (by kernel_rfl) ?_ _
    clear e0_0 e0_1 e0_2 e1_0 e1_1 e1_2 e2_0 e2_1 e2_2 e3_0 e3_1 e3_2 e4_0 e4_1 e4_2
    go_wp2_with fail
    have hij := HE.out
    have HH := Lib.hid (hdn_no0 (z := z) (r := x) (s := y) (q := k) hij)
    have HG := Lib.hid (show hdn z x y j i k = false from hdn_no0 hij.symm)
    clear hij
    have c0 : ∀ m : bx.Af v4, m.w.cell? ⟨b, 0, none⟩ = some (.slice A n c) := fun m => (bx.Af.cells XA4.out m).cell 0
    have c1 : ∀ m : bx.Af v4, m.w.cell? ⟨b, 1, none⟩ = some (.int .i64 x) := fun m => (bx.Af.cells XA4.out m).cell 1
    have c2 : ∀ m : bx.Af v4, m.w.cell? ⟨b, 2, none⟩ = some (.int .i64 y) := fun m => (bx.Af.cells XA4.out m).cell 2
    have k0 := Lib.hid (fun m => by have hh := bx.implHd A n c x y z i j k _ _ _ (bx.Af.rd RA4.out m); rw [HH.out] at hh; exact hh : ∀ m : bx.Af v4, Calls Try.prog 20 #[.agg #[.slice A n c, .int .i64 x, .int .i64 y], .int .i64 i, .int .i64 j, .int .i64 k] m.w fun e w' => e = .returned (.bool false) ∧ Below m.w.heap.size m.w w')
    have k1 := Lib.hid (fun m => by have hh := bx.implHd A n c x y z j i k _ _ _ (bx.Af.rd RA4.out m); rw [HG.out] at hh; exact hh : ∀ m : bx.Af v4, Calls Try.prog 20 #[.agg #[.slice A n c, .int .i64 x, .int .i64 y], .int .i64 j, .int .i64 i, .int .i64 k] m.w fun e w' => e = .returned (.bool false) ∧ Below m.w.heap.size m.w w')
    refine bx.region_after (by kernel_rfl) (by kernel_rfl) ?_
    repeat (go_big_quiet_step ((first
      | (go_at_call 20; with_reducible exact bx.Af.call (k0.out _))
      | (go_at_call 20; with_reducible exact bx.Af.call (k1.out _)))))
    refine wpQuiet_nil ?_
    intro _ hw'
    obtain ⟨nq, hw''⟩ := hw'
    subst hw''
    clear c0 c1 c2 k0 k1
    go_wp2_with fail
    go_ret
    exact ⟨rfl, bx.Af.on BA4.out nq⟩
  · have hn1 : (i == j) = false := by simpa using hij
    have hn2 : (i != j) = true := by simpa using hij
    cases hw : win z x i j with
    | false =>
      have W1 := Lib.hid hw
      have W2 := Lib.hid (show win z x j i = false by rw [win_comm]; exact hw)
      have HDX := Lib.hid (show decide (d1 ≤ x) = false by rw [← hw]; exact (win_at hij PI.out PJ.out HD1.out rfl).symm)
      have WN := Lib.hid (show decide (j ∈ nbs z x i z.length) = false from decide_eq_false fun h => by have := (mem_nbs z x i j).1 h; rw [hw] at this; cases this)
      clear hw
      have hdx := HDX.out
      have hbd : Below w3.heap.size w3 w3.drew := Below.of_drew _
      have BA0 := Lib.hid (B3.out.trans (hbd.mono B3.out.size))
      have XA0 := Lib.hid (X3.out.below hbd)
      have RA0 := Lib.hid (R3.out.below hbd)
      clear hbd B3 X3 R3
      have e0_0 : w3.drew.cell? ⟨b, 0, none⟩ = some (.slice A n c) := XA0.out.cell 0
      have e0_1 : w3.drew.cell? ⟨b, 1, none⟩ = some (.int .i64 x) := XA0.out.cell 1
      have e0_2 : w3.drew.cell? ⟨b, 2, none⟩ = some (.int .i64 y) := XA0.out.cell 2
      refine wp_region_held_drew (S := fun w' => w'.cell? ⟨b, 0, none⟩ = some (.slice A n c) ∧ w'.cell? ⟨b, 1, none⟩ = some (.int .i64 x) ∧ w'.cell? ⟨b, 2, none⟩ = some (.int .i64 y)) (by kernel_rfl) ⟨e0_0, e0_1, e0_2⟩ (fun hHeld => ?_)
      refine wpAnyH_take (i := 0) (v := ?vb0) rfl (by kernel_rfl) (by kernel_rfl) (by kernel_rfl) (fun _ _ _ h => h) (Or.inl ⟨by rfl, ?hyb0⟩) (by assumption) ?restb0
      case hyb0 => (intro u hSu; (try dsimp only at hSu); go_simp; try with_reducible rfl)
      try simp only [Act.put, List.setIfInBounds_toArray, List.set_cons_zero, List.set_cons_succ, List.getElem_toArray, List.getElem_cons_succ, List.getElem_cons_zero]
      refine wpAnyH_take (i := 1) (v := ?vb1) rfl (by kernel_rfl) (by kernel_rfl) (by kernel_rfl) (fun _ _ _ h => h) (Or.inl ⟨by rfl, ?hyb1⟩) (by assumption) ?restb1
      case hyb1 => (intro u hSu; (try dsimp only at hSu); go_simp; try with_reducible rfl)
      try simp only [Act.put, List.setIfInBounds_toArray, List.set_cons_zero, List.set_cons_succ, List.getElem_toArray, List.getElem_cons_succ, List.getElem_cons_zero]
      refine wpAnyH_take (i := 2) (v := ?vb2) rfl (by kernel_rfl) (by kernel_rfl) (by kernel_rfl) (fun _ _ _ h => h) (Or.inl ⟨by rfl, ?hyb2⟩) (by assumption) ?restb2
      case hyb2 => (intro u hSu; (try dsimp only at hSu); go_simp; try with_reducible rfl)
      try simp only [Act.put, List.setIfInBounds_toArray, List.set_cons_zero, List.set_cons_succ, List.getElem_toArray, List.getElem_cons_succ, List.getElem_cons_zero]
      refine wpAnyH_take (i := 4) (v := ?vb4) rfl (by kernel_rfl) (by kernel_rfl) (by kernel_rfl) (fun _ _ _ h => h) (Or.inl ⟨by rfl, ?hyb4⟩) (by assumption) ?restb4
      case hyb4 => (intro u hSu; (try dsimp only at hSu); go_simp; try with_reducible rfl)
      try simp only [Act.put, List.setIfInBounds_toArray, List.set_cons_zero, List.set_cons_succ, List.getElem_toArray, List.getElem_cons_succ, List.getElem_cons_zero]
      refine wpAnyH_take (i := 5) (v := ?vb5) rfl (by kernel_rfl) (by kernel_rfl) (by kernel_rfl) (fun _ _ _ h => h) (Or.inl ⟨by rfl, ?hyb5⟩) (by assumption) ?restb5
      case hyb5 => (intro u hSu; (try dsimp only at hSu); go_simp; try with_reducible rfl)
      try simp only [Act.put, List.setIfInBounds_toArray, List.set_cons_zero, List.set_cons_succ, List.getElem_toArray, List.getElem_cons_succ, List.getElem_cons_zero]
      refine wpAnyH_take (i := 6) (v := ?vb6) rfl (by kernel_rfl) (by kernel_rfl) (by kernel_rfl) (fun _ _ _ h => h) (Or.inl ⟨by rfl, ?hyb6⟩) (by assumption) ?restb6
      case hyb6 => (intro u hSu; (try dsimp only at hSu); go_simp; try with_reducible rfl)
      try simp only [Act.put, List.setIfInBounds_toArray, List.set_cons_zero, List.set_cons_succ, List.getElem_toArray, List.getElem_cons_succ, List.getElem_cons_zero]
      refine wpAnyH_ready (rs := [3]) (by kernel_rfl) (by simp) ?_
      refine AllReadyH.cons rfl (fun K hK => ?_) AllReadyH.nil
      go_simp
      refine (bx.implCr A n c x y z i j _ _ _ RA0.out).mono ?_
      rintro e v1 hp
      obtain ⟨rfl, hb⟩ := bx.b_parts W1.out hp
      clear hp
      have BA1 := Lib.hid (BA0.out.trans (hb.mono BA0.out.size))
      have XA1 := Lib.hid (XA0.out.below hb)
      have RA1 := Lib.hid (RA0.out.below hb)
      clear hb BA0 XA0 RA0
      have e1_0 : v1.cell? ⟨b, 0, none⟩ = some (.slice A n c) := XA1.out.cell 0
      have e1_1 : v1.cell? ⟨b, 1, none⟩ = some (.int .i64 x) := XA1.out.cell 1
      have e1_2 : v1.cell? ⟨b, 2, none⟩ = some (.int .i64 y) := XA1.out.cell 2
      refine hK.out _ _ ⟨e1_0, e1_1, e1_2⟩ (fun hHeld => ?_)
      clear hK K
      try simp only [Act.put, List.setIfInBounds_toArray, List.set_cons_zero, List.set_cons_succ, List.getElem_toArray, List.getElem_cons_succ, List.getElem_cons_zero]
      refine wpAnyH_take (i := 7) (v := ?vb7) rfl (by kernel_rfl) (by kernel_rfl) (by kernel_rfl) (fun _ _ _ h => h) (Or.inl ⟨by rfl, ?hyb7⟩) (by assumption) ?restb7
      case hyb7 => (intro u hSu; (try dsimp only at hSu); go_simp; try with_reducible rfl)
      try simp only [Act.put, List.setIfInBounds_toArray, List.set_cons_zero, List.set_cons_succ, List.getElem_toArray, List.getElem_cons_succ, List.getElem_cons_zero]
      refine wpAnyH_take (i := 8) (v := ?vb8) rfl (by kernel_rfl) (by kernel_rfl) (by kernel_rfl) (fun _ _ _ h => h) (Or.inl ⟨by rfl, ?hyb8⟩) (by assumption) ?restb8
      case hyb8 => (intro u hSu; (try dsimp only at hSu); go_simp; try with_reducible rfl)
      try simp only [Act.put, List.setIfInBounds_toArray, List.set_cons_zero, List.set_cons_succ, List.getElem_toArray, List.getElem_cons_succ, List.getElem_cons_zero]
      refine wpAnyH_take (i := 9) (v := ?vb9) rfl (by kernel_rfl) (by kernel_rfl) (by kernel_rfl) (fun _ _ _ h => h) (Or.inl ⟨by rfl, ?hyb9⟩) (by assumption) ?restb9
      case hyb9 => (intro u hSu; (try dsimp only at hSu); go_simp; try with_reducible rfl)
      try simp only [Act.put, List.setIfInBounds_toArray, List.set_cons_zero, List.set_cons_succ, List.getElem_toArray, List.getElem_cons_succ, List.getElem_cons_zero]
      refine wpAnyH_take (i := 10) (v := ?vb10) rfl (by kernel_rfl) (by kernel_rfl) (by kernel_rfl) (fun _ _ _ h => h) (Or.inl ⟨by rfl, ?hyb10⟩) (by assumption) ?restb10
      case hyb10 => (intro u hSu; (try dsimp only at hSu); go_simp; try with_reducible rfl)
      try simp only [Act.put, List.setIfInBounds_toArray, List.set_cons_zero, List.set_cons_succ, List.getElem_toArray, List.getElem_cons_succ, List.getElem_cons_zero]
      refine wpAnyH_take (i := 12) (v := ?vb12) rfl (by kernel_rfl) (by kernel_rfl) (by kernel_rfl) (fun _ _ _ h => h) (Or.inl ⟨by rfl, ?hyb12⟩) (by assumption) ?restb12
      case hyb12 => (intro u hSu; (try dsimp only at hSu); go_simp; try with_reducible rfl)
      try simp only [Act.put, List.setIfInBounds_toArray, List.set_cons_zero, List.set_cons_succ, List.getElem_toArray, List.getElem_cons_succ, List.getElem_cons_zero]
      refine wpAnyH_take (i := 13) (v := ?vb13) rfl (by kernel_rfl) (by kernel_rfl) (by kernel_rfl) (fun _ _ _ h => h) (Or.inl ⟨by rfl, ?hyb13⟩) (by assumption) ?restb13
      case hyb13 => (intro u hSu; (try dsimp only at hSu); go_simp; try with_reducible rfl)
      try simp only [Act.put, List.setIfInBounds_toArray, List.set_cons_zero, List.set_cons_succ, List.getElem_toArray, List.getElem_cons_succ, List.getElem_cons_zero]
      refine wpAnyH_ready (rs := [11]) (by kernel_rfl) (by simp) ?_
      refine AllReadyH.cons rfl (fun K hK => ?_) AllReadyH.nil
      go_simp
      refine (bx.implDst A n c x y z i j _ _ _ RA1.out).mono ?_
      rintro e v2 hp
      obtain ⟨rfl, hb⟩ := bx.n_parts HD1.out hp
      clear hp
      have BA2 := Lib.hid (BA1.out.trans (hb.mono BA1.out.size))
      have XA2 := Lib.hid (XA1.out.below hb)
      have RA2 := Lib.hid (RA1.out.below hb)
      clear hb BA1 XA1 RA1
      have e2_0 : v2.cell? ⟨b, 0, none⟩ = some (.slice A n c) := XA2.out.cell 0
      have e2_1 : v2.cell? ⟨b, 1, none⟩ = some (.int .i64 x) := XA2.out.cell 1
      have e2_2 : v2.cell? ⟨b, 2, none⟩ = some (.int .i64 y) := XA2.out.cell 2
      refine hK.out _ _ ⟨e2_0, e2_1, e2_2⟩ (fun hHeld => ?_)
      clear hK K
      try simp only [Act.put, List.setIfInBounds_toArray, List.set_cons_zero, List.set_cons_succ, List.getElem_toArray, List.getElem_cons_succ, List.getElem_cons_zero]
      refine wpAnyH_take (i := 14) (v := ?vb14) rfl (by kernel_rfl) (by kernel_rfl) (by kernel_rfl) (fun _ _ _ h => h) (Or.inl ⟨by rfl, ?hyb14⟩) (by assumption) ?restb14
      case hyb14 => (intro u hSu; (try dsimp only at hSu); go_simp; try with_reducible rfl)
      try simp only [Act.put, List.setIfInBounds_toArray, List.set_cons_zero, List.set_cons_succ, List.getElem_toArray, List.getElem_cons_succ, List.getElem_cons_zero]
      refine wpAnyH_take (i := 15) (v := ?vb15) rfl (by kernel_rfl) (by kernel_rfl) (by kernel_rfl) (fun _ _ _ h => h) (Or.inl ⟨by rfl, ?hyb15⟩) (by assumption) ?restb15
      case hyb15 => (intro u hSu; (try dsimp only at hSu); go_simp; try with_reducible rfl)
      try simp only [Act.put, List.setIfInBounds_toArray, List.set_cons_zero, List.set_cons_succ, List.getElem_toArray, List.getElem_cons_succ, List.getElem_cons_zero]
      refine wpAnyH_take (i := 16) (v := ?vb16) rfl (by kernel_rfl) (by kernel_rfl) (by kernel_rfl) (fun _ _ _ h => h) (Or.inl ⟨by rfl, ?hyb16⟩) (by assumption) ?restb16
      case hyb16 => (intro u hSu; (try dsimp only at hSu); go_simp; try with_reducible rfl)
      try simp only [Act.put, List.setIfInBounds_toArray, List.set_cons_zero, List.set_cons_succ, List.getElem_toArray, List.getElem_cons_succ, List.getElem_cons_zero]
      refine wpAnyH_take (i := 17) (v := ?vb17) rfl (by kernel_rfl) (by kernel_rfl) (by kernel_rfl) (fun _ _ _ h => h) (Or.inl ⟨by rfl, ?hyb17⟩) (by assumption) ?restb17
      case hyb17 => (intro u hSu; (try dsimp only at hSu); go_simp; try with_reducible rfl)
      try simp only [Act.put, List.setIfInBounds_toArray, List.set_cons_zero, List.set_cons_succ, List.getElem_toArray, List.getElem_cons_succ, List.getElem_cons_zero]
      refine wpAnyH_take (i := 18) (v := ?vb18) rfl (by kernel_rfl) (by kernel_rfl) (by kernel_rfl) (fun _ _ _ h => h) (Or.inl ⟨by rfl, ?hyb18⟩) (by assumption) ?restb18
      case hyb18 => (intro u hSu; (try dsimp only at hSu); go_simp; try with_reducible rfl)
      try simp only [Act.put, List.setIfInBounds_toArray, List.set_cons_zero, List.set_cons_succ, List.getElem_toArray, List.getElem_cons_succ, List.getElem_cons_zero]
      refine wpAnyH_take (i := 19) (v := ?vb19) rfl (by kernel_rfl) (by kernel_rfl) (by kernel_rfl) (fun _ _ _ h => h) (Or.inl ⟨by rfl, ?hyb19⟩) (by assumption) ?restb19
      case hyb19 => (intro u hSu; (try dsimp only at hSu); go_simp; try with_reducible rfl)
      try simp only [Act.put, List.setIfInBounds_toArray, List.set_cons_zero, List.set_cons_succ, List.getElem_toArray, List.getElem_cons_succ, List.getElem_cons_zero]
      refine wpAnyH_take (i := 20) (v := ?vb20) rfl (by kernel_rfl) (by kernel_rfl) (by kernel_rfl) (fun _ _ _ h => h) (Or.inl ⟨by rfl, ?hyb20⟩) (by assumption) ?restb20
      case hyb20 => (intro u hSu; (try dsimp only at hSu); go_simp; try with_reducible rfl)
      try simp only [Act.put, List.setIfInBounds_toArray, List.set_cons_zero, List.set_cons_succ, List.getElem_toArray, List.getElem_cons_succ, List.getElem_cons_zero]
      refine wpAnyH_ready (rs := [21]) (by kernel_rfl) (by simp) ?_
      refine AllReadyH.cons rfl (fun K hK => ?_) AllReadyH.nil
      go_simp
      refine (bx.implCr A n c x y z i j _ _ _ RA2.out).mono ?_
      rintro e v3 hp
      obtain ⟨rfl, hb⟩ := bx.b_parts W1.out hp
      clear hp
      have BA3 := Lib.hid (BA2.out.trans (hb.mono BA2.out.size))
      have XA3 := Lib.hid (XA2.out.below hb)
      have RA3 := Lib.hid (RA2.out.below hb)
      clear hb BA2 XA2 RA2
      have e3_0 : v3.cell? ⟨b, 0, none⟩ = some (.slice A n c) := XA3.out.cell 0
      have e3_1 : v3.cell? ⟨b, 1, none⟩ = some (.int .i64 x) := XA3.out.cell 1
      have e3_2 : v3.cell? ⟨b, 2, none⟩ = some (.int .i64 y) := XA3.out.cell 2
      refine hK.out _ _ ⟨e3_0, e3_1, e3_2⟩ (fun hHeld => ?_)
      clear hK K
      try simp only [Act.put, List.setIfInBounds_toArray, List.set_cons_zero, List.set_cons_succ, List.getElem_toArray, List.getElem_cons_succ, List.getElem_cons_zero]
      refine wpAnyH_take (i := 22) (v := ?vb22) rfl (by kernel_rfl) (by kernel_rfl) (by kernel_rfl) (fun _ _ _ h => h) (Or.inl ⟨by rfl, ?hyb22⟩) (by assumption) ?restb22
      case hyb22 => (intro u hSu; (try dsimp only at hSu); go_simp; try with_reducible rfl)
      try simp only [Act.put, List.setIfInBounds_toArray, List.set_cons_zero, List.set_cons_succ, List.getElem_toArray, List.getElem_cons_succ, List.getElem_cons_zero]
      refine wpAnyH_take (i := 23) (v := undef) rfl (by kernel_rfl) (by kernel_rfl) (by kernel_rfl) (fun _ _ _ h => h) (Or.inr ⟨by rfl, rfl⟩) (by assumption) ?_
      try simp only [Act.put, List.setIfInBounds_toArray, List.set_cons_zero, List.set_cons_succ, List.getElem_toArray, List.getElem_cons_succ, List.getElem_cons_zero]
      refine wpAnyH_take (i := 24) (v := undef) rfl (by kernel_rfl) (by kernel_rfl) (by kernel_rfl) (fun _ _ _ h => h) (Or.inr ⟨by rfl, rfl⟩) (by assumption) ?_
      try simp only [Act.put, List.setIfInBounds_toArray, List.set_cons_zero, List.set_cons_succ, List.getElem_toArray, List.getElem_cons_succ, List.getElem_cons_zero]
      refine wpAnyH_take (i := 25) (v := undef) rfl (by kernel_rfl) (by kernel_rfl) (by kernel_rfl) (fun _ _ _ h => h) (Or.inr ⟨by rfl, rfl⟩) (by assumption) ?_
      try simp only [Act.put, List.setIfInBounds_toArray, List.set_cons_zero, List.set_cons_succ, List.getElem_toArray, List.getElem_cons_succ, List.getElem_cons_zero]
      refine wpAnyH_take (i := 26) (v := undef) rfl (by kernel_rfl) (by kernel_rfl) (by kernel_rfl) (fun _ _ _ h => h) (Or.inr ⟨by rfl, rfl⟩) (by assumption) ?_
      try simp only [Act.put, List.setIfInBounds_toArray, List.set_cons_zero, List.set_cons_succ, List.getElem_toArray, List.getElem_cons_succ, List.getElem_cons_zero]
      refine wpAnyH_take (i := 27) (v := undef) rfl (by kernel_rfl) (by kernel_rfl) (by kernel_rfl) (fun _ _ _ h => h) (Or.inr ⟨by rfl, rfl⟩) (by assumption) ?_
      try simp only [Act.put, List.setIfInBounds_toArray, List.set_cons_zero, List.set_cons_succ, List.getElem_toArray, List.getElem_cons_succ, List.getElem_cons_zero]
      refine wpAnyH_take (i := 28) (v := ?vb28) rfl (by kernel_rfl) (by kernel_rfl) (by kernel_rfl) (fun _ _ _ h => h) (Or.inl ⟨by rfl, ?hyb28⟩) (by assumption) ?restb28
      case hyb28 => (intro u hSu; (try dsimp only at hSu); go_simp; try with_reducible rfl)
      try simp only [Act.put, List.setIfInBounds_toArray, List.set_cons_zero, List.set_cons_succ, List.getElem_toArray, List.getElem_cons_succ, List.getElem_cons_zero]
      refine wpAnyH_take (i := 29) (v := ?vb29) rfl (by kernel_rfl) (by kernel_rfl) (by kernel_rfl) (fun _ _ _ h => h) (Or.inl ⟨by rfl, ?hyb29⟩) (by assumption) ?restb29
      case hyb29 => (intro u hSu; (try dsimp only at hSu); go_simp; try with_reducible rfl)
      try simp only [Act.put, List.setIfInBounds_toArray, List.set_cons_zero, List.set_cons_succ, List.getElem_toArray, List.getElem_cons_succ, List.getElem_cons_zero]
      refine wpAnyH_take (i := 30) (v := ?vb30) rfl (by kernel_rfl) (by kernel_rfl) (by kernel_rfl) (fun _ _ _ h => h) (Or.inl ⟨by rfl, ?hyb30⟩) (by assumption) ?restb30
      case hyb30 => (intro u hSu; (try dsimp only at hSu); go_simp; try with_reducible rfl)
      try simp only [Act.put, List.setIfInBounds_toArray, List.set_cons_zero, List.set_cons_succ, List.getElem_toArray, List.getElem_cons_succ, List.getElem_cons_zero]
      refine wpAnyH_take (i := 31) (v := ?vb31) rfl (by kernel_rfl) (by kernel_rfl) (by kernel_rfl) (fun _ _ _ h => h) (Or.inl ⟨by rfl, ?hyb31⟩) (by assumption) ?restb31
      case hyb31 => (intro u hSu; (try dsimp only at hSu); go_simp; try with_reducible rfl)
      try simp only [Act.put, List.setIfInBounds_toArray, List.set_cons_zero, List.set_cons_succ, List.getElem_toArray, List.getElem_cons_succ, List.getElem_cons_zero]
      refine wpAnyH_take (i := 32) (v := ?vb32) rfl (by kernel_rfl) (by kernel_rfl) (by kernel_rfl) (fun _ _ _ h => h) (Or.inl ⟨by rfl, ?hyb32⟩) (by assumption) ?restb32
      case hyb32 => (intro u hSu; (try dsimp only at hSu); go_simp; try with_reducible rfl)
      try simp only [Act.put, List.setIfInBounds_toArray, List.set_cons_zero, List.set_cons_succ, List.getElem_toArray, List.getElem_cons_succ, List.getElem_cons_zero]
      refine wpAnyH_take (i := 34) (v := ?vb34) rfl (by kernel_rfl) (by kernel_rfl) (by kernel_rfl) (fun _ _ _ h => h) (Or.inl ⟨by rfl, ?hyb34⟩) (by assumption) ?restb34
      case hyb34 => (intro u hSu; (try dsimp only at hSu); go_simp; try with_reducible rfl)
      try simp only [Act.put, List.setIfInBounds_toArray, List.set_cons_zero, List.set_cons_succ, List.getElem_toArray, List.getElem_cons_succ, List.getElem_cons_zero]
      refine wpAnyH_take (i := 36) (v := ?vb36) rfl (by kernel_rfl) (by kernel_rfl) (by kernel_rfl) (fun _ _ _ h => h) (Or.inl ⟨by rfl, ?hyb36⟩) (by assumption) ?restb36
      case hyb36 => (intro u hSu; (try dsimp only at hSu); go_simp; try with_reducible rfl)
      try simp only [Act.put, List.setIfInBounds_toArray, List.set_cons_zero, List.set_cons_succ, List.getElem_toArray, List.getElem_cons_succ, List.getElem_cons_zero]
      refine wpAnyH_take (i := 37) (v := ?vb37) rfl (by kernel_rfl) (by kernel_rfl) (by kernel_rfl) (fun _ _ _ h => h) (Or.inl ⟨by rfl, ?hyb37⟩) (by assumption) ?restb37
      case hyb37 => (intro u hSu; (try dsimp only at hSu); go_simp; try with_reducible rfl)
      try simp only [Act.put, List.setIfInBounds_toArray, List.set_cons_zero, List.set_cons_succ, List.getElem_toArray, List.getElem_cons_succ, List.getElem_cons_zero]
      refine wpAnyH_take (i := 38) (v := ?vb38) rfl (by kernel_rfl) (by kernel_rfl) (by kernel_rfl) (fun _ _ _ h => h) (Or.inl ⟨by rfl, ?hyb38⟩) (by assumption) ?restb38
      case hyb38 => (intro u hSu; (try dsimp only at hSu); go_simp; try with_reducible rfl)
      try simp only [Act.put, List.setIfInBounds_toArray, List.set_cons_zero, List.set_cons_succ, List.getElem_toArray, List.getElem_cons_succ, List.getElem_cons_zero]
      refine wpAnyH_ready (rs := [33]) (by kernel_rfl) (by simp) ?_
      refine AllReadyH.cons rfl (fun K hK => ?_) AllReadyH.nil
      go_simp
      refine (bx.implNb A n c x y z i _ _ _ RA3.out HL.out).mono ?_
      rintro e v4 ⟨A4, n4, c4, rfl, ho4, hb⟩
      have NO := Lib.hid ho4
      have BA4 := Lib.hid (BA3.out.trans (hb.mono BA3.out.size))
      have XA4 := Lib.hid (XA3.out.below hb)
      have RA4 := Lib.hid (RA3.out.below hb)
      clear ho4 hb BA3 XA3 RA3
      have e4_0 : v4.cell? ⟨b, 0, none⟩ = some (.slice A n c) := XA4.out.cell 0
      have e4_1 : v4.cell? ⟨b, 1, none⟩ = some (.int .i64 x) := XA4.out.cell 1
      have e4_2 : v4.cell? ⟨b, 2, none⟩ = some (.int .i64 y) := XA4.out.cell 2
      refine hK.out _ _ ⟨e4_0, e4_1, e4_2⟩ (fun hHeld => ?_)
      clear hK K
      try simp only [Act.put, List.setIfInBounds_toArray, List.set_cons_zero, List.set_cons_succ, List.getElem_toArray, List.getElem_cons_succ, List.getElem_cons_zero]
      refine wpAnyH_ready (rs := [35]) (by kernel_rfl) (by simp) ?_
      refine AllReadyH.cons rfl (fun K hK => ?_) AllReadyH.nil
      go_simp
      refine (bx.lawContains _ j _ _ A4 n4 c4 _ NO.out.rd).mono ?_
      rw [WN.out]
      rintro e v9 ⟨rfl, rfl⟩
      refine hK.out _ _ ⟨e4_0, e4_1, e4_2⟩ (fun hHeld => ?_)
      clear hK K
      try simp only [Act.put, List.setIfInBounds_toArray, List.set_cons_zero, List.set_cons_succ, List.getElem_toArray, List.getElem_cons_succ, List.getElem_cons_zero]
      refine wpAnyH_ready (rs := [39]) (by kernel_rfl) (by simp) ?_
      refine AllReadyH.cons rfl (fun K hK => ?_) AllReadyH.nil
      go_simp
      refine (bx.implCr A n c x y z j i _ _ _ RA4.out).mono ?_
      rintro e v5 hp
      obtain ⟨rfl, hb⟩ := bx.b_parts W2.out hp
      clear hp
      have BA5 := Lib.hid (BA4.out.trans (hb.mono BA4.out.size))
      have XA5 := Lib.hid (XA4.out.below hb)
      have RA5 := Lib.hid (RA4.out.below hb)
      clear hb BA4 XA4 RA4
      have e5_0 : v5.cell? ⟨b, 0, none⟩ = some (.slice A n c) := XA5.out.cell 0
      have e5_1 : v5.cell? ⟨b, 1, none⟩ = some (.int .i64 x) := XA5.out.cell 1
      have e5_2 : v5.cell? ⟨b, 2, none⟩ = some (.int .i64 y) := XA5.out.cell 2
      refine hK.out _ _ ⟨e5_0, e5_1, e5_2⟩ (fun hHeld => ?_)
      clear hK K
      try simp only [Act.put, List.setIfInBounds_toArray, List.set_cons_zero, List.set_cons_succ, List.getElem_toArray, List.getElem_cons_succ, List.getElem_cons_zero]
      refine wpAnyH_take (i := 40) (v := ?vb40) rfl (by kernel_rfl) (by kernel_rfl) (by kernel_rfl) (fun _ _ _ h => h) (Or.inl ⟨by rfl, ?hyb40⟩) (by assumption) ?restb40
      case hyb40 => (intro u hSu; (try dsimp only at hSu); go_simp; try with_reducible rfl)
      try simp only [Act.put, List.setIfInBounds_toArray, List.set_cons_zero, List.set_cons_succ, List.getElem_toArray, List.getElem_cons_succ, List.getElem_cons_zero]
      refine wpAnyH_take (i := 41) (v := ?vb41) rfl (by kernel_rfl) (by kernel_rfl) (by kernel_rfl) (fun _ _ _ h => h) (Or.inl ⟨by rfl, ?hyb41⟩) (by assumption) ?restb41
      case hyb41 => (intro u hSu; (try dsimp only at hSu); go_simp; try with_reducible rfl)
      try simp only [Act.put, List.setIfInBounds_toArray, List.set_cons_zero, List.set_cons_succ, List.getElem_toArray, List.getElem_cons_succ, List.getElem_cons_zero]
      refine wpAnyH_done (by kernel_rfl) ?_ _
      clear e0_0 e0_1 e0_2 e1_0 e1_1 e1_2 e2_0 e2_1 e2_2 e3_0 e3_1 e3_2 e4_0 e4_1 e4_2 e5_0 e5_1 e5_2
      clear hdx
      go_wp2_with fail
      cases ha : win z x i k with
      | false =>
        have HA := Lib.hid ha
        have HH := Lib.hid (hdn_no1 (z := z) (r := x) (s := y) (b := j) ha)
        have HG := Lib.hid (show hdn z x y j i k = false by rw [hdn_comm]; exact HH.out)
        clear ha
        have c0 : ∀ m : bx.Af v5, m.w.cell? ⟨b, 0, none⟩ = some (.slice A n c) := fun m => (bx.Af.cells XA5.out m).cell 0
        have c1 : ∀ m : bx.Af v5, m.w.cell? ⟨b, 1, none⟩ = some (.int .i64 x) := fun m => (bx.Af.cells XA5.out m).cell 1
        have c2 : ∀ m : bx.Af v5, m.w.cell? ⟨b, 2, none⟩ = some (.int .i64 y) := fun m => (bx.Af.cells XA5.out m).cell 2
        have k0 := Lib.hid (fun m => by have hh := bx.implHd A n c x y z i j k _ _ _ (bx.Af.rd RA5.out m); rw [HH.out] at hh; exact hh : ∀ m : bx.Af v5, Calls Try.prog 20 #[.agg #[.slice A n c, .int .i64 x, .int .i64 y], .int .i64 i, .int .i64 j, .int .i64 k] m.w fun e w' => e = .returned (.bool false) ∧ Below m.w.heap.size m.w w')
        have k1 := Lib.hid (fun m => by have hh := bx.implCr A n c x y z i k _ _ _ (bx.Af.rd RA5.out m); rw [HA.out] at hh; exact hh : ∀ m : bx.Af v5, Calls Try.prog 16 #[.agg #[.slice A n c, .int .i64 x, .int .i64 y], .int .i64 i, .int .i64 k] m.w fun e w' => e = .returned (.bool false) ∧ Below m.w.heap.size m.w w')
        have k2 := Lib.hid (fun m => by have hh := bx.implHd A n c x y z j i k _ _ _ (bx.Af.rd RA5.out m); rw [HG.out] at hh; exact hh : ∀ m : bx.Af v5, Calls Try.prog 20 #[.agg #[.slice A n c, .int .i64 x, .int .i64 y], .int .i64 j, .int .i64 i, .int .i64 k] m.w fun e w' => e = .returned (.bool false) ∧ Below m.w.heap.size m.w w')
        refine bx.region_after (by kernel_rfl) (by kernel_rfl) ?_
        repeat (go_big_quiet_step ((first
          | (go_at_call 20; with_reducible exact bx.Af.call (k0.out _))
          | (go_at_call 16; with_reducible exact bx.Af.call (k1.out _))
          | (go_at_call 20; with_reducible exact bx.Af.call (k2.out _)))))
        refine wpQuiet_nil ?_
        intro _ hw'
        obtain ⟨nq, hw''⟩ := hw'
        subst hw''
        clear c0 c1 c2 k0 k1 k2
        go_wp2_with fail
        go_ret
        exact ⟨rfl, bx.Af.on BA5.out nq⟩
      | true =>
        cases hb2 : win z x j k with
        | false =>
          have HA := Lib.hid ha
          have HB := Lib.hid hb2
          have HH := Lib.hid (hdn_no2 (z := z) (r := x) (s := y) (a := i) hb2)
          have HG := Lib.hid (show hdn z x y j i k = false by rw [hdn_comm]; exact HH.out)
          clear ha hb2
          have c0 : ∀ m : bx.Af v5, m.w.cell? ⟨b, 0, none⟩ = some (.slice A n c) := fun m => (bx.Af.cells XA5.out m).cell 0
          have c1 : ∀ m : bx.Af v5, m.w.cell? ⟨b, 1, none⟩ = some (.int .i64 x) := fun m => (bx.Af.cells XA5.out m).cell 1
          have c2 : ∀ m : bx.Af v5, m.w.cell? ⟨b, 2, none⟩ = some (.int .i64 y) := fun m => (bx.Af.cells XA5.out m).cell 2
          have k0 := Lib.hid (fun m => by have hh := bx.implHd A n c x y z i j k _ _ _ (bx.Af.rd RA5.out m); rw [HH.out] at hh; exact hh : ∀ m : bx.Af v5, Calls Try.prog 20 #[.agg #[.slice A n c, .int .i64 x, .int .i64 y], .int .i64 i, .int .i64 j, .int .i64 k] m.w fun e w' => e = .returned (.bool false) ∧ Below m.w.heap.size m.w w')
          have k1 := Lib.hid (fun m => by have hh := bx.implCr A n c x y z i k _ _ _ (bx.Af.rd RA5.out m); rw [HA.out] at hh; exact hh : ∀ m : bx.Af v5, Calls Try.prog 16 #[.agg #[.slice A n c, .int .i64 x, .int .i64 y], .int .i64 i, .int .i64 k] m.w fun e w' => e = .returned (.bool true) ∧ Below m.w.heap.size m.w w')
          have k2 := Lib.hid (fun m => by have hh := bx.implCr A n c x y z j k _ _ _ (bx.Af.rd RA5.out m); rw [HB.out] at hh; exact hh : ∀ m : bx.Af v5, Calls Try.prog 16 #[.agg #[.slice A n c, .int .i64 x, .int .i64 y], .int .i64 j, .int .i64 k] m.w fun e w' => e = .returned (.bool false) ∧ Below m.w.heap.size m.w w')
          have k3 := Lib.hid (fun m => by have hh := bx.implHd A n c x y z j i k _ _ _ (bx.Af.rd RA5.out m); rw [HG.out] at hh; exact hh : ∀ m : bx.Af v5, Calls Try.prog 20 #[.agg #[.slice A n c, .int .i64 x, .int .i64 y], .int .i64 j, .int .i64 i, .int .i64 k] m.w fun e w' => e = .returned (.bool false) ∧ Below m.w.heap.size m.w w')
          refine bx.region_after (by kernel_rfl) (by kernel_rfl) ?_
          repeat (go_big_quiet_step ((first
            | (go_at_call 20; with_reducible exact bx.Af.call (k0.out _))
            | (go_at_call 16; with_reducible exact bx.Af.call (k1.out _))
            | (go_at_call 16; with_reducible exact bx.Af.call (k2.out _))
            | (go_at_call 20; with_reducible exact bx.Af.call (k3.out _)))))
          refine wpQuiet_nil ?_
          intro _ hw'
          obtain ⟨nq, hw''⟩ := hw'
          subst hw''
          clear c0 c1 c2 k0 k1 k2 k3
          go_wp2_with fail
          go_ret
          exact ⟨rfl, bx.Af.on BA5.out nq⟩
        | true =>
          obtain ⟨s1, hs1⟩ : ∃ v, win z y i j = v := ⟨_, rfl⟩
          have HA := Lib.hid ha
          have HB := Lib.hid hb2
          have HY := Lib.hid hs1
          have HH := Lib.hid (hdn_at hij ha hb2 hs1)
          have HG := Lib.hid (show hdn z x y j i k = !s1 by rw [hdn_comm]; exact HH.out)
          clear ha hb2 hs1
          cases s1 with
          | false =>
            have c0 : ∀ m : bx.Af v5, m.w.cell? ⟨b, 0, none⟩ = some (.slice A n c) := fun m => (bx.Af.cells XA5.out m).cell 0
            have c1 : ∀ m : bx.Af v5, m.w.cell? ⟨b, 1, none⟩ = some (.int .i64 x) := fun m => (bx.Af.cells XA5.out m).cell 1
            have c2 : ∀ m : bx.Af v5, m.w.cell? ⟨b, 2, none⟩ = some (.int .i64 y) := fun m => (bx.Af.cells XA5.out m).cell 2
            have k0 := Lib.hid (fun m => by have hh := bx.implHd A n c x y z i j k _ _ _ (bx.Af.rd RA5.out m); rw [HH.out] at hh; exact hh : ∀ m : bx.Af v5, Calls Try.prog 20 #[.agg #[.slice A n c, .int .i64 x, .int .i64 y], .int .i64 i, .int .i64 j, .int .i64 k] m.w fun e w' => e = .returned (.bool (!false)) ∧ Below m.w.heap.size m.w w')
            have k1 := Lib.hid (fun m => by have hh := bx.implCr A n c x y z i k _ _ _ (bx.Af.rd RA5.out m); rw [HA.out] at hh; exact hh : ∀ m : bx.Af v5, Calls Try.prog 16 #[.agg #[.slice A n c, .int .i64 x, .int .i64 y], .int .i64 i, .int .i64 k] m.w fun e w' => e = .returned (.bool true) ∧ Below m.w.heap.size m.w w')
            have k2 := Lib.hid (fun m => by have hh := bx.implCr A n c x y z j k _ _ _ (bx.Af.rd RA5.out m); rw [HB.out] at hh; exact hh : ∀ m : bx.Af v5, Calls Try.prog 16 #[.agg #[.slice A n c, .int .i64 x, .int .i64 y], .int .i64 j, .int .i64 k] m.w fun e w' => e = .returned (.bool true) ∧ Below m.w.heap.size m.w w')
            have k3 := Lib.hid (fun m => by have hh := bx.implCs A n c x y z i j _ _ _ (bx.Af.rd RA5.out m); rw [HY.out] at hh; exact hh : ∀ m : bx.Af v5, Calls Try.prog 17 #[.agg #[.slice A n c, .int .i64 x, .int .i64 y], .int .i64 i, .int .i64 j] m.w fun e w' => e = .returned (.bool false) ∧ Below m.w.heap.size m.w w')
            have k4 := Lib.hid (fun m => by have hh := bx.implHd A n c x y z j i k _ _ _ (bx.Af.rd RA5.out m); rw [HG.out] at hh; exact hh : ∀ m : bx.Af v5, Calls Try.prog 20 #[.agg #[.slice A n c, .int .i64 x, .int .i64 y], .int .i64 j, .int .i64 i, .int .i64 k] m.w fun e w' => e = .returned (.bool (!false)) ∧ Below m.w.heap.size m.w w')
            refine bx.region_after (by kernel_rfl) (by kernel_rfl) ?_
            repeat (go_big_quiet_step ((first
              | (go_at_call 20; with_reducible exact bx.Af.call (k0.out _))
              | (go_at_call 16; with_reducible exact bx.Af.call (k1.out _))
              | (go_at_call 16; with_reducible exact bx.Af.call (k2.out _))
              | (go_at_call 17; with_reducible exact bx.Af.call (k3.out _))
              | (go_at_call 20; with_reducible exact bx.Af.call (k4.out _)))))
            refine wpQuiet_nil ?_
            intro _ hw'
            obtain ⟨nq, hw''⟩ := hw'
            subst hw''
            clear c0 c1 c2 k0 k1 k2 k3 k4
            go_wp2_with fail
            go_ret
            exact ⟨rfl, bx.Af.on BA5.out nq⟩
          | true =>
            have c0 : ∀ m : bx.Af v5, m.w.cell? ⟨b, 0, none⟩ = some (.slice A n c) := fun m => (bx.Af.cells XA5.out m).cell 0
            have c1 : ∀ m : bx.Af v5, m.w.cell? ⟨b, 1, none⟩ = some (.int .i64 x) := fun m => (bx.Af.cells XA5.out m).cell 1
            have c2 : ∀ m : bx.Af v5, m.w.cell? ⟨b, 2, none⟩ = some (.int .i64 y) := fun m => (bx.Af.cells XA5.out m).cell 2
            have k0 := Lib.hid (fun m => by have hh := bx.implHd A n c x y z i j k _ _ _ (bx.Af.rd RA5.out m); rw [HH.out] at hh; exact hh : ∀ m : bx.Af v5, Calls Try.prog 20 #[.agg #[.slice A n c, .int .i64 x, .int .i64 y], .int .i64 i, .int .i64 j, .int .i64 k] m.w fun e w' => e = .returned (.bool (!true)) ∧ Below m.w.heap.size m.w w')
            have k1 := Lib.hid (fun m => by have hh := bx.implCr A n c x y z i k _ _ _ (bx.Af.rd RA5.out m); rw [HA.out] at hh; exact hh : ∀ m : bx.Af v5, Calls Try.prog 16 #[.agg #[.slice A n c, .int .i64 x, .int .i64 y], .int .i64 i, .int .i64 k] m.w fun e w' => e = .returned (.bool true) ∧ Below m.w.heap.size m.w w')
            have k2 := Lib.hid (fun m => by have hh := bx.implCr A n c x y z j k _ _ _ (bx.Af.rd RA5.out m); rw [HB.out] at hh; exact hh : ∀ m : bx.Af v5, Calls Try.prog 16 #[.agg #[.slice A n c, .int .i64 x, .int .i64 y], .int .i64 j, .int .i64 k] m.w fun e w' => e = .returned (.bool true) ∧ Below m.w.heap.size m.w w')
            have k3 := Lib.hid (fun m => by have hh := bx.implCs A n c x y z i j _ _ _ (bx.Af.rd RA5.out m); rw [HY.out] at hh; exact hh : ∀ m : bx.Af v5, Calls Try.prog 17 #[.agg #[.slice A n c, .int .i64 x, .int .i64 y], .int .i64 i, .int .i64 j] m.w fun e w' => e = .returned (.bool true) ∧ Below m.w.heap.size m.w w')
            have k4 := Lib.hid (fun m => by have hh := bx.implHd A n c x y z j i k _ _ _ (bx.Af.rd RA5.out m); rw [HG.out] at hh; exact hh : ∀ m : bx.Af v5, Calls Try.prog 20 #[.agg #[.slice A n c, .int .i64 x, .int .i64 y], .int .i64 j, .int .i64 i, .int .i64 k] m.w fun e w' => e = .returned (.bool (!true)) ∧ Below m.w.heap.size m.w w')
            refine bx.region_after (by kernel_rfl) (by kernel_rfl) ?_
            repeat (go_big_quiet_step ((first
              | (go_at_call 20; with_reducible exact bx.Af.call (k0.out _))
              | (go_at_call 16; with_reducible exact bx.Af.call (k1.out _))
              | (go_at_call 16; with_reducible exact bx.Af.call (k2.out _))
              | (go_at_call 17; with_reducible exact bx.Af.call (k3.out _))
              | (go_at_call 20; with_reducible exact bx.Af.call (k4.out _)))))
            refine wpQuiet_nil ?_
            intro _ hw'
            obtain ⟨nq, hw''⟩ := hw'
            subst hw''
            clear c0 c1 c2 k0 k1 k2 k3 k4
            go_wp2_with fail
            go_ret
            exact ⟨rfl, bx.Af.on BA5.out nq⟩
    | true =>
      have W1 := Lib.hid hw
      have W2 := Lib.hid (show win z x j i = true by rw [win_comm]; exact hw)
      have HDX := Lib.hid (show decide (d1 ≤ x) = true by rw [← hw]; exact (win_at hij PI.out PJ.out HD1.out rfl).symm)
      have WS := Lib.hid (win_wide hw HXY.out)
      have WN := Lib.hid (show decide (j ∈ nbs z x i z.length) = true from decide_eq_true ((mem_nbs z x i j).2 hw))
      clear hw
      have hdx := HDX.out
      have hbd : Below w3.heap.size w3 w3.drew := Below.of_drew _
      have BA0 := Lib.hid (B3.out.trans (hbd.mono B3.out.size))
      have XA0 := Lib.hid (X3.out.below hbd)
      have RA0 := Lib.hid (R3.out.below hbd)
      clear hbd B3 X3 R3
      have e0_0 : w3.drew.cell? ⟨b, 0, none⟩ = some (.slice A n c) := XA0.out.cell 0
      have e0_1 : w3.drew.cell? ⟨b, 1, none⟩ = some (.int .i64 x) := XA0.out.cell 1
      have e0_2 : w3.drew.cell? ⟨b, 2, none⟩ = some (.int .i64 y) := XA0.out.cell 2
      go_region_held3 (fun w' => w'.cell? ⟨b, 0, none⟩ = some (.slice A n c) ∧ w'.cell? ⟨b, 1, none⟩ = some (.int .i64 x) ∧ w'.cell? ⟨b, 2, none⟩ = some (.int .i64 y)) (first | (with_reducible exact ⟨e0_0, e0_1, e0_2⟩) | (with_reducible exact ⟨e1_0, e1_1, e1_2⟩) | (with_reducible exact ⟨e2_0, e2_1, e2_2⟩) | (with_reducible exact ⟨e3_0, e3_1, e3_2⟩) | (with_reducible exact ⟨e4_0, e4_1, e4_2⟩) | (with_reducible exact ⟨e5_0, e5_1, e5_2⟩) | (with_reducible exact ⟨e6_0, e6_1, e6_2⟩))
        (first
        | (have g9 := RA5; clear g9; have g8 := GC; clear g8; go_at_call 16; refine (bx.implCr A n c x y z j i _ _ _ RA5.out).mono ?_; rintro e v6 hp; obtain ⟨rfl, hb⟩ := bx.b_parts W2.out hp; clear hp; have BA6 := Lib.hid (BA5.out.trans (hb.mono BA5.out.size)); have XA6 := Lib.hid (XA5.out.below hb); have RA6 := Lib.hid (RA5.out.below hb); clear hb BA5 XA5 RA5; have e6_0 : v6.cell? ⟨b, 0, none⟩ = some (.slice A n c) := XA6.out.cell 0; have e6_1 : v6.cell? ⟨b, 1, none⟩ = some (.int .i64 x) := XA6.out.cell 1; have e6_2 : v6.cell? ⟨b, 2, none⟩ = some (.int .i64 y) := XA6.out.cell 2)
        | (go_at_call 18; refine (bx.lawContains _ j _ _ A4 n4 c4 _ NO.out.rd).mono ?_; rw [WN.out]; rintro e v9 ⟨rfl, rfl⟩; have GC := NO; clear NO)
        | (have g9 := RA4; clear g9; go_at_call 19; refine (bx.implNb A n c x y z i _ _ _ RA4.out HL.out).mono ?_; rintro e v5 ⟨A4, n4, c4, rfl, ho4, hb⟩; have NO := Lib.hid ho4; have BA5 := Lib.hid (BA4.out.trans (hb.mono BA4.out.size)); have XA5 := Lib.hid (XA4.out.below hb); have RA5 := Lib.hid (RA4.out.below hb); clear ho4 hb BA4 XA4 RA4; have e5_0 : v5.cell? ⟨b, 0, none⟩ = some (.slice A n c) := XA5.out.cell 0; have e5_1 : v5.cell? ⟨b, 1, none⟩ = some (.int .i64 x) := XA5.out.cell 1; have e5_2 : v5.cell? ⟨b, 2, none⟩ = some (.int .i64 y) := XA5.out.cell 2)
        | (have g9 := RA3; clear g9; go_at_call 17; refine (bx.implCs A n c x y z i j _ _ _ RA3.out).mono ?_; rintro e v4 hp; obtain ⟨rfl, hb⟩ := bx.b_parts WS.out hp; clear hp; have BA4 := Lib.hid (BA3.out.trans (hb.mono BA3.out.size)); have XA4 := Lib.hid (XA3.out.below hb); have RA4 := Lib.hid (RA3.out.below hb); clear hb BA3 XA3 RA3; have e4_0 : v4.cell? ⟨b, 0, none⟩ = some (.slice A n c) := XA4.out.cell 0; have e4_1 : v4.cell? ⟨b, 1, none⟩ = some (.int .i64 x) := XA4.out.cell 1; have e4_2 : v4.cell? ⟨b, 2, none⟩ = some (.int .i64 y) := XA4.out.cell 2)
        | (have g9 := RA2; clear g9; go_at_call 16; refine (bx.implCr A n c x y z i j _ _ _ RA2.out).mono ?_; rintro e v3 hp; obtain ⟨rfl, hb⟩ := bx.b_parts W1.out hp; clear hp; have BA3 := Lib.hid (BA2.out.trans (hb.mono BA2.out.size)); have XA3 := Lib.hid (XA2.out.below hb); have RA3 := Lib.hid (RA2.out.below hb); clear hb BA2 XA2 RA2; have e3_0 : v3.cell? ⟨b, 0, none⟩ = some (.slice A n c) := XA3.out.cell 0; have e3_1 : v3.cell? ⟨b, 1, none⟩ = some (.int .i64 x) := XA3.out.cell 1; have e3_2 : v3.cell? ⟨b, 2, none⟩ = some (.int .i64 y) := XA3.out.cell 2)
        | (have g9 := RA1; clear g9; go_at_call 15; refine (bx.implDst A n c x y z i j _ _ _ RA1.out).mono ?_; rintro e v2 hp; obtain ⟨rfl, hb⟩ := bx.n_parts HD1.out hp; clear hp; have BA2 := Lib.hid (BA1.out.trans (hb.mono BA1.out.size)); have XA2 := Lib.hid (XA1.out.below hb); have RA2 := Lib.hid (RA1.out.below hb); clear hb BA1 XA1 RA1; have e2_0 : v2.cell? ⟨b, 0, none⟩ = some (.slice A n c) := XA2.out.cell 0; have e2_1 : v2.cell? ⟨b, 1, none⟩ = some (.int .i64 x) := XA2.out.cell 1; have e2_2 : v2.cell? ⟨b, 2, none⟩ = some (.int .i64 y) := XA2.out.cell 2)
        | (have g9 := RA0; clear g9; go_at_call 16; refine (bx.implCr A n c x y z i j _ _ _ RA0.out).mono ?_; rintro e v1 hp; obtain ⟨rfl, hb⟩ := bx.b_parts W1.out hp; clear hp; have BA1 := Lib.hid (BA0.out.trans (hb.mono BA0.out.size)); have XA1 := Lib.hid (XA0.out.below hb); have RA1 := Lib.hid (RA0.out.below hb); clear hb BA0 XA0 RA0; have e1_0 : v1.cell? ⟨b, 0, none⟩ = some (.slice A n c) := XA1.out.cell 0; have e1_1 : v1.cell? ⟨b, 1, none⟩ = some (.int .i64 x) := XA1.out.cell 1; have e1_2 : v1.cell? ⟨b, 2, none⟩ = some (.int .i64 y) := XA1.out.cell 2))
      clear e0_0 e0_1 e0_2 e1_0 e1_1 e1_2 e2_0 e2_1 e2_2 e3_0 e3_1 e3_2 e4_0 e4_1 e4_2 e5_0 e5_1 e5_2 e6_0 e6_1 e6_2
      clear hdx
      go_wp2_with fail
      cases ha : win z x i k with
      | false =>
        have HA := Lib.hid ha
        have HH := Lib.hid (hdn_no1 (z := z) (r := x) (s := y) (b := j) ha)
        have HG := Lib.hid (show hdn z x y j i k = false by rw [hdn_comm]; exact HH.out)
        clear ha
        have c0 : ∀ m : bx.Af v6, m.w.cell? ⟨b, 0, none⟩ = some (.slice A n c) := fun m => (bx.Af.cells XA6.out m).cell 0
        have c1 : ∀ m : bx.Af v6, m.w.cell? ⟨b, 1, none⟩ = some (.int .i64 x) := fun m => (bx.Af.cells XA6.out m).cell 1
        have c2 : ∀ m : bx.Af v6, m.w.cell? ⟨b, 2, none⟩ = some (.int .i64 y) := fun m => (bx.Af.cells XA6.out m).cell 2
        have k0 := Lib.hid (fun m => by have hh := bx.implHd A n c x y z i j k _ _ _ (bx.Af.rd RA6.out m); rw [HH.out] at hh; exact hh : ∀ m : bx.Af v6, Calls Try.prog 20 #[.agg #[.slice A n c, .int .i64 x, .int .i64 y], .int .i64 i, .int .i64 j, .int .i64 k] m.w fun e w' => e = .returned (.bool false) ∧ Below m.w.heap.size m.w w')
        have k1 := Lib.hid (fun m => by have hh := bx.implCr A n c x y z i k _ _ _ (bx.Af.rd RA6.out m); rw [HA.out] at hh; exact hh : ∀ m : bx.Af v6, Calls Try.prog 16 #[.agg #[.slice A n c, .int .i64 x, .int .i64 y], .int .i64 i, .int .i64 k] m.w fun e w' => e = .returned (.bool false) ∧ Below m.w.heap.size m.w w')
        have k2 := Lib.hid (fun m => by have hh := bx.implHd A n c x y z j i k _ _ _ (bx.Af.rd RA6.out m); rw [HG.out] at hh; exact hh : ∀ m : bx.Af v6, Calls Try.prog 20 #[.agg #[.slice A n c, .int .i64 x, .int .i64 y], .int .i64 j, .int .i64 i, .int .i64 k] m.w fun e w' => e = .returned (.bool false) ∧ Below m.w.heap.size m.w w')
        refine bx.region_after (by kernel_rfl) (by kernel_rfl) ?_
        repeat (go_big_quiet_step ((first
          | (go_at_call 20; with_reducible exact bx.Af.call (k0.out _))
          | (go_at_call 16; with_reducible exact bx.Af.call (k1.out _))
          | (go_at_call 20; with_reducible exact bx.Af.call (k2.out _)))))
        refine wpQuiet_nil ?_
        intro _ hw'
        obtain ⟨nq, hw''⟩ := hw'
        subst hw''
        clear c0 c1 c2 k0 k1 k2
        go_wp2_with fail
        go_ret
        exact ⟨rfl, bx.Af.on BA6.out nq⟩
      | true =>
        cases hb2 : win z x j k with
        | false =>
          have HA := Lib.hid ha
          have HB := Lib.hid hb2
          have HH := Lib.hid (hdn_no2 (z := z) (r := x) (s := y) (a := i) hb2)
          have HG := Lib.hid (show hdn z x y j i k = false by rw [hdn_comm]; exact HH.out)
          clear ha hb2
          have c0 : ∀ m : bx.Af v6, m.w.cell? ⟨b, 0, none⟩ = some (.slice A n c) := fun m => (bx.Af.cells XA6.out m).cell 0
          have c1 : ∀ m : bx.Af v6, m.w.cell? ⟨b, 1, none⟩ = some (.int .i64 x) := fun m => (bx.Af.cells XA6.out m).cell 1
          have c2 : ∀ m : bx.Af v6, m.w.cell? ⟨b, 2, none⟩ = some (.int .i64 y) := fun m => (bx.Af.cells XA6.out m).cell 2
          have k0 := Lib.hid (fun m => by have hh := bx.implHd A n c x y z i j k _ _ _ (bx.Af.rd RA6.out m); rw [HH.out] at hh; exact hh : ∀ m : bx.Af v6, Calls Try.prog 20 #[.agg #[.slice A n c, .int .i64 x, .int .i64 y], .int .i64 i, .int .i64 j, .int .i64 k] m.w fun e w' => e = .returned (.bool false) ∧ Below m.w.heap.size m.w w')
          have k1 := Lib.hid (fun m => by have hh := bx.implCr A n c x y z i k _ _ _ (bx.Af.rd RA6.out m); rw [HA.out] at hh; exact hh : ∀ m : bx.Af v6, Calls Try.prog 16 #[.agg #[.slice A n c, .int .i64 x, .int .i64 y], .int .i64 i, .int .i64 k] m.w fun e w' => e = .returned (.bool true) ∧ Below m.w.heap.size m.w w')
          have k2 := Lib.hid (fun m => by have hh := bx.implCr A n c x y z j k _ _ _ (bx.Af.rd RA6.out m); rw [HB.out] at hh; exact hh : ∀ m : bx.Af v6, Calls Try.prog 16 #[.agg #[.slice A n c, .int .i64 x, .int .i64 y], .int .i64 j, .int .i64 k] m.w fun e w' => e = .returned (.bool false) ∧ Below m.w.heap.size m.w w')
          have k3 := Lib.hid (fun m => by have hh := bx.implHd A n c x y z j i k _ _ _ (bx.Af.rd RA6.out m); rw [HG.out] at hh; exact hh : ∀ m : bx.Af v6, Calls Try.prog 20 #[.agg #[.slice A n c, .int .i64 x, .int .i64 y], .int .i64 j, .int .i64 i, .int .i64 k] m.w fun e w' => e = .returned (.bool false) ∧ Below m.w.heap.size m.w w')
          refine bx.region_after (by kernel_rfl) (by kernel_rfl) ?_
          repeat (go_big_quiet_step ((first
            | (go_at_call 20; with_reducible exact bx.Af.call (k0.out _))
            | (go_at_call 16; with_reducible exact bx.Af.call (k1.out _))
            | (go_at_call 16; with_reducible exact bx.Af.call (k2.out _))
            | (go_at_call 20; with_reducible exact bx.Af.call (k3.out _)))))
          refine wpQuiet_nil ?_
          intro _ hw'
          obtain ⟨nq, hw''⟩ := hw'
          subst hw''
          clear c0 c1 c2 k0 k1 k2 k3
          go_wp2_with fail
          go_ret
          exact ⟨rfl, bx.Af.on BA6.out nq⟩
        | true =>
          obtain ⟨s1, hs1⟩ : ∃ v, win z y i j = v := ⟨_, rfl⟩
          have HA := Lib.hid ha
          have HB := Lib.hid hb2
          have HY := Lib.hid hs1
          have HH := Lib.hid (hdn_at hij ha hb2 hs1)
          have HG := Lib.hid (show hdn z x y j i k = !s1 by rw [hdn_comm]; exact HH.out)
          clear ha hb2 hs1
          cases s1 with
          | false =>
            have c0 : ∀ m : bx.Af v6, m.w.cell? ⟨b, 0, none⟩ = some (.slice A n c) := fun m => (bx.Af.cells XA6.out m).cell 0
            have c1 : ∀ m : bx.Af v6, m.w.cell? ⟨b, 1, none⟩ = some (.int .i64 x) := fun m => (bx.Af.cells XA6.out m).cell 1
            have c2 : ∀ m : bx.Af v6, m.w.cell? ⟨b, 2, none⟩ = some (.int .i64 y) := fun m => (bx.Af.cells XA6.out m).cell 2
            have k0 := Lib.hid (fun m => by have hh := bx.implHd A n c x y z i j k _ _ _ (bx.Af.rd RA6.out m); rw [HH.out] at hh; exact hh : ∀ m : bx.Af v6, Calls Try.prog 20 #[.agg #[.slice A n c, .int .i64 x, .int .i64 y], .int .i64 i, .int .i64 j, .int .i64 k] m.w fun e w' => e = .returned (.bool (!false)) ∧ Below m.w.heap.size m.w w')
            have k1 := Lib.hid (fun m => by have hh := bx.implCr A n c x y z i k _ _ _ (bx.Af.rd RA6.out m); rw [HA.out] at hh; exact hh : ∀ m : bx.Af v6, Calls Try.prog 16 #[.agg #[.slice A n c, .int .i64 x, .int .i64 y], .int .i64 i, .int .i64 k] m.w fun e w' => e = .returned (.bool true) ∧ Below m.w.heap.size m.w w')
            have k2 := Lib.hid (fun m => by have hh := bx.implCr A n c x y z j k _ _ _ (bx.Af.rd RA6.out m); rw [HB.out] at hh; exact hh : ∀ m : bx.Af v6, Calls Try.prog 16 #[.agg #[.slice A n c, .int .i64 x, .int .i64 y], .int .i64 j, .int .i64 k] m.w fun e w' => e = .returned (.bool true) ∧ Below m.w.heap.size m.w w')
            have k3 := Lib.hid (fun m => by have hh := bx.implCs A n c x y z i j _ _ _ (bx.Af.rd RA6.out m); rw [HY.out] at hh; exact hh : ∀ m : bx.Af v6, Calls Try.prog 17 #[.agg #[.slice A n c, .int .i64 x, .int .i64 y], .int .i64 i, .int .i64 j] m.w fun e w' => e = .returned (.bool false) ∧ Below m.w.heap.size m.w w')
            have k4 := Lib.hid (fun m => by have hh := bx.implHd A n c x y z j i k _ _ _ (bx.Af.rd RA6.out m); rw [HG.out] at hh; exact hh : ∀ m : bx.Af v6, Calls Try.prog 20 #[.agg #[.slice A n c, .int .i64 x, .int .i64 y], .int .i64 j, .int .i64 i, .int .i64 k] m.w fun e w' => e = .returned (.bool (!false)) ∧ Below m.w.heap.size m.w w')
            refine bx.region_after (by kernel_rfl) (by kernel_rfl) ?_
            repeat (go_big_quiet_step ((first
              | (go_at_call 20; with_reducible exact bx.Af.call (k0.out _))
              | (go_at_call 16; with_reducible exact bx.Af.call (k1.out _))
              | (go_at_call 16; with_reducible exact bx.Af.call (k2.out _))
              | (go_at_call 17; with_reducible exact bx.Af.call (k3.out _))
              | (go_at_call 20; with_reducible exact bx.Af.call (k4.out _)))))
            refine wpQuiet_nil ?_
            intro _ hw'
            obtain ⟨nq, hw''⟩ := hw'
            subst hw''
            clear c0 c1 c2 k0 k1 k2 k3 k4
            go_wp2_with fail
            go_ret
            exact ⟨rfl, bx.Af.on BA6.out nq⟩
          | true =>
            have c0 : ∀ m : bx.Af v6, m.w.cell? ⟨b, 0, none⟩ = some (.slice A n c) := fun m => (bx.Af.cells XA6.out m).cell 0
            have c1 : ∀ m : bx.Af v6, m.w.cell? ⟨b, 1, none⟩ = some (.int .i64 x) := fun m => (bx.Af.cells XA6.out m).cell 1
            have c2 : ∀ m : bx.Af v6, m.w.cell? ⟨b, 2, none⟩ = some (.int .i64 y) := fun m => (bx.Af.cells XA6.out m).cell 2
            have k0 := Lib.hid (fun m => by have hh := bx.implHd A n c x y z i j k _ _ _ (bx.Af.rd RA6.out m); rw [HH.out] at hh; exact hh : ∀ m : bx.Af v6, Calls Try.prog 20 #[.agg #[.slice A n c, .int .i64 x, .int .i64 y], .int .i64 i, .int .i64 j, .int .i64 k] m.w fun e w' => e = .returned (.bool (!true)) ∧ Below m.w.heap.size m.w w')
            have k1 := Lib.hid (fun m => by have hh := bx.implCr A n c x y z i k _ _ _ (bx.Af.rd RA6.out m); rw [HA.out] at hh; exact hh : ∀ m : bx.Af v6, Calls Try.prog 16 #[.agg #[.slice A n c, .int .i64 x, .int .i64 y], .int .i64 i, .int .i64 k] m.w fun e w' => e = .returned (.bool true) ∧ Below m.w.heap.size m.w w')
            have k2 := Lib.hid (fun m => by have hh := bx.implCr A n c x y z j k _ _ _ (bx.Af.rd RA6.out m); rw [HB.out] at hh; exact hh : ∀ m : bx.Af v6, Calls Try.prog 16 #[.agg #[.slice A n c, .int .i64 x, .int .i64 y], .int .i64 j, .int .i64 k] m.w fun e w' => e = .returned (.bool true) ∧ Below m.w.heap.size m.w w')
            have k3 := Lib.hid (fun m => by have hh := bx.implCs A n c x y z i j _ _ _ (bx.Af.rd RA6.out m); rw [HY.out] at hh; exact hh : ∀ m : bx.Af v6, Calls Try.prog 17 #[.agg #[.slice A n c, .int .i64 x, .int .i64 y], .int .i64 i, .int .i64 j] m.w fun e w' => e = .returned (.bool true) ∧ Below m.w.heap.size m.w w')
            have k4 := Lib.hid (fun m => by have hh := bx.implHd A n c x y z j i k _ _ _ (bx.Af.rd RA6.out m); rw [HG.out] at hh; exact hh : ∀ m : bx.Af v6, Calls Try.prog 20 #[.agg #[.slice A n c, .int .i64 x, .int .i64 y], .int .i64 j, .int .i64 i, .int .i64 k] m.w fun e w' => e = .returned (.bool (!true)) ∧ Below m.w.heap.size m.w w')
            refine bx.region_after (by kernel_rfl) (by kernel_rfl) ?_
            repeat (go_big_quiet_step ((first
              | (go_at_call 20; with_reducible exact bx.Af.call (k0.out _))
              | (go_at_call 16; with_reducible exact bx.Af.call (k1.out _))
              | (go_at_call 16; with_reducible exact bx.Af.call (k2.out _))
              | (go_at_call 17; with_reducible exact bx.Af.call (k3.out _))
              | (go_at_call 20; with_reducible exact bx.Af.call (k4.out _)))))
            refine wpQuiet_nil ?_
            intro _ hw'
            obtain ⟨nq, hw''⟩ := hw'
            subst hw''
            clear c0 c1 c2 k0 k1 k2 k3 k4
            go_wp2_with fail
            go_ret
            exact ⟨rfl, bx.Af.on BA6.out nq⟩
end Go.Proofs.Ytichhbkgebimeaa.hearLaw
