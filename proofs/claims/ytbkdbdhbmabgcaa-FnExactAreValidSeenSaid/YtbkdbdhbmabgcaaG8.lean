/- Merged texts of this seat. Sn1: What is remembered of a frame; the search in a list; a list copied. Condition: none. | Sn2: IsDuplicate, RememberFrame and AcceptFrame of both sides. Condition: up to 2^26 remembered frames. | Hash: The hash of a list of integers, program and specification. Condition: none. | Sn3: Sequence numbers: NextSeq, SeqDistance and IsNewer of both sides. Condition: none. | Snt: A set of senders and categories in memory (map[frameSource]bool, every element true): what it holds, look-ups, stores, deletions; which sources are left behind some remembered frames. Condition: none. -/
import Derived.Maps.OwnSet
import Derived.Test.YtbkdbdhbmabgcaaG1
import Derived.Test.YtbkdbdhbmabgcaaG3
import Derived.Test.YtbkdbdhbmabgcaaG6
import Derived.Test.YtbkdbdhbmabgcaaG7
section
namespace Go.Proofs.Ytbkdbdhbmabgcaa.sn
open Go.RowKit sl harn bx mrw drk stw
set_option linter.unusedVariables false
set_option linter.unusedSimpArgs false
open ux (Sen Fra)

set_option maxRecDepth 100000 in
set_option maxHeartbeats 4000000 in
theorem implSo (x : Sen) (w : World) :
    Calls Try.prog 74 #[sV x] w (fun e w' => e = .returned (.agg #[.int .i64 x.From, .int .i64 x.Category]) ∧ Below w.heap.size w w') := by
  go_enter Try.func74, Try.ntmps74
  go_upto_region 1 with fail
  obtain ⟨w0, hW⟩ : ∃ w0, (w.alloc (.cells #[.int .i64 x.From, .int .i64 x.Category, .int .i64 x.Seq, .int .i64 x.Fragment] 84)).alloc (.cells #[.int .i64 0, .int .i64 0] 88) = w0 := ⟨_, rfl⟩
  rw [hW]
  have B0 := Lib.hid (show Below w.heap.size w w0 by rw [← hW]; exact ((Below.refl _ _).alloc (by simp <;> omega) _).alloc (by simp <;> omega) _)
  have X0 := Lib.hid (show Bx 84 w0 (w.heap.size) #[.int .i64 x.From, .int .i64 x.Category, .int .i64 x.Seq, .int .i64 x.Fragment] by
      rw [← hW]
      have hh := Bx.made 84 w #[.int .i64 x.From, .int .i64 x.Category, .int .i64 x.Seq, .int .i64 x.Fragment]
      exact (hh.below (below_box _ _)))
  have Z0 := Lib.hid (show Bx 88 w0 (w.heap.size + 1) #[.int .i64 0, .int .i64 0] by
      rw [← hW]
      have hh : Bx 88 ((w.alloc (.cells #[.int .i64 x.From, .int .i64 x.Category, .int .i64 x.Seq, .int .i64 x.Fragment] 84)).alloc (.cells #[.int .i64 0, .int .i64 0] 88)) (w.heap.size + 1) #[.int .i64 0, .int .i64 0] := by have hh := Bx.made 88 (w.alloc (.cells #[.int .i64 x.From, .int .i64 x.Category, .int .i64 x.Seq, .int .i64 x.Fragment] 84)) #[.int .i64 0, .int .i64 0]; simpa using hh
      exact hh)
  clear hW
  have LTX := Lib.hid X0.out.lt
  have LTZ := Lib.hid Z0.out.lt
  have cX0 : w0.cell? ⟨w.heap.size, 0, none⟩ = some (.int .i64 x.From) := X0.out.cell 0
  have cX1 : w0.cell? ⟨w.heap.size, 1, none⟩ = some (.int .i64 x.Category) := X0.out.cell 1
  have cX2 : w0.cell? ⟨w.heap.size, 2, none⟩ = some (.int .i64 x.Seq) := X0.out.cell 2
  have cX3 : w0.cell? ⟨w.heap.size, 3, none⟩ = some (.int .i64 x.Fragment) := X0.out.cell 3
  go_wp2_with (first | (refine stw.list_store rfl 88 _ _ rfl (w.heap.size + 1) #[.int .i64 x.From, .int .i64 x.Category] rfl rfl 88 _ Z0.out rfl szK (oneK _ _) ?_; intro wz1 hz))
  clear cX0 cX1 cX2 cX3
  have B1 := Lib.hid (hz.on B0.out (by have hs0 := LTX.out; have hs1 := LTZ.out; first | omega | (simp <;> omega)))
  have X1 := Lib.hid (hz.keep X0.out (by have hs0 := LTX.out; have hs1 := LTZ.out; first | omega | (simp <;> omega)))
  have Z1 := Lib.hid (hz.box)
  clear hz B0 X0 Z0
  (try simp only [Exit.inBlock, Exit.then])
  refine bodyPost_ret (v := .agg #[.int .i64 x.From, .int .i64 x.Category]) ?_ rfl ?_
  · rw [results_cell1 rfl]
    exact stw.back Z1.out Try.underlying88 rfl szK
  · exact ⟨rfl, B1.out⟩
theorem implS4 (a b c d : Int) (w : World) : Calls Try.prog 74 #[.agg #[.int .i64 a, .int .i64 b, .int .i64 c, .int .i64 d]] w fun e w' => e = .returned (.agg #[.int .i64 a, .int .i64 b]) ∧ Below w.heap.size w w' := implSo ⟨a, b, c, d⟩ w
set_option maxRecDepth 100000 in
set_option maxHeartbeats 4000000 in
theorem implSe (f : Fra) (k : Int) (A : Option Addr) (n c : Nat) (w : World) :
    Calls Try.prog 72 #[fr.fV f A n c, .int .i64 k] w (fun e w' => e = .returned (.agg #[.int .i64 f.From, .int .i64 k, .int .i64 f.Seq, .int .i64 f.Fragment]) ∧ Below w.heap.size w w') := by
  go_enter Try.func72, Try.ntmps72
  go_upto_region 1 with fail
  obtain ⟨w0, hW⟩ : ∃ w0, (w.alloc (.cells #[.int .i64 f.Kind, .int .i64 f.From, .int .i64 f.To, .int .i64 f.Seq, .int .i64 f.Fragment, .bool f.More, .bool f.Retry, .int .i64 f.Duration, .slice A n c] 25)).alloc (.cells #[.int .i64 0, .int .i64 0, .int .i64 0, .int .i64 0] 84) = w0 := ⟨_, rfl⟩
  rw [hW]
  have B0 := Lib.hid (show Below w.heap.size w w0 by rw [← hW]; exact ((Below.refl _ _).alloc (by simp <;> omega) _).alloc (by simp <;> omega) _)
  have X0 := Lib.hid (show Bx 25 w0 (w.heap.size) #[.int .i64 f.Kind, .int .i64 f.From, .int .i64 f.To, .int .i64 f.Seq, .int .i64 f.Fragment, .bool f.More, .bool f.Retry, .int .i64 f.Duration, .slice A n c] by
      rw [← hW]
      have hh := Bx.made 25 w #[.int .i64 f.Kind, .int .i64 f.From, .int .i64 f.To, .int .i64 f.Seq, .int .i64 f.Fragment, .bool f.More, .bool f.Retry, .int .i64 f.Duration, .slice A n c]
      exact (hh.below (below_box _ _)))
  have Z0 := Lib.hid (show Bx 84 w0 (w.heap.size + 1) #[.int .i64 0, .int .i64 0, .int .i64 0, .int .i64 0] by
      rw [← hW]
      have hh : Bx 84 ((w.alloc (.cells #[.int .i64 f.Kind, .int .i64 f.From, .int .i64 f.To, .int .i64 f.Seq, .int .i64 f.Fragment, .bool f.More, .bool f.Retry, .int .i64 f.Duration, .slice A n c] 25)).alloc (.cells #[.int .i64 0, .int .i64 0, .int .i64 0, .int .i64 0] 84)) (w.heap.size + 1) #[.int .i64 0, .int .i64 0, .int .i64 0, .int .i64 0] := by have hh := Bx.made 84 (w.alloc (.cells #[.int .i64 f.Kind, .int .i64 f.From, .int .i64 f.To, .int .i64 f.Seq, .int .i64 f.Fragment, .bool f.More, .bool f.Retry, .int .i64 f.Duration, .slice A n c] 25)) #[.int .i64 0, .int .i64 0, .int .i64 0, .int .i64 0]; simpa using hh
      exact hh)
  clear hW
  have LTX := Lib.hid X0.out.lt
  have LTZ := Lib.hid Z0.out.lt
  have cX0 : w0.cell? ⟨w.heap.size, 0, none⟩ = some (.int .i64 f.Kind) := X0.out.cell 0
  have cX1 : w0.cell? ⟨w.heap.size, 1, none⟩ = some (.int .i64 f.From) := X0.out.cell 1
  have cX2 : w0.cell? ⟨w.heap.size, 2, none⟩ = some (.int .i64 f.To) := X0.out.cell 2
  have cX3 : w0.cell? ⟨w.heap.size, 3, none⟩ = some (.int .i64 f.Seq) := X0.out.cell 3
  have cX4 : w0.cell? ⟨w.heap.size, 4, none⟩ = some (.int .i64 f.Fragment) := X0.out.cell 4
  have cX5 : w0.cell? ⟨w.heap.size, 5, none⟩ = some (.bool f.More) := X0.out.cell 5
  have cX6 : w0.cell? ⟨w.heap.size, 6, none⟩ = some (.bool f.Retry) := X0.out.cell 6
  have cX7 : w0.cell? ⟨w.heap.size, 7, none⟩ = some (.int .i64 f.Duration) := X0.out.cell 7
  have cX8 : w0.cell? ⟨w.heap.size, 8, none⟩ = some (.slice A n c) := X0.out.cell 8
  go_wp2_with (first | (refine stw.list_store rfl 84 _ _ rfl (w.heap.size + 1) #[.int .i64 f.From, .int .i64 k, .int .i64 f.Seq, .int .i64 f.Fragment] rfl rfl 84 _ Z0.out rfl szN (oneN _ _ _ _) ?_; intro wz1 hz))
  clear cX0 cX1 cX2 cX3 cX4 cX5 cX6 cX7 cX8
  have B1 := Lib.hid (hz.on B0.out (by have hs0 := LTX.out; have hs1 := LTZ.out; first | omega | (simp <;> omega)))
  have X1 := Lib.hid (hz.keep X0.out (by have hs0 := LTX.out; have hs1 := LTZ.out; first | omega | (simp <;> omega)))
  have Z1 := Lib.hid (hz.box)
  clear hz B0 X0 Z0
  (try simp only [Exit.inBlock, Exit.then])
  refine bodyPost_ret (v := .agg #[.int .i64 f.From, .int .i64 k, .int .i64 f.Seq, .int .i64 f.Fragment]) ?_ rfl ?_
  · rw [results_cell1 rfl]
    exact stw.back Z1.out Try.underlying84 rfl szN
  · exact ⟨rfl, B1.out⟩
set_option maxRecDepth 100000 in
set_option maxHeartbeats 4000000 in
theorem implCf (x : Sen) (a b : Int) (bk : Nat) (w : World) (hY : Bx 88 w bk #[.int .i64 a, .int .i64 b]) :
    Calls Try.prog 95 #[sV x, .pointer (some ⟨bk, 0, none⟩)] w (BPost (hit a b x) w) := by
  have YW := Lib.hid hY
  clear hY
  go_enter Try.func95, Try.ntmps95
  go_upto_region 1 with fail
  obtain ⟨w0, hW⟩ : ∃ w0, w.alloc (.cells #[.int .i64 x.From, .int .i64 x.Category, .int .i64 x.Seq, .int .i64 x.Fragment] 84) = w0 := ⟨_, rfl⟩
  rw [hW]
  have B0 := Lib.hid (show Below w.heap.size w w0 by rw [← hW]; exact below_box _ _)
  have X0 := Lib.hid (show Bx 84 w0 w.heap.size #[.int .i64 x.From, .int .i64 x.Category, .int .i64 x.Seq, .int .i64 x.Fragment] by rw [← hW]; exact Bx.made _ _ _)
  have Y0 := Lib.hid (show Bx 88 w0 bk #[.int .i64 a, .int .i64 b] by rw [← hW]; exact YW.out.below (below_box _ _))
  clear hW YW
  have q0 := Lib.hid (fun m => implSo x m.w : ∀ m : bx.Af w0, Calls Try.prog 74 #[sV x] m.w fun e w' => e = .returned (.agg #[.int .i64 x.From, .int .i64 x.Category]) ∧ Below m.w.heap.size m.w w')
  obtain ⟨v, hv⟩ : ∃ v, hit a b x = v := ⟨_, rfl⟩
  have HV := Lib.hid hv
  rw [hv]
  clear hv
  have mX0 : ∀ m : bx.Af w0, m.w.cell? ⟨w.heap.size, 0, none⟩ = some (.int .i64 x.From) := fun m => (bx.Af.cells X0.out m).cell 0
  have mX1 : ∀ m : bx.Af w0, m.w.cell? ⟨w.heap.size, 1, none⟩ = some (.int .i64 x.Category) := fun m => (bx.Af.cells X0.out m).cell 1
  have mX2 : ∀ m : bx.Af w0, m.w.cell? ⟨w.heap.size, 2, none⟩ = some (.int .i64 x.Seq) := fun m => (bx.Af.cells X0.out m).cell 2
  have mX3 : ∀ m : bx.Af w0, m.w.cell? ⟨w.heap.size, 3, none⟩ = some (.int .i64 x.Fragment) := fun m => (bx.Af.cells X0.out m).cell 3
  have mY0 : ∀ m : bx.Af w0, m.w.cell? ⟨bk, 0, none⟩ = some (.int .i64 a) := fun m => (bx.Af.cells Y0.out m).cell 0
  have mY1 : ∀ m : bx.Af w0, m.w.cell? ⟨bk, 1, none⟩ = some (.int .i64 b) := fun m => (bx.Af.cells Y0.out m).cell 1
  by_cases e1 : x.From = a
  · by_cases e2 : x.Category = b
    · have HE := Lib.hid (show v = true by rw [← HV.out]; simp [hit, e1, e2])
      have g1 : (x.From == a) = true := by simp [e1]
      have g2 : (x.Category == b) = true := by simp [e2]
      clear e1 e2
      refine bx.region_after (by kernel_rfl) (by kernel_rfl) ?_
      repeat (go_big_quiet_step ((go_at_call 74; with_reducible exact bx.Af.call (q0.out _))))
      refine wpQuiet_nil ?_
      intro _ hw'
      obtain ⟨nq9, hw''⟩ := hw'
      subst hw''
      clear mX0 mX1 mX2 mX3 mY0 mY1 q0 g1 g2
      obtain ⟨w1, hw5⟩ : ∃ w5, nq9.w = w5 := ⟨_, rfl⟩
      have hb := nq9.below
      rw [hw5] at hb
      (try rw [hw5])
      clear hw5
      have SS1 := Lib.hid hb.size
      have B1 := Lib.hid (B0.out.trans (hb.mono B0.out.size))
      have Y1 := Lib.hid (Y0.out.below hb)
      have X1 := Lib.hid (X0.out.below hb)
      clear hb nq9 B0 Y0 X0
      go_wp2_with fail
      go_ret
      exact ⟨by (try rw [HV.out]); rw [HE.out]; try rfl, B1.out⟩
    · have HE := Lib.hid (show v = false by rw [← HV.out]; simp [hit, e2])
      have g2 : (x.Category == b) = false := by simp [e2]
      clear e1 e2
      refine bx.region_after (by kernel_rfl) (by kernel_rfl) ?_
      repeat (go_big_quiet_step ((go_at_call 74; with_reducible exact bx.Af.call (q0.out _))))
      refine wpQuiet_nil ?_
      intro _ hw'
      obtain ⟨nq9, hw''⟩ := hw'
      subst hw''
      clear mX0 mX1 mX2 mX3 mY0 mY1 q0 g2
      obtain ⟨w1, hw5⟩ : ∃ w5, nq9.w = w5 := ⟨_, rfl⟩
      have hb := nq9.below
      rw [hw5] at hb
      (try rw [hw5])
      clear hw5
      have SS1 := Lib.hid hb.size
      have B1 := Lib.hid (B0.out.trans (hb.mono B0.out.size))
      have Y1 := Lib.hid (Y0.out.below hb)
      have X1 := Lib.hid (X0.out.below hb)
      clear hb nq9 B0 Y0 X0
      go_wp2_with fail
      go_ret
      exact ⟨by (try rw [HV.out]); rw [HE.out]; try rfl, B1.out⟩
  · have HE := Lib.hid (show v = false by rw [← HV.out]; simp [hit, e1])
    have g1 : (x.From == a) = false := by simp [e1]
    clear e1
    refine bx.region_after (by kernel_rfl) (by kernel_rfl) ?_
    repeat (go_big_quiet_step ((go_at_call 74; with_reducible exact bx.Af.call (q0.out _))))
    refine wpQuiet_nil ?_
    intro _ hw'
    obtain ⟨nq9, hw''⟩ := hw'
    subst hw''
    clear mX0 mX1 mX2 mX3 mY0 mY1 q0 g1
    obtain ⟨w1, hw5⟩ : ∃ w5, nq9.w = w5 := ⟨_, rfl⟩
    have hb := nq9.below
    rw [hw5] at hb
    (try rw [hw5])
    clear hw5
    have SS1 := Lib.hid hb.size
    have B1 := Lib.hid (B0.out.trans (hb.mono B0.out.size))
    have Y1 := Lib.hid (Y0.out.below hb)
    have X1 := Lib.hid (X0.out.below hb)
    clear hb nq9 B0 Y0 X0
    go_wp2_with fail
    go_ret
    exact ⟨by (try rw [HV.out]); rw [HE.out]; try rfl, B1.out⟩
set_option maxRecDepth 100000 in
set_option maxHeartbeats 4000000 in
theorem implIx (a b : Int) (bk : Nat) (ms : List Sen) (A : Option Addr) (n cap lo hi : Nat) (w : World) (h : Rq senS w lo hi A n cap ms) (hY : Bx 88 w bk #[.int .i64 a, .int .i64 b]) :
    Calls Try.prog 94 #[.slice A n cap, .func (.func 95) #[] #[.pointer (some ⟨bk, 0, none⟩)]] w (NPost (fidx ms a b) w) := by
  have QW := Lib.hid h
  have hqh := h.hi_
  have hqc := h.cap_
  have HQC := Lib.hid hqc
  have HLN0 := Lib.hid h.len
  have LHQ := Lib.hid hqh
  clear h
  have YW := Lib.hid hY
  clear hY
  obtain ⟨v, hv⟩ : ∃ v, fidx ms a b = v := ⟨_, rfl⟩
  have HV := Lib.hid hv
  rw [hv]
  clear hv
  go_enter Try.func94, Try.ntmps94
  go_wp2_with fail
  have B0 := Lib.hid (Below.refl w.heap.size w)
  have Q0 := QW
  have Y0 := YW
  go_loopw [8] (fun v0 wr => ∃ (k : Nat), v0 = .int .i64 ((k : Int)) ∧ (k ≤ n) ∧ (∀ i, i < k → hit a b (ms.getD i zn) = false) ∧ Below w.heap.size w wr ∧ Bx 88 wr bk #[.int .i64 a, .int .i64 b] ∧ Rq senS wr lo hi A n cap ms) (fun i _ => n - (intOf i).toNat)
  case atStart => exact ⟨0, rfl, by omega, fun i hi => by omega, B0.out, Y0.out, Q0.out⟩
  case round =>
    obtain ⟨k, rfl, ghk, ghp, gB1, gY1, gQ1⟩ := hrel
    have B1 := Lib.hid gB1
    have Y1 := Lib.hid gY1
    have Q1 := Lib.hid gQ1
    have hk := Lib.hid ghk
    have hp := Lib.hid ghp
    clear gB1 gY1 gQ1 ghk ghp
    have LUY1 := Lib.hid Y1.out.lt
    have SBR1 := Lib.hid B1.out.size
    have hk := hk.out
    by_cases hlt : k < n
    · obtain ⟨bq, off, y, hA, hy, h1, h2, ce0, ce1, ce2, ce3⟩ := at_ Q1.out hlt
      have HY := Lib.hid hy
      clear hy h1 h2
      subst hA
      have hlt2 : (k : Int) < n := by omega
      obtain ⟨t, ht⟩ : ∃ t, hit a b y = t := ⟨_, rfl⟩
      have HT := Lib.hid ht
      clear ht
      go_wp2_with fail
      clear ce0 ce1 ce2 ce3
      (with_reducible refine (implCf y a b bk _ Y1.out).mono ?_)
      rintro e w2 hp
      obtain ⟨rfl, hb⟩ := b_parts HT.out hp
      clear hp
      have SS2 := Lib.hid hb.size
      have B2 := Lib.hid (B1.out.trans (hb.mono B1.out.size))
      have Y2 := Lib.hid (Y1.out.below hb)
      have Q2 := Lib.hid (Q1.out.below hb)
      clear hb  B1 Y1 Q1
      cases t with
      | true =>
        have HE := Lib.hid (show v = (k : Int) by rw [← HV.out]; exact fidx_hit hp.out HY.out HT.out)
        go_wp2_with fail
        go_ret
        exact ⟨by (try rw [HV.out]); rw [HE.out]; try rfl, B2.out⟩
      | false =>
        have HN := Lib.hid (nohit hp.out HY.out HT.out)
        go_wp2_with fail
        go_roundw
        case rel => exact ⟨k + 1, by go_num, by omega, HN.out, B2.out, Y2.out, Q2.out⟩
        case measure => simp [intOf]; omega
    · have hlt2 : ¬ (k : Int) < n := by omega
      have HE := Lib.hid (show v = -1 by rw [← HV.out]; exact fidx_none hp.out (by rw [HLN0.out]; omega))
      go_wp2_with fail
      go_ret
      exact ⟨by (try rw [HV.out]); rw [HE.out]; try rfl, B1.out⟩
set_option maxRecDepth 100000 in
set_option maxHeartbeats 4000000 in
theorem implFs (a b : Int) (ms : List Sen) (A : Option Addr) (n cap lo hi : Nat) (w : World) (h : Rq senS w lo hi A n cap ms) :
    Calls Try.prog 73 #[.slice A n cap, .agg #[.int .i64 a, .int .i64 b]] w (NPost (fidx ms a b) w) := by
  have QW := Lib.hid h
  have hqh := h.hi_
  have hqc := h.cap_
  have HQC := Lib.hid hqc
  have HLN0 := Lib.hid h.len
  have LHQ := Lib.hid hqh
  clear h
  obtain ⟨v, hv⟩ : ∃ v, fidx ms a b = v := ⟨_, rfl⟩
  have HV := Lib.hid hv
  rw [hv]
  clear hv
  go_enter Try.func73, Try.ntmps73
  go_upto_region 1 with fail
  obtain ⟨w0, hW⟩ : ∃ w0, w.alloc (.cells #[.int .i64 a, .int .i64 b] 88) = w0 := ⟨_, rfl⟩
  rw [hW]
  have B0 := Lib.hid (show Below w.heap.size w w0 by rw [← hW]; exact (Below.refl _ _).alloc (by simp <;> omega) _)
  have Y0 := Lib.hid (show Bx 88 w0 (w.heap.size) #[.int .i64 a, .int .i64 b] by
      rw [← hW]
      have hh := Bx.made 88 w #[.int .i64 a, .int .i64 b]
      exact hh)
  have Q0 := Lib.hid (show Rq senS w0 lo hi A n cap ms by rw [← hW]; exact (QW.out.below (below_box _ _)))
  clear hW
  have LTY := Lib.hid Y0.out.lt
  go_wp2_with fail
  (with_reducible refine (implIx a b w.heap.size ms A n cap _ _ _ Q0.out Y0.out).mono ?_)
  rintro e w1 hp
  obtain ⟨rfl, hb⟩ := n_parts HV.out hp
  clear hp
  have SS1 := Lib.hid hb.size
  have B1 := Lib.hid (B0.out.trans (hb.mono B0.out.size))
  have Y1 := Lib.hid (Y0.out.below hb)
  have Q1 := Lib.hid (Q0.out.below hb)
  clear hb  B0 Y0 Q0
  go_wp2_with fail
  go_ret
  exact ⟨rfl, B1.out⟩
set_option maxRecDepth 100000 in
set_option maxHeartbeats 4000000 in
theorem implCy (ms : List Sen) (A : Option Addr) (n cap lo hi : Nat) (w : World) (h : Rq senS w lo hi A n cap ms) (hn : n ≤ 67108864) :
    Calls Try.prog 70 #[.slice A n cap] w (NnPost ms w) := by
  obtain ⟨i0, hi0, hz0, hz1, hz2⟩ := info_parts infoN
  have HZ := Lib.hid (And.intro hi0 (And.intro hz0 (And.intro hz1 hz2)))
  clear hi0 hz0 hz1 hz2
  have QW := Lib.hid h
  have hqh := h.hi_
  have hqc := h.cap_
  have HQC := Lib.hid hqc
  have HLN0 := Lib.hid h.len
  have LHQ := Lib.hid hqh
  clear h
  have HN := Lib.hid hn
  clear hn
  go_enter Try.func70, Try.ntmps70
  have B0 := Lib.hid (Below.refl w.heap.size w)
  have Q0 := QW
  go_wp2_with (at_builtin; refine list_catE w rfl _ _ 40 rfl Try.underlying40 HZ.out.1 HZ.out.2.1 HZ.out.2.2.1 (by rw [HZ.out.2.2.2]; omega) rfl rfl rfl Q0.out (by have := HN.out; omega) ?_; intro A2 c2 w1 ho2 hb; have SS1 := Lib.hid hb.size; have B1 := Lib.hid (B0.out.trans (hb.mono B0.out.size)); have Q1 := Lib.hid (Q0.out.below hb); clear hb B0 Q0; have O1 := Lib.hid ho2; clear ho2)
  go_ret
  exact ⟨_, _, _, rfl, O1.out, B1.out⟩
set_option maxRecDepth 100000 in
set_option maxHeartbeats 4000000 in
theorem specFd (a b : Int) (ms : List Sen) (A : Option Addr) (n cap lo hi : Nat) (w : World) (h : Rq senS w lo hi A n cap ms) :
    Calls Try.prog 71 #[.slice A n cap, .int .i64 a, .int .i64 b] w (NPost (fidx ms a b) w) := by
  have QW := Lib.hid h
  have hqh := h.hi_
  have hqc := h.cap_
  have HQC := Lib.hid hqc
  have HLN0 := Lib.hid h.len
  have LHQ := Lib.hid hqh
  clear h
  obtain ⟨v, hv⟩ : ∃ v, fidx ms a b = v := ⟨_, rfl⟩
  have HV := Lib.hid hv
  rw [hv]
  clear hv
  go_enter Try.func71, Try.ntmps71
  go_wp2_with fail
  have B0 := Lib.hid (Below.refl w.heap.size w)
  have Q0 := QW
  go_loopw [7] (fun v0 wr => ∃ (k : Nat), v0 = .int .i64 ((k : Int)) ∧ (k ≤ n) ∧ (∀ i, i < k → hit a b (ms.getD i zn) = false) ∧ Below w.heap.size w wr ∧ Rq senS wr lo hi A n cap ms) (fun i _ => n - (intOf i).toNat)
  case atStart => exact ⟨0, rfl, by omega, fun i hi => by omega, B0.out, Q0.out⟩
  case round =>
    obtain ⟨k, rfl, ghk, ghp, gB1, gQ1⟩ := hrel
    have B1 := Lib.hid gB1
    have Q1 := Lib.hid gQ1
    have hk := Lib.hid ghk
    have hp := Lib.hid ghp
    clear gB1 gQ1 ghk ghp
    have SBR1 := Lib.hid B1.out.size
    have hk := hk.out
    by_cases hlt : k < n
    · obtain ⟨bq, off, y, hA, hy, h1, h2, ce0, ce1, ce2, ce3⟩ := at_ Q1.out hlt
      have HY := Lib.hid hy
      clear hy h1 h2
      subst hA
      have hlt2 : (k : Int) < n := by omega
      by_cases e1 : y.From = a
      · by_cases e2 : y.Category = b
        · have HE := Lib.hid (show v = (k : Int) by rw [← HV.out]; exact fidx_hit hp.out HY.out (hit_iff.2 ⟨e1, e2⟩))
          go_wp2_with fail
          go_ret
          exact ⟨by (try rw [HV.out]); rw [HE.out]; try rfl, B1.out⟩
        · have HN := Lib.hid (nohit hp.out HY.out (by simp [hit, e2]))
          go_wp2_with fail
          go_roundw
          case rel => exact ⟨k + 1, by go_num, by omega, HN.out, B1.out, Q1.out⟩
          case measure => simp [intOf]; omega
      · have HN := Lib.hid (nohit hp.out HY.out (by simp [hit, e1]))
        go_wp2_with fail
        go_roundw
        case rel => exact ⟨k + 1, by go_num, by omega, HN.out, B1.out, Q1.out⟩
        case measure => simp [intOf]; omega
    · have hlt2 : ¬ (k : Int) < n := by omega
      have HE := Lib.hid (show v = -1 by rw [← HV.out]; exact fidx_none hp.out (by rw [HLN0.out]; omega))
      go_wp2_with fail
      go_ret
      exact ⟨by (try rw [HV.out]); rw [HE.out]; try rfl, B1.out⟩
end Go.Proofs.Ytbkdbdhbmabgcaa.sn
end

section
namespace Go.Proofs.Ytbkdbdhbmabgcaa.sn
open Go.RowKit sl harn bx mrw drk stw
set_option linter.unusedVariables false
set_option linter.unusedSimpArgs false
open ux (Sen Fra)

theorem oe_some {w : World} {lo hi n c : Nat} {A : Option Addr} {es : List (El Sen)} (h : Oe senS w lo hi A n c es) (hn : 0 < n) : ∃ g, A = some ⟨g, 0, none⟩ := by
  rcases h.form with ⟨_, h0, _⟩ | ⟨g, cur, h0, _⟩
  · omega
  · exact ⟨g, h0⟩
set_option maxRecDepth 100000 in
set_option maxHeartbeats 4000000 in
theorem implId (ms : List Sen) (A : Option Addr) (n cap lo hi : Nat) (w : World) (h : Rq senS w lo hi A n cap ms) (hn : n ≤ 67108864) (f : Fra) (k : Int) (Af : Option Addr) (nf cf : Nat) :
    Calls Try.prog 26 #[.slice A n cap, fr.fV f Af nf cf, .int .i64 k] w (BPost (isd ms f k) w) := by
  obtain ⟨i0, hi0, hz0, hz1, hz2⟩ := info_parts infoN
  have HZ := Lib.hid (And.intro hi0 (And.intro hz0 (And.intro hz1 hz2)))
  clear hi0 hz0 hz1 hz2
  have QW := Lib.hid h
  have hqh := h.hi_
  have hqc := h.cap_
  have HQC := Lib.hid hqc
  have HLN0 := Lib.hid h.len
  have LHQ := Lib.hid hqh
  clear h
  have HN := Lib.hid hn
  clear hn
  obtain ⟨v, hv⟩ : ∃ v, isd ms f k = v := ⟨_, rfl⟩
  have HV := Lib.hid hv
  rw [hv]
  clear hv
  go_enter Try.func26, Try.ntmps26
  go_upto_region 1 with fail
  obtain ⟨w0, hW⟩ : ∃ w0, w.alloc (.cells #[.int .i64 f.Kind, .int .i64 f.From, .int .i64 f.To, .int .i64 f.Seq, .int .i64 f.Fragment, .bool f.More, .bool f.Retry, .int .i64 f.Duration, .slice Af nf cf] 25) = w0 := ⟨_, rfl⟩
  rw [hW]
  have B0 := Lib.hid (show Below w.heap.size w w0 by rw [← hW]; exact (Below.refl _ _).alloc (by simp <;> omega) _)
  have X0 := Lib.hid (show Bx 25 w0 (w.heap.size) #[.int .i64 f.Kind, .int .i64 f.From, .int .i64 f.To, .int .i64 f.Seq, .int .i64 f.Fragment, .bool f.More, .bool f.Retry, .int .i64 f.Duration, .slice Af nf cf] by
      rw [← hW]
      have hh := Bx.made 25 w #[.int .i64 f.Kind, .int .i64 f.From, .int .i64 f.To, .int .i64 f.Seq, .int .i64 f.Fragment, .bool f.More, .bool f.Retry, .int .i64 f.Duration, .slice Af nf cf]
      exact hh)
  have Q0 := Lib.hid (show Rq senS w0 lo hi A n cap ms by rw [← hW]; exact (QW.out.below (below_box _ _)))
  clear hW
  have LTX := Lib.hid X0.out.lt
  obtain ⟨i0, hi0⟩ : ∃ i, fidx ms f.From k = i := ⟨_, rfl⟩
  have HI := Lib.hid hi0
  clear hi0
  have cX0 : w0.cell? ⟨w.heap.size, 0, none⟩ = some (.int .i64 f.Kind) := X0.out.cell 0
  have cX1 : w0.cell? ⟨w.heap.size, 1, none⟩ = some (.int .i64 f.From) := X0.out.cell 1
  have cX2 : w0.cell? ⟨w.heap.size, 2, none⟩ = some (.int .i64 f.To) := X0.out.cell 2
  have cX3 : w0.cell? ⟨w.heap.size, 3, none⟩ = some (.int .i64 f.Seq) := X0.out.cell 3
  have cX4 : w0.cell? ⟨w.heap.size, 4, none⟩ = some (.int .i64 f.Fragment) := X0.out.cell 4
  have cX5 : w0.cell? ⟨w.heap.size, 5, none⟩ = some (.bool f.More) := X0.out.cell 5
  have cX6 : w0.cell? ⟨w.heap.size, 6, none⟩ = some (.bool f.Retry) := X0.out.cell 6
  have cX7 : w0.cell? ⟨w.heap.size, 7, none⟩ = some (.int .i64 f.Duration) := X0.out.cell 7
  have cX8 : w0.cell? ⟨w.heap.size, 8, none⟩ = some (.slice Af nf cf) := X0.out.cell 8
  go_wp2_with fail
  clear cX0 cX1 cX2 cX3 cX4 cX5 cX6 cX7 cX8
  (with_reducible refine (implSe f k Af nf cf _).mono ?_)
  rintro e w1 ⟨rfl, hb⟩
  have SS1 := Lib.hid hb.size
  have B1 := Lib.hid (B0.out.trans (hb.mono B0.out.size))
  have X1 := Lib.hid (X0.out.below hb)
  have Q1 := Lib.hid (Q0.out.below hb)
  clear hb B0 X0 Q0
  go_upto_region 2 with fail
  obtain ⟨bl, hbb⟩ : ∃ b, w1.heap.size = b := ⟨_, rfl⟩
  generalize hW : w1.alloc (.cells #[.int .i64 f.From, .int .i64 k, .int .i64 f.Seq, .int .i64 f.Fragment] 84) = w2
  have LL := Lib.hid (show w.heap.size ≤ bl ∧ w.heap.size < bl ∧ hi ≤ bl by have h1 := B1.out.size; have h2X := X1.out.lt; have h2Q := Q1.out.hi_; have h3 := hbb; omega)
  have L2 := Lib.hid (show Bx 84 w2 bl #[.int .i64 f.From, .int .i64 k, .int .i64 f.Seq, .int .i64 f.Fragment] by rw [← hW, ← hbb]; exact Bx.made _ _ _)
  have hb : Below w1.heap.size w1 w2 := by rw [← hW]; exact below_box _ _
  (try rw [hbb])
  clear hW hbb
  have SS2 := Lib.hid hb.size
  have B2 := Lib.hid (B1.out.trans (hb.mono B1.out.size))
  have X2 := Lib.hid (X1.out.below hb)
  have Q2 := Lib.hid (Q1.out.below hb)
  clear hb B1 X1 Q1
  have LWL := Lib.hid L2.out.lt
  have cL0 : w2.cell? ⟨bl, 0, none⟩ = some (.int .i64 f.From) := L2.out.cell 0
  have cL1 : w2.cell? ⟨bl, 1, none⟩ = some (.int .i64 k) := L2.out.cell 1
  have cL2 : w2.cell? ⟨bl, 2, none⟩ = some (.int .i64 f.Seq) := L2.out.cell 2
  have cL3 : w2.cell? ⟨bl, 3, none⟩ = some (.int .i64 f.Fragment) := L2.out.cell 3
  go_wp2_with fail
  clear cL0 cL1 cL2 cL3
  (with_reducible refine (implS4 f.From k f.Seq f.Fragment _).mono ?_)
  rintro e w3 ⟨rfl, hb⟩
  have SS3 := Lib.hid hb.size
  have B3 := Lib.hid (B2.out.trans (hb.mono B2.out.size))
  have X3 := Lib.hid (X2.out.below hb)
  have L3 := Lib.hid (L2.out.below hb)
  have Q3 := Lib.hid (Q2.out.below hb)
  clear hb B2 X2 L2 Q2
  go_wp2_with fail
  (with_reducible refine (implFs f.From k ms A n cap _ _ _ Q3.out).mono ?_)
  rintro e w4 hp
  obtain ⟨rfl, hb⟩ := n_parts HI.out hp
  clear hp
  have SS4 := Lib.hid hb.size
  have B4 := Lib.hid (B3.out.trans (hb.mono B3.out.size))
  have X4 := Lib.hid (X3.out.below hb)
  have L4 := Lib.hid (L3.out.below hb)
  have Q4 := Lib.hid (Q3.out.below hb)
  clear hb  B3 X3 L3 Q3
  go_upto_region 3 with fail
  have mX6 : ∀ m : bx.Af w4, m.w.cell? ⟨w.heap.size, 6, none⟩ = some (.bool f.Retry) := fun m => (bx.Af.cells X4.out m).cell 6
  have mL0 : ∀ m : bx.Af w4, m.w.cell? ⟨bl, 0, none⟩ = some (.int .i64 f.From) := fun m => (bx.Af.cells L4.out m).cell 0
  have mL1 : ∀ m : bx.Af w4, m.w.cell? ⟨bl, 1, none⟩ = some (.int .i64 k) := fun m => (bx.Af.cells L4.out m).cell 1
  have mL2 : ∀ m : bx.Af w4, m.w.cell? ⟨bl, 2, none⟩ = some (.int .i64 f.Seq) := fun m => (bx.Af.cells L4.out m).cell 2
  have mL3 : ∀ m : bx.Af w4, m.w.cell? ⟨bl, 3, none⟩ = some (.int .i64 f.Fragment) := fun m => (bx.Af.cells L4.out m).cell 3
  cases hr : f.Retry with
  | false =>
    have HE := Lib.hid (show v = false by rw [← HV.out]; exact isd_retry hr)
    have mR : ∀ m : bx.Af w4, m.w.cell? ⟨w.heap.size, 6, none⟩ = some (.bool false) := fun m => by rw [← hr]; exact mX6 m
    clear hr mX6
    refine bx.region_after (by kernel_rfl) (by kernel_rfl) ?_
    repeat (go_big_quiet_step (fail))
    refine wpQuiet_nil ?_
    intro _ hw'
    obtain ⟨nq9, hw''⟩ := hw'
    subst hw''
    clear mL0 mL1 mL2 mL3 mR
    obtain ⟨w5, hw5⟩ : ∃ w5, nq9.w = w5 := ⟨_, rfl⟩
    have hb := nq9.below
    rw [hw5] at hb
    (try rw [hw5])
    clear hw5
    have SS5 := Lib.hid hb.size
    have B5 := Lib.hid (B4.out.trans (hb.mono B4.out.size))
    have X5 := Lib.hid (X4.out.below hb)
    have L5 := Lib.hid (L4.out.below hb)
    have Q5 := Lib.hid (Q4.out.below hb)
    clear hb nq9 B4 X4 L4 Q4
    go_wp2_with fail
    go_ret
    exact ⟨by rw [HE.out]; try rfl, B5.out⟩
  | true =>
    have mR : ∀ m : bx.Af w4, m.w.cell? ⟨w.heap.size, 6, none⟩ = some (.bool true) := fun m => by rw [← hr]; exact mX6 m
    clear mX6
    by_cases hfi : fst ms f.From k < ms.length
    · obtain ⟨i, hi9⟩ : ∃ i, fst ms f.From k = i := ⟨_, rfl⟩
      obtain rfl : i0 = (i : Int) := by rw [← HI.out]; rw [hi9] at hfi; exact fidx_of hi9 hfi
      have HFI := Lib.hid (And.intro hfi hi9)
      have hin : i < n := by have h1 := HLN0.out; rw [hi9] at hfi; omega
      clear hfi hi9
      obtain ⟨bq, off, y, hA, hy, h1, h2, ce0, ce1, ce2, ce3⟩ := at_ Q4.out hin
      have HY := Lib.hid hy
      clear hy h1 h2
      subst hA
      have mce0 := fr.af_cell ce0
      have mce1 := fr.af_cell ce1
      have mce2 := fr.af_cell ce2
      have mce3 := fr.af_cell ce3
      clear ce0 ce1 ce2 ce3
      have HE0 := Lib.hid (show v = (y.Seq == f.Seq && y.Fragment == f.Fragment) by rw [← HV.out]; exact isd_some hr HFI.out.2 HY.out)
      have hh := fst_at HFI.out.1
      rw [HFI.out.2, getD_of HY.out, hit_iff] at hh
      obtain ⟨hy1, hy2⟩ := hh
      have g1 : (y.From == f.From) = true := by simp [hy1]
      have g2 : (y.Category == k) = true := by simp [hy2]
      have gk : decide (0 ≤ (i : Int)) = true := decide_eq_true (by omega)
      have hinI : (i : Int) < n := by omega
      clear hy1 hy2 hr
      by_cases e1 : y.Seq = f.Seq
      · by_cases e2 : y.Fragment = f.Fragment
        · have g3 : (y.Seq == f.Seq) = true := by simp [e1]
          have g4 : (y.Fragment == f.Fragment) = true := by simp [e2]
          have HE := Lib.hid (show v = true by rw [HE0.out]; simp [e1, e2])
          clear e1 e2
          refine bx.region_after (by kernel_rfl) (by kernel_rfl) ?_
          repeat (go_big_quiet_step (fail))
          refine wpQuiet_nil ?_
          intro _ hw'
          obtain ⟨nq9, hw''⟩ := hw'
          subst hw''
          clear mL0 mL1 mL2 mL3 mR mce0 mce1 mce2 mce3 g1 g2 gk g3 g4
          obtain ⟨w5, hw5⟩ : ∃ w5, nq9.w = w5 := ⟨_, rfl⟩
          have hb := nq9.below
          rw [hw5] at hb
          (try rw [hw5])
          clear hw5
          have SS5 := Lib.hid hb.size
          have B5 := Lib.hid (B4.out.trans (hb.mono B4.out.size))
          have X5 := Lib.hid (X4.out.below hb)
          have L5 := Lib.hid (L4.out.below hb)
          have Q5 := Lib.hid (Q4.out.below hb)
          clear hb nq9 B4 X4 L4 Q4
          go_wp2_with fail
          go_ret
          exact ⟨by rw [HE.out]; try rfl, B5.out⟩
        · have g3 : (y.Seq == f.Seq) = true := by simp [e1]
          have g4 : (y.Fragment == f.Fragment) = false := by simp [e2]
          have HE := Lib.hid (show v = false by rw [HE0.out]; simp [e2])
          clear e1 e2
          refine bx.region_after (by kernel_rfl) (by kernel_rfl) ?_
          repeat (go_big_quiet_step (fail))
          refine wpQuiet_nil ?_
          intro _ hw'
          obtain ⟨nq9, hw''⟩ := hw'
          subst hw''
          clear mL0 mL1 mL2 mL3 mR mce0 mce1 mce2 mce3 g1 g2 gk g3 g4
          obtain ⟨w5, hw5⟩ : ∃ w5, nq9.w = w5 := ⟨_, rfl⟩
          have hb := nq9.below
          rw [hw5] at hb
          (try rw [hw5])
          clear hw5
          have SS5 := Lib.hid hb.size
          have B5 := Lib.hid (B4.out.trans (hb.mono B4.out.size))
          have X5 := Lib.hid (X4.out.below hb)
          have L5 := Lib.hid (L4.out.below hb)
          have Q5 := Lib.hid (Q4.out.below hb)
          clear hb nq9 B4 X4 L4 Q4
          go_wp2_with fail
          go_ret
          exact ⟨by rw [HE.out]; try rfl, B5.out⟩
      · have g3 : (y.Seq == f.Seq) = false := by simp [e1]
        have HE := Lib.hid (show v = false by rw [HE0.out]; simp [e1])
        clear e1
        refine bx.region_after (by kernel_rfl) (by kernel_rfl) ?_
        repeat (go_big_quiet_step (fail))
        refine wpQuiet_nil ?_
        intro _ hw'
        obtain ⟨nq9, hw''⟩ := hw'
        subst hw''
        clear mL0 mL1 mL2 mL3 mR mce0 mce1 mce2 mce3 g1 g2 gk g3
        obtain ⟨w5, hw5⟩ : ∃ w5, nq9.w = w5 := ⟨_, rfl⟩
        have hb := nq9.below
        rw [hw5] at hb
        (try rw [hw5])
        clear hw5
        have SS5 := Lib.hid hb.size
        have B5 := Lib.hid (B4.out.trans (hb.mono B4.out.size))
        have X5 := Lib.hid (X4.out.below hb)
        have L5 := Lib.hid (L4.out.below hb)
        have Q5 := Lib.hid (Q4.out.below hb)
        clear hb nq9 B4 X4 L4 Q4
        go_wp2_with fail
        go_ret
        exact ⟨by rw [HE.out]; try rfl, B5.out⟩
    · obtain rfl : i0 = -1 := by rw [← HI.out]; exact fidx_no hfi
      have HE := Lib.hid (show v = false by rw [← HV.out]; exact isd_none hfi)
      clear hfi hr
      refine bx.region_after (by kernel_rfl) (by kernel_rfl) ?_
      repeat (go_big_quiet_step (fail))
      refine wpQuiet_nil ?_
      intro _ hw'
      obtain ⟨nq9, hw''⟩ := hw'
      subst hw''
      clear mL0 mL1 mL2 mL3 mR
      obtain ⟨w5, hw5⟩ : ∃ w5, nq9.w = w5 := ⟨_, rfl⟩
      have hb := nq9.below
      rw [hw5] at hb
      (try rw [hw5])
      clear hw5
      have SS5 := Lib.hid hb.size
      have B5 := Lib.hid (B4.out.trans (hb.mono B4.out.size))
      have X5 := Lib.hid (X4.out.below hb)
      have L5 := Lib.hid (L4.out.below hb)
      have Q5 := Lib.hid (Q4.out.below hb)
      clear hb nq9 B4 X4 L4 Q4
      go_wp2_with fail
      go_ret
      exact ⟨by rw [HE.out]; try rfl, B5.out⟩
set_option maxRecDepth 100000 in
set_option maxHeartbeats 4000000 in
theorem specId (ms : List Sen) (A : Option Addr) (n cap lo hi : Nat) (w : World) (h : Rq senS w lo hi A n cap ms) (hn : n ≤ 67108864) (f : Fra) (k : Int) (Af : Option Addr) (nf cf : Nat) :
    Calls Try.prog 25 #[.slice A n cap, fr.fV f Af nf cf, .int .i64 k] w (BPost (isd ms f k) w) := by
  obtain ⟨i0, hi0, hz0, hz1, hz2⟩ := info_parts infoN
  have HZ := Lib.hid (And.intro hi0 (And.intro hz0 (And.intro hz1 hz2)))
  clear hi0 hz0 hz1 hz2
  have QW := Lib.hid h
  have hqh := h.hi_
  have hqc := h.cap_
  have HQC := Lib.hid hqc
  have HLN0 := Lib.hid h.len
  have LHQ := Lib.hid hqh
  clear h
  have HN := Lib.hid hn
  clear hn
  obtain ⟨v, hv⟩ : ∃ v, isd ms f k = v := ⟨_, rfl⟩
  have HV := Lib.hid hv
  rw [hv]
  clear hv
  go_enter Try.func25, Try.ntmps25
  go_upto_region 1 with fail
  obtain ⟨w0, hW⟩ : ∃ w0, w.alloc (.cells #[.int .i64 f.Kind, .int .i64 f.From, .int .i64 f.To, .int .i64 f.Seq, .int .i64 f.Fragment, .bool f.More, .bool f.Retry, .int .i64 f.Duration, .slice Af nf cf] 25) = w0 := ⟨_, rfl⟩
  rw [hW]
  have B0 := Lib.hid (show Below w.heap.size w w0 by rw [← hW]; exact (Below.refl _ _).alloc (by simp <;> omega) _)
  have X0 := Lib.hid (show Bx 25 w0 (w.heap.size) #[.int .i64 f.Kind, .int .i64 f.From, .int .i64 f.To, .int .i64 f.Seq, .int .i64 f.Fragment, .bool f.More, .bool f.Retry, .int .i64 f.Duration, .slice Af nf cf] by
      rw [← hW]
      have hh := Bx.made 25 w #[.int .i64 f.Kind, .int .i64 f.From, .int .i64 f.To, .int .i64 f.Seq, .int .i64 f.Fragment, .bool f.More, .bool f.Retry, .int .i64 f.Duration, .slice Af nf cf]
      exact hh)
  have Q0 := Lib.hid (show Rq senS w0 lo hi A n cap ms by rw [← hW]; exact (QW.out.below (below_box _ _)))
  clear hW
  have LTX := Lib.hid X0.out.lt
  obtain ⟨i0, hi0⟩ : ∃ i, fidx ms f.From k = i := ⟨_, rfl⟩
  have HI := Lib.hid hi0
  clear hi0
  have cX0 : w0.cell? ⟨w.heap.size, 0, none⟩ = some (.int .i64 f.Kind) := X0.out.cell 0
  have cX1 : w0.cell? ⟨w.heap.size, 1, none⟩ = some (.int .i64 f.From) := X0.out.cell 1
  have cX2 : w0.cell? ⟨w.heap.size, 2, none⟩ = some (.int .i64 f.To) := X0.out.cell 2
  have cX3 : w0.cell? ⟨w.heap.size, 3, none⟩ = some (.int .i64 f.Seq) := X0.out.cell 3
  have cX4 : w0.cell? ⟨w.heap.size, 4, none⟩ = some (.int .i64 f.Fragment) := X0.out.cell 4
  have cX5 : w0.cell? ⟨w.heap.size, 5, none⟩ = some (.bool f.More) := X0.out.cell 5
  have cX6 : w0.cell? ⟨w.heap.size, 6, none⟩ = some (.bool f.Retry) := X0.out.cell 6
  have cX7 : w0.cell? ⟨w.heap.size, 7, none⟩ = some (.int .i64 f.Duration) := X0.out.cell 7
  have cX8 : w0.cell? ⟨w.heap.size, 8, none⟩ = some (.slice Af nf cf) := X0.out.cell 8
  go_wp2_with fail
  clear cX0 cX1 cX2 cX3 cX4 cX5 cX6 cX7 cX8
  (with_reducible refine (specFd f.From k ms A n cap _ _ _ Q0.out).mono ?_)
  rintro e w1 hp
  obtain ⟨rfl, hb⟩ := n_parts HI.out hp
  clear hp
  have SS1 := Lib.hid hb.size
  have B1 := Lib.hid (B0.out.trans (hb.mono B0.out.size))
  have X1 := Lib.hid (X0.out.below hb)
  have Q1 := Lib.hid (Q0.out.below hb)
  clear hb  B0 X0 Q0
  go_upto_region 2 with fail
  have mX3 : ∀ m : bx.Af w1, m.w.cell? ⟨w.heap.size, 3, none⟩ = some (.int .i64 f.Seq) := fun m => (bx.Af.cells X1.out m).cell 3
  have mX4 : ∀ m : bx.Af w1, m.w.cell? ⟨w.heap.size, 4, none⟩ = some (.int .i64 f.Fragment) := fun m => (bx.Af.cells X1.out m).cell 4
  have mX6 : ∀ m : bx.Af w1, m.w.cell? ⟨w.heap.size, 6, none⟩ = some (.bool f.Retry) := fun m => (bx.Af.cells X1.out m).cell 6
  cases hr : f.Retry with
  | false =>
    have HE := Lib.hid (show v = false by rw [← HV.out]; exact isd_retry hr)
    have mR : ∀ m : bx.Af w1, m.w.cell? ⟨w.heap.size, 6, none⟩ = some (.bool false) := fun m => by rw [← hr]; exact mX6 m
    clear hr mX6
    refine bx.region_after (by kernel_rfl) (by kernel_rfl) ?_
    repeat (go_big_quiet_step (fail))
    refine wpQuiet_nil ?_
    intro _ hw'
    obtain ⟨nq9, hw''⟩ := hw'
    subst hw''
    clear mX3 mX4 mR
    obtain ⟨w2, hw5⟩ : ∃ w5, nq9.w = w5 := ⟨_, rfl⟩
    have hb := nq9.below
    rw [hw5] at hb
    (try rw [hw5])
    clear hw5
    have SS2 := Lib.hid hb.size
    have B2 := Lib.hid (B1.out.trans (hb.mono B1.out.size))
    have X2 := Lib.hid (X1.out.below hb)
    have Q2 := Lib.hid (Q1.out.below hb)
    clear hb nq9 B1 X1 Q1
    go_wp2_with fail
    go_ret
    exact ⟨by rw [HE.out]; try rfl, B2.out⟩
  | true =>
    have mR : ∀ m : bx.Af w1, m.w.cell? ⟨w.heap.size, 6, none⟩ = some (.bool true) := fun m => by rw [← hr]; exact mX6 m
    clear mX6
    by_cases hfi : fst ms f.From k < ms.length
    · obtain ⟨i, hi9⟩ : ∃ i, fst ms f.From k = i := ⟨_, rfl⟩
      obtain rfl : i0 = (i : Int) := by rw [← HI.out]; rw [hi9] at hfi; exact fidx_of hi9 hfi
      have HFI := Lib.hid (And.intro hfi hi9)
      have hin : i < n := by have h1 := HLN0.out; rw [hi9] at hfi; omega
      clear hfi hi9
      obtain ⟨bq, off, y, hA, hy, h1, h2, ce0, ce1, ce2, ce3⟩ := at_ Q1.out hin
      have HY := Lib.hid hy
      clear hy h1 h2
      subst hA
      have mce0 := fr.af_cell ce0
      have mce1 := fr.af_cell ce1
      have mce2 := fr.af_cell ce2
      have mce3 := fr.af_cell ce3
      clear ce0 ce1 ce2 ce3
      have HE0 := Lib.hid (show v = (y.Seq == f.Seq && y.Fragment == f.Fragment) by rw [← HV.out]; exact isd_some hr HFI.out.2 HY.out)
      have hh := fst_at HFI.out.1
      rw [HFI.out.2, getD_of HY.out, hit_iff] at hh
      obtain ⟨hy1, hy2⟩ := hh
      have g1 : (y.From == f.From) = true := by simp [hy1]
      have g2 : (y.Category == k) = true := by simp [hy2]
      have gk : decide (0 ≤ (i : Int)) = true := decide_eq_true (by omega)
      have hinI : (i : Int) < n := by omega
      clear hy1 hy2 hr
      by_cases e1 : y.Seq = f.Seq
      · by_cases e2 : y.Fragment = f.Fragment
        · have g3 : (y.Seq == f.Seq) = true := by simp [e1]
          have g4 : (y.Fragment == f.Fragment) = true := by simp [e2]
          have HE := Lib.hid (show v = true by rw [HE0.out]; simp [e1, e2])
          clear e1 e2
          refine bx.region_after (by kernel_rfl) (by kernel_rfl) ?_
          repeat (go_big_quiet_step (fail))
          refine wpQuiet_nil ?_
          intro _ hw'
          obtain ⟨nq9, hw''⟩ := hw'
          subst hw''
          clear mX3 mX4 mR mce0 mce1 mce2 mce3 g1 g2 gk g3 g4
          obtain ⟨w2, hw5⟩ : ∃ w5, nq9.w = w5 := ⟨_, rfl⟩
          have hb := nq9.below
          rw [hw5] at hb
          (try rw [hw5])
          clear hw5
          have SS2 := Lib.hid hb.size
          have B2 := Lib.hid (B1.out.trans (hb.mono B1.out.size))
          have X2 := Lib.hid (X1.out.below hb)
          have Q2 := Lib.hid (Q1.out.below hb)
          clear hb nq9 B1 X1 Q1
          go_wp2_with fail
          go_ret
          exact ⟨by rw [HE.out]; try rfl, B2.out⟩
        · have g3 : (y.Seq == f.Seq) = true := by simp [e1]
          have g4 : (y.Fragment == f.Fragment) = false := by simp [e2]
          have HE := Lib.hid (show v = false by rw [HE0.out]; simp [e2])
          clear e1 e2
          refine bx.region_after (by kernel_rfl) (by kernel_rfl) ?_
          repeat (go_big_quiet_step (fail))
          refine wpQuiet_nil ?_
          intro _ hw'
          obtain ⟨nq9, hw''⟩ := hw'
          subst hw''
          clear mX3 mX4 mR mce0 mce1 mce2 mce3 g1 g2 gk g3 g4
          obtain ⟨w2, hw5⟩ : ∃ w5, nq9.w = w5 := ⟨_, rfl⟩
          have hb := nq9.below
          rw [hw5] at hb
          (try rw [hw5])
          clear hw5
          have SS2 := Lib.hid hb.size
          have B2 := Lib.hid (B1.out.trans (hb.mono B1.out.size))
          have X2 := Lib.hid (X1.out.below hb)
          have Q2 := Lib.hid (Q1.out.below hb)
          clear hb nq9 B1 X1 Q1
          go_wp2_with fail
          go_ret
          exact ⟨by rw [HE.out]; try rfl, B2.out⟩
      · have g3 : (y.Seq == f.Seq) = false := by simp [e1]
        have HE := Lib.hid (show v = false by rw [HE0.out]; simp [e1])
        clear e1
        refine bx.region_after (by kernel_rfl) (by kernel_rfl) ?_
        repeat (go_big_quiet_step (fail))
        refine wpQuiet_nil ?_
        intro _ hw'
        obtain ⟨nq9, hw''⟩ := hw'
        subst hw''
        clear mX3 mX4 mR mce0 mce1 mce2 mce3 g1 g2 gk g3
        obtain ⟨w2, hw5⟩ : ∃ w5, nq9.w = w5 := ⟨_, rfl⟩
        have hb := nq9.below
        rw [hw5] at hb
        (try rw [hw5])
        clear hw5
        have SS2 := Lib.hid hb.size
        have B2 := Lib.hid (B1.out.trans (hb.mono B1.out.size))
        have X2 := Lib.hid (X1.out.below hb)
        have Q2 := Lib.hid (Q1.out.below hb)
        clear hb nq9 B1 X1 Q1
        go_wp2_with fail
        go_ret
        exact ⟨by rw [HE.out]; try rfl, B2.out⟩
    · obtain rfl : i0 = -1 := by rw [← HI.out]; exact fidx_no hfi
      have HE := Lib.hid (show v = false by rw [← HV.out]; exact isd_none hfi)
      clear hfi hr
      refine bx.region_after (by kernel_rfl) (by kernel_rfl) ?_
      repeat (go_big_quiet_step (fail))
      refine wpQuiet_nil ?_
      intro _ hw'
      obtain ⟨nq9, hw''⟩ := hw'
      subst hw''
      clear mX3 mX4 mR
      obtain ⟨w2, hw5⟩ : ∃ w5, nq9.w = w5 := ⟨_, rfl⟩
      have hb := nq9.below
      rw [hw5] at hb
      (try rw [hw5])
      clear hw5
      have SS2 := Lib.hid hb.size
      have B2 := Lib.hid (B1.out.trans (hb.mono B1.out.size))
      have X2 := Lib.hid (X1.out.below hb)
      have Q2 := Lib.hid (Q1.out.below hb)
      clear hb nq9 B1 X1 Q1
      go_wp2_with fail
      go_ret
      exact ⟨by rw [HE.out]; try rfl, B2.out⟩
set_option maxRecDepth 100000 in
set_option maxHeartbeats 4000000 in
theorem implRm (ms : List Sen) (A : Option Addr) (n cap lo hi : Nat) (w : World) (h : Rq senS w lo hi A n cap ms) (hn : n ≤ 67108864) (f : Fra) (k : Int) (Af : Option Addr) (nf cf : Nat) :
    Calls Try.prog 40 #[.slice A n cap, fr.fV f Af nf cf, .int .i64 k] w (NnPost (rem ms f k) w) := by
  obtain ⟨i0, hi0, hz0, hz1, hz2⟩ := info_parts infoN
  have HZ := Lib.hid (And.intro hi0 (And.intro hz0 (And.intro hz1 hz2)))
  clear hi0 hz0 hz1 hz2
  have QW := Lib.hid h
  have hqh := h.hi_
  have hqc := h.cap_
  have HQC := Lib.hid hqc
  have HLN0 := Lib.hid h.len
  have LHQ := Lib.hid hqh
  clear h
  have HN := Lib.hid hn
  clear hn
  obtain ⟨v, hv⟩ : ∃ v, rem ms f k = v := ⟨_, rfl⟩
  have HV := Lib.hid hv
  rw [hv]
  clear hv
  go_enter Try.func40, Try.ntmps40
  go_upto_region 1 with fail
  obtain ⟨w0, hW⟩ : ∃ w0, w.alloc (.cells #[.int .i64 f.Kind, .int .i64 f.From, .int .i64 f.To, .int .i64 f.Seq, .int .i64 f.Fragment, .bool f.More, .bool f.Retry, .int .i64 f.Duration, .slice Af nf cf] 25) = w0 := ⟨_, rfl⟩
  rw [hW]
  have B0 := Lib.hid (show Below w.heap.size w w0 by rw [← hW]; exact (Below.refl _ _).alloc (by simp <;> omega) _)
  have X0 := Lib.hid (show Bx 25 w0 (w.heap.size) #[.int .i64 f.Kind, .int .i64 f.From, .int .i64 f.To, .int .i64 f.Seq, .int .i64 f.Fragment, .bool f.More, .bool f.Retry, .int .i64 f.Duration, .slice Af nf cf] by
      rw [← hW]
      have hh := Bx.made 25 w #[.int .i64 f.Kind, .int .i64 f.From, .int .i64 f.To, .int .i64 f.Seq, .int .i64 f.Fragment, .bool f.More, .bool f.Retry, .int .i64 f.Duration, .slice Af nf cf]
      exact hh)
  have Q0 := Lib.hid (show Rq senS w0 lo hi A n cap ms by rw [← hW]; exact (QW.out.below (below_box _ _)))
  clear hW
  have LTX := Lib.hid X0.out.lt
  obtain ⟨i0, hi0⟩ : ∃ i, fidx ms f.From k = i := ⟨_, rfl⟩
  have HI := Lib.hid hi0
  clear hi0
  go_wp2_with fail
  (with_reducible refine (implCy ms A n cap _ _ _ Q0.out HN.out).mono ?_)
  rintro e w1 hp
  obtain ⟨AO, nO, cO, rfl, ho2, hb⟩ := nn_parts hp
  clear hp
  have SS1 := Lib.hid hb.size
  have B1 := Lib.hid (B0.out.trans (hb.mono B0.out.size))
  have X1 := Lib.hid (X0.out.below hb)
  have Q1 := Lib.hid (Q0.out.below hb)
  clear hb B0 X0 Q0
  have O1 := Lib.hid ho2
  clear ho2
  have HNO := Lib.hid (show nO = n from (oe_n O1.out).symm.trans HLN0.out)
  go_upto_region 2 with fail
  have cX0 : w1.cell? ⟨w.heap.size, 0, none⟩ = some (.int .i64 f.Kind) := X1.out.cell 0
  have cX1 : w1.cell? ⟨w.heap.size, 1, none⟩ = some (.int .i64 f.From) := X1.out.cell 1
  have cX2 : w1.cell? ⟨w.heap.size, 2, none⟩ = some (.int .i64 f.To) := X1.out.cell 2
  have cX3 : w1.cell? ⟨w.heap.size, 3, none⟩ = some (.int .i64 f.Seq) := X1.out.cell 3
  have cX4 : w1.cell? ⟨w.heap.size, 4, none⟩ = some (.int .i64 f.Fragment) := X1.out.cell 4
  have cX5 : w1.cell? ⟨w.heap.size, 5, none⟩ = some (.bool f.More) := X1.out.cell 5
  have cX6 : w1.cell? ⟨w.heap.size, 6, none⟩ = some (.bool f.Retry) := X1.out.cell 6
  have cX7 : w1.cell? ⟨w.heap.size, 7, none⟩ = some (.int .i64 f.Duration) := X1.out.cell 7
  have cX8 : w1.cell? ⟨w.heap.size, 8, none⟩ = some (.slice Af nf cf) := X1.out.cell 8
  go_wp2_with fail
  clear cX0 cX1 cX2 cX3 cX4 cX5 cX6 cX7 cX8
  (with_reducible refine (implSe f k Af nf cf _).mono ?_)
  rintro e w2 ⟨rfl, hb⟩
  have SS2 := Lib.hid hb.size
  have B2 := Lib.hid (B1.out.trans (hb.mono B1.out.size))
  have X2 := Lib.hid (X1.out.below hb)
  have Q2 := Lib.hid (Q1.out.below hb)
  have O2 := Lib.hid (O1.out.below hb)
  clear hb B1 X1 Q1 O1
  go_upto_region 3 with fail
  obtain ⟨bl, hbb⟩ : ∃ b, w2.heap.size = b := ⟨_, rfl⟩
  generalize hW : w2.alloc (.cells #[.int .i64 f.From, .int .i64 k, .int .i64 f.Seq, .int .i64 f.Fragment] 84) = w3
  have LL := Lib.hid (show w.heap.size ≤ bl ∧ w.heap.size < bl ∧ hi ≤ bl ∧ w1.heap.size ≤ bl by have h1 := B2.out.size; have h2X := X2.out.lt; have h2Q := Q2.out.hi_; have h2O := O2.out.hi_; have h3 := hbb; omega)
  have L3 := Lib.hid (show Bx 84 w3 bl #[.int .i64 f.From, .int .i64 k, .int .i64 f.Seq, .int .i64 f.Fragment] by rw [← hW, ← hbb]; exact Bx.made _ _ _)
  have hb : Below w2.heap.size w2 w3 := by rw [← hW]; exact below_box _ _
  (try rw [hbb])
  clear hW hbb
  have SS3 := Lib.hid hb.size
  have B3 := Lib.hid (B2.out.trans (hb.mono B2.out.size))
  have X3 := Lib.hid (X2.out.below hb)
  have Q3 := Lib.hid (Q2.out.below hb)
  have O3 := Lib.hid (O2.out.below hb)
  clear hb B2 X2 Q2 O2
  have LWL := Lib.hid L3.out.lt
  have cL0 : w3.cell? ⟨bl, 0, none⟩ = some (.int .i64 f.From) := L3.out.cell 0
  have cL1 : w3.cell? ⟨bl, 1, none⟩ = some (.int .i64 k) := L3.out.cell 1
  have cL2 : w3.cell? ⟨bl, 2, none⟩ = some (.int .i64 f.Seq) := L3.out.cell 2
  have cL3 : w3.cell? ⟨bl, 3, none⟩ = some (.int .i64 f.Fragment) := L3.out.cell 3
  go_wp2_with fail
  clear cL0 cL1 cL2 cL3
  (with_reducible refine (implS4 f.From k f.Seq f.Fragment _).mono ?_)
  rintro e w4 ⟨rfl, hb⟩
  have SS4 := Lib.hid hb.size
  have B4 := Lib.hid (B3.out.trans (hb.mono B3.out.size))
  have X4 := Lib.hid (X3.out.below hb)
  have L4 := Lib.hid (L3.out.below hb)
  have Q4 := Lib.hid (Q3.out.below hb)
  have O4 := Lib.hid (O3.out.below hb)
  clear hb B3 X3 L3 Q3 O3
  go_wp2_with fail
  (with_reducible refine (implFs f.From k ms AO nO cO _ _ _ (oe_rq O4.out)).mono ?_)
  rintro e w5 hp
  obtain ⟨rfl, hb⟩ := n_parts HI.out hp
  clear hp
  have SS5 := Lib.hid hb.size
  have B5 := Lib.hid (B4.out.trans (hb.mono B4.out.size))
  have X5 := Lib.hid (X4.out.below hb)
  have L5 := Lib.hid (L4.out.below hb)
  have Q5 := Lib.hid (Q4.out.below hb)
  have O5 := Lib.hid (O4.out.below hb)
  clear hb  B4 X4 L4 Q4 O4
  by_cases hfi : fst ms f.From k < ms.length
  · obtain ⟨i, hi9⟩ : ∃ i, fst ms f.From k = i := ⟨_, rfl⟩
    obtain rfl : i0 = (i : Int) := by rw [← HI.out]; rw [hi9] at hfi; exact fidx_of hi9 hfi
    have HFI := Lib.hid (And.intro hfi hi9)
    have hin : i < n := by have h1 := HLN0.out; rw [hi9] at hfi; omega
    clear hfi hi9
    have hio : i < nO := by have := HNO.out; omega
    have hioI : (i : Int) < nO := by omega
    have HE := Lib.hid (show v = ms.set i (see f k) by rw [← HV.out]; exact rem_some HFI.out.2 (by have := HFI.out.1; rw [HFI.out.2] at this; exact this))
    have gk : ¬ (i : Int) < 0 := by omega
    obtain ⟨g, eg⟩ := oe_some O5.out (by omega)
    subst eg
    go_upto_region 6 with fail
    have cL0 : w5.cell? ⟨bl, 0, none⟩ = some (.int .i64 f.From) := L5.out.cell 0
    have cL1 : w5.cell? ⟨bl, 1, none⟩ = some (.int .i64 k) := L5.out.cell 1
    have cL2 : w5.cell? ⟨bl, 2, none⟩ = some (.int .i64 f.Seq) := L5.out.cell 2
    have cL3 : w5.cell? ⟨bl, 3, none⟩ = some (.int .i64 f.Fragment) := L5.out.cell 3
    have HNS := Lib.hid (bx.ow_none 5 .u8 w5 w0.heap.size w1.heap.size (by have := O5.out.hi_; omega))
    have TH := Lib.hid (show w5.there g (i * 4) 4 from O5.out.there (k := i) (by have := (oe_rq O5.out).cap_; omega))
    have HSZ := Lib.hid szN
    have HON := Lib.hid (oneN f.From k f.Seq f.Fragment)
    go_upto_region 7 with ((refine mrw.list_storeAt g (i * 4) #[.int .i64 f.From, .int .i64 k, .int .i64 f.Seq, .int .i64 f.Fragment] TH.out HSZ.out HON.out ?_ ?_ ?_; (· rfl); (· rfl)))
    obtain ⟨w8, hw8⟩ : ∃ v, w5.setCells g (i * 4) [.int .i64 f.From, .int .i64 k, .int .i64 f.Seq, .int .i64 f.Fragment] = v := ⟨_, rfl⟩
    (first | rw [hw8] | (change Code.wp _ _ _ _ _; rw [hw8]))
    have O6 := Lib.hid (show Oe senS w8 w0.heap.size w8.heap.size (some ⟨g, 0, none⟩) nO cO ((ms.set i (see f k)).map el) by rw [← hw8, List.map_set]; exact (fr.oe_upd O5.out hio (el (see f k)) HNS.out (Nat.le_refl _) (fun j e hj he a b ha hb => by cases hb)).up)
    have B6 := Lib.hid (show Below w.heap.size w w8 by rw [← hw8]; exact mrw.below_setCells _ _ _ B5.out (by have h9 := (O5.out.lo_ (q := g) rfl).1; have hlL := LL.out; have hs0 := LTX.out; have hs1 := LHQ.out; have hs2 := SS1.out; have hs3 := SS2.out; have hs4 := SS3.out; have hs5 := LWL.out; have hs6 := SS4.out; have hs7 := SS5.out; first | omega | (simp at h9 ⊢ <;> omega)))
    have SW := Lib.hid (show w5.heap.size ≤ w8.heap.size by rw [← hw8, mrw.size_setCells]; exact Nat.le_refl _)
    clear hw8 TH HNS HSZ HON cL0 cL1 cL2 cL3
    go_wp2_with fail
    go_ret
    exact by rw [HE.out]; exact ⟨_, _, _, rfl, (O6.out.up).down (by have hlL := LL.out; have hs0 := LTX.out; have hs1 := LHQ.out; have hs2 := SS1.out; have hs3 := SS2.out; have hs4 := SS3.out; have hs5 := LWL.out; have hs6 := SS4.out; have hs7 := SS5.out; first | omega | (simp <;> omega)), B6.out⟩
  · obtain rfl : i0 = -1 := by rw [← HI.out]; exact fidx_no hfi
    have HE := Lib.hid (show v = ms ++ [see f k] by rw [← HV.out]; exact rem_none hfi)
    clear hfi
    go_upto_region 5 with fail
    have cL0 : w5.cell? ⟨bl, 0, none⟩ = some (.int .i64 f.From) := L5.out.cell 0
    have cL1 : w5.cell? ⟨bl, 1, none⟩ = some (.int .i64 k) := L5.out.cell 1
    have cL2 : w5.cell? ⟨bl, 2, none⟩ = some (.int .i64 f.Seq) := L5.out.cell 2
    have cL3 : w5.cell? ⟨bl, 3, none⟩ = some (.int .i64 f.Fragment) := L5.out.cell 3
    have HNB := Lib.hid (show nO ≤ 67108864 by have := HN.out; have := HNO.out; omega)
    have H00 := Lib.hid (bx.ow_none 5 .u8 w5 w5.heap.size w5.heap.size (Nat.le_refl _))
    go_wp2_with (at_builtin; refine list_push (S := senS) w5 rfl _ _ 40 rfl Try.underlying40 HZ.out.1 HZ.out.2.1 HZ.out.2.2.1 (by rw [HZ.out.2.2.2]; omega) rfl rfl rfl O5.out (el (see f k)) H00.out (by have hlL := LL.out; have hs0 := LTX.out; have hs1 := LHQ.out; have hs2 := SS1.out; have hs3 := SS2.out; have hs4 := SS3.out; have hs5 := LWL.out; have hs6 := SS4.out; have hs7 := SS5.out; first | omega | (simp <;> omega)) (by have hlL := LL.out; have hs0 := LTX.out; have hs1 := LHQ.out; have hs2 := SS1.out; have hs3 := SS2.out; have hs4 := SS3.out; have hs5 := LWL.out; have hs6 := SS4.out; have hs7 := SS5.out; first | omega | (simp <;> omega)) (by have := HNB.out; omega) (by have hlL := LL.out; have hs0 := LTX.out; have hs1 := LHQ.out; have hs2 := SS1.out; have hs3 := SS2.out; have hs4 := SS3.out; have hs5 := LWL.out; have hs6 := SS4.out; have hs7 := SS5.out; first | omega | (simp <;> omega)) ?_; intro A3 c3 w6 ho hg; have B6 := Lib.hid (below_grown B5.out hg (fun q hq => by have hlL := LL.out; have hs0 := LTX.out; have hs1 := LHQ.out; have hs2 := SS1.out; have hs3 := SS2.out; have hs4 := SS3.out; have hs5 := LWL.out; have hs6 := SS4.out; have hs7 := SS5.out; have := (O5.out.lo_ hq).1; omega) B5.out.size); have X6 := Lib.hid (grown_bx X5.out hg (rgp.ne_type X5.out O5.out (by decide))); have L6 := Lib.hid (grown_bx L5.out hg (fun e => by have hlL := LL.out; have hs0 := LTX.out; have hs1 := LHQ.out; have hs2 := SS1.out; have hs3 := SS2.out; have hs4 := SS3.out; have hs5 := LWL.out; have hs6 := SS4.out; have hs7 := SS5.out; have := O5.out.lo_ e.symm; omega)); have Q6 := Lib.hid (rq_grown Q5.out O5.out hg (by have hlL := LL.out; have hs0 := LTX.out; have hs1 := LHQ.out; have hs2 := SS1.out; have hs3 := SS2.out; have hs4 := SS3.out; have hs5 := LWL.out; have hs6 := SS4.out; have hs7 := SS5.out; first | omega | (simp <;> omega))); have SS6 := Lib.hid hg.size; clear B5 X5 L5 Q5 O5; have O6 := Lib.hid (show Oe senS w6 w0.heap.size w6.heap.size A3 (nO + 1) c3 ((ms ++ [see f k]).map el) by rw [List.map_append]; exact ho); clear ho hg)
    clear H00
    clear cL0 cL1 cL2 cL3
    go_ret
    exact by rw [HE.out]; exact ⟨_, _, _, rfl, (O6.out.up).down (by have hlL := LL.out; have hs0 := LTX.out; have hs1 := LHQ.out; have hs2 := SS1.out; have hs3 := SS2.out; have hs4 := SS3.out; have hs5 := LWL.out; have hs6 := SS4.out; have hs7 := SS5.out; have hs8 := SS6.out; first | omega | (simp <;> omega)), B6.out⟩
set_option maxRecDepth 100000 in
set_option maxHeartbeats 4000000 in
theorem specRm (ms : List Sen) (A : Option Addr) (n cap lo hi : Nat) (w : World) (h : Rq senS w lo hi A n cap ms) (hn : n ≤ 67108864) (f : Fra) (k : Int) (Af : Option Addr) (nf cf : Nat) :
    Calls Try.prog 39 #[.slice A n cap, fr.fV f Af nf cf, .int .i64 k] w (NnPost (rem ms f k) w) := by
  obtain ⟨i0, hi0, hz0, hz1, hz2⟩ := info_parts infoN
  have HZ := Lib.hid (And.intro hi0 (And.intro hz0 (And.intro hz1 hz2)))
  clear hi0 hz0 hz1 hz2
  have QW := Lib.hid h
  have hqh := h.hi_
  have hqc := h.cap_
  have HQC := Lib.hid hqc
  have HLN0 := Lib.hid h.len
  have LHQ := Lib.hid hqh
  clear h
  have HN := Lib.hid hn
  clear hn
  obtain ⟨v, hv⟩ : ∃ v, rem ms f k = v := ⟨_, rfl⟩
  have HV := Lib.hid hv
  rw [hv]
  clear hv
  go_enter Try.func39, Try.ntmps39
  go_upto_region 1 with fail
  obtain ⟨w0, hW⟩ : ∃ w0, w.alloc (.cells #[.int .i64 f.Kind, .int .i64 f.From, .int .i64 f.To, .int .i64 f.Seq, .int .i64 f.Fragment, .bool f.More, .bool f.Retry, .int .i64 f.Duration, .slice Af nf cf] 25) = w0 := ⟨_, rfl⟩
  rw [hW]
  have B0 := Lib.hid (show Below w.heap.size w w0 by rw [← hW]; exact (Below.refl _ _).alloc (by simp <;> omega) _)
  have X0 := Lib.hid (show Bx 25 w0 (w.heap.size) #[.int .i64 f.Kind, .int .i64 f.From, .int .i64 f.To, .int .i64 f.Seq, .int .i64 f.Fragment, .bool f.More, .bool f.Retry, .int .i64 f.Duration, .slice Af nf cf] by
      rw [← hW]
      have hh := Bx.made 25 w #[.int .i64 f.Kind, .int .i64 f.From, .int .i64 f.To, .int .i64 f.Seq, .int .i64 f.Fragment, .bool f.More, .bool f.Retry, .int .i64 f.Duration, .slice Af nf cf]
      exact hh)
  have Q0 := Lib.hid (show Rq senS w0 lo hi A n cap ms by rw [← hW]; exact (QW.out.below (below_box _ _)))
  clear hW
  have LTX := Lib.hid X0.out.lt
  obtain ⟨i0, hi0⟩ : ∃ i, fidx ms f.From k = i := ⟨_, rfl⟩
  have HI := Lib.hid hi0
  clear hi0
  go_upto_region 2 with (at_builtin; refine list_catE w0 rfl _ _ 40 rfl Try.underlying40 HZ.out.1 HZ.out.2.1 HZ.out.2.2.1 (by rw [HZ.out.2.2.2]; omega) rfl rfl rfl Q0.out (by have := HN.out; omega) ?_; intro AO cO w1 ho2 hb; have SS1 := Lib.hid hb.size; have B1 := Lib.hid (B0.out.trans (hb.mono B0.out.size)); have X1 := Lib.hid (X0.out.below hb); have Q1 := Lib.hid (Q0.out.below hb); clear hb B0 X0 Q0; have O1 := Lib.hid ho2; clear ho2)
  have cX0 : w1.cell? ⟨w.heap.size, 0, none⟩ = some (.int .i64 f.Kind) := X1.out.cell 0
  have cX1 : w1.cell? ⟨w.heap.size, 1, none⟩ = some (.int .i64 f.From) := X1.out.cell 1
  have cX2 : w1.cell? ⟨w.heap.size, 2, none⟩ = some (.int .i64 f.To) := X1.out.cell 2
  have cX3 : w1.cell? ⟨w.heap.size, 3, none⟩ = some (.int .i64 f.Seq) := X1.out.cell 3
  have cX4 : w1.cell? ⟨w.heap.size, 4, none⟩ = some (.int .i64 f.Fragment) := X1.out.cell 4
  have cX5 : w1.cell? ⟨w.heap.size, 5, none⟩ = some (.bool f.More) := X1.out.cell 5
  have cX6 : w1.cell? ⟨w.heap.size, 6, none⟩ = some (.bool f.Retry) := X1.out.cell 6
  have cX7 : w1.cell? ⟨w.heap.size, 7, none⟩ = some (.int .i64 f.Duration) := X1.out.cell 7
  have cX8 : w1.cell? ⟨w.heap.size, 8, none⟩ = some (.slice Af nf cf) := X1.out.cell 8
  go_wp2_with fail
  clear cX0 cX1 cX2 cX3 cX4 cX5 cX6 cX7 cX8
  (with_reducible refine (specFd f.From k ms A n cap _ _ _ Q1.out).mono ?_)
  rintro e w2 hp
  obtain ⟨rfl, hb⟩ := n_parts HI.out hp
  clear hp
  have SS2 := Lib.hid hb.size
  have B2 := Lib.hid (B1.out.trans (hb.mono B1.out.size))
  have X2 := Lib.hid (X1.out.below hb)
  have Q2 := Lib.hid (Q1.out.below hb)
  have O2 := Lib.hid (O1.out.below hb)
  clear hb  B1 X1 Q1 O1
  go_upto_region 3 with fail
  have cX0 : w2.cell? ⟨w.heap.size, 0, none⟩ = some (.int .i64 f.Kind) := X2.out.cell 0
  have cX1 : w2.cell? ⟨w.heap.size, 1, none⟩ = some (.int .i64 f.From) := X2.out.cell 1
  have cX2 : w2.cell? ⟨w.heap.size, 2, none⟩ = some (.int .i64 f.To) := X2.out.cell 2
  have cX3 : w2.cell? ⟨w.heap.size, 3, none⟩ = some (.int .i64 f.Seq) := X2.out.cell 3
  have cX4 : w2.cell? ⟨w.heap.size, 4, none⟩ = some (.int .i64 f.Fragment) := X2.out.cell 4
  have cX5 : w2.cell? ⟨w.heap.size, 5, none⟩ = some (.bool f.More) := X2.out.cell 5
  have cX6 : w2.cell? ⟨w.heap.size, 6, none⟩ = some (.bool f.Retry) := X2.out.cell 6
  have cX7 : w2.cell? ⟨w.heap.size, 7, none⟩ = some (.int .i64 f.Duration) := X2.out.cell 7
  have cX8 : w2.cell? ⟨w.heap.size, 8, none⟩ = some (.slice Af nf cf) := X2.out.cell 8
  go_upto_region 4 with fail
  clear cX0 cX1 cX2 cX3 cX4 cX5 cX6 cX7 cX8
  obtain ⟨bl, hbb⟩ : ∃ b, w2.heap.size = b := ⟨_, rfl⟩
  generalize hW : w2.alloc (.cells #[.int .i64 f.From, .int .i64 k, .int .i64 f.Seq, .int .i64 f.Fragment] 84) = w3
  have LL := Lib.hid (show w.heap.size ≤ bl ∧ w.heap.size < bl ∧ hi ≤ bl ∧ w1.heap.size ≤ bl by have h1 := B2.out.size; have h2X := X2.out.lt; have h2Q := Q2.out.hi_; have h2O := O2.out.hi_; have h3 := hbb; omega)
  have L3 := Lib.hid (show Bx 84 w3 bl #[.int .i64 f.From, .int .i64 k, .int .i64 f.Seq, .int .i64 f.Fragment] by rw [← hW, ← hbb]; exact Bx.made _ _ _)
  have hb : Below w2.heap.size w2 w3 := by rw [← hW]; exact below_box _ _
  (try rw [hbb])
  clear hW hbb
  have SS3 := Lib.hid hb.size
  have B3 := Lib.hid (B2.out.trans (hb.mono B2.out.size))
  have X3 := Lib.hid (X2.out.below hb)
  have Q3 := Lib.hid (Q2.out.below hb)
  have O3 := Lib.hid (O2.out.below hb)
  clear hb B2 X2 Q2 O2
  have LWL := Lib.hid L3.out.lt
  by_cases hfi : fst ms f.From k < ms.length
  · obtain ⟨i, hi9⟩ : ∃ i, fst ms f.From k = i := ⟨_, rfl⟩
    obtain rfl : i0 = (i : Int) := by rw [← HI.out]; rw [hi9] at hfi; exact fidx_of hi9 hfi
    have HFI := Lib.hid (And.intro hfi hi9)
    have hin : i < n := by have h1 := HLN0.out; rw [hi9] at hfi; omega
    clear hfi hi9
    have hio : i < n := by omega
    have hioI : (i : Int) < n := by omega
    have HE := Lib.hid (show v = ms.set i (see f k) by rw [← HV.out]; exact rem_some HFI.out.2 (by have := HFI.out.1; rw [HFI.out.2] at this; exact this))
    have gk : ¬ (i : Int) < 0 := by omega
    obtain ⟨g, eg⟩ := oe_some O3.out (by omega)
    subst eg
    go_upto_region 6 with fail
    have cL0 : w3.cell? ⟨bl, 0, none⟩ = some (.int .i64 f.From) := L3.out.cell 0
    have cL1 : w3.cell? ⟨bl, 1, none⟩ = some (.int .i64 k) := L3.out.cell 1
    have cL2 : w3.cell? ⟨bl, 2, none⟩ = some (.int .i64 f.Seq) := L3.out.cell 2
    have cL3 : w3.cell? ⟨bl, 3, none⟩ = some (.int .i64 f.Fragment) := L3.out.cell 3
    have HNS := Lib.hid (bx.ow_none 5 .u8 w3 w0.heap.size w1.heap.size (by have := O3.out.hi_; omega))
    have TH := Lib.hid (show w3.there g (i * 4) 4 from O3.out.there (k := i) (by have := (oe_rq O3.out).cap_; omega))
    have HSZ := Lib.hid szN
    have HON := Lib.hid (oneN f.From k f.Seq f.Fragment)
    go_upto_region 7 with ((refine mrw.list_storeAt g (i * 4) #[.int .i64 f.From, .int .i64 k, .int .i64 f.Seq, .int .i64 f.Fragment] TH.out HSZ.out HON.out ?_ ?_ ?_; (· rfl); (· rfl)))
    obtain ⟨w8, hw8⟩ : ∃ v, w3.setCells g (i * 4) [.int .i64 f.From, .int .i64 k, .int .i64 f.Seq, .int .i64 f.Fragment] = v := ⟨_, rfl⟩
    (first | rw [hw8] | (change Code.wp _ _ _ _ _; rw [hw8]))
    have O4 := Lib.hid (show Oe senS w8 w0.heap.size w8.heap.size (some ⟨g, 0, none⟩) n cO ((ms.set i (see f k)).map el) by rw [← hw8, List.map_set]; exact (fr.oe_upd O3.out hio (el (see f k)) HNS.out (Nat.le_refl _) (fun j e hj he a b ha hb => by cases hb)).up)
    have B4 := Lib.hid (show Below w.heap.size w w8 by rw [← hw8]; exact mrw.below_setCells _ _ _ B3.out (by have h9 := (O3.out.lo_ (q := g) rfl).1; have hlL := LL.out; have hs0 := LTX.out; have hs1 := LHQ.out; have hs2 := SS1.out; have hs3 := SS2.out; have hs4 := SS3.out; have hs5 := LWL.out; first | omega | (simp at h9 ⊢ <;> omega)))
    have SW := Lib.hid (show w3.heap.size ≤ w8.heap.size by rw [← hw8, mrw.size_setCells]; exact Nat.le_refl _)
    clear hw8 TH HNS HSZ HON cL0 cL1 cL2 cL3
    go_wp2_with fail
    go_ret
    exact by rw [HE.out]; exact ⟨_, _, _, rfl, (O4.out.up).down (by have hlL := LL.out; have hs0 := LTX.out; have hs1 := LHQ.out; have hs2 := SS1.out; have hs3 := SS2.out; have hs4 := SS3.out; have hs5 := LWL.out; first | omega | (simp <;> omega)), B4.out⟩
  · obtain rfl : i0 = -1 := by rw [← HI.out]; exact fidx_no hfi
    have HE := Lib.hid (show v = ms ++ [see f k] by rw [← HV.out]; exact rem_none hfi)
    clear hfi
    go_upto_region 5 with fail
    have cL0 : w3.cell? ⟨bl, 0, none⟩ = some (.int .i64 f.From) := L3.out.cell 0
    have cL1 : w3.cell? ⟨bl, 1, none⟩ = some (.int .i64 k) := L3.out.cell 1
    have cL2 : w3.cell? ⟨bl, 2, none⟩ = some (.int .i64 f.Seq) := L3.out.cell 2
    have cL3 : w3.cell? ⟨bl, 3, none⟩ = some (.int .i64 f.Fragment) := L3.out.cell 3
    have HNB := Lib.hid (show n ≤ 67108864 by have := HN.out; omega)
    have H00 := Lib.hid (bx.ow_none 5 .u8 w3 w3.heap.size w3.heap.size (Nat.le_refl _))
    go_wp2_with (at_builtin; refine list_push (S := senS) w3 rfl _ _ 40 rfl Try.underlying40 HZ.out.1 HZ.out.2.1 HZ.out.2.2.1 (by rw [HZ.out.2.2.2]; omega) rfl rfl rfl O3.out (el (see f k)) H00.out (by have hlL := LL.out; have hs0 := LTX.out; have hs1 := LHQ.out; have hs2 := SS1.out; have hs3 := SS2.out; have hs4 := SS3.out; have hs5 := LWL.out; first | omega | (simp <;> omega)) (by have hlL := LL.out; have hs0 := LTX.out; have hs1 := LHQ.out; have hs2 := SS1.out; have hs3 := SS2.out; have hs4 := SS3.out; have hs5 := LWL.out; first | omega | (simp <;> omega)) (by have := HNB.out; omega) (by have hlL := LL.out; have hs0 := LTX.out; have hs1 := LHQ.out; have hs2 := SS1.out; have hs3 := SS2.out; have hs4 := SS3.out; have hs5 := LWL.out; first | omega | (simp <;> omega)) ?_; intro A3 c3 w4 ho hg; have B4 := Lib.hid (below_grown B3.out hg (fun q hq => by have hlL := LL.out; have hs0 := LTX.out; have hs1 := LHQ.out; have hs2 := SS1.out; have hs3 := SS2.out; have hs4 := SS3.out; have hs5 := LWL.out; have := (O3.out.lo_ hq).1; omega) B3.out.size); have X4 := Lib.hid (grown_bx X3.out hg (rgp.ne_type X3.out O3.out (by decide))); have L4 := Lib.hid (grown_bx L3.out hg (fun e => by have hlL := LL.out; have hs0 := LTX.out; have hs1 := LHQ.out; have hs2 := SS1.out; have hs3 := SS2.out; have hs4 := SS3.out; have hs5 := LWL.out; have := O3.out.lo_ e.symm; omega)); have Q4 := Lib.hid (rq_grown Q3.out O3.out hg (by have hlL := LL.out; have hs0 := LTX.out; have hs1 := LHQ.out; have hs2 := SS1.out; have hs3 := SS2.out; have hs4 := SS3.out; have hs5 := LWL.out; first | omega | (simp <;> omega))); have SS4 := Lib.hid hg.size; clear B3 X3 L3 Q3 O3; have O4 := Lib.hid (show Oe senS w4 w0.heap.size w4.heap.size A3 (n + 1) c3 ((ms ++ [see f k]).map el) by rw [List.map_append]; exact ho); clear ho hg)
    clear H00
    clear cL0 cL1 cL2 cL3
    go_ret
    exact by rw [HE.out]; exact ⟨_, _, _, rfl, (O4.out.up).down (by have hlL := LL.out; have hs0 := LTX.out; have hs1 := LHQ.out; have hs2 := SS1.out; have hs3 := SS2.out; have hs4 := SS3.out; have hs5 := LWL.out; have hs6 := SS4.out; first | omega | (simp <;> omega)), B4.out⟩
set_option maxRecDepth 100000 in
set_option maxHeartbeats 4000000 in
theorem implAc (ms : List Sen) (A : Option Addr) (n cap lo hi : Nat) (w : World) (h : Rq senS w lo hi A n cap ms) (hn : n ≤ 67108864) (f : Fra) (k : Int) (Af : Option Addr) (nf cf : Nat) :
    Calls Try.prog 24 #[.slice A n cap, fr.fV f Af nf cf, .int .i64 k] w (AcPost (acc ms f k) w) := by
  obtain ⟨i0, hi0, hz0, hz1, hz2⟩ := info_parts infoN
  have HZ := Lib.hid (And.intro hi0 (And.intro hz0 (And.intro hz1 hz2)))
  clear hi0 hz0 hz1 hz2
  have QW := Lib.hid h
  have hqh := h.hi_
  have hqc := h.cap_
  have HQC := Lib.hid hqc
  have HLN0 := Lib.hid h.len
  have LHQ := Lib.hid hqh
  clear h
  have HN := Lib.hid hn
  clear hn
  obtain ⟨v, hv⟩ : ∃ v, acc ms f k = v := ⟨_, rfl⟩
  have HV := Lib.hid hv
  rw [hv]
  clear hv
  go_enter Try.func24, Try.ntmps24
  go_upto_region 1 with fail
  obtain ⟨w0, hW⟩ : ∃ w0, w.alloc (.cells #[.int .i64 f.Kind, .int .i64 f.From, .int .i64 f.To, .int .i64 f.Seq, .int .i64 f.Fragment, .bool f.More, .bool f.Retry, .int .i64 f.Duration, .slice Af nf cf] 25) = w0 := ⟨_, rfl⟩
  rw [hW]
  have B0 := Lib.hid (show Below w.heap.size w w0 by rw [← hW]; exact (Below.refl _ _).alloc (by simp <;> omega) _)
  have X0 := Lib.hid (show Bx 25 w0 (w.heap.size) #[.int .i64 f.Kind, .int .i64 f.From, .int .i64 f.To, .int .i64 f.Seq, .int .i64 f.Fragment, .bool f.More, .bool f.Retry, .int .i64 f.Duration, .slice Af nf cf] by
      rw [← hW]
      have hh := Bx.made 25 w #[.int .i64 f.Kind, .int .i64 f.From, .int .i64 f.To, .int .i64 f.Seq, .int .i64 f.Fragment, .bool f.More, .bool f.Retry, .int .i64 f.Duration, .slice Af nf cf]
      exact hh)
  have Q0 := Lib.hid (show Rq senS w0 lo hi A n cap ms by rw [← hW]; exact (QW.out.below (below_box _ _)))
  clear hW
  have LTX := Lib.hid X0.out.lt
  obtain ⟨d, hd⟩ : ∃ d, isd ms f k = d := ⟨_, rfl⟩
  have HD := Lib.hid hd
  clear hd
  have cX0 : w0.cell? ⟨w.heap.size, 0, none⟩ = some (.int .i64 f.Kind) := X0.out.cell 0
  have cX1 : w0.cell? ⟨w.heap.size, 1, none⟩ = some (.int .i64 f.From) := X0.out.cell 1
  have cX2 : w0.cell? ⟨w.heap.size, 2, none⟩ = some (.int .i64 f.To) := X0.out.cell 2
  have cX3 : w0.cell? ⟨w.heap.size, 3, none⟩ = some (.int .i64 f.Seq) := X0.out.cell 3
  have cX4 : w0.cell? ⟨w.heap.size, 4, none⟩ = some (.int .i64 f.Fragment) := X0.out.cell 4
  have cX5 : w0.cell? ⟨w.heap.size, 5, none⟩ = some (.bool f.More) := X0.out.cell 5
  have cX6 : w0.cell? ⟨w.heap.size, 6, none⟩ = some (.bool f.Retry) := X0.out.cell 6
  have cX7 : w0.cell? ⟨w.heap.size, 7, none⟩ = some (.int .i64 f.Duration) := X0.out.cell 7
  have cX8 : w0.cell? ⟨w.heap.size, 8, none⟩ = some (.slice Af nf cf) := X0.out.cell 8
  go_wp2_with fail
  clear cX0 cX1 cX2 cX3 cX4 cX5 cX6 cX7 cX8
  (with_reducible refine (implId ms A n cap _ _ _ Q0.out HN.out f k Af nf cf).mono ?_)
  rintro e w1 hp
  obtain ⟨rfl, hb⟩ := b_parts HD.out hp
  clear hp
  have SS1 := Lib.hid hb.size
  have B1 := Lib.hid (B0.out.trans (hb.mono B0.out.size))
  have X1 := Lib.hid (X0.out.below hb)
  have Q1 := Lib.hid (Q0.out.below hb)
  clear hb  B0 X0 Q0
  cases d with
  | true =>
    have HE := Lib.hid (show v = (ms, false) by rw [← HV.out]; exact acc_no HD.out)
    go_wp2_with fail
    (with_reducible refine (implCy ms A n cap _ _ _ Q1.out HN.out).mono ?_)
    rintro e w2 hp
    obtain ⟨AO, nO, cO, rfl, ho2, hb⟩ := nn_parts hp
    clear hp
    have SS2 := Lib.hid hb.size
    have B2 := Lib.hid (B1.out.trans (hb.mono B1.out.size))
    have X2 := Lib.hid (X1.out.below hb)
    have Q2 := Lib.hid (Q1.out.below hb)
    clear hb B1 X1 Q1
    have O2 := Lib.hid ho2
    clear ho2
    go_wp2_with fail
    go_ret2
    rw [HE.out]
    exact ⟨_, _, _, rfl, (O2.out.up).down (by have hs0 := LTX.out; have hs1 := LHQ.out; have hs2 := SS1.out; have hs3 := SS2.out; first | omega | (simp <;> omega)), B2.out⟩
  | false =>
    have HE := Lib.hid (show v = (rem ms f k, true) by rw [← HV.out]; exact acc_yes HD.out)
    go_upto_region 3 with fail
    have cX0 : w1.cell? ⟨w.heap.size, 0, none⟩ = some (.int .i64 f.Kind) := X1.out.cell 0
    have cX1 : w1.cell? ⟨w.heap.size, 1, none⟩ = some (.int .i64 f.From) := X1.out.cell 1
    have cX2 : w1.cell? ⟨w.heap.size, 2, none⟩ = some (.int .i64 f.To) := X1.out.cell 2
    have cX3 : w1.cell? ⟨w.heap.size, 3, none⟩ = some (.int .i64 f.Seq) := X1.out.cell 3
    have cX4 : w1.cell? ⟨w.heap.size, 4, none⟩ = some (.int .i64 f.Fragment) := X1.out.cell 4
    have cX5 : w1.cell? ⟨w.heap.size, 5, none⟩ = some (.bool f.More) := X1.out.cell 5
    have cX6 : w1.cell? ⟨w.heap.size, 6, none⟩ = some (.bool f.Retry) := X1.out.cell 6
    have cX7 : w1.cell? ⟨w.heap.size, 7, none⟩ = some (.int .i64 f.Duration) := X1.out.cell 7
    have cX8 : w1.cell? ⟨w.heap.size, 8, none⟩ = some (.slice Af nf cf) := X1.out.cell 8
    go_wp2_with fail
    clear cX0 cX1 cX2 cX3 cX4 cX5 cX6 cX7 cX8
    (with_reducible refine (implRm ms A n cap _ _ _ Q1.out HN.out f k Af nf cf).mono ?_)
    rintro e w2 hp
    obtain ⟨AO, nO, cO, rfl, ho2, hb⟩ := nn_parts hp
    clear hp
    have SS2 := Lib.hid hb.size
    have B2 := Lib.hid (B1.out.trans (hb.mono B1.out.size))
    have X2 := Lib.hid (X1.out.below hb)
    have Q2 := Lib.hid (Q1.out.below hb)
    clear hb B1 X1 Q1
    have O2 := Lib.hid ho2
    clear ho2
    go_wp2_with fail
    go_ret2
    rw [HE.out]
    exact ⟨_, _, _, rfl, (O2.out.up).down (by have hs0 := LTX.out; have hs1 := LHQ.out; have hs2 := SS1.out; have hs3 := SS2.out; first | omega | (simp <;> omega)), B2.out⟩
set_option maxRecDepth 100000 in
set_option maxHeartbeats 4000000 in
theorem specAc (ms : List Sen) (A : Option Addr) (n cap lo hi : Nat) (w : World) (h : Rq senS w lo hi A n cap ms) (hn : n ≤ 67108864) (f : Fra) (k : Int) (Af : Option Addr) (nf cf : Nat) :
    Calls Try.prog 44 #[.slice A n cap, fr.fV f Af nf cf, .int .i64 k] w (AcPost (acc ms f k) w) := by
  obtain ⟨i0, hi0, hz0, hz1, hz2⟩ := info_parts infoN
  have HZ := Lib.hid (And.intro hi0 (And.intro hz0 (And.intro hz1 hz2)))
  clear hi0 hz0 hz1 hz2
  have QW := Lib.hid h
  have hqh := h.hi_
  have hqc := h.cap_
  have HQC := Lib.hid hqc
  have HLN0 := Lib.hid h.len
  have LHQ := Lib.hid hqh
  clear h
  have HN := Lib.hid hn
  clear hn
  obtain ⟨v, hv⟩ : ∃ v, acc ms f k = v := ⟨_, rfl⟩
  have HV := Lib.hid hv
  rw [hv]
  clear hv
  go_enter Try.func44, Try.ntmps44
  go_upto_region 1 with fail
  obtain ⟨w0, hW⟩ : ∃ w0, w.alloc (.cells #[.int .i64 f.Kind, .int .i64 f.From, .int .i64 f.To, .int .i64 f.Seq, .int .i64 f.Fragment, .bool f.More, .bool f.Retry, .int .i64 f.Duration, .slice Af nf cf] 25) = w0 := ⟨_, rfl⟩
  rw [hW]
  have B0 := Lib.hid (show Below w.heap.size w w0 by rw [← hW]; exact (Below.refl _ _).alloc (by simp <;> omega) _)
  have X0 := Lib.hid (show Bx 25 w0 (w.heap.size) #[.int .i64 f.Kind, .int .i64 f.From, .int .i64 f.To, .int .i64 f.Seq, .int .i64 f.Fragment, .bool f.More, .bool f.Retry, .int .i64 f.Duration, .slice Af nf cf] by
      rw [← hW]
      have hh := Bx.made 25 w #[.int .i64 f.Kind, .int .i64 f.From, .int .i64 f.To, .int .i64 f.Seq, .int .i64 f.Fragment, .bool f.More, .bool f.Retry, .int .i64 f.Duration, .slice Af nf cf]
      exact hh)
  have Q0 := Lib.hid (show Rq senS w0 lo hi A n cap ms by rw [← hW]; exact (QW.out.below (below_box _ _)))
  clear hW
  have LTX := Lib.hid X0.out.lt
  obtain ⟨d, hd⟩ : ∃ d, isd ms f k = d := ⟨_, rfl⟩
  have HD := Lib.hid hd
  clear hd
  have cX0 : w0.cell? ⟨w.heap.size, 0, none⟩ = some (.int .i64 f.Kind) := X0.out.cell 0
  have cX1 : w0.cell? ⟨w.heap.size, 1, none⟩ = some (.int .i64 f.From) := X0.out.cell 1
  have cX2 : w0.cell? ⟨w.heap.size, 2, none⟩ = some (.int .i64 f.To) := X0.out.cell 2
  have cX3 : w0.cell? ⟨w.heap.size, 3, none⟩ = some (.int .i64 f.Seq) := X0.out.cell 3
  have cX4 : w0.cell? ⟨w.heap.size, 4, none⟩ = some (.int .i64 f.Fragment) := X0.out.cell 4
  have cX5 : w0.cell? ⟨w.heap.size, 5, none⟩ = some (.bool f.More) := X0.out.cell 5
  have cX6 : w0.cell? ⟨w.heap.size, 6, none⟩ = some (.bool f.Retry) := X0.out.cell 6
  have cX7 : w0.cell? ⟨w.heap.size, 7, none⟩ = some (.int .i64 f.Duration) := X0.out.cell 7
  have cX8 : w0.cell? ⟨w.heap.size, 8, none⟩ = some (.slice Af nf cf) := X0.out.cell 8
  go_wp2_with fail
  clear cX0 cX1 cX2 cX3 cX4 cX5 cX6 cX7 cX8
  (with_reducible refine (specId ms A n cap _ _ _ Q0.out HN.out f k Af nf cf).mono ?_)
  rintro e w1 hp
  obtain ⟨rfl, hb⟩ := b_parts HD.out hp
  clear hp
  have SS1 := Lib.hid hb.size
  have B1 := Lib.hid (B0.out.trans (hb.mono B0.out.size))
  have X1 := Lib.hid (X0.out.below hb)
  have Q1 := Lib.hid (Q0.out.below hb)
  clear hb  B0 X0 Q0
  cases d with
  | true =>
    have HE := Lib.hid (show v = (ms, false) by rw [← HV.out]; exact acc_no HD.out)
    go_upto_region 2 with fail
    go_wp2_with (at_builtin; refine list_catE w1 rfl _ _ 40 rfl Try.underlying40 HZ.out.1 HZ.out.2.1 HZ.out.2.2.1 (by rw [HZ.out.2.2.2]; omega) rfl rfl rfl Q1.out (by have := HN.out; omega) ?_; intro AO cO w2 ho2 hb; have SS2 := Lib.hid hb.size; have B2 := Lib.hid (B1.out.trans (hb.mono B1.out.size)); have X2 := Lib.hid (X1.out.below hb); have Q2 := Lib.hid (Q1.out.below hb); clear hb B1 X1 Q1; have O2 := Lib.hid ho2; clear ho2)
    go_ret2
    rw [HE.out]
    exact ⟨_, _, _, rfl, (O2.out.up).down (by have hs0 := LTX.out; have hs1 := LHQ.out; have hs2 := SS1.out; have hs3 := SS2.out; first | omega | (simp <;> omega)), B2.out⟩
  | false =>
    have HE := Lib.hid (show v = (rem ms f k, true) by rw [← HV.out]; exact acc_yes HD.out)
    go_upto_region 3 with fail
    have cX0 : w1.cell? ⟨w.heap.size, 0, none⟩ = some (.int .i64 f.Kind) := X1.out.cell 0
    have cX1 : w1.cell? ⟨w.heap.size, 1, none⟩ = some (.int .i64 f.From) := X1.out.cell 1
    have cX2 : w1.cell? ⟨w.heap.size, 2, none⟩ = some (.int .i64 f.To) := X1.out.cell 2
    have cX3 : w1.cell? ⟨w.heap.size, 3, none⟩ = some (.int .i64 f.Seq) := X1.out.cell 3
    have cX4 : w1.cell? ⟨w.heap.size, 4, none⟩ = some (.int .i64 f.Fragment) := X1.out.cell 4
    have cX5 : w1.cell? ⟨w.heap.size, 5, none⟩ = some (.bool f.More) := X1.out.cell 5
    have cX6 : w1.cell? ⟨w.heap.size, 6, none⟩ = some (.bool f.Retry) := X1.out.cell 6
    have cX7 : w1.cell? ⟨w.heap.size, 7, none⟩ = some (.int .i64 f.Duration) := X1.out.cell 7
    have cX8 : w1.cell? ⟨w.heap.size, 8, none⟩ = some (.slice Af nf cf) := X1.out.cell 8
    go_wp2_with fail
    clear cX0 cX1 cX2 cX3 cX4 cX5 cX6 cX7 cX8
    (with_reducible refine (specRm ms A n cap _ _ _ Q1.out HN.out f k Af nf cf).mono ?_)
    rintro e w2 hp
    obtain ⟨AO, nO, cO, rfl, ho2, hb⟩ := nn_parts hp
    clear hp
    have SS2 := Lib.hid hb.size
    have B2 := Lib.hid (B1.out.trans (hb.mono B1.out.size))
    have X2 := Lib.hid (X1.out.below hb)
    have Q2 := Lib.hid (Q1.out.below hb)
    clear hb B1 X1 Q1
    have O2 := Lib.hid ho2
    clear ho2
    go_wp2_with fail
    go_ret2
    rw [HE.out]
    exact ⟨_, _, _, rfl, (O2.out.up).down (by have hs0 := LTX.out; have hs1 := LHQ.out; have hs2 := SS1.out; have hs3 := SS2.out; first | omega | (simp <;> omega)), B2.out⟩
end Go.Proofs.Ytbkdbdhbmabgcaa.sn
end

section
namespace Go.Proofs.Ytbkdbdhbmabgcaa.hsh
open Go.RowKit sl harn

/-- One value is folded in. -/
def step (a v : Int) : Int := (a * 1000003 + v % 2147483647 + 13) % 2147483647
theorem step_in (a v : Int) : 0 ≤ step a v ∧ step a v < 2147483647 := ⟨Int.emod_nonneg _ (by omega), Int.emod_lt_of_pos _ (by omega)⟩
/-- The hash of a list. -/
def hs (l : List Int) : Int := l.foldl step 11
theorem fold_in : ∀ (l : List Int) (a : Int), (0 ≤ a ∧ a < 2147483647) → 0 ≤ l.foldl step a ∧ l.foldl step a < 2147483647
  | [], _, h => h
  | _ :: l, _, _ => fold_in l _ (step_in _ _)
theorem hs_in (l : List Int) : 0 ≤ hs l ∧ hs l < 2147483647 := fold_in l 11 (by omega)
theorem fold_take (l : List Int) (a : Int) {k : Nat} (h : k < l.length) : (l.take (k + 1)).foldl step a = step ((l.take k).foldl step a) (l.getD k 0) := by
  rw [List.take_add_one, List.foldl_append, List.getD_eq_getElem?_getD, List.getElem?_eq_getElem h]; rfl

theorem tmod_of {p q r : Int} (hq : 1 ≤ q) (hr : p.tmod q = r) : -q < r ∧ r < q ∧ p % q = r % q := by
  have b1 : p.tmod q < q := Int.tmod_lt_of_pos p (show 0 < q by omega)
  have b2 : -q < p.tmod q := by
    have := Int.tmod_lt_of_pos (-p) (show 0 < q by omega)
    rw [Int.neg_tmod] at this; omega
  refine ⟨by omega, by omega, ?_⟩
  have e := Int.tmod_add_mul_tdiv p q
  rw [hr] at e
  conv => lhs; rw [← e]
  exact Int.add_mul_emod_self_left r q _

theorem implMod (p q : Int) (h : 1 ≤ q ∧ q ≤ 1000000000000) (w : World) :
    Calls Try.prog 78 #[.int .i64 p, .int .i64 q] w fun e w' => e = .returned (.int .i64 (p % q)) ∧ w = w' := by
  obtain ⟨h1, h2⟩ := h
  obtain ⟨r, hr⟩ : ∃ r, p.tmod q = r := ⟨_, rfl⟩
  obtain ⟨b1, b2, b3⟩ := tmod_of h1 hr
  by_cases h5 : r < 0
  · have e1 : Hid (p % q = r + q) := by
      unfold Hid
      rw [b3, ← Int.add_emod_right]; exact Int.emod_eq_of_lt (by omega) (by omega)
    clear b3
    go_enter Try.func78, Try.ntmps78
    go_wp2
    go_ret
    exact ⟨ret_num e1.out.symm, rfl⟩
  · have e1 : Hid (p % q = r) := by
      unfold Hid
      rw [b3]; exact Int.emod_eq_of_lt (by omega) (by omega)
    clear b3
    go_enter Try.func78, Try.ntmps78
    go_wp2
    go_ret
    exact ⟨ret_num e1.out.symm, rfl⟩
theorem specMod (p q : Int) (h : 1 ≤ q ∧ q ≤ 1000000000000) (w : World) :
    Calls Try.prog 85 #[.int .i64 p, .int .i64 q] w fun e w' => e = .returned (.int .i64 (p % q)) ∧ w = w' := by
  obtain ⟨h1, h2⟩ := h
  obtain ⟨r, hr⟩ : ∃ r, p.tmod q = r := ⟨_, rfl⟩
  obtain ⟨b1, b2, b3⟩ := tmod_of h1 hr
  have e1 : Hid (p % q = (r + q) % q) := by
    unfold Hid
    rw [b3, Int.add_emod_right]
  clear b3
  go_enter Try.func85, Try.ntmps85
  go_wp2
  go_ret
  exact ⟨ret_num e1.out.symm, rfl⟩

/-- The hash of what is read. -/
def HashPost (zs : List Int) (w : World) (e : Ending) (w' : World) : Prop := e = .returned (.int .i64 (hs zs)) ∧ ∃ m, w' = w.drewN m
theorem HashPost.below {zs : List Int} {w w' : World} {e : Ending} (h : HashPost zs w e w') : e = .returned (.int .i64 (hs zs)) ∧ Below w.heap.size w w' := by
  obtain ⟨h1, m, rfl⟩ := h
  exact ⟨h1, below_drews w m⟩
theorem hash_all {zs : List Int} {k n : Nat} {a : Int} (h : a = (zs.take k).foldl step 11) (hk : k = n) (hl : zs.length = n) : a = hs zs := by
  rw [h, List.take_of_length_le (by omega)]; rfl
theorem hash_next {zs : List Int} {k : Nat} {a x : Int} (h : a = (zs.take k).foldl step 11) (hk : k < zs.length) (hx : zs.getD k 0 = x) : (a * 1000003 + x % 2147483647 + 13) % 2147483647 = (zs.take (k + 1)).foldl step 11 := by
  rw [fold_take zs 11 hk, ← h, hx]; rfl
theorem hash_in {zs : List Int} {k : Nat} {a : Int} (h : a = (zs.take k).foldl step 11) : 0 ≤ a ∧ a < 2147483647 := by
  rw [h]; exact fold_in _ _ (by omega)

theorem HashPost.parts {zs : List Int} {r : Int} (ht : hs zs = r) {w : World} {e : Ending} {w' : World} (h : HashPost zs w e w') : e = .returned (.int .i64 r) ∧ Below w.heap.size w w' := by
  subst ht; exact h.below
end Go.Proofs.Ytbkdbdhbmabgcaa.hsh
end

section
namespace Go.Proofs.Ytbkdbdhbmabgcaa.sn
open Go.RowKit sl harn bx mrw drk stw
set_option linter.unusedVariables false
set_option linter.unusedSimpArgs false
open ux (Sen Fra)

def nsq (s : Int) : Int := if 0 ≤ s ∧ s ≤ 4095 then (s + 1) % 4096 else 0
def sqd (a b : Int) : Int := if (0 ≤ a ∧ a ≤ 4095) ∧ (0 ≤ b ∧ b ≤ 4095) then (b - a) % 4096 else -1
def nwr (a b : Int) : Bool := decide (1 ≤ sqd b a ∧ sqd b a ≤ 2047)
theorem sqd_rng (a b : Int) : -1 ≤ sqd a b ∧ sqd a b ≤ 4095 := by unfold sqd; split <;> omega
set_option maxRecDepth 100000 in
set_option maxHeartbeats 4000000 in
theorem isSq (n : Int) (v : Bool) (w : World) (h : decide (0 ≤ n ∧ n ≤ 4095) = v) :
    Calls Try.prog 76 #[.int .i64 n] w fun e w' => e = .returned (.bool v) ∧ w = w' := by
  have H := Lib.hid h
  clear h
  go_enter Try.func76, Try.ntmps76
  go_wp2_with fail
  (with_reducible refine (inR n 0 4095 v _ H.out).mono ?_)
  rintro e w1 ⟨rfl, rfl⟩
  go_wp2_with fail
  go_ret
  exact ⟨rfl, rfl⟩
set_option maxRecDepth 100000 in
set_option maxHeartbeats 4000000 in
theorem implNs (s : Int) (w : World) :
    Calls Try.prog 32 #[.int .i64 s] w (NPost (nsq s) w) := by
  obtain ⟨v, hv⟩ : ∃ v, nsq s = v := ⟨_, rfl⟩
  have HV := Lib.hid hv
  rw [hv]
  clear hv
  by_cases h : 0 ≤ s ∧ s ≤ 4095
  · have HS := Lib.hid (show decide (0 ≤ s ∧ s ≤ 4095) = true from decide_eq_true h)
    have HE := Lib.hid (show v = (s + 1) % 4096 by rw [← HV.out]; unfold nsq; rw [if_pos h])
    obtain ⟨h1, h2⟩ := h
    have hw : IntKind.i64.wrap (s + 1) = s + 1 := IntWalk.i64_in _ (by omega)
    go_enter Try.func32, Try.ntmps32
    go_wp2_with fail
    (with_reducible refine (isSq s true _ HS.out).mono ?_)
    rintro e w1 ⟨rfl, rfl⟩
    go_wp2_with fail
    (with_reducible refine (hsh.implMod (s + 1) 4096 (by omega) _).mono ?_)
    rintro e w1 ⟨rfl, rfl⟩
    go_wp2_with fail
    go_ret
    exact ⟨by rw [HE.out]; try rfl, Below.refl _ _⟩
  · have HS := Lib.hid (show decide (0 ≤ s ∧ s ≤ 4095) = false from decide_eq_false h)
    have HE := Lib.hid (show v = 0 by rw [← HV.out]; unfold nsq; rw [if_neg h])
    clear h
    go_enter Try.func32, Try.ntmps32
    go_wp2_with fail
    (with_reducible refine (isSq s false _ HS.out).mono ?_)
    rintro e w1 ⟨rfl, rfl⟩
    go_wp2_with fail
    go_ret
    exact ⟨by rw [HE.out]; try rfl, Below.refl _ _⟩
set_option maxRecDepth 100000 in
set_option maxHeartbeats 4000000 in
theorem implSd (a b : Int) (w : World) :
    Calls Try.prog 30 #[.int .i64 a, .int .i64 b] w (NPost (sqd a b) w) := by
  obtain ⟨v, hv⟩ : ∃ v, sqd a b = v := ⟨_, rfl⟩
  have HV := Lib.hid hv
  rw [hv]
  clear hv
  by_cases ha : 0 ≤ a ∧ a ≤ 4095
  · by_cases hb : 0 ≤ b ∧ b ≤ 4095
    · have Ha := Lib.hid (show decide (0 ≤ a ∧ a ≤ 4095) = true from decide_eq_true ha)
      have Hb := Lib.hid (show decide (0 ≤ b ∧ b ≤ 4095) = true from decide_eq_true hb)
      have HE := Lib.hid (show v = (b - a) % 4096 by rw [← HV.out]; unfold sqd; rw [if_pos ⟨ha, hb⟩])
      obtain ⟨a1, a2⟩ := ha
      obtain ⟨b1, b2⟩ := hb
      have hw : IntKind.i64.wrap (b - a) = b - a := IntWalk.i64_in _ (by omega)
      go_enter Try.func30, Try.ntmps30
      go_wp2_with fail
      (with_reducible refine (isSq a true _ Ha.out).mono ?_)
      rintro e w1 ⟨rfl, rfl⟩
      go_wp2_with fail
      (with_reducible refine (isSq b true _ Hb.out).mono ?_)
      rintro e w1 ⟨rfl, rfl⟩
      go_wp2_with fail
      (with_reducible refine (hsh.implMod (b - a) 4096 (by omega) _).mono ?_)
      rintro e w1 ⟨rfl, rfl⟩
      go_wp2_with fail
      go_ret
      exact ⟨by rw [HE.out]; try rfl, Below.refl _ _⟩
    · have Ha := Lib.hid (show decide (0 ≤ a ∧ a ≤ 4095) = true from decide_eq_true ha)
      have Hb := Lib.hid (show decide (0 ≤ b ∧ b ≤ 4095) = false from decide_eq_false hb)
      have HE := Lib.hid (show v = -1 by rw [← HV.out]; unfold sqd; rw [if_neg (fun h => hb h.2)])
      clear ha hb
      go_enter Try.func30, Try.ntmps30
      go_wp2_with fail
      (with_reducible refine (isSq a true _ Ha.out).mono ?_)
      rintro e w1 ⟨rfl, rfl⟩
      go_wp2_with fail
      (with_reducible refine (isSq b false _ Hb.out).mono ?_)
      rintro e w1 ⟨rfl, rfl⟩
      go_wp2_with fail
      go_ret
      exact ⟨by rw [HE.out]; try rfl, Below.refl _ _⟩
  · have Ha := Lib.hid (show decide (0 ≤ a ∧ a ≤ 4095) = false from decide_eq_false ha)
    have HE := Lib.hid (show v = -1 by rw [← HV.out]; unfold sqd; rw [if_neg (fun h => ha h.1)])
    clear ha
    go_enter Try.func30, Try.ntmps30
    go_wp2_with fail
    (with_reducible refine (isSq a false _ Ha.out).mono ?_)
    rintro e w1 ⟨rfl, rfl⟩
    go_wp2_with fail
    go_ret
    exact ⟨by rw [HE.out]; try rfl, Below.refl _ _⟩
set_option maxRecDepth 100000 in
set_option maxHeartbeats 4000000 in
theorem implNw (a b : Int) (w : World) :
    Calls Try.prog 31 #[.int .i64 a, .int .i64 b] w (BPost (nwr a b) w) := by
  obtain ⟨v, hv⟩ : ∃ v, nwr a b = v := ⟨_, rfl⟩
  have HV := Lib.hid hv
  rw [hv]
  clear hv
  obtain ⟨d, hd⟩ : ∃ d, sqd b a = d := ⟨_, rfl⟩
  have HD := Lib.hid hd
  have HE := Lib.hid (show decide (1 ≤ d ∧ d ≤ 2047) = v by rw [← HV.out]; unfold nwr; rw [hd])
  clear hd
  go_enter Try.func31, Try.ntmps31
  go_wp2_with fail
  (with_reducible refine (implSd b a _).mono ?_)
  rintro e w1 hp
  obtain ⟨rfl, hb⟩ := bx.n_parts HD.out hp
  have HB := Lib.hid hb
  clear hp hb
  go_wp2_with fail
  (with_reducible refine (inR d 1 2047 v _ HE.out).mono ?_)
  rintro e w2 ⟨rfl, rfl⟩
  go_wp2_with fail
  go_ret
  exact ⟨by (try rw [HV.out]); try rfl, HB.out⟩
set_option maxRecDepth 100000 in
set_option maxHeartbeats 4000000 in
theorem specNs (s : Int) (w : World) :
    Calls Try.prog 45 #[.int .i64 s] w (NPost (nsq s) w) := by
  obtain ⟨v, hv⟩ : ∃ v, nsq s = v := ⟨_, rfl⟩
  have HV := Lib.hid hv
  rw [hv]
  clear hv
  by_cases h : 0 ≤ s ∧ s ≤ 4095
  · have HS := Lib.hid (show decide (0 ≤ s ∧ s ≤ 4095) = true from decide_eq_true h)
    have HE := Lib.hid (show v = (s + 1) % 4096 by rw [← HV.out]; unfold nsq; rw [if_pos h])
    obtain ⟨h1, h2⟩ := h
    have hw : IntKind.i64.wrap (s + 1) = s + 1 := IntWalk.i64_in _ (by omega)
    go_enter Try.func45, Try.ntmps45
    go_wp2_with fail
    (with_reducible refine (l1R s 0 4095 true _ HS.out).mono ?_)
    rintro e w1 ⟨rfl, rfl⟩
    go_wp2_with fail
    go_ret
    exact ⟨by rw [HE.out]; try rfl, Below.refl _ _⟩
  · have HS := Lib.hid (show decide (0 ≤ s ∧ s ≤ 4095) = false from decide_eq_false h)
    have HE := Lib.hid (show v = 0 by rw [← HV.out]; unfold nsq; rw [if_neg h])
    clear h
    go_enter Try.func45, Try.ntmps45
    go_wp2_with fail
    (with_reducible refine (l1R s 0 4095 false _ HS.out).mono ?_)
    rintro e w1 ⟨rfl, rfl⟩
    go_wp2_with fail
    go_ret
    exact ⟨by rw [HE.out]; try rfl, Below.refl _ _⟩
set_option maxRecDepth 100000 in
set_option maxHeartbeats 4000000 in
theorem specSd (a b : Int) (w : World) :
    Calls Try.prog 46 #[.int .i64 a, .int .i64 b] w (NPost (sqd a b) w) := by
  obtain ⟨v, hv⟩ : ∃ v, sqd a b = v := ⟨_, rfl⟩
  have HV := Lib.hid hv
  rw [hv]
  clear hv
  by_cases ha : 0 ≤ a ∧ a ≤ 4095
  · by_cases hb : 0 ≤ b ∧ b ≤ 4095
    · have Ha := Lib.hid (show decide (0 ≤ a ∧ a ≤ 4095) = true from decide_eq_true ha)
      have Hb := Lib.hid (show decide (0 ≤ b ∧ b ≤ 4095) = true from decide_eq_true hb)
      have HE := Lib.hid (show v = (b - a) % 4096 by rw [← HV.out]; unfold sqd; rw [if_pos ⟨ha, hb⟩])
      obtain ⟨a1, a2⟩ := ha
      obtain ⟨b1, b2⟩ := hb
      have hw : IntKind.i64.wrap (b - a) = b - a := IntWalk.i64_in _ (by omega)
      go_enter Try.func46, Try.ntmps46
      go_wp2_with fail
      (with_reducible refine (l1R a 0 4095 true _ Ha.out).mono ?_)
      rintro e w1 ⟨rfl, rfl⟩
      go_wp2_with fail
      (with_reducible refine (l1R b 0 4095 true _ Hb.out).mono ?_)
      rintro e w1 ⟨rfl, rfl⟩
      go_wp2_with fail
      (with_reducible refine (hsh.specMod (b - a) 4096 (by omega) _).mono ?_)
      rintro e w1 ⟨rfl, rfl⟩
      go_wp2_with fail
      go_ret
      exact ⟨by rw [HE.out]; try rfl, Below.refl _ _⟩
    · have Ha := Lib.hid (show decide (0 ≤ a ∧ a ≤ 4095) = true from decide_eq_true ha)
      have Hb := Lib.hid (show decide (0 ≤ b ∧ b ≤ 4095) = false from decide_eq_false hb)
      have HE := Lib.hid (show v = -1 by rw [← HV.out]; unfold sqd; rw [if_neg (fun h => hb h.2)])
      clear ha hb
      go_enter Try.func46, Try.ntmps46
      go_wp2_with fail
      (with_reducible refine (l1R a 0 4095 true _ Ha.out).mono ?_)
      rintro e w1 ⟨rfl, rfl⟩
      go_wp2_with fail
      (with_reducible refine (l1R b 0 4095 false _ Hb.out).mono ?_)
      rintro e w1 ⟨rfl, rfl⟩
      go_wp2_with fail
      go_ret
      exact ⟨by rw [HE.out]; try rfl, Below.refl _ _⟩
  · have Ha := Lib.hid (show decide (0 ≤ a ∧ a ≤ 4095) = false from decide_eq_false ha)
    have HE := Lib.hid (show v = -1 by rw [← HV.out]; unfold sqd; rw [if_neg (fun h => ha h.1)])
    clear ha
    go_enter Try.func46, Try.ntmps46
    go_wp2_with fail
    (with_reducible refine (l1R a 0 4095 false _ Ha.out).mono ?_)
    rintro e w1 ⟨rfl, rfl⟩
    go_wp2_with fail
    go_ret
    exact ⟨by rw [HE.out]; try rfl, Below.refl _ _⟩
set_option maxRecDepth 100000 in
set_option maxHeartbeats 4000000 in
theorem specNw (a b : Int) (w : World) :
    Calls Try.prog 47 #[.int .i64 a, .int .i64 b] w (BPost (nwr a b) w) := by
  obtain ⟨v, hv⟩ : ∃ v, nwr a b = v := ⟨_, rfl⟩
  have HV := Lib.hid hv
  rw [hv]
  clear hv
  obtain ⟨d, hd⟩ : ∃ d, sqd b a = d := ⟨_, rfl⟩
  have HD := Lib.hid hd
  have HE := Lib.hid (show decide (1 ≤ d ∧ d ≤ 2047) = v by rw [← HV.out]; unfold nwr; rw [hd])
  clear hd
  go_enter Try.func47, Try.ntmps47
  go_wp2_with fail
  (with_reducible refine (specSd b a _).mono ?_)
  rintro e w1 hp
  obtain ⟨rfl, hb⟩ := bx.n_parts HD.out hp
  have HB := Lib.hid hb
  clear hp hb
  go_wp2_with fail
  (with_reducible refine (l1R d 1 2047 v _ HE.out).mono ?_)
  rintro e w2 ⟨rfl, rfl⟩
  go_wp2_with fail
  go_ret
  exact ⟨by (try rw [HV.out]); try rfl, HB.out⟩
end Go.Proofs.Ytbkdbdhbmabgcaa.sn
end

section
namespace Go.Proofs.Ytbkdbdhbmabgcaa.sn
open Go.RowKit Go.Maps sl harn bx mrw drk stw
set_option linter.unusedVariables false
set_option linter.unusedSimpArgs false
set_option maxRecDepth 1000000
open ux (Sen Fra)

theorem rowK : (88 : TypeId) < Try.prog.types.size := of_decide_eq_true (by kernel_rfl)
theorem wideK : (match Try.prog.underlying 88 with | some (.array _ _) | some (.struct _) => true | _ => false) = true := by kernel_rfl
theorem laidK : laidOutB Try.prog = true := by kernel_rfl
theorem lawK : Keyed Try.prog 88 := Keyed.of_law (deep_law_laid laidK (m := 3) (by omega) rowK (by kernel_rfl) wideK)
theorem zeroB (w : World) : (zeroValue 4).run Try.prog w = .ok (.bool false) w := by kernel_rfl
/-- A key. -/
def ky (a b : Int) : Value := .agg #[.int .i64 a, .int .i64 b]
noncomputable def kl (a b : Int) : Lit := (keyOf Try.prog 88 (ky a b)).getD (.bool false)
theorem sizeTypes : ∃ n, Try.prog.types.size = n + 1 := ⟨Try.prog.types.size - 1, (Nat.sub_add_cancel (show 1 ≤ Try.prog.types.size from of_decide_eq_true (by kernel_rfl))).symm⟩
theorem keyK : Try.prog.keyType 88 = true := by kernel_rfl
theorem cellsK : Try.prog.cellsOf 88 = 2 := by kernel_rfl
theorem cellsI : Try.prog.cellsOf 3 = 1 := by kernel_rfl
theorem key_gen {P : Program} {k i : TypeId} {f0 f1 : Field} {n : Nat} (hk : P.underlying k = some (.struct #[f0, f1])) (hkt : P.keyType k = true) (hc : P.cellsOf k = 2) (hn : P.types.size = n + 1)
    (h0 : (f0.name != "_") = true) (h1 : (f1.name != "_") = true) (ho0 : f0.offset = 0) (ho1 : f1.offset = 1) (ht0 : f0.type = i) (ht1 : f1.type = i) (hi : P.underlying i = some (.int .i64)) (hci : P.cellsOf i = 1)
    {j t : Int} (hj : (Lit.int .i64 j).wf = true) (ht : (Lit.int .i64 t).wf = true) : (keyOf P k (.agg #[.int .i64 j, .int .i64 t])).isSome = true := by
  have hf : Value.formed P k (.agg #[.int .i64 j, .int .i64 t]) = true := by simp [Value.formed, hk, hc]
  have hl : P.keyLits (n + 1 + 1) k [.int .i64 j, .int .i64 t] = some [.int .i64 j, .int .i64 t] := by
    unfold Program.keyLits
    rw [hk]
    simp [hc, h0, h1, ho0, ho1, ht0, ht1, hci, Program.keyLits, hi, hj, ht, List.mapM_cons]
  unfold keyOf
  rw [hk]
  simp [hkt, hf, hn, Value.cells, hl]
def Wk (a b : Int) : Prop := (Lit.int .i64 a).wf = true ∧ (Lit.int .i64 b).wf = true
/-- A remembered frame whose sender and category are integers of the machine. -/
def Wfs (y : Sen) : Prop := Wk y.From y.Category
theorem wk_of {a b : Int} (ha : -1000000 ≤ a ∧ a ≤ 1000000) (hb : -1000000 ≤ b ∧ b ≤ 1000000) : Wk a b := ⟨WalkArith.wf_i64 (by omega), WalkArith.wf_i64 (by omega)⟩
theorem Wk.key {a b : Int} (h : Wk a b) : keyOf Try.prog 88 (ky a b) = some (kl a b) := by
  obtain ⟨n, hn⟩ := sizeTypes
  have := key_gen Try.underlying88 keyK cellsK hn (by decide) (by decide) rfl rfl rfl rfl Try.underlying3 cellsI h.1 h.2
  obtain ⟨l, hl⟩ := Option.isSome_iff_exists.1 this
  unfold kl ky
  rw [hl]; rfl
theorem kl_inj {a b a' b' : Int} (h : Wk a b) (h' : Wk a' b') (e : kl a b = kl a' b') : a = a' ∧ b = b' := by
  have := lawK.inj h.key (by rw [e]; exact h'.key)
  unfold ky at this
  injection this with this
  simpa using this
theorem Wk.lit {a b : Int} (h : Wk a b) : WideAt.IsKeyLit (kl a b) := lawK.key h.key
/-- How an element is read. -/
def bel : Value → Option (DataW Unit × List MemPlace)
  | .bool b => some (.lit (.bool b), [])
  | _ => none
theorem bel_inv {v : Value} {y : DataW Unit × List MemPlace} (h : bel v = some y) : ∃ b, v = .bool b ∧ y = (.lit (.bool b), []) := by
  cases v <;> simp [bel] at h
  exact ⟨_, rfl, h.symm⟩
def Says (D : DataW Unit) (M : Int → Int → Bool) : Prop := ∀ a b, Wk a b → (M a b = true → Maps.has D (kl a b) = true ∧ ∀ z, D.atKey (kl a b) z = .lit (.bool true)) ∧ (M a b = false → Maps.has D (kl a b) = false)
/-- Block B is a set of at most u entries that holds M. -/
def Sset (w : World) (B u : Nat) (M : Int → Int → Bool) : Prop := ∃ n D, n ≤ u ∧ w.ownsMap Try.prog 88 bel B n D ∧ Says D M
def put (M : Int → Int → Bool) (a b : Int) : Int → Int → Bool := fun a' b' => (a' == a && b' == b) || M a' b'
def del (M : Int → Int → Bool) (a b : Int) : Int → Int → Bool := fun a' b' => !(a' == a && b' == b) && M a' b'
section
variable {w w' : World} {B u : Nat} {M M' : Int → Int → Bool}
theorem Sset.kept {row : Option Nat} (h : Sset w B u M) (hg : w.grownBy w' row) (hne : some B ≠ row) : Sset w' B u M := by
  obtain ⟨n, D, h0, h1, h2⟩ := h
  exact ⟨n, D, h0, h1.kept hg hne, h2⟩
theorem Sset.hi_ (h : Sset w B u M) : B + 1 ≤ w.heap.size := by
  obtain ⟨n, D, h0, h1, h2⟩ := h
  have := h1.lt
  omega
theorem Sset.below (h : Sset w B u M) (hb : Below w.heap.size w w') : Sset w' B u M := h.kept (grown_below hb none) (by simp)
theorem Sset.made (w : World) : Sset (w.alloc (.map #[] 0)) w.heap.size 0 (fun _ _ => false) :=
  ⟨0, .map [], Nat.le_refl _, World.ownsMap_made w _ _ _, fun a b _ => ⟨fun h => (by cases h), fun _ => rfl⟩⟩
theorem Sset.congr (h : Sset w B u M) (he : ∀ a b, M a b = M' a b) : Sset w B u M' := by
  obtain ⟨n, D, h0, h1, h2⟩ := h
  exact ⟨n, D, h0, h1, fun a b hk => by rw [← he a b]; exact h2 a b hk⟩
theorem ne_kl {a b a' b' : Int} (h : Wk a b) (h' : Wk a' b') (e : (a' == a && b' == b) = false) : kl a' b' ≠ kl a b := fun g => by
  obtain ⟨rfl, rfl⟩ := kl_inj h' h g
  simp at e
theorem eq_kl {a b a' b' : Int} (e : (a' == a && b' == b) = true) : a' = a ∧ b' = b := by simpa using e
theorem Sset.store (h : Sset w B u M) (hu : u < 1000000) {a b : Int} (hk : Wk a b) :
    ∃ w', (Instr.mapUpdate 90 (.map (some B)) (.agg #[.int .i64 a, .int .i64 b]) (.bool true)).run Try.prog w = .ok () w' ∧ Sset w' B (u + 1) (put M a b) ∧ w.grownBy w' (some B) := by
  obtain ⟨n, D, h0, h1, h2⟩ := h
  obtain ⟨w', g1, g2, g3⟩ := h1.update (val := .bool true) lawK Try.underlying90 (by unfold maxLen; omega) hk.key (d := .lit (.bool true)) (ps := []) rfl
  refine ⟨w', g1, ⟨n + 1, _, by omega, g2, fun a' b' hk' => ?_⟩, g3⟩
  unfold put
  cases e : (a' == a && b' == b) with
  | true =>
    obtain ⟨rfl, rfl⟩ := eq_kl e
    exact ⟨fun _ => ⟨Maps.has_put_same h1.isMap hk.lit _, fun z => Maps.atKey_put_same h1.isMap hk.lit _ z⟩, fun g => (by simp at g)⟩
  | false =>
    have hne := ne_kl hk hk' e
    refine ⟨fun g => ?_, fun g => ?_⟩
    · have := (h2 a' b' hk').1 (by simpa using g)
      exact ⟨by rw [Maps.has_put_other hne]; exact this.1, fun z => by rw [Maps.atKey_put_other hne]; exact this.2 z⟩
    · rw [Maps.has_put_other hne]; exact (h2 a' b' hk').2 (by simpa using g)
theorem Sset.look (h : Sset w B u M) {a b : Int} {v : Bool} (hk : Wk a b) (hv : M a b = v) : (Instr.lookup 90 (.map (some B)) (.agg #[.int .i64 a, .int .i64 b]) false).run Try.prog w = .ok (.bool v) w := by
  obtain ⟨n, D, h0, h1, h2⟩ := h
  obtain ⟨x, ps, g1, g2⟩ := h1.lookup lawK Try.underlying90 (zeroB w) (zd := .lit (.bool false)) (zp := []) rfl hk.key
  obtain ⟨c, rfl, e⟩ := bel_inv g2
  rw [show (.agg #[.int .i64 a, .int .i64 b] : Value) = ky a b from rfl, g1]
  cases v with
  | true =>
    rw [((h2 a b hk).1 hv).2] at e
    simp only [Prod.mk.injEq, DataW.lit.injEq, Lit.bool.injEq] at e
    rw [← e.1]
  | false =>
    rw [Maps.atKey_of_not_has ((h2 a b hk).2 hv)] at e
    simp only [Prod.mk.injEq, DataW.lit.injEq, Lit.bool.injEq] at e
    rw [← e.1]
theorem Sset.drop (h : Sset w B u M) {a b : Int} (hk : Wk a b) (ty : TypeId) :
    ∃ w', (Builtin.delete_ #[90, 88] ty #[.map (some B), .agg #[.int .i64 a, .int .i64 b]]).run Try.prog w = .ok (.tuple #[]) w' ∧ Sset w' B u (del M a b) ∧ w.grownBy w' (some B) := by
  obtain ⟨n, D, h0, h1, h2⟩ := h
  obtain ⟨w', g1, g2, g3⟩ := h1.drop lawK Try.underlying90 hk.key ty
  refine ⟨w', g1, ⟨n, _, h0, g2, fun a' b' hk' => ?_⟩, g3.grown⟩
  unfold del
  cases e : (a' == a && b' == b) with
  | true =>
    obtain ⟨rfl, rfl⟩ := eq_kl e
    exact ⟨fun g => (by simp at g), fun _ => Maps.has_del_same⟩
  | false =>
    have hne := ne_kl hk hk' e
    refine ⟨fun g => ?_, fun g => ?_⟩
    · have := (h2 a' b' hk').1 (by simpa using g)
      exact ⟨by rw [Maps.has_del_other hne]; exact this.1, fun z => by rw [Maps.atKey_del_other hne]; exact this.2 z⟩
    · rw [Maps.has_del_other hne]; exact (h2 a' b' hk').2 (by simpa using g)
end
theorem list_look {P : Program} (w : World) {ops : Array Oper} {rest : List Oper} {o : Oper} {a : Act} {Q : Exit → Act → World → Prop} (hg : o.guard = none) (m x : Operand) (t : TypeId) (c : Bool) (hop : o.op = Op.lookup t m x c)
    {mv kv v : Value} (hrun : (Instr.lookup t mv kv c).run P w = .ok v w) (hm : a.eval m = mv) (hx : a.eval x = kv) (hK : wpList P ops Q rest (a.put o.dst v) w) : wpList P ops Q (o :: rest) a w := by
  refine wpList_plain hg fun K' hK' => ?_
  unfold Oper.wp
  simp [execOp, hop, hm, hx, hrun, Result.andThen]
  exact hK' _ _ hK
theorem list_put (w : World) {ops : Array Oper} {rest : List Oper} {o : Oper} {a : Act} {Q : Exit → Act → World → Prop} (hg : o.guard = none) (m x y : Operand) (hop : o.op = Op.mapUpdate 90 m x y)
    {B u : Nat} {M : Int → Int → Bool} (hT : Sset w B u M) (hu : u < 1000000) {k t : Int} (hk : Wk k t) (hm : a.eval m = .map (some B)) (hx : a.eval x = .agg #[.int .i64 k, .int .i64 t]) (hy : a.eval y = .bool true)
    (hK : ∀ w', Sset w' B (u + 1) (put M k t) → w.grownBy w' (some B) → wpList Try.prog ops Q rest (a.put o.dst undef) w') : wpList Try.prog ops Q (o :: rest) a w := by
  obtain ⟨w', h1, h2, h3⟩ := hT.store hu hk
  refine wpList_plain hg fun K' hK' => ?_
  unfold Oper.wp
  simp [execOp, hop, hm, hx, hy, h1, Result.andThen]
  exact hK' _ _ (hK w' h2 h3)
theorem list_del (w : World) {ops : Array Oper} {rest : List Oper} {o : Oper} {a : Act} {Q : Exit → Act → World → Prop} (hg : o.guard = none) (m x : Operand) (hop : o.op = Op.call { callee := Callee.builtin Builtin.delete, args := #[m, x], argTypes := #[90, 88] })
    {B u : Nat} {M : Int → Int → Bool} (hT : Sset w B u M) {k t : Int} (hk : Wk k t) (hm : a.eval m = .map (some B)) (hx : a.eval x = .agg #[.int .i64 k, .int .i64 t])
    (hK : ∀ w', Sset w' B u (del M k t) → w.grownBy w' (some B) → wpList Try.prog ops Q rest (a.put o.dst (.tuple #[])) w') : wpList Try.prog ops Q (o :: rest) a w := by
  obtain ⟨w', h1, h2, h3⟩ := hT.drop hk o.type
  refine wpList_plain hg fun K' hK' => ?_
  unfold Oper.wp
  simp [execOp, hop, resolve, invoke, builtin, hm, hx, h1, Result.andThen]
  exact hK' _ _ (hK w' h2 h3)
/-- The sources that stand in the set while it is filled. -/
def grid (k c : Int) (a b : Int) : Bool := decide ((0 ≤ a ∧ a < k ∧ 0 ≤ b ∧ b ≤ 3) ∨ (a = k ∧ 0 ≤ b ∧ b < c))
theorem grid_start : ∀ a b, (fun _ _ => false : Int → Int → Bool) a b = grid 0 0 a b := fun a b => by
  unfold grid
  rw [decide_eq_false (by omega)]
theorem grid_put {k c : Int} (hk : 0 ≤ k) (hc : 0 ≤ c ∧ c ≤ 3) : ∀ a b, put (grid k c) k c a b = grid k (c + 1) a b := fun a b => by
  unfold put grid
  rw [Bool.eq_iff_iff]
  simp only [Bool.or_eq_true, Bool.and_eq_true, beq_iff_eq, decide_eq_true_eq]
  omega
theorem grid_next {k : Int} (hk : 0 ≤ k) : ∀ a b, grid k 4 a b = grid (k + 1) 0 a b := fun a b => by
  unfold grid
  rw [Bool.eq_iff_iff]
  simp only [decide_eq_true_eq]
  omega
/-- The sources that are left behind the first i remembered frames. -/
def free (l : List Sen) (i : Nat) (a b : Int) : Bool := grid 16 0 a b && !(l.take i).any (hit a b)
theorem free_start (l : List Sen) : ∀ a b, grid 16 0 a b = free l 0 a b := fun a b => by
  unfold free
  simp
theorem free_next {l : List Sen} {i : Nat} {y : Sen} (hy : l[i]? = some y) : ∀ a b, del (free l i) y.From y.Category a b = free l (i + 1) a b := fun a b => by
  unfold del free
  rw [take_snoc hy, List.any_append]
  rw [Bool.eq_iff_iff]
  simp only [Bool.and_eq_true, Bool.not_eq_true', Bool.or_eq_false_iff, List.any_cons, List.any_nil, Bool.or_false, hit, Bool.and_eq_false_iff, beq_eq_false_iff_ne, ne_eq]
  constructor
  · rintro ⟨h1, h2, h3⟩
    refine ⟨h2, h3, ?_⟩
    rcases h1 with h1 | h1
    · exact .inl fun e => h1 e.symm
    · exact .inr fun e => h1 e.symm
  · rintro ⟨h2, h3, h1⟩
    refine ⟨?_, h2, h3⟩
    rcases h1 with h1 | h1
    · exact .inl fun e => h1 e.symm
    · exact .inr fun e => h1 e.symm
theorem any_of {l : List Sen} {a b : Int} {i : Nat} (h : (l.take i).any (hit a b) = true) : fst l a b < i := by
  rw [List.any_eq_true] at h
  obtain ⟨x, hx, hh⟩ := h
  obtain ⟨j, hj, e⟩ := List.getElem_of_mem hx
  have hjl : j < l.length ∧ j < i := by rw [List.length_take] at hj; omega
  have he : l[j] = x := by rw [← e, List.getElem_take]
  rcases Nat.lt_or_ge j (fst l a b) with h1 | h1
  · have h2 := fst_before h1
    rw [List.getD_eq_getElem?_getD, List.getElem?_eq_getElem hjl.1, he] at h2
    have h3 : hit a b x = false := h2
    rw [hh] at h3; cases h3
  · omega
theorem any_no {l : List Sen} {a b : Int} {i : Nat} {y : Sen} (hy : l[i]? = some y) (hh : hit a b y = true) (h : (l.take i).any (hit a b) = false) : fst l a b = i := by
  refine fst_hit (fun j hj => ?_) hy hh
  have hil := (List.getElem?_eq_some_iff.1 hy).1
  rw [List.getD_eq_getElem?_getD, List.getElem?_eq_getElem (by omega)]
  rw [List.any_eq_false] at h
  have hm : l[j] ∈ l.take i := by
    rw [List.mem_take_iff_getElem]
    exact ⟨j, by omega, rfl⟩
  have := h _ hm
  show hit a b l[j] = false
  cases hq : hit a b l[j] with
  | false => rfl
  | true => exact absurd hq this
theorem hit_self (y : Sen) : hit y.From y.Category y = true := by simp [hit]
/-- A frame whose source is left is right if its numbers are. -/
theorem ok_free {l : List Sen} {i : Nat} {y : Sen} {s g : Bool} (hy : l[i]? = some y) (hf : free l i y.From y.Category = true) (hs : decide (0 ≤ y.Seq ∧ y.Seq ≤ 4095) = s) (hg : decide (0 ≤ y.Fragment ∧ y.Fragment ≤ 15) = g) : okAt l i = (s && g) := by
  unfold free at hf
  simp only [Bool.and_eq_true, Bool.not_eq_true'] at hf
  have h1 := any_no hy (hit_self y) hf.2
  have h2 : (0 ≤ y.From ∧ y.From ≤ 15) ∧ (0 ≤ y.Category ∧ y.Category ≤ 3) := by
    have := hf.1
    unfold grid at this
    have := of_decide_eq_true this
    omega
  unfold okAt
  rw [getD_of hy, h1]
  unfold inr
  rw [decide_eq_true h2.1, decide_eq_true h2.2, hs, hg]
  simp
theorem ok_taken {l : List Sen} {i : Nat} {y : Sen} (hy : l[i]? = some y) (hf : free l i y.From y.Category = false) : okAt l i = false := by
  unfold okAt
  rw [getD_of hy]
  unfold free at hf
  rw [Bool.and_eq_false_iff] at hf
  rcases hf with hf | hf
  · have h0 : ¬ ((0 ≤ y.From ∧ y.From ≤ 15) ∧ (0 ≤ y.Category ∧ y.Category ≤ 3)) := fun h => by
      unfold grid at hf
      have := of_decide_eq_false hf
      omega
    have h1 : inr y = false := by
      unfold inr
      cases hq : decide (0 ≤ y.From ∧ y.From ≤ 15) with
      | false => simp
      | true =>
        cases hq2 : decide (0 ≤ y.Category ∧ y.Category ≤ 3) with
        | false => simp
        | true => exact absurd ⟨of_decide_eq_true hq, of_decide_eq_true hq2⟩ h0
    rw [h1]; rfl
  · have h1 : (l.take i).any (hit y.From y.Category) = true := by simpa using hf
    have h2 := any_of h1
    have h3 : (fst l y.From y.Category == i) = false := by simp; omega
    rw [h3]; simp
theorem ok_all {l : List Sen} (h : ∀ j, j < l.length → okAt l j = true) : vs l = true := vs_yes h
end Go.Proofs.Ytbkdbdhbmabgcaa.sn
end
