/- New buffers, and which are valid; program and specification. Condition: none. -/
import Derived.Test.YtejjafmppihneaaRv3
import Derived.Test.YtejjafmppihneaaUw22
namespace Go.Proofs.Ytejjafmppihneaa.ro
open Go.RowKit sl harn bx stw
set_option linter.unusedVariables false
open ux (Nf Rob RR OO row rowB rowNf nf rob)
open mrw (blkOf)
open bs (nsq sqd)
set_option linter.unusedSimpArgs false

theorem nf_len {w : World} {lo hi n c : Nat} {A : Option Addr} {xs : List Nf} (h : RR rowNf w lo hi (.slice A n c) xs) : xs.length = n ∧ n ≤ c ∧ c ≤ 9223372036854775807 := by
  obtain ⟨A', n', c', e, h1, h2, h3⟩ := ux.row_open (show RR (row 90 nf) w lo hi _ xs from h)
  injection e with e1 e2 e3
  subst e1 e2 e3
  exact ⟨h1, h2, h3⟩
theorem drop_at {α : Type} {l : List α} {k : Nat} {x : α} (h : l[k]? = some x) : l.drop k = x :: l.drop (k + 1) := by
  have hk := (List.getElem?_eq_some_iff.1 h).1
  rw [List.drop_eq_getElem_cons hk]
  congr 1
  rw [List.getElem?_eq_getElem hk] at h
  exact Option.some.inj h
theorem below_box (w : World) (o : Obj) : Below w.heap.size w (w.alloc o) := bx.below_box w o
theorem vr_false {s : Int} {xs : List Nf} (h : okp s 0 xs = false) : vr ⟨s, xs⟩ = false := by unfold vr; rw [h]; rfl
theorem vr_end {s : Int} {xs : List Nf} {v : Bool} (h : okp s 0 xs = true) (hv : decide (0 ≤ s ∧ s ≤ 4095) = v) : vr ⟨s, xs⟩ = v := by unfold vr; rw [h, hv]; rfl
set_option maxRecDepth 100000 in
set_option maxHeartbeats 4000000 in
theorem fits (A : Option Addr) (n c : Nat) (v : Bool) (w : World) (h : decide (n ≤ 100) = v) :
    Calls Try.prog 71 #[.slice A n c] w fun e w' => e = .returned (.bool v) ∧ w = w' := by
  have H : decide ((n : Int) ≤ 100) = v := by rw [← h]; simp; omega
  clear h
  go_enter Try.func71, Try.ntmps71
  go_wp2
  go_ret
  exact ⟨by first | rfl | rw [H], rfl⟩
set_option maxRecDepth 100000 in
set_option maxHeartbeats 4000000 in
theorem ahead (d : Int) (v : Bool) (w : World) (h : decide (0 ≤ d ∧ d ≤ 2047) = v) :
    Calls Try.prog 70 #[.int .i64 d] w fun e w' => e = .returned (.bool v) ∧ w = w' := by
  have H := Lib.hid h
  clear h
  go_enter Try.func70, Try.ntmps70
  go_wp2_with fail
  (with_reducible refine (inR d 0 2047 v _ H.out).mono ?_)
  rintro e wq ⟨rfl, rfl⟩
  go_wp2_with fail
  go_ret
  exact ⟨rfl, rfl⟩
set_option maxRecDepth 100000 in
set_option maxHeartbeats 4000000 in
theorem implVr (s : Int) (xs : List Nf) (lo hi : Nat) (A : Option Addr) (n c : Nat) (w : World) (h : RR rowNf w lo hi (.slice A n c) xs) :
    Calls Try.prog 41 #[.agg #[.int .i64 s, .slice A n c]] w (BPost (vr ⟨s, xs⟩) w) := by
  have RW := Lib.hid h
  obtain ⟨hlR, hncR, hcmR⟩ := nf_len h
  have HL := Lib.hid hlR
  have LHR := Lib.hid (show hi ≤ w.heap.size from h.hi_)
  clear hlR h
  go_enter Try.func41, Try.ntmps41
  go_wp2_with fail
  obtain ⟨w0, hW⟩ : ∃ w0, w.alloc (.cells #[.int .i64 s, .slice A n c] 50) = w0 := ⟨_, rfl⟩
  rw [hW]
  have B0 := Lib.hid (show Below w.heap.size w w0 by rw [← hW]; exact (Below.refl _ _).alloc (by simp <;> omega) _)
  have X0 := Lib.hid (show Bx 50 w0 (w.heap.size) #[.int .i64 s, .slice A n c] by
      rw [← hW]
      have hh := Bx.made 50 w #[.int .i64 s, .slice A n c]
      exact hh)
  have R0 := Lib.hid (show RR rowNf w0 lo hi (.slice A n c) xs by rw [← hW]; exact (RW.out.below (below_box _ _)))
  clear hW
  have LTX := Lib.hid X0.out.lt
  have cX0 : w0.cell? ⟨w.heap.size, 0, none⟩ = some (.int .i64 s) := X0.out.cell 0
  have cX1 : w0.cell? ⟨w.heap.size, 1, none⟩ = some (.slice A n c) := X0.out.cell 1
  go_wp2_with fail
  clear cX0 cX1
  go_loopw [3, 10] (fun v0 v1 wr => ∃ (p : Int) (k : Nat), v0 = .int .i64 p ∧ v1 = .int .i64 ((k : Int)) ∧ (k ≤ n) ∧ (0 ≤ p ∧ p ≤ 15) ∧ (okp s 0 xs = okp s p (xs.drop k)) ∧ Below w.heap.size w wr ∧ Bx 50 wr w.heap.size #[.int .i64 s, .slice A n c] ∧ RR rowNf wr lo hi (.slice A n c) xs) (fun _ i _ => n - (intOf i).toNat)
  case atStart => exact ⟨0, 0, rfl, rfl, by omega, by omega, by rw [List.drop_zero], B0.out, X0.out, R0.out⟩
  case round =>
    obtain ⟨p, k, rfl, rfl, ghk, ghp, ghe, gB1, gX1, gR1⟩ := hrel
    have B1 := Lib.hid gB1
    have X1 := Lib.hid gX1
    have R1 := Lib.hid gR1
    have hk := Lib.hid ghk
    have hp := Lib.hid ghp
    have he := Lib.hid ghe
    clear gB1 gX1 gR1 ghk ghp ghe
    have LUX1 := Lib.hid X1.out.lt
    have SBR1 := Lib.hid B1.out.size
    have hk9 := hk.out
    have hp9 := hp.out
    by_cases hlt : k < n
    · have hlt2 : (k : Int) < n := by omega
      obtain ⟨g, off, x, u, hA, hy, hg1, hg2, hru, hxu⟩ := ux.row_at (R1.out : RR (row 90 nf) _ _ _ _ _) hlt
      obtain ⟨A0, n0, c0_, rfl, hb0⟩ := ux.nf_r hxu
      subst hA
      have k0 : wr.cell? ⟨g, off + k * 2, none⟩ = some (.int .i64 x.Seq) := hru 0 _ rfl
      have k1 : wr.cell? ⟨g, off + k * 2 + 1, none⟩ = some (.slice A0 n0 c0_) := hru 1 _ rfl
      have HY := Lib.hid hy
      have HN0 := Lib.hid (ux.rd_of hb0).len
      have hn0 := (ux.rd_of hb0).cap_
      have F1 := Lib.hid hb0
      clear hy hru hxu hb0 hg1 hg2
      obtain ⟨d, hd⟩ : ∃ v, sqd s x.Seq = v := ⟨_, rfl⟩
      have HD := Lib.hid hd
      clear hd
      have hdr : -1 ≤ d ∧ d ≤ 4095 := by rw [← HD.out]; exact bs.sqd_rng _ _
      obtain ⟨v, hv⟩ : ∃ v, decide (p + 1 ≤ d ∧ d ≤ 15) = v := ⟨_, rfl⟩
      have HV := Lib.hid hv
      clear hv
      obtain ⟨v2, hv2⟩ : ∃ v, decide (n0 ≤ 100) = v := ⟨_, rfl⟩
      have HV2 := Lib.hid hv2
      clear hv2
      have HOK := Lib.hid (show okp s 0 xs = (v && v2 && okp s d (xs.drop (k + 1))) by rw [he.out, drop_at HY.out, okp, HD.out, HV.out, HN0.out, HV2.out])
      have cX0 : wr.cell? ⟨w.heap.size, 0, none⟩ = some (.int .i64 s) := X1.out.cell 0
      have cX1 : wr.cell? ⟨w.heap.size, 1, none⟩ = some (.slice (some ⟨g, off, none⟩) n c) := X1.out.cell 1
      obtain ⟨b2, hbb⟩ : ∃ b, wr.heap.size = b := ⟨_, rfl⟩
      go_upto_region 5 with fail
      generalize hW : wr.alloc (.cells #[.int .i64 x.Seq, .slice A0 n0 c0_] 90) = w2
      have LV := Lib.hid (show w.heap.size ≤ b2 ∧ w.heap.size < b2 ∧ hi ≤ b2 ∧ hi ≤ b2 by have h1 := B1.out.size; have h2X := X1.out.lt; have h2R := R1.out.hi_; have h2F := F1.out.hi_; have h3 := hbb; omega)
      have V2 := Lib.hid (show Bx 90 w2 b2 #[.int .i64 x.Seq, .slice A0 n0 c0_] by rw [← hW, ← hbb]; exact Bx.made _ _ _)
      have hb : Below wr.heap.size wr w2 := by rw [← hW]; exact below_box _ _
      (try rw [hbb])
      clear hW hbb
      have SS2 := Lib.hid hb.size
      have B2 := Lib.hid (B1.out.trans (hb.mono B1.out.size))
      have X2 := Lib.hid (X1.out.below hb)
      have R2 := Lib.hid (R1.out.below hb)
      have F2 := Lib.hid (F1.out.below hb)
      clear hb B1 X1 R1 F1
      have LWV := Lib.hid V2.out.lt
      clear k0 k1 cX0 cX1
      have cX0 : w2.cell? ⟨w.heap.size, 0, none⟩ = some (.int .i64 s) := X2.out.cell 0
      have cX1 : w2.cell? ⟨w.heap.size, 1, none⟩ = some (.slice (some ⟨g, off, none⟩) n c) := X2.out.cell 1
      have cV0 : w2.cell? ⟨b2, 0, none⟩ = some (.int .i64 x.Seq) := V2.out.cell 0
      have cV1 : w2.cell? ⟨b2, 1, none⟩ = some (.slice A0 n0 c0_) := V2.out.cell 1
      go_wp2_with fail
      clear cX0 cX1 cV0 cV1
      (with_reducible refine (bs.implSd s x.Seq _).mono ?_)
      rw [HD.out]
      rintro e wq ⟨rfl, rfl⟩
      have cV0 : w2.cell? ⟨b2, 0, none⟩ = some (.int .i64 x.Seq) := V2.out.cell 0
      have cV1 : w2.cell? ⟨b2, 1, none⟩ = some (.slice A0 n0 c0_) := V2.out.cell 1
      go_wp2_with fail
      clear cV0 cV1
      (with_reducible refine (inR d (p + 1) 15 v _ HV.out).mono ?_)
      rintro e wq ⟨rfl, rfl⟩
      cases v with
      | true =>
        have cV0 : w2.cell? ⟨b2, 0, none⟩ = some (.int .i64 x.Seq) := V2.out.cell 0
        have cV1 : w2.cell? ⟨b2, 1, none⟩ = some (.slice A0 n0 c0_) := V2.out.cell 1
        go_wp2_with fail
        clear cV0 cV1
        (with_reducible refine (fits A0 n0 c0_ v2 _ HV2.out).mono ?_)
        rintro e wq ⟨rfl, rfl⟩
        cases v2 with
        | true =>
          go_wp2_with fail
          have hpd := of_decide_eq_true HV.out
          go_roundw
          case rel => exact ⟨d, k + 1, rfl, by go_num, by omega, by omega, by rw [HOK.out]; rfl, B2.out, X2.out, R2.out⟩
          case measure => simp [intOf]; omega
        | false =>
          go_wp2_with fail
          go_ret
          exact ⟨by rw [vr_false (by rw [HOK.out]; rfl)]; rfl, B2.out⟩
      | false =>
        go_wp2_with fail
        go_ret
        exact ⟨by rw [vr_false (by rw [HOK.out]; rfl)]; rfl, B2.out⟩
    · have hlt2 : ¬ (k : Int) < n := by omega
      have HOK := Lib.hid (show okp s 0 xs = true by rw [he.out, List.drop_eq_nil_of_le (by rw [HL.out]; omega)]; rfl)
      obtain ⟨v, hv⟩ : ∃ v, decide (0 ≤ s ∧ s ≤ 4095) = v := ⟨_, rfl⟩
      have HV := Lib.hid hv
      clear hv
      have cX0 : wr.cell? ⟨w.heap.size, 0, none⟩ = some (.int .i64 s) := X1.out.cell 0
      have cX1 : wr.cell? ⟨w.heap.size, 1, none⟩ = some (.slice A n c) := X1.out.cell 1
      go_wp2_with fail
      clear cX0 cX1
      (with_reducible refine (bs.isSq s v _ HV.out).mono ?_)
      rintro e wq ⟨rfl, rfl⟩
      go_wp2_with fail
      go_ret
      exact ⟨by rw [vr_end HOK.out HV.out]; rfl, B1.out⟩
set_option maxRecDepth 100000 in
set_option maxHeartbeats 4000000 in
theorem specVr (s : Int) (xs : List Nf) (lo hi : Nat) (A : Option Addr) (n c : Nat) (w : World) (h : RR rowNf w lo hi (.slice A n c) xs) :
    Calls Try.prog 39 #[.agg #[.int .i64 s, .slice A n c]] w (BPost (vr ⟨s, xs⟩) w) := by
  have RW := Lib.hid h
  obtain ⟨hlR, hncR, hcmR⟩ := nf_len h
  have HL := Lib.hid hlR
  have LHR := Lib.hid (show hi ≤ w.heap.size from h.hi_)
  clear hlR h
  go_enter Try.func39, Try.ntmps39
  go_wp2_with fail
  obtain ⟨w0, hW⟩ : ∃ w0, w.alloc (.cells #[.int .i64 s, .slice A n c] 50) = w0 := ⟨_, rfl⟩
  rw [hW]
  have B0 := Lib.hid (show Below w.heap.size w w0 by rw [← hW]; exact (Below.refl _ _).alloc (by simp <;> omega) _)
  have X0 := Lib.hid (show Bx 50 w0 (w.heap.size) #[.int .i64 s, .slice A n c] by
      rw [← hW]
      have hh := Bx.made 50 w #[.int .i64 s, .slice A n c]
      exact hh)
  have R0 := Lib.hid (show RR rowNf w0 lo hi (.slice A n c) xs by rw [← hW]; exact (RW.out.below (below_box _ _)))
  clear hW
  have LTX := Lib.hid X0.out.lt
  have cX0 : w0.cell? ⟨w.heap.size, 0, none⟩ = some (.int .i64 s) := X0.out.cell 0
  have cX1 : w0.cell? ⟨w.heap.size, 1, none⟩ = some (.slice A n c) := X0.out.cell 1
  go_wp2_with fail
  clear cX0 cX1
  go_loopw [3, 4] (fun v0 v1 wr => ∃ (p : Int) (k : Nat), v0 = .int .i64 p ∧ v1 = .int .i64 ((k : Int)) ∧ (k ≤ n) ∧ (0 ≤ p ∧ p ≤ 15) ∧ (okp s 0 xs = okp s p (xs.drop k)) ∧ Below w.heap.size w wr ∧ Bx 50 wr w.heap.size #[.int .i64 s, .slice A n c] ∧ RR rowNf wr lo hi (.slice A n c) xs) (fun _ i _ => n - (intOf i).toNat)
  case atStart => exact ⟨0, 0, rfl, rfl, by omega, by omega, by rw [List.drop_zero], B0.out, X0.out, R0.out⟩
  case round =>
    obtain ⟨p, k, rfl, rfl, ghk, ghp, ghe, gB1, gX1, gR1⟩ := hrel
    have B1 := Lib.hid gB1
    have X1 := Lib.hid gX1
    have R1 := Lib.hid gR1
    have hk := Lib.hid ghk
    have hp := Lib.hid ghp
    have he := Lib.hid ghe
    clear gB1 gX1 gR1 ghk ghp ghe
    have LUX1 := Lib.hid X1.out.lt
    have SBR1 := Lib.hid B1.out.size
    have hk9 := hk.out
    have hp9 := hp.out
    by_cases hlt : k < n
    · have hlt2 : (k : Int) < n := by omega
      obtain ⟨g, off, x, u, hA, hy, hg1, hg2, hru, hxu⟩ := ux.row_at (R1.out : RR (row 90 nf) _ _ _ _ _) hlt
      obtain ⟨A0, n0, c0_, rfl, hb0⟩ := ux.nf_r hxu
      subst hA
      have k0 : wr.cell? ⟨g, off + k * 2, none⟩ = some (.int .i64 x.Seq) := hru 0 _ rfl
      have k1 : wr.cell? ⟨g, off + k * 2 + 1, none⟩ = some (.slice A0 n0 c0_) := hru 1 _ rfl
      have HY := Lib.hid hy
      have HN0 := Lib.hid (ux.rd_of hb0).len
      have hn0 := (ux.rd_of hb0).cap_
      have F1 := Lib.hid hb0
      clear hy hru hxu hb0 hg1 hg2
      obtain ⟨d, hd⟩ : ∃ v, sqd s x.Seq = v := ⟨_, rfl⟩
      have HD := Lib.hid hd
      clear hd
      have hdr : -1 ≤ d ∧ d ≤ 4095 := by rw [← HD.out]; exact bs.sqd_rng _ _
      obtain ⟨v, hv⟩ : ∃ v, decide (p + 1 ≤ d ∧ d ≤ 15) = v := ⟨_, rfl⟩
      have HV := Lib.hid hv
      clear hv
      obtain ⟨v2, hv2⟩ : ∃ v, decide (n0 ≤ 100) = v := ⟨_, rfl⟩
      have HV2 := Lib.hid hv2
      clear hv2
      have HOK := Lib.hid (show okp s 0 xs = (v && v2 && okp s d (xs.drop (k + 1))) by rw [he.out, drop_at HY.out, okp, HD.out, HV.out, HN0.out, HV2.out])
      have cX0 : wr.cell? ⟨w.heap.size, 0, none⟩ = some (.int .i64 s) := X1.out.cell 0
      have cX1 : wr.cell? ⟨w.heap.size, 1, none⟩ = some (.slice (some ⟨g, off, none⟩) n c) := X1.out.cell 1
      go_upto_region 5 with fail
      have mX0 : ∀ m : bx.Af wr, m.w.cell? ⟨w.heap.size, 0, none⟩ = some (.int .i64 s) := fun m => (bx.Af.cells X1.out m).cell 0
      have mX1 : ∀ m : bx.Af wr, m.w.cell? ⟨w.heap.size, 1, none⟩ = some (.slice (some ⟨g, off, none⟩) n c) := fun m => (bx.Af.cells X1.out m).cell 1
      have q0 : ∀ m : bx.Af wr, m.w.cell? ⟨g, off + k * 2, none⟩ = some (.int .i64 x.Seq) := fun m => (m.below.cell (World.block_lt_of_cell? _ _ k0)).trans k0
      have q1 := Lib.hid (fun m => (bs.specSd s x.Seq m.w).mono fun _ _ h => ⟨h.1, h.2 ▸ Below.refl _ _⟩ : ∀ m : bx.Af wr, Calls Try.prog 43 #[.int .i64 s, .int .i64 x.Seq] m.w fun e w' => e = .returned (.int .i64 ((sqd s x.Seq))) ∧ Below m.w.heap.size m.w w')
      refine bx.region_after (by kernel_rfl) (by kernel_rfl) ?_
      repeat (go_big_quiet_step ((go_at_call 43; with_reducible exact bx.Af.call (q1.out _))))
      refine wpQuiet_nil ?_
      intro _ hw'
      obtain ⟨nq9, hw''⟩ := hw'
      subst hw''
      clear mX0 mX1 q0 q1 k0
      obtain ⟨w2, hw5⟩ : ∃ w5, nq9.w = w5 := ⟨_, rfl⟩
      have hb := nq9.below
      rw [hw5] at hb
      (try rw [hw5])
      clear hw5
      have k1' : w2.cell? ⟨g, off + k * 2 + 1, none⟩ = some (.slice A0 n0 c0_) := (hb.cell (World.block_lt_of_cell? _ _ k1)).trans k1
      clear k1
      have k1 := k1'
      clear k1'
      have SS2 := Lib.hid hb.size
      clear cX0 cX1
      have B2 := Lib.hid (B1.out.trans (hb.mono B1.out.size))
      have X2 := Lib.hid (X1.out.below hb)
      have R2 := Lib.hid (R1.out.below hb)
      have F2 := Lib.hid (F1.out.below hb)
      clear hb nq9 B1 X1 R1 F1
      rw [HD.out]
      have cX0 : w2.cell? ⟨w.heap.size, 0, none⟩ = some (.int .i64 s) := X2.out.cell 0
      have cX1 : w2.cell? ⟨w.heap.size, 1, none⟩ = some (.slice (some ⟨g, off, none⟩) n c) := X2.out.cell 1
      go_wp2_with fail
      (with_reducible refine (l1R d (p + 1) 15 v _ HV.out).mono ?_)
      rintro e wq ⟨rfl, rfl⟩
      cases v with
      | true =>
        cases v2 with
        | true =>
          have h100 : ¬ (100 : Int) < (n0 : Int) := by have := of_decide_eq_true HV2.out; omega
          go_wp2_with fail
          have hpd := of_decide_eq_true HV.out
          clear cX0 cX1 k1
          go_roundw
          case rel => exact ⟨d, k + 1, rfl, by go_num, by omega, by omega, by rw [HOK.out]; rfl, B2.out, X2.out, R2.out⟩
          case measure => simp [intOf]; omega
        | false =>
          have h100 : (100 : Int) < (n0 : Int) := by have h7 := of_decide_eq_false HV2.out; omega
          go_wp2_with fail
          go_ret
          exact ⟨by rw [vr_false (by rw [HOK.out]; rfl)]; rfl, B2.out⟩
      | false =>
        go_wp2_with fail
        go_ret
        exact ⟨by rw [vr_false (by rw [HOK.out]; rfl)]; rfl, B2.out⟩
    · have hlt2 : ¬ (k : Int) < n := by omega
      have HOK := Lib.hid (show okp s 0 xs = true by rw [he.out, List.drop_eq_nil_of_le (by rw [HL.out]; omega)]; rfl)
      obtain ⟨v, hv⟩ : ∃ v, decide (0 ≤ s ∧ s ≤ 4095) = v := ⟨_, rfl⟩
      have HV := Lib.hid hv
      clear hv
      have cX0 : wr.cell? ⟨w.heap.size, 0, none⟩ = some (.int .i64 s) := X1.out.cell 0
      have cX1 : wr.cell? ⟨w.heap.size, 1, none⟩ = some (.slice A n c) := X1.out.cell 1
      go_wp2_with fail
      clear cX0 cX1
      (with_reducible refine (l1R s 0 4095 v _ HV.out).mono ?_)
      rintro e wq ⟨rfl, rfl⟩
      go_wp2_with fail
      go_ret
      exact ⟨by rw [vr_end HOK.out HV.out]; rfl, B1.out⟩
end Go.Proofs.Ytejjafmppihneaa.ro
