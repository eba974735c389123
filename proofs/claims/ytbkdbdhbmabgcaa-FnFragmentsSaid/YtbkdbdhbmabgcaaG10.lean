/- Merged texts of this seat. FraLaw: The law function of fragments (FnFragments) returns true and leaves what was there. Condition: the argument is a slice of bytes that came in. -/
import Derived.Test.YtbkdbdhbmabgcaaG9
section
namespace Go.Proofs.Ytbkdbdhbmabgcaa.fraLaw
open Go.RowKit sl harn bx mrw drk stw fr
set_option linter.unusedVariables false
set_option linter.unusedSimpArgs false
open ux (Rea Fra)

/-- The list behind the first i fragments of m. -/
def lst (f : Fra) (t : Int) (m i : Nat) : List Rea := if i = 0 ∨ i = m then [] else [⟨f.From, f.Seq, i, f.Body.take (i * t.toNat), 7⟩]
def bod (f : Fra) (m i : Nat) : List Int := if i + 1 = m then f.Body else []
theorem lst_out {f : Fra} {t : Int} {m i : Nat} (h : i = 0 ∨ i = m) : lst f t m i = [] := if_pos h
theorem lst_in {f : Fra} {t : Int} {m i : Nat} (h : ¬ (i = 0 ∨ i = m)) : lst f t m i = [⟨f.From, f.Seq, i, f.Body.take (i * t.toNat), 7⟩] := if_neg h
theorem frag_join {f : Fra} {t : Int} {m k : Nat} (hm : fcnt f.Body.length t = m) (hk : k < m) : f.Body.take (k * t.toNat) ++ (frag f t m k).Body = f.Body.take ((k + 1) * t.toNat) := by
  have hp := fcnt_pos (b := f.Body.length) (t := t) (by rw [hm]; omega)
  obtain ⟨tn, rfl⟩ : ∃ tn : Nat, t = tn := ⟨t.toNat, by omega⟩
  have hle := frag_le hm (show (k : Int) < (m : Int) by omega)
  rw [frag_body (s := k * tn) (n := f.Body.length) (m := min (k * tn + tn) f.Body.length) rfl rfl rfl, Int.toNat_natCast, ← List.take_add, Nat.add_mul, Nat.one_mul]
  obtain ⟨a, ha⟩ : ∃ a, k * tn = a := ⟨_, rfl⟩
  rw [ha] at hle ⊢
  rw [show a + (min (a + tn) f.Body.length - a) = min (a + tn) f.Body.length by omega]
  exact List.take_eq_take_iff.2 (by omega)
theorem frag_all {f : Fra} {t : Int} {m : Nat} (hm : fcnt f.Body.length t = m) (h0 : 0 < m) : f.Body.take (m * t.toNat) = f.Body := by
  have hp := fcnt_pos (b := f.Body.length) (t := t) (by rw [hm]; omega)
  obtain ⟨tn, rfl⟩ : ∃ tn : Nat, t = tn := ⟨t.toNat, by omega⟩
  refine List.take_of_length_le ?_
  rw [Int.toNat_natCast]
  rw [fcnt_yes hp rfl] at hm
  have h1 := Int.lt_ediv_add_one_mul_self ((f.Body.length : Int) + tn - 1) (show (0 : Int) < tn by omega)
  have h3 := nat_mul m tn
  split at hm
  · rw [hm, Int.add_mul, Int.one_mul] at h1
    omega
  · rename_i hq
    obtain rfl : m = 1 := by omega
    have h4 : (((f.Body.length : Int) + tn - 1) / tn + 1) * (tn : Int) ≤ 2 * (tn : Int) := Int.mul_le_mul_of_nonneg_right (by omega) (by omega)
    omega
theorem fst_one (r : Rea) : fr.fst [r] r.From = 0 := by unfold fr.fst; simp
theorem step {f : Fra} {t : Int} {m i : Nat} (hm : fcnt f.Body.length t = m) (hi : i < m) (hb : f.Body.length ≤ 32) : add (lst f t m i) (frag f t m i) 7 = (lst f t m (i + 1), bod f m i, decide (i + 1 = m)) := by
  have hj := frag_join hm hi
  have hmore : (frag f t m i).More = decide ((i : Int) < m - 1) := rfl
  have hfr : (frag f t m i).Fragment = i := rfl
  have hm16 : m ≤ 16 := by have := (fcnt_rng f.Body.length t).2; omega
  by_cases h0 : i = 0
  · subst h0
    have h1 : without ([] : List Rea) (frag f t m 0).From = [] := by unfold without; rfl
    rw [Nat.zero_mul, List.take_zero, List.nil_append] at hj
    rw [lst_out (.inl rfl)]
    unfold add
    rw [if_pos (by rw [hfr]; rfl), h1]
    by_cases hm1 : m = 1
    · subst hm1
      rw [if_neg (by rw [hmore]; decide), lst_out (.inr rfl), hj, frag_all hm (by omega)]
      rfl
    · rw [if_pos (by rw [hmore]; exact decide_eq_true (by omega)), lst_in (by omega)]
      unfold fr.start bod
      rw [hj, if_neg (by omega), decide_eq_false (by omega)]
      rfl
  · rw [lst_in (by omega)]
    obtain ⟨r, hr⟩ : ∃ r : Rea, (⟨f.From, f.Seq, i, f.Body.take (i * t.toNat), 7⟩ : Rea) = r := ⟨_, rfl⟩
    have e1 : r.From = f.From := by rw [← hr]
    have e2 : r.Seq = f.Seq := by rw [← hr]
    have e3 : r.Next = i := by rw [← hr]
    have e4 : r.Body = f.Body.take (i * t.toNat) := by rw [← hr]
    have e5 : r.Started = 7 := by rw [← hr]
    rw [hr]
    have hf0 : fr.fst [r] (frag f t m i).From = 0 := by show fr.fst [r] f.From = 0; rw [← e1]; exact fst_one r
    have hlen : r.Body.length + (frag f t m i).Body.length ≤ 32 := by
      rw [e4, ← List.length_append, hj, List.length_take]
      omega
    have hc : cont r (frag f t m i) = true := by
      unfold cont
      rw [hfr, e2, e3, decide_eq_true (by omega)]
      simp [frag]
    have hg : ([r] : List Rea).getD 0 zr = r := rfl
    unfold add
    rw [if_neg (by rw [hfr]; omega), hf0, hg, if_pos ⟨by rw [hfr]; omega, by simp, hc⟩, e4, hj]
    by_cases hl : i + 1 = m
    · rw [if_neg (by rw [hmore]; simp; omega), lst_out (.inr hl), hl, frag_all hm (by omega)]
      unfold without bod
      rw [hf0, if_pos hl, decide_eq_true rfl]
      rfl
    · rw [if_pos (by rw [hmore]; exact decide_eq_true (by omega)), lst_in (by omega)]
      unfold bod
      rw [if_neg hl, decide_eq_false hl, hfr]
      have hw : IntKind.i64.wrap ((i : Int) + 1) = (i : Int) + 1 := IntWalk.i64_in _ (by omega)
      rw [hw]
      have e6 : (((i + 1 : Nat)) : Int) = (i : Int) + 1 := by omega
      rw [e6, ← hr]
      rfl
theorem again {f : Fra} {t : Int} {m i : Nat} (hm : fcnt f.Body.length t = m) (h0 : 0 < i) (hi : i < m) : add (lst f t m (i + 1)) (frag f t m i) 8 = (lst f t m (i + 1), [], false) := by
  have hfr : (frag f t m i).Fragment = i := rfl
  refine add_no (by rw [hfr]; omega) fun h => ?_
  by_cases hl : i + 1 = m
  · rw [lst_out (.inr hl)] at h
    have := h.2.1
    simp at this
  · rw [lst_in (by omega)] at h
    have h2 := h.2.2
    rw [show fr.fst [(⟨f.From, f.Seq, ((i + 1 : Nat) : Int), f.Body.take ((i + 1) * t.toNat), 7⟩ : Rea)] (frag f t m i).From = 0 from fst_one _] at h2
    unfold cont at h2
    simp only [List.getD_cons_zero, Bool.and_eq_true, beq_iff_eq] at h2
    rw [hfr] at h2
    omega
theorem frs_at {f : Fra} {t : Int} {m i : Nat} {y : Fra} (hm : fcnt f.Body.length t = m) (h : (frs f t)[i]? = some y) : y = frag f t m i ∧ i < m := by
  unfold frs at h
  rw [hm, Int.toNat_natCast] at h
  have hi := (List.getElem?_eq_some_iff.1 h).1
  rw [List.length_map, List.length_range] at hi
  rw [List.getElem?_map, List.getElem?_range hi] at h
  exact ⟨(Option.some.inj h).symm, hi⟩
theorem frs_len {f : Fra} {t : Int} {n : Nat} (h : (frs f t).length = n) : fcnt f.Body.length t = n := by
  unfold frs at h
  rw [List.length_map, List.length_range] at h
  have := (fcnt_rng f.Body.length t).1
  omega
theorem frag_t {f : Fra} {t : Int} {m i : Nat} (hm : fcnt f.Body.length t = m) (hi : i < m) : ((frag f t m i).Body.length : Int) ≤ t := by
  have hp := fcnt_pos (b := f.Body.length) (t := t) (by rw [hm]; omega)
  show (((f.Body.drop _).take _).length : Int) ≤ t
  rw [List.length_take, List.length_drop]
  omega
theorem frag_32 {f : Fra} {t : Int} {m i : Nat} (hb : f.Body.length ≤ 32) : (frag f t m i).Body.length ≤ 32 := by
  show ((f.Body.drop _).take _).length ≤ 32
  rw [List.length_take, List.length_drop]
  omega
theorem lst_bd {f : Fra} {t : Int} {m i : Nat} (hb : f.Body.length ≤ 32) : (lst f t m i).length ≤ 1 ∧ ∀ y ∈ lst f t m i, y.Body.length ≤ 67108864 := by
  by_cases h : i = 0 ∨ i = m
  · rw [lst_out h]; exact ⟨by simp, fun y hy => by cases hy⟩
  · rw [lst_in h]
    refine ⟨by simp, fun y hy => ?_⟩
    obtain rfl : y = _ := by simpa using hy
    show (f.Body.take _).length ≤ _
    rw [List.length_take]; omega
theorem live_55 (f : Fra) : ([fr.start f 5] : List Rea).filter (live 55) = [fr.start f 5] := rfl
theorem live_56 (f : Fra) : ([fr.start f 5] : List Rea).filter (live 56) = [] := rfl
/-- An element of a slice of frames at its place. -/
def ElF (w : World) (b o : Nat) (y : Fra) (A : Option Addr) (n c : Nat) : Prop := w.rangeAt b o (fraS.C y A n c) ∧ b + 1 ≤ w.heap.size
section
variable {w w' : World} {b o n c : Nat} {y : Fra} {A : Option Addr}
theorem ElF.hi_ (h : ElF w b o y A n c) : b + 1 ≤ w.heap.size := h.2
theorem ElF.below (h : ElF w b o y A n c) (hb : Below w.heap.size w w') : ElF w' b o y A n c := ⟨rangeAt_same h.1 (hb.block b (by have := h.2; omega)), by have := h.2; have := hb.size; omega⟩
end
theorem atF {w : World} {lo hi n cap : Nat} {A : Option Addr} {ms : List Fra} {k : Nat} (h : Rq fraS w lo hi A n cap ms) (hk : k < n) : ∃ b off y A' n' c', A = some ⟨b, off, none⟩ ∧ ms[k]? = some y ∧ ElF w b (off + k * 9) y A' n' c' ∧ Rd .u8 w lo hi A' n' c' y.Body := by
  obtain ⟨b, off, x, e, hx, h1, h2, A', n', c', hr, hb⟩ := h.at_ hk
  exact ⟨b, off, x, A', n', c', e, hx, ⟨hr, by have := h.hi_; omega⟩, hb⟩
theorem one_rq {w : World} {b lo hi n c : Nat} {A : Option Addr} {x : Rea} (hX : Bx 38 w b #[.int .i64 x.From, .int .i64 x.Seq, .int .i64 x.Next, .slice A n c, .int .i64 x.Started]) (ho : Ow 5 .u8 w lo hi A n c x.Body) (hb : lo ≤ b) : Rq reaS w lo w.heap.size (some ⟨b, 0, none⟩) 1 1 [x] := by
  refine ⟨rfl, Nat.le_refl _, by unfold maxLen; omega, Nat.le_refl _, fun _ => ⟨b, 0, rfl, hb, hX.lt, fun i y hy => ?_⟩⟩
  have hi0 : i = 0 := by
    have := (List.getElem?_eq_some_iff.1 hy).1
    simp at this; omega
  subst hi0
  obtain rfl : x = y := by simpa using hy
  refine ⟨A, n, c, fun j v hj => ?_, ho.up.rd⟩
  rw [Nat.zero_mul, Nat.add_zero, Nat.zero_add, hX.cell]
  show (reaS.C x A n c).toArray[j]? = some v
  rw [List.getElem?_toArray]
  exact hj
set_option maxRecDepth 100000 in
set_option maxHeartbeats 16000000 in
theorem walk (a : Option Addr) (len cap : Nat) (zz : List Int) (w : World) (r0 : kit.IsRow .u8 w a len cap zz) :
    Calls Try.prog 3 #[.slice a len cap] w fun e w' => e = .returned (.bool true) ∧ Below w.heap.size w w' := by
  have HC := Lib.hid (draw.code_of_row r0)
  have hlen : (len : Int) ≤ 9223372036854775807 := by have := HC.out.1; omega
  have HLEN := Lib.hid hlen
  have R0 := Lib.hid r0
  clear r0
  by_cases hbig : 1048576 < (len : Int)
  · go_enter Try.func3, Try.ntmps3
    go_wp2
    go_ret
    exact ⟨rfl, Below.refl _ _⟩
  have HBG := Lib.hid hbig
  go_enter Try.func3, Try.ntmps3
  go_wp2_with (go_at_call 13; go_in)
  clear hbig
  go_wp2_with fail
  (with_reducible refine (sn.drawFd _ a len cap HC.out).mono ?_)
  rintro e w1 hp
  obtain ⟨f, Af, nf, cf, t, lo, hi, rfl, hn, ht, hlo, ho, hb⟩ := sn.fd_parts hp
  have R1 := Lib.hid ho.rd
  have HLF := Lib.hid (show f.Body.length = nf from ho.len)
  have HNF := Lib.hid hn
  have B1 := Lib.hid hb
  have HLO := Lib.hid hlo
  have HHI := Lib.hid ho.hi_
  have HCF := Lib.hid ho.rd.cap_
  have HT := Lib.hid ht
  clear hn ht hlo ho hb HC
  clear hp
  have HB32 := Lib.hid (show f.Body.length ≤ 32 by have h1 := HLF.out; have h2 := HNF.out; omega)
  go_upto_region 4 with fail
  obtain ⟨bf, hbb⟩ : ∃ b, w1.heap.size = b := ⟨_, rfl⟩
  generalize hW : w1.alloc (.cells #[.int .i64 f.Kind, .int .i64 f.From, .int .i64 f.To, .int .i64 f.Seq, .int .i64 f.Fragment, .bool f.More, .bool f.Retry, .int .i64 f.Duration, .slice Af nf cf] 25) = w2
  have LX := Lib.hid (show w.heap.size ≤ bf ∧ hi ≤ bf by have h1 := B1.out.size; have h2R := R1.out.hi_; have h3 := hbb; omega)
  have X2 := Lib.hid (show Bx 25 w2 bf #[.int .i64 f.Kind, .int .i64 f.From, .int .i64 f.To, .int .i64 f.Seq, .int .i64 f.Fragment, .bool f.More, .bool f.Retry, .int .i64 f.Duration, .slice Af nf cf] by rw [← hW, ← hbb]; exact Bx.made _ _ _)
  have hb : Below w1.heap.size w1 w2 := by rw [← hW]; exact below_box _ _
  (try rw [hbb])
  clear hW hbb
  have SS2 := Lib.hid hb.size
  have B2 := Lib.hid (B1.out.trans (hb.mono B1.out.size))
  have R2 := Lib.hid (R1.out.below hb)
  clear hb B1 R1
  have LWX := Lib.hid X2.out.lt
  have cX0 : w2.cell? ⟨bf, 0, none⟩ = some (.int .i64 f.Kind) := X2.out.cell 0
  have cX1 : w2.cell? ⟨bf, 1, none⟩ = some (.int .i64 f.From) := X2.out.cell 1
  have cX2 : w2.cell? ⟨bf, 2, none⟩ = some (.int .i64 f.To) := X2.out.cell 2
  have cX3 : w2.cell? ⟨bf, 3, none⟩ = some (.int .i64 f.Seq) := X2.out.cell 3
  have cX4 : w2.cell? ⟨bf, 4, none⟩ = some (.int .i64 f.Fragment) := X2.out.cell 4
  have cX5 : w2.cell? ⟨bf, 5, none⟩ = some (.bool f.More) := X2.out.cell 5
  have cX6 : w2.cell? ⟨bf, 6, none⟩ = some (.bool f.Retry) := X2.out.cell 6
  have cX7 : w2.cell? ⟨bf, 7, none⟩ = some (.int .i64 f.Duration) := X2.out.cell 7
  have cX8 : w2.cell? ⟨bf, 8, none⟩ = some (.slice Af nf cf) := X2.out.cell 8
  go_wp2_with fail
  clear cX0 cX1 cX2 cX3 cX4 cX5 cX6 cX7 cX8
  (with_reducible refine (implFs f t Af nf cf _ _ _ R2.out (by have := HNF.out; omega)).mono ?_)
  rintro e w3 hp
  obtain ⟨A1, n1, c1, es, rfl, he, ho, hb⟩ := fs_parts hp
  clear hp
  have SS3 := Lib.hid hb.size
  have B3 := Lib.hid (B2.out.trans (hb.mono B2.out.size))
  have X3 := Lib.hid (X2.out.below hb)
  have R3 := Lib.hid (R2.out.below hb)
  clear hb B2 X2 R2
  have F3 := Lib.hid (show Rq fraS w3 w2.heap.size w3.heap.size A1 n1 c1 (frs f t) from he ▸ ho.rq)
  have HM := Lib.hid (frs_len F3.out.len)
  have HMF := Lib.hid (show fcnt (nf : Int) t = (n1 : Int) by rw [← HLF.out]; exact HM.out)
  have hm16 : n1 ≤ 16 := by have := (fcnt_rng f.Body.length t).2; have := HM.out; omega
  clear ho he
  have hcf := HCF.out
  have cX8 : w3.cell? ⟨bf, 8, none⟩ = some (.slice Af nf cf) := X3.out.cell 8
  go_wp2_with fail
  clear cX8
  (with_reducible refine (implFc (nf : Int) t _).mono ?_)
  rintro e w4 hp
  obtain ⟨rfl, hb⟩ := n_parts HMF.out hp
  clear hp
  have SS4 := Lib.hid hb.size
  have B4 := Lib.hid (B3.out.trans (hb.mono B3.out.size))
  have X4 := Lib.hid (X3.out.below hb)
  have R4 := Lib.hid (R3.out.below hb)
  have F4 := Lib.hid (F3.out.below hb)
  clear hb  B3 X3 R3 F3
  have cX8 : w4.cell? ⟨bf, 8, none⟩ = some (.slice Af nf cf) := X4.out.cell 8
  go_wp2_with fail
  clear cX8
  (with_reducible refine (specFc (nf : Int) t _).mono ?_)
  rintro e w5 hp
  obtain ⟨rfl, hb⟩ := n_parts HMF.out hp
  clear hp
  have SS5 := Lib.hid hb.size
  have B5 := Lib.hid (B4.out.trans (hb.mono B4.out.size))
  have X5 := Lib.hid (X4.out.below hb)
  have R5 := Lib.hid (R4.out.below hb)
  have F5 := Lib.hid (F4.out.below hb)
  clear hb  B4 X4 R4 F4
  go_upto_region 8 with fail
  clear hcf
  obtain ⟨be, hbb⟩ : ∃ b, w5.heap.size = b := ⟨_, rfl⟩
  generalize hW : w5.alloc (.cells #[] 38) = w6
  have LV := Lib.hid (show w.heap.size ≤ be ∧ bf < be ∧ hi ≤ be ∧ w3.heap.size ≤ be by have h1 := B5.out.size; have h2X := X5.out.lt; have h2R := R5.out.hi_; have h2F := F5.out.hi_; have h3 := hbb; omega)
  have V6 := Lib.hid (show Bx 38 w6 be #[] by rw [← hW, ← hbb]; exact Bx.made _ _ _)
  have hb : Below w5.heap.size w5 w6 := by rw [← hW]; exact below_box _ _
  (try rw [hbb])
  clear hW hbb
  have SS6 := Lib.hid hb.size
  have B6 := Lib.hid (B5.out.trans (hb.mono B5.out.size))
  have X6 := Lib.hid (X5.out.below hb)
  have R6 := Lib.hid (R5.out.below hb)
  have F6 := Lib.hid (F5.out.below hb)
  clear hb B5 X5 R5 F5
  have LWV := Lib.hid V6.out.lt
  have L6 := Lib.hid (Rq.nil (S := reaS) w6 (some ⟨be, 0, none⟩) 0 be w6.heap.size (by unfold maxLen; omega) (Nat.le_refl _))
  have HBE := Lib.hid (show w.heap.size ≤ be by have h1 := LV.out; omega)
  clear V6
  have HL0 := Lib.hid (show Rq reaS w6 be w6.heap.size (some ⟨be, 0, none⟩) 0 0 (lst f t n1 0) by rw [lst_out (.inl rfl)]; exact L6.out)
  go_wp2_with fail
  go_loopw [6, 7] (fun v0 v1 wr => ∃ (k : Nat) (AL : Option Addr) (nL : Nat) (cL : Nat) (loL : Nat) (hiL : Nat), v0 = .slice AL nL cL ∧ v1 = .int .i64 ((k : Int)) ∧ (k ≤ n1) ∧ Below w.heap.size w wr ∧ Bx 25 wr bf #[.int .i64 f.Kind, .int .i64 f.From, .int .i64 f.To, .int .i64 f.Seq, .int .i64 f.Fragment, .bool f.More, .bool f.Retry, .int .i64 f.Duration, .slice Af nf cf] ∧ Rd .u8 wr (lo) (hi) Af nf cf f.Body ∧ Rq fraS wr w2.heap.size w3.heap.size A1 n1 c1 (frs f t) ∧ Rq reaS wr loL hiL AL nL cL (lst f t n1 k)) (fun _ i _ => n1 - (intOf i).toNat)
  case atStart => exact ⟨0, (some ⟨be, 0, none⟩), 0, 0, be, w6.heap.size, rfl, rfl, by omega, B6.out, X6.out, R6.out, F6.out, HL0.out⟩
  case round =>
    obtain ⟨k, AL, nL, cL, loL, hiL, rfl, rfl, ghk, gB7, gX7, gR7, gF7, gL7⟩ := hrel
    have B7 := Lib.hid gB7
    have X7 := Lib.hid gX7
    have R7 := Lib.hid gR7
    have F7 := Lib.hid gF7
    have L7 := Lib.hid gL7
    have hk := Lib.hid ghk
    clear gB7 gX7 gR7 gF7 gL7 ghk
    have LUX7 := Lib.hid X7.out.lt
    have SBR7 := Lib.hid B7.out.size
    have hk := hk.out
    have HLL := Lib.hid L7.out.len
    have HNL := Lib.hid (show nL ≤ 67108864 by have h1 := (lst_bd (f := f) (t := t) (m := n1) (i := k) HB32.out).1; have h2 := HLL.out; omega)
    by_cases hlt : k < n1
    · have hlt2 : (k : Int) < n1 := by omega
      obtain ⟨bq, offq, y, A', n', c', hA, hy, hel, hbd⟩ := atF F7.out hlt
      have HY := Lib.hid (frs_at HM.out hy).1
      have E7 := Lib.hid hel
      have D7 := Lib.hid hbd
      clear hy hel hbd
      subst hA
      have HDL := Lib.hid (show y.Body.length = n' from D7.out.len)
      have hn't := frag_t HM.out hlt
      have hn32 := frag_32 (f := f) (t := t) (m := n1) (i := k) HB32.out
      rw [← HY.out, HDL.out] at hn't hn32
      have HN3 := Lib.hid hn32
      obtain ⟨q, hq⟩ : ∃ q : Int, (n1 : Int) - 1 = q := ⟨_, rfl⟩
      have HQ := Lib.hid hq
      have hqw : IntKind.i64.wrap q = q := IntWalk.i64_in _ (by omega)
      have HQW := Lib.hid hqw
      have g1 : (y.Fragment != (k : Int)) = false := by rw [HY.out]; simp [frag]
      have g2 : decide ((k : Int) < q) = y.More := by rw [HY.out, ← hq]; rfl
      have g3 : decide (t < (n' : Int)) = false := decide_eq_false (by omega)
      have g4 : (y.Seq != f.Seq) = false := by rw [HY.out]; simp [frag]
      clear hn't hn32
      have hcd := D7.out.cap_
      go_upto_region 11 with fail
      have ce0 : wr.cell? ⟨bq, offq + k * 9, none⟩ = some (.int .i64 y.Kind) := E7.out.1 0 _ rfl
      have mce0 := fr.af_cell ce0
      clear ce0
      have ce1 : wr.cell? ⟨bq, offq + k * 9 + 1, none⟩ = some (.int .i64 y.From) := E7.out.1 1 _ rfl
      have mce1 := fr.af_cell ce1
      clear ce1
      have ce2 : wr.cell? ⟨bq, offq + k * 9 + 2, none⟩ = some (.int .i64 y.To) := E7.out.1 2 _ rfl
      have mce2 := fr.af_cell ce2
      clear ce2
      have ce3 : wr.cell? ⟨bq, offq + k * 9 + 3, none⟩ = some (.int .i64 y.Seq) := E7.out.1 3 _ rfl
      have mce3 := fr.af_cell ce3
      clear ce3
      have ce4 : wr.cell? ⟨bq, offq + k * 9 + 4, none⟩ = some (.int .i64 y.Fragment) := E7.out.1 4 _ rfl
      have mce4 := fr.af_cell ce4
      clear ce4
      have ce5 : wr.cell? ⟨bq, offq + k * 9 + 5, none⟩ = some (.bool y.More) := E7.out.1 5 _ rfl
      have mce5 := fr.af_cell ce5
      clear ce5
      have ce6 : wr.cell? ⟨bq, offq + k * 9 + 6, none⟩ = some (.bool y.Retry) := E7.out.1 6 _ rfl
      have mce6 := fr.af_cell ce6
      clear ce6
      have ce7 : wr.cell? ⟨bq, offq + k * 9 + 7, none⟩ = some (.int .i64 y.Duration) := E7.out.1 7 _ rfl
      have mce7 := fr.af_cell ce7
      clear ce7
      have ce8 : wr.cell? ⟨bq, offq + k * 9 + 8, none⟩ = some (.slice A' n' c') := E7.out.1 8 _ rfl
      have mce8 := fr.af_cell ce8
      clear ce8
      have mX3 : ∀ m : bx.Af wr, m.w.cell? ⟨bf, 3, none⟩ = some (.int .i64 f.Seq) := fun m => (bx.Af.cells X7.out m).cell 3
      refine bx.region_after (by kernel_rfl) (by kernel_rfl) ?_
      repeat (go_big_quiet_step (fail))
      refine wpQuiet_nil ?_
      intro _ hw'
      obtain ⟨nq9, hw''⟩ := hw'
      subst hw''
      clear mce0 mce1 mce2 mce3 mce4 mce5 mce6 mce7 mce8 mX3 g1 g2 g3 g4 hcd
      obtain ⟨w8, hw5⟩ : ∃ w5, nq9.w = w5 := ⟨_, rfl⟩
      have hb := nq9.below
      rw [hw5] at hb
      (try rw [hw5])
      clear hw5
      have SS8 := Lib.hid hb.size
      have B8 := Lib.hid (B7.out.trans (hb.mono B7.out.size))
      have X8 := Lib.hid (X7.out.below hb)
      have R8 := Lib.hid (R7.out.below hb)
      have F8 := Lib.hid (F7.out.below hb)
      have L8 := Lib.hid (L7.out.below hb)
      have E8 := Lib.hid (E7.out.below hb)
      have D8 := Lib.hid (D7.out.below hb)
      clear hb nq9 B7 X7 R7 F7 L7 E7 D7
      have hadd : add (lst f t n1 k) y 7 = ((lst f t n1 (k + 1)), bod f n1 k, decide (k + 1 = n1)) := by rw [HY.out]; exact step HM.out hlt HB32.out
      obtain ⟨d, hd⟩ : ∃ d, decide (k + 1 = n1) = d := ⟨_, rfl⟩
      have HD := Lib.hid hd
      rw [hd] at hadd
      have HADD := Lib.hid hadd
      clear hd hadd hqw hq
      have ce0 : w8.cell? ⟨bq, offq + k * 9, none⟩ = some (.int .i64 y.Kind) := E8.out.1 0 _ rfl
      have ce1 : w8.cell? ⟨bq, offq + k * 9 + 1, none⟩ = some (.int .i64 y.From) := E8.out.1 1 _ rfl
      have ce2 : w8.cell? ⟨bq, offq + k * 9 + 2, none⟩ = some (.int .i64 y.To) := E8.out.1 2 _ rfl
      have ce3 : w8.cell? ⟨bq, offq + k * 9 + 3, none⟩ = some (.int .i64 y.Seq) := E8.out.1 3 _ rfl
      have ce4 : w8.cell? ⟨bq, offq + k * 9 + 4, none⟩ = some (.int .i64 y.Fragment) := E8.out.1 4 _ rfl
      have ce5 : w8.cell? ⟨bq, offq + k * 9 + 5, none⟩ = some (.bool y.More) := E8.out.1 5 _ rfl
      have ce6 : w8.cell? ⟨bq, offq + k * 9 + 6, none⟩ = some (.bool y.Retry) := E8.out.1 6 _ rfl
      have ce7 : w8.cell? ⟨bq, offq + k * 9 + 7, none⟩ = some (.int .i64 y.Duration) := E8.out.1 7 _ rfl
      have ce8 : w8.cell? ⟨bq, offq + k * 9 + 8, none⟩ = some (.slice A' n' c') := E8.out.1 8 _ rfl
      go_wp2_with fail
      clear ce0 ce1 ce2 ce3 ce4 ce5 ce6 ce7 ce8
      (with_reducible refine (HADD.out ▸ implAf y 7 (lst f t n1 k) AL nL cL _ _ HNL.out (lst_bd HB32.out).2 _ L8.out A' n' c' _ _ D8.out (by have := HN3.out; omega)).mono ?_)
      rintro e w9 hp
      obtain ⟨A2, n2, c2, es9, A3, n3, c3, rfl, he9, ho9, hw9, -, hb⟩ := a_out hp
      clear hp
      have SS9 := Lib.hid hb.size
      have B9 := Lib.hid (B8.out.trans (hb.mono B8.out.size))
      have X9 := Lib.hid (X8.out.below hb)
      have R9 := Lib.hid (R8.out.below hb)
      have F9 := Lib.hid (F8.out.below hb)
      have L9 := Lib.hid (L8.out.below hb)
      have E9 := Lib.hid (E8.out.below hb)
      have D9 := Lib.hid (D8.out.below hb)
      clear hb B8 X8 R8 F8 L8 E8 D8
      have N9 := Lib.hid (show Rq reaS w9 w8.heap.size w9.heap.size A2 n2 c2 (lst f t n1 (k + 1)) from he9 ▸ ho9.rq)
      have W9 := Lib.hid hw9.rd
      clear ho9 hw9 he9
      have hq := HQ.out
      have hqw := HQW.out
      have gd1 : ((k : Int) == q) = d := by rw [← HD.out]; by_cases h : k + 1 = n1; rw [decide_eq_true h]; simp; omega; rw [decide_eq_false h]; simp; omega
      have gd2 : decide ((k : Int) = q) = d := by rw [← gd1]; rfl
      cases d with
      | true =>
        have HBOD := Lib.hid (show bod f n1 k = f.Body by unfold bod; rw [if_pos (of_decide_eq_true HD.out)])
        have W9 := Lib.hid (show Rd .u8 w9 w8.heap.size w9.heap.size A3 n3 c3 f.Body from HBOD.out ▸ W9.out)
        have cX8 : w9.cell? ⟨bf, 8, none⟩ = some (.slice Af nf cf) := X9.out.cell 8
        go_wp2_with fail
        clear cX8
        (with_reducible refine (harn.sameB_yes f.Body _ _ _ _ A3 Af n3 c3 nf cf _ W9.out R9.out).mono ?_)
        rintro e w10 hp
        obtain ⟨rfl, hb⟩ := b_parts (a := true) rfl hp
        clear hp
        have SS10 := Lib.hid hb.size
        have B10 := Lib.hid (B9.out.trans (hb.mono B9.out.size))
        have X10 := Lib.hid (X9.out.below hb)
        have R10 := Lib.hid (R9.out.below hb)
        have F10 := Lib.hid (F9.out.below hb)
        have L10 := Lib.hid (L9.out.below hb)
        have E10 := Lib.hid (E9.out.below hb)
        have D10 := Lib.hid (D9.out.below hb)
        have N10 := Lib.hid (N9.out.below hb)
        have W10 := Lib.hid (W9.out.below hb)
        clear hb  B9 X9 R9 F9 L9 E9 D9 N9 W9
        clear hq hqw gd1 gd2
        have HN2 := Lib.hid (show n2 ≤ 67108864 by have h1 := (lst_bd (f := f) (t := t) (m := n1) (i := k + 1) HB32.out).1; have h2 := N10.out.len; omega)
        by_cases h0 : 0 < k
        · have h02 : (0 : Int) < k := by omega
          have HAG := Lib.hid (show add (lst f t n1 (k + 1)) y 8 = ((lst f t n1 (k + 1)), [], false) by rw [HY.out]; exact again HM.out h0 hlt)
          have ce0 : w10.cell? ⟨bq, offq + k * 9, none⟩ = some (.int .i64 y.Kind) := E10.out.1 0 _ rfl
          have ce1 : w10.cell? ⟨bq, offq + k * 9 + 1, none⟩ = some (.int .i64 y.From) := E10.out.1 1 _ rfl
          have ce2 : w10.cell? ⟨bq, offq + k * 9 + 2, none⟩ = some (.int .i64 y.To) := E10.out.1 2 _ rfl
          have ce3 : w10.cell? ⟨bq, offq + k * 9 + 3, none⟩ = some (.int .i64 y.Seq) := E10.out.1 3 _ rfl
          have ce4 : w10.cell? ⟨bq, offq + k * 9 + 4, none⟩ = some (.int .i64 y.Fragment) := E10.out.1 4 _ rfl
          have ce5 : w10.cell? ⟨bq, offq + k * 9 + 5, none⟩ = some (.bool y.More) := E10.out.1 5 _ rfl
          have ce6 : w10.cell? ⟨bq, offq + k * 9 + 6, none⟩ = some (.bool y.Retry) := E10.out.1 6 _ rfl
          have ce7 : w10.cell? ⟨bq, offq + k * 9 + 7, none⟩ = some (.int .i64 y.Duration) := E10.out.1 7 _ rfl
          have ce8 : w10.cell? ⟨bq, offq + k * 9 + 8, none⟩ = some (.slice A' n' c') := E10.out.1 8 _ rfl
          go_wp2_with fail
          have M10 := N10
          clear N10
          clear W10
          clear ce0 ce1 ce2 ce3 ce4 ce5 ce6 ce7 ce8
          (with_reducible refine (HAG.out ▸ implAf y 8 (lst f t n1 (k + 1)) A2 n2 c2 _ _ HN2.out (lst_bd HB32.out).2 _ M10.out A' n' c' _ _ D10.out (by have := HN3.out; omega)).mono ?_)
          rintro e w11 hp
          obtain ⟨A4, n4, c4, es9, A5, n5, c5, rfl, he9, ho9, hw9, -, hb⟩ := a_out hp
          clear hp
          have SS11 := Lib.hid hb.size
          have B11 := Lib.hid (B10.out.trans (hb.mono B10.out.size))
          have X11 := Lib.hid (X10.out.below hb)
          have R11 := Lib.hid (R10.out.below hb)
          have F11 := Lib.hid (F10.out.below hb)
          have L11 := Lib.hid (L10.out.below hb)
          have E11 := Lib.hid (E10.out.below hb)
          have D11 := Lib.hid (D10.out.below hb)
          have M11 := Lib.hid (M10.out.below hb)
          clear hb B10 X10 R10 F10 L10 E10 D10 M10
          have N11 := Lib.hid (show Rq reaS w11 w10.heap.size w11.heap.size A4 n4 c4 (lst f t n1 (k + 1)) from he9 ▸ ho9.rq)
          have W11 := Lib.hid hw9.rd
          clear ho9 hw9 he9
          go_wp2_with fail
          (with_reducible refine (implEr (lst f t n1 (k + 1)) (lst f t n1 (k + 1)) A4 n4 c4 _ _ A2 n2 c2 _ _ _ N11.out M11.out).mono ?_)
          rintro e w12 hp
          obtain ⟨rfl, hb⟩ := b_parts (decide_eq_true (rfl : (lst f t n1 (k + 1)) = (lst f t n1 (k + 1)))) hp
          clear hp
          have SS12 := Lib.hid hb.size
          have B12 := Lib.hid (B11.out.trans (hb.mono B11.out.size))
          have X12 := Lib.hid (X11.out.below hb)
          have R12 := Lib.hid (R11.out.below hb)
          have F12 := Lib.hid (F11.out.below hb)
          have L12 := Lib.hid (L11.out.below hb)
          have E12 := Lib.hid (E11.out.below hb)
          have D12 := Lib.hid (D11.out.below hb)
          have M12 := Lib.hid (M11.out.below hb)
          have N12 := Lib.hid (N11.out.below hb)
          have W12 := Lib.hid (W11.out.below hb)
          clear hb  B11 X11 R11 F11 L11 E11 D11 M11 N11 W11
          clear N12
          have N12 := M12
          clear M12
          go_wp2_with fail
          have L12 := N12
          go_roundw
          case rel => exact ⟨k + 1, A2, n2, c2, w8.heap.size, w9.heap.size, rfl, by go_num, by omega, B12.out, X12.out, R12.out, F12.out, L12.out⟩
          case measure => simp [intOf]; omega
        · have h02 : ¬ (0 : Int) < k := by omega
          go_wp2_with fail
          have L10 := N10
          go_roundw
          case rel => exact ⟨k + 1, A2, n2, c2, w8.heap.size, w9.heap.size, rfl, by go_num, by omega, B10.out, X10.out, R10.out, F10.out, L10.out⟩
          case measure => simp [intOf]; omega
      | false =>
        go_upto_region 16 with fail
        clear hq hqw gd1 gd2
        have HN2 := Lib.hid (show n2 ≤ 67108864 by have h1 := (lst_bd (f := f) (t := t) (m := n1) (i := k + 1) HB32.out).1; have h2 := N9.out.len; omega)
        by_cases h0 : 0 < k
        · have h02 : (0 : Int) < k := by omega
          have HAG := Lib.hid (show add (lst f t n1 (k + 1)) y 8 = ((lst f t n1 (k + 1)), [], false) by rw [HY.out]; exact again HM.out h0 hlt)
          have ce0 : w9.cell? ⟨bq, offq + k * 9, none⟩ = some (.int .i64 y.Kind) := E9.out.1 0 _ rfl
          have ce1 : w9.cell? ⟨bq, offq + k * 9 + 1, none⟩ = some (.int .i64 y.From) := E9.out.1 1 _ rfl
          have ce2 : w9.cell? ⟨bq, offq + k * 9 + 2, none⟩ = some (.int .i64 y.To) := E9.out.1 2 _ rfl
          have ce3 : w9.cell? ⟨bq, offq + k * 9 + 3, none⟩ = some (.int .i64 y.Seq) := E9.out.1 3 _ rfl
          have ce4 : w9.cell? ⟨bq, offq + k * 9 + 4, none⟩ = some (.int .i64 y.Fragment) := E9.out.1 4 _ rfl
          have ce5 : w9.cell? ⟨bq, offq + k * 9 + 5, none⟩ = some (.bool y.More) := E9.out.1 5 _ rfl
          have ce6 : w9.cell? ⟨bq, offq + k * 9 + 6, none⟩ = some (.bool y.Retry) := E9.out.1 6 _ rfl
          have ce7 : w9.cell? ⟨bq, offq + k * 9 + 7, none⟩ = some (.int .i64 y.Duration) := E9.out.1 7 _ rfl
          have ce8 : w9.cell? ⟨bq, offq + k * 9 + 8, none⟩ = some (.slice A' n' c') := E9.out.1 8 _ rfl
          go_wp2_with fail
          have M9 := N9
          clear N9
          clear W9
          clear ce0 ce1 ce2 ce3 ce4 ce5 ce6 ce7 ce8
          (with_reducible refine (HAG.out ▸ implAf y 8 (lst f t n1 (k + 1)) A2 n2 c2 _ _ HN2.out (lst_bd HB32.out).2 _ M9.out A' n' c' _ _ D9.out (by have := HN3.out; omega)).mono ?_)
          rintro e w10 hp
          obtain ⟨A4, n4, c4, es9, A5, n5, c5, rfl, he9, ho9, hw9, -, hb⟩ := a_out hp
          clear hp
          have SS10 := Lib.hid hb.size
          have B10 := Lib.hid (B9.out.trans (hb.mono B9.out.size))
          have X10 := Lib.hid (X9.out.below hb)
          have R10 := Lib.hid (R9.out.below hb)
          have F10 := Lib.hid (F9.out.below hb)
          have L10 := Lib.hid (L9.out.below hb)
          have E10 := Lib.hid (E9.out.below hb)
          have D10 := Lib.hid (D9.out.below hb)
          have M10 := Lib.hid (M9.out.below hb)
          clear hb B9 X9 R9 F9 L9 E9 D9 M9
          have N10 := Lib.hid (show Rq reaS w10 w9.heap.size w10.heap.size A4 n4 c4 (lst f t n1 (k + 1)) from he9 ▸ ho9.rq)
          have W10 := Lib.hid hw9.rd
          clear ho9 hw9 he9
          go_wp2_with fail
          (with_reducible refine (implEr (lst f t n1 (k + 1)) (lst f t n1 (k + 1)) A4 n4 c4 _ _ A2 n2 c2 _ _ _ N10.out M10.out).mono ?_)
          rintro e w11 hp
          obtain ⟨rfl, hb⟩ := b_parts (decide_eq_true (rfl : (lst f t n1 (k + 1)) = (lst f t n1 (k + 1)))) hp
          clear hp
          have SS11 := Lib.hid hb.size
          have B11 := Lib.hid (B10.out.trans (hb.mono B10.out.size))
          have X11 := Lib.hid (X10.out.below hb)
          have R11 := Lib.hid (R10.out.below hb)
          have F11 := Lib.hid (F10.out.below hb)
          have L11 := Lib.hid (L10.out.below hb)
          have E11 := Lib.hid (E10.out.below hb)
          have D11 := Lib.hid (D10.out.below hb)
          have M11 := Lib.hid (M10.out.below hb)
          have N11 := Lib.hid (N10.out.below hb)
          have W11 := Lib.hid (W10.out.below hb)
          clear hb  B10 X10 R10 F10 L10 E10 D10 M10 N10 W10
          clear N11
          have N11 := M11
          clear M11
          go_wp2_with fail
          have L11 := N11
          go_roundw
          case rel => exact ⟨k + 1, A2, n2, c2, w8.heap.size, w9.heap.size, rfl, by go_num, by omega, B11.out, X11.out, R11.out, F11.out, L11.out⟩
          case measure => simp [intOf]; omega
        · have h02 : ¬ (0 : Int) < k := by omega
          go_wp2_with fail
          have L9 := N9
          go_roundw
          case rel => exact ⟨k + 1, A2, n2, c2, w8.heap.size, w9.heap.size, rfl, by go_num, by omega, B9.out, X9.out, R9.out, F9.out, L9.out⟩
          case measure => simp [intOf]; omega
    · have hlt2 : ¬ (k : Int) < n1 := by omega
      obtain rfl : n1 = k := by omega
      obtain rfl : nL = 0 := by have h1 := HLL.out; rw [lst_out (.inr rfl)] at h1; exact h1.symm
      obtain ⟨x, hx⟩ : ∃ x, fr.start f 5 = x := ⟨_, rfl⟩
      have HX := Lib.hid hx
      have HXB := Lib.hid (show x.Body.length ≤ 67108864 by rw [← hx]; have := HB32.out; show f.Body.length ≤ _; omega)
      have HF5 := Lib.hid (show [x].filter (live 55) = [x] by rw [← hx]; exact live_55 f)
      have HF6 := Lib.hid (show [x].filter (live 56) = [] by rw [← hx]; exact live_56 f)
      clear hx
      have cX0 : wr.cell? ⟨bf, 0, none⟩ = some (.int .i64 f.Kind) := X7.out.cell 0
      have cX1 : wr.cell? ⟨bf, 1, none⟩ = some (.int .i64 f.From) := X7.out.cell 1
      have cX2 : wr.cell? ⟨bf, 2, none⟩ = some (.int .i64 f.To) := X7.out.cell 2
      have cX3 : wr.cell? ⟨bf, 3, none⟩ = some (.int .i64 f.Seq) := X7.out.cell 3
      have cX4 : wr.cell? ⟨bf, 4, none⟩ = some (.int .i64 f.Fragment) := X7.out.cell 4
      have cX5 : wr.cell? ⟨bf, 5, none⟩ = some (.bool f.More) := X7.out.cell 5
      have cX6 : wr.cell? ⟨bf, 6, none⟩ = some (.bool f.Retry) := X7.out.cell 6
      have cX7 : wr.cell? ⟨bf, 7, none⟩ = some (.int .i64 f.Duration) := X7.out.cell 7
      have cX8 : wr.cell? ⟨bf, 8, none⟩ = some (.slice Af nf cf) := X7.out.cell 8
      go_wp2_with fail
      clear cX0 cX1 cX2 cX3 cX4 cX5 cX6 cX7 cX8
      (with_reducible refine (HX.out ▸ implSr f 5 Af nf cf _ _ _ R7.out (by have := HNF.out; omega)).mono ?_)
      rintro e w8 hp
      obtain ⟨AP0, np0, cp0, rfl, ho, hb⟩ := x_parts hp
      clear hp
      have SS8 := Lib.hid hb.size
      have B8 := Lib.hid (B7.out.trans (hb.mono B7.out.size))
      have X8 := Lib.hid (X7.out.below hb)
      have R8 := Lib.hid (R7.out.below hb)
      clear hb B7 X7 R7
      have P8 := Lib.hid ho
      clear ho
      obtain ⟨bu0, hbb⟩ : ∃ b, w8.heap.size = b := ⟨_, rfl⟩
      go_wp2_with fail
      generalize hW : w8.alloc (.cells #[.int .i64 x.From, .int .i64 x.Seq, .int .i64 x.Next, .slice AP0 np0 cp0, .int .i64 x.Started] 38) = w9
      have LU := Lib.hid (show w.heap.size ≤ bu0 ∧ bf < bu0 ∧ hi ≤ bu0 ∧ w8.heap.size ≤ bu0 by have h1 := B8.out.size; have h2X := X8.out.lt; have h2R := R8.out.hi_; have h2P := P8.out.hi_; have h3 := hbb; omega)
      have U9 := Lib.hid (show Bx 38 w9 bu0 #[.int .i64 x.From, .int .i64 x.Seq, .int .i64 x.Next, .slice AP0 np0 cp0, .int .i64 x.Started] by rw [← hW, ← hbb]; exact Bx.made _ _ _)
      have hb : Below w8.heap.size w8 w9 := by rw [← hW]; exact below_box _ _
      (try rw [hbb])
      clear hW hbb
      have SS9 := Lib.hid hb.size
      have B9 := Lib.hid (B8.out.trans (hb.mono B8.out.size))
      have X9 := Lib.hid (X8.out.below hb)
      have R9 := Lib.hid (R8.out.below hb)
      have P9 := Lib.hid (P8.out.below hb)
      clear hb B8 X8 R8 P8
      have LWU := Lib.hid U9.out.lt
      have Q9 := Lib.hid (one_rq U9.out P9.out (by have hlX := LX.out; have hlV := LV.out; have hlU := LU.out; have hs0 := HLO.out; have hs1 := HHI.out; have hs2 := SS2.out; have hs3 := LWX.out; have hs4 := SS3.out; have hs5 := SS4.out; have hs6 := SS5.out; have hs7 := SS6.out; have hs8 := LWV.out; have hs9 := HBE.out; have hs10 := LUX7.out; have hs11 := SBR7.out; have hs12 := SS8.out; have hs13 := SS9.out; have hs14 := LWU.out; first | omega | (simp <;> omega)))
      (with_reducible refine (HF5.out ▸ implXr 55 [x] _ 1 1 _ _ (by omega) (fun y hy => by obtain rfl : y = x := (by simpa using hy); exact HXB.out) _ Q9.out).mono ?_)
      rintro e w10 hp
      obtain ⟨AS0, ns0, cs0, es0, rfl, he, ho, hb⟩ := s_parts hp
      obtain rfl : 1 = ns0 := by have h1 := ho.len; have h2 := congrArg List.length he; rw [List.length_map] at h2; simp only [List.length_nil, List.length_cons] at h2; omega
      clear hp ho he Q9
      have SS10 := Lib.hid hb.size
      have B10 := Lib.hid (B9.out.trans (hb.mono B9.out.size))
      have X10 := Lib.hid (X9.out.below hb)
      have U10 := Lib.hid (U9.out.below hb)
      have R10 := Lib.hid (R9.out.below hb)
      have P10 := Lib.hid (P9.out.below hb)
      clear hb B9 X9 U9 R9 P9
      clear P10 U10
      have cX0 : w10.cell? ⟨bf, 0, none⟩ = some (.int .i64 f.Kind) := X10.out.cell 0
      have cX1 : w10.cell? ⟨bf, 1, none⟩ = some (.int .i64 f.From) := X10.out.cell 1
      have cX2 : w10.cell? ⟨bf, 2, none⟩ = some (.int .i64 f.To) := X10.out.cell 2
      have cX3 : w10.cell? ⟨bf, 3, none⟩ = some (.int .i64 f.Seq) := X10.out.cell 3
      have cX4 : w10.cell? ⟨bf, 4, none⟩ = some (.int .i64 f.Fragment) := X10.out.cell 4
      have cX5 : w10.cell? ⟨bf, 5, none⟩ = some (.bool f.More) := X10.out.cell 5
      have cX6 : w10.cell? ⟨bf, 6, none⟩ = some (.bool f.Retry) := X10.out.cell 6
      have cX7 : w10.cell? ⟨bf, 7, none⟩ = some (.int .i64 f.Duration) := X10.out.cell 7
      have cX8 : w10.cell? ⟨bf, 8, none⟩ = some (.slice Af nf cf) := X10.out.cell 8
      go_wp2_with fail
      clear cX0 cX1 cX2 cX3 cX4 cX5 cX6 cX7 cX8
      (with_reducible refine (HX.out ▸ implSr f 5 Af nf cf _ _ _ R10.out (by have := HNF.out; omega)).mono ?_)
      rintro e w11 hp
      obtain ⟨AP1, np1, cp1, rfl, ho, hb⟩ := x_parts hp
      clear hp
      have SS11 := Lib.hid hb.size
      have B11 := Lib.hid (B10.out.trans (hb.mono B10.out.size))
      have X11 := Lib.hid (X10.out.below hb)
      have R11 := Lib.hid (R10.out.below hb)
      clear hb B10 X10 R10
      have P11 := Lib.hid ho
      clear ho
      obtain ⟨bu1, hbb⟩ : ∃ b, w11.heap.size = b := ⟨_, rfl⟩
      go_wp2_with fail
      generalize hW : w11.alloc (.cells #[.int .i64 x.From, .int .i64 x.Seq, .int .i64 x.Next, .slice AP1 np1 cp1, .int .i64 x.Started] 38) = w12
      have LU := Lib.hid (show w.heap.size ≤ bu1 ∧ bf < bu1 ∧ hi ≤ bu1 ∧ w11.heap.size ≤ bu1 by have h1 := B11.out.size; have h2X := X11.out.lt; have h2R := R11.out.hi_; have h2P := P11.out.hi_; have h3 := hbb; omega)
      have U12 := Lib.hid (show Bx 38 w12 bu1 #[.int .i64 x.From, .int .i64 x.Seq, .int .i64 x.Next, .slice AP1 np1 cp1, .int .i64 x.Started] by rw [← hW, ← hbb]; exact Bx.made _ _ _)
      have hb : Below w11.heap.size w11 w12 := by rw [← hW]; exact below_box _ _
      (try rw [hbb])
      clear hW hbb
      have SS12 := Lib.hid hb.size
      have B12 := Lib.hid (B11.out.trans (hb.mono B11.out.size))
      have X12 := Lib.hid (X11.out.below hb)
      have R12 := Lib.hid (R11.out.below hb)
      have P12 := Lib.hid (P11.out.below hb)
      clear hb B11 X11 R11 P11
      have LWU := Lib.hid U12.out.lt
      have Q9 := Lib.hid (one_rq U12.out P12.out (by have hlX := LX.out; have hlV := LV.out; have hlU := LU.out; have hlU := LU.out; have hs0 := HLO.out; have hs1 := HHI.out; have hs2 := SS2.out; have hs3 := LWX.out; have hs4 := SS3.out; have hs5 := SS4.out; have hs6 := SS5.out; have hs7 := SS6.out; have hs8 := LWV.out; have hs9 := HBE.out; have hs10 := LUX7.out; have hs11 := SBR7.out; have hs12 := SS8.out; have hs13 := SS9.out; have hs14 := LWU.out; have hs15 := SS10.out; have hs16 := SS11.out; have hs17 := SS12.out; have hs18 := LWU.out; first | omega | (simp <;> omega)))
      (with_reducible refine (HF6.out ▸ implXr 56 [x] _ 1 1 _ _ (by omega) (fun y hy => by obtain rfl : y = x := (by simpa using hy); exact HXB.out) _ Q9.out).mono ?_)
      rintro e w13 hp
      obtain ⟨AS1, ns1, cs1, es1, rfl, he, ho, hb⟩ := s_parts hp
      obtain rfl : 0 = ns1 := by have h1 := ho.len; have h2 := congrArg List.length he; rw [List.length_map] at h2; simp only [List.length_nil, List.length_cons] at h2; omega
      clear hp ho he Q9
      have SS13 := Lib.hid hb.size
      have B13 := Lib.hid (B12.out.trans (hb.mono B12.out.size))
      have X13 := Lib.hid (X12.out.below hb)
      have U13 := Lib.hid (U12.out.below hb)
      have R13 := Lib.hid (R12.out.below hb)
      have P13 := Lib.hid (P12.out.below hb)
      clear hb B12 X12 U12 R12 P12
      clear P13 U13
      go_wp2_with fail
      go_ret
      exact ⟨rfl, B13.out⟩
end Go.Proofs.Ytbkdbdhbmabgcaa.fraLaw
end
