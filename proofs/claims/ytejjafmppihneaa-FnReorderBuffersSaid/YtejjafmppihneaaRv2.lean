/- A window moved on, and what is ready delivered, by the program. Condition: what was delivered is short. -/
import Derived.Test.YtejjafmppihneaaRv
import Derived.Test.YtejjafmppihneaaUr
import Derived.Test.YtejjafmppihneaaUw20
import Derived.Deep.Cut
namespace Go.Proofs.Ytejjafmppihneaa.ro
open Go.RowKit sl harn bx stw
set_option linter.unusedVariables false
open ux (Nf Rob RR OO row rowB rowNf nf rob)
open mrw (blkOf)
open bs (nsq sqd)
set_option linter.unusedSimpArgs false

theorem infoSB : (Try.prog.info? 22).map (fun i => (i.zero, i.size, i.bytes)) = some (some (.slice none 0 0), 1, 24) := by kernel_rfl
theorem szAr : (Try.prog.info? 80).map (·.size) = some 2 := by kernel_rfl
theorem sb_str {x : List Int} (h : Wf .u8 x) : sb (strOfNums x) = x := by
  unfold sb strOfNums
  rw [List.map_map]
  conv => rhs; rw [← List.map_id x]
  refine List.map_congr_left fun z hz => ?_
  show ((UInt8.ofNat z.toNat).toNat : Int) = z
  have h1 := bounds_u8 (h z hz)
  have h2 : (UInt8.ofNat z.toNat).toNat = z.toNat := by
    rw [UInt8.toNat_ofNat']
    omega
  rw [h2]
  omega
theorem conv_back {x : List Int} (hw : Wf .u8 x) (hl : x.length ≤ 1000) (w : World) : ∃ c w2, (convert 9 22 (.string (strOfNums x))).run Try.prog w = .ok (.slice (some ⟨w.heap.size, 0, none⟩) x.length c) w2 ∧ om.Om 5 .u8 w2 w.heap.size (w.heap.size + 1) (some ⟨w.heap.size, 0, none⟩) x.length c x ∧ Below w.heap.size w w2 := by
  have hs : (strOfNums x).size = x.length := strOfNums_size x
  have h1 := run_bytes_of_string (P := Try.prog) w 9 22 5 (strOfNums x) Try.underlying9 Try.underlying22 Try.underlying5
  have hge := grownCap_ge w (strOfNums x).size 0 5
  have hle : grownCap w (strOfNums x).size 0 5 ≤ maxLen := grownCap_le_maxLen w (strOfNums x).size 0 5 (by rw [hs]; unfold maxLen; omega)
  have hm : (strOfNums x).size ≤ (bytesRow (strOfNums x) (grownCap w (strOfNums x).size 0 5)).size := by
    have e : (strOfNums x).data.size = (strOfNums x).size := rfl
    simp only [bytesRow, Array.size_append, Array.size_map, e]
    omega
  have h2 := om.om_bytes (strOfNums x) w 5 _ _ hge hle hm
  rw [sb_str hw] at h2
  rw [hs] at h1 h2
  exact ⟨_, _, h1, h2, ⟨rfl, rfl, rfl, by show w.heap.size ≤ (w.heap.push _).size; simp, fun k hk => by show (w.heap.push _)[k]? = _; rw [Array.getElem?_push, if_neg (by omega)]⟩⟩
/-- What []byte(s) of a body gives, in a world behind W. -/
def bodyv (W : World) (x : List Int) : reg.Stay reg.Bel :=
  ⟨fun v w => ∃ N c, v = .slice (some ⟨N, 0, none⟩) x.length c ∧ W.heap.size ≤ N ∧ om.Om 5 .u8 w N (N + 1) (some ⟨N, 0, none⟩) x.length c x, fun v w w' ⟨N, c, e, h1, h2⟩ hb => ⟨N, c, e, h1, h2.below hb⟩⟩
/-- A new block that holds it alone. -/
def onev (W : World) (x : List Int) : reg.Stay reg.Bel :=
  ⟨fun v w => ∃ q N c, v = .slice (some ⟨q, 0, none⟩) 1 1 ∧ W.heap.size ≤ q ∧ Bx 22 w q #[.slice (some ⟨N, 0, none⟩) x.length c] ∧ W.heap.size ≤ N ∧ om.Om 5 .u8 w N (N + 1) (some ⟨N, 0, none⟩) x.length c x, fun v w w' ⟨q, N, c, e, h0, hX, h1, h2⟩ hb => ⟨q, N, c, e, h0, hX.below hb, h1, h2.below hb⟩⟩
/-- The state of a window in memory: its block, the blocks of what is delivered. -/
def Rv (w : World) (b : Nat) (fp : List Nat) (t : St) : Prop := ∃ A n c, Bx 84 w b (vcs t (.slice A n c)) ∧ OO rowB w 0 w.heap.size fp (.slice A n c) t.out ∧ b ∉ fp ∧ t.ws.length = 16 ∧ (0 ≤ t.s ∧ t.s ≤ 4095) ∧ ∀ x, some x ∈ t.ws → Wf .u8 x ∧ x.length ≤ 100
def AvPost (b : Nat) (fp : List Nat) (t' : St) (w : World) (e : Ending) (w' : World) : Prop := e = .returned (.tuple #[]) ∧ ∃ fp', Rv w' b fp' t' ∧ (∀ q, q ∈ fp' → q ∈ fp ∨ w.heap.size ≤ q) ∧ KS (b :: fp) w w'
theorem av_parts {b : Nat} {fp : List Nat} {t' : St} {w : World} {e : Ending} {w' : World} (h : AvPost b fp t' w e w') : e = .returned (.tuple #[]) ∧ ∃ fp', Rv w' b fp' t' ∧ (∀ q, q ∈ fp' → q ∈ fp ∨ w.heap.size ≤ q) ∧ KS (b :: fp) w w' := h
theorem ks_on {b : Nat} {fp fp1 : List Nat} {w w1 w2 : World} (h1 : KS (b :: fp) w w1) (hf : ∀ q, q ∈ fp1 → q ∈ fp ∨ w.heap.size ≤ q) (h2 : KS (b :: fp1) w1 w2) : KS (b :: fp) w w2 :=
  ⟨h2.os.trans h1.os, h2.tape.trans h1.tape, h2.output.trans h1.output, Nat.le_trans h1.size h2.size, fun k hk hn => (h2.block k (Nat.lt_of_lt_of_le hk h1.size) (fun hm => by
    rcases List.mem_cons.1 hm with e | hm
    · exact hn (by rw [e]; exact List.mem_cons_self)
    · rcases hf k hm with h3 | h3
      · exact hn (List.mem_cons_of_mem _ h3)
      · omega)).trans (h1.block k hk hn)⟩
theorem new_on {fp fp1 fp2 : List Nat} {m m1 : Nat} (h1 : ∀ q, q ∈ fp1 → q ∈ fp ∨ m ≤ q) (hm : m ≤ m1) (h2 : ∀ q, q ∈ fp2 → q ∈ fp1 ∨ m1 ≤ q) : ∀ q, q ∈ fp2 → q ∈ fp ∨ m ≤ q := fun q hq => by
  rcases h2 q hq with h | h
  · exact h1 q h
  · exact .inr (by omega)
theorem ks_grown {w w' : World} {b : Nat} {fp fp0 : List Nat} {A : Option Addr} (hg : w.grownBy w' (blkOf A)) (hA : ∀ q, blkOf A = some q → q ∈ fp) : KS (b :: fp) w w' :=
  ⟨hg.os, hg.tape, hg.output, hg.size, fun k hk hn => hg.block k hk (fun e => hn (List.mem_cons_of_mem _ (hA k e.symm)))⟩
theorem ks_bel2 {w w' : World} (F : List Nat) (hb : Below w.heap.size w w') : KS F w w' := ux.ks_below hb F
theorem Rv.below {w w' : World} {b : Nat} {fp : List Nat} {t : St} (h : Rv w b fp t) (hb : Below w.heap.size w w') : Rv w' b fp t := by
  obtain ⟨A, n, c, h1, h2, h3⟩ := h
  exact ⟨A, n, c, h1.below hb, (h2.below hb).wide (Nat.le_refl _), h3⟩
theorem vcs_put {s : Int} {ws : Win} {out out2 : List (List Int)} {hd hd2 : Value} (h : ws.length = 16) : (vcs ⟨s, ws, out⟩ hd).setIfInBounds 33 hd2 = vcs ⟨s, ws, out2⟩ hd2 := by
  simp only [vcs, List.setIfInBounds_toArray]
  congr 1
  rw [List.set_cons_succ, List.set_append_right _ _ (by rw [wcs_len]; omega), wcs_len, h]; rfl
theorem bods_snoc_none {ws : Win} {j : Nat} (h : ws[j]? = some none) : bods (ws.take (j + 1)) = bods (ws.take j) := by rw [List.take_add_one, h, bods_append]; simp [bods]
theorem bods_snoc_some {ws : Win} {j : Nat} {x : List Int} (h : ws[j]? = some (some x)) : bods (ws.take (j + 1)) = bods (ws.take j) ++ [x] := by rw [List.take_add_one, h, bods_append]; simp [bods]
theorem wcs_drop : ∀ (ws : Win) (k : Nat), (wcs ws).drop (k * 2) = wcs (ws.drop k)
  | _, 0 => by simp
  | [], k + 1 => by simp [wcs]
  | a :: r, k + 1 => by
    have e : (k + 1) * 2 = k * 2 + 1 + 1 := by omega
    rw [e]
    simp only [wcs, List.drop_succ_cons]
    exact wcs_drop r k
theorem wcs_take : ∀ (ws : Win) (k : Nat), (wcs ws).take (k * 2) = wcs (ws.take k)
  | _, 0 => by simp [wcs]
  | [], k + 1 => by simp [wcs]
  | a :: r, k + 1 => by
    have e : (k + 1) * 2 = k * 2 + 1 + 1 := by omega
    rw [e]
    simp only [wcs, List.take_succ_cons]
    rw [wcs_take r k]
theorem zero_cells : ∀ (n : Nat), (Builtin.zeroCells #[.bool false, .string ByteArray.empty] n).toList = wcs (List.replicate n none) := by
  intro n
  apply List.ext_getElem
  · rw [wcs_len]; simp [Builtin.zeroCells]; omega
  · intro i h1 h2
    have h3 : i < n * 2 := by simp [Builtin.zeroCells] at h1; omega
    have h4 : (List.replicate n (none : Option (List Int)))[i / 2]? = some none := by rw [List.getElem?_replicate, if_pos (by omega)]
    have h5 := wcs_at h4
    have h6 : (wcs (List.replicate n none))[i] = if i % 2 = 0 then .bool false else .string (strOfNums []) := by
      apply Option.some.inj
      rw [← List.getElem?_eq_getElem h2]
      split
      · rename_i he
        rw [show i / 2 * 2 = i by omega] at h5; exact h5.1
      · rename_i he
        rw [show i / 2 * 2 + 1 = i by omega] at h5; exact h5.2
    rw [h6]
    rcases Nat.mod_two_eq_zero_or_one i with he | he
    · rw [if_pos he]; simp [Builtin.zeroCells, he]
    · rw [if_neg (by omega)]; simp [Builtin.zeroCells, he]; rfl
theorem slice_tl (b : Nat) {p : Nat} (hp : p ≤ 16) : ∃ ad : Addr, (p < 16 → ad = ⟨b, 1 + p * 2, none⟩) ∧ ∀ W, (Instr.sliceAt 82 (.pointer (some ⟨b, 1, none⟩)) (some (.int .i64 (p : Int))) none none).run Try.prog W = .ok (.slice (some ad) (16 - p) (16 - p)) W := by
  have h1 : (p : Int) ≤ 16 := by omega
  cases hq : Try.prog.info? 80 with
  | none => have := szAr; simp [hq] at this
  | some i =>
    have hi : i.size = 2 := by have := szAr; simpa [hq] using this
    refine ⟨if 16 = p then ⟨b, 1, none⟩ else (⟨b, 1, none⟩ : Addr).add (p * 2), fun h => ?_, fun W => ?_⟩
    · rw [if_neg (by omega)]; simp [Addr.add]
    · simp [Instr.sliceAt, run_underlying Try.underlying82, Instr.sureAddr, Instr.sliceBounds, Instr.sliceBound, sizeOf, typeInfo, hq, hi, go_sem, hp, h1]
theorem slice_all (b : Nat) (W : World) : (Instr.sliceAt 82 (.pointer (some ⟨b, 1, none⟩)) none none none).run Try.prog W = .ok (.slice (some ⟨b, 1, none⟩) 16 16) W := by
  cases hq : Try.prog.info? 80 with
  | none => have := szAr; simp [hq] at this
  | some i =>
    have hi : i.size = 2 := by have := szAr; simpa [hq] using this
    simp [Instr.sliceAt, run_underlying Try.underlying82, Instr.sureAddr, Instr.sliceBounds, Instr.sliceBound, sizeOf, typeInfo, hq, hi, go_sem, Addr.add]
/-- Behind the copy. -/
theorem vcs_copied {s : Int} {ws : Win} {out : List (List Int)} {hd : Value} (h : ws.length = 16) {p : Nat} (hp : p ≤ 16) {cur : Array Value} (hc : cur = vcs ⟨s, ws, out⟩ hd) : (cur.toList.take 1 ++ wcs (ws.drop p) ++ cur.toList.drop (1 + (wcs (ws.drop p)).length)).toArray = vcs ⟨s, ws.drop p ++ ws.drop (16 - p), out⟩ hd := by
  subst hc
  have e : (wcs (ws.drop p)).length = (16 - p) * 2 := by rw [wcs_len, List.length_drop, h]; omega
  rw [e]
  simp only [vcs]
  congr 1
  rw [Nat.add_comm 1, List.drop_succ_cons, List.drop_append, wcs_drop, wcs_append, wcs_len, h, show (16 - p) * 2 - 2 * 16 = 0 by omega]
  simp
/-- Behind the clearing. -/
theorem vcs_cleared {s : Int} {ws : Win} {out : List (List Int)} {hd : Value} (h : ws.length = 16) {p : Nat} (hp : p ≤ 16) {cur : Array Value} (hc : cur = vcs ⟨s, ws.drop p ++ ws.drop (16 - p), out⟩ hd) : (cur.toList.take (1 + (16 - p) * 2) ++ wcs (List.replicate p none) ++ cur.toList.drop (1 + (16 - p) * 2 + (wcs (List.replicate p none)).length)).toArray = vcs ⟨s, ws.drop p ++ List.replicate p none, out⟩ hd := by
  subst hc
  have e : (wcs (List.replicate p none)).length = p * 2 := by rw [wcs_len, List.length_replicate]; omega
  have e2 : (ws.drop p).length = 16 - p := by rw [List.length_drop, h]
  have e3 : (wcs (ws.drop p ++ ws.drop (16 - p))).length = 32 := by rw [wcs_len, List.length_append, e2, List.length_drop, h]; omega
  have d1 : (wcs (ws.drop p ++ ws.drop (16 - p))).drop 32 = [] := List.drop_eq_nil_of_le (by rw [e3]; exact Nat.le_refl _)
  have d2 : (ws.drop p ++ ws.drop (16 - p)).take (16 - p) = ws.drop p := by rw [List.take_append_of_le_length (by omega), List.take_of_length_le (by omega)]
  rw [e]
  simp only [vcs]
  congr 1
  rw [show 1 + (16 - p) * 2 + p * 2 = 32 + 1 by omega, Nat.add_comm 1, List.take_succ_cons, List.drop_succ_cons, List.take_append_of_le_length (by rw [e3]; omega), wcs_take, d2, List.drop_append, d1, e3, wcs_append]
  simp
theorem adv_min {s : Int} {ws : Win} {out : List (List Int)} (h : ws.length = 16) {n p : Nat} (hp : min n 16 = p) : advS ⟨s, ws, out⟩ n = ⟨(s + (n : Int)) % 4096, ws.drop p ++ List.replicate p none, out ++ bods (ws.take p)⟩ := by
  simp only [advS, h, hp]
  by_cases hn : n ≤ 16
  · rw [show p = n by omega]
  · rw [show p = 16 by omega, List.drop_eq_nil_of_le (by omega), List.drop_eq_nil_of_le (by omega), List.take_of_length_le (by omega), List.take_of_length_le (by omega)]
theorem src_cells {w : World} {b : Nat} {s : Int} {ws : Win} {out : List (List Int)} {hd : Value} (hX : Bx 84 w b (vcs ⟨s, ws, out⟩ hd)) (h : ws.length = 16) {p : Nat} {ad : Addr} (had : p < 16 → ad = ⟨b, 1 + p * 2, none⟩) : ∀ j v, (wcs (ws.drop p))[j]? = some v → w.cell? (ad.add j) = some v := by
  intro j v hv
  have hj := (List.getElem?_eq_some_iff.1 hv).1
  rw [wcs_len, List.length_drop, h] at hj
  rw [had (by omega), Addr.add_mid, hX.cell, Nat.add_assoc]
  refine vcs_win ?_
  rw [← wcs_drop, List.getElem?_drop] at hv
  exact hv
theorem zeroAr (w : World) : (zeroValue 80).run Try.prog w = .ok (.agg #[.bool false, .string ByteArray.empty]) w := by
  have h : (Try.prog.info? 80).map (·.zero) = some (some (.agg #[.bool false, .string ByteArray.empty])) := by kernel_rfl
  cases hq : Try.prog.info? 80 with
  | none => simp [hq] at h
  | some i =>
    have hi : i.zero = some (.agg #[.bool false, .string ByteArray.empty]) := by simpa [hq] using h
    simp [zeroValue, typeInfo, hq, hi]
theorem goInt_nat (n : Nat) : goInt n = .int .i64 (n : Int) := rfl
theorem slice_hd (b : Nat) {p : Nat} (hp : p ≤ 16) (W : World) : (Instr.sliceAt 82 (.pointer (some ⟨b, 1, none⟩)) none (some (.int .i64 (p : Int))) none).run Try.prog W = .ok (.slice (some ⟨b, 1, none⟩) p 16) W := by
  have h1 : (p : Int) ≤ 16 := by omega
  cases hq : Try.prog.info? 80 with
  | none => have := szAr; simp [hq] at this
  | some i =>
    have hi : i.size = 2 := by have := szAr; simpa [hq] using this
    simp [Instr.sliceAt, run_underlying Try.underlying82, Instr.sureAddr, Instr.sliceBounds, Instr.sliceBound, sizeOf, typeInfo, hq, hi, go_sem, Addr.add, hp, h1]
set_option maxRecDepth 100000 in
set_option maxHeartbeats 4000000 in
theorem advance (t : St) (n b : Nat) (fp : List Nat) (w : World) (h : Rv w b fp t) (hn : n ≤ 4095) (hq : t.out.length ≤ 1000000) :
    Calls Try.prog 74 #[.pointer (some ⟨b, 0, none⟩), .int .i64 (n : Int)] w (AvPost b fp (advS t n) w) := by
  obtain ⟨s, ws, out⟩ := t
  obtain ⟨A, m, c, hX, ho, hbf, h16, hs, hw⟩ := h
  simp only at hX ho h16 hs hw hq
  obtain ⟨p, hp⟩ : ∃ p, min n 16 = p := ⟨_, rfl⟩
  have hp16 : p ≤ 16 ∧ p ≤ n := by omega
  have HX := Lib.hid hX
  have HO := Lib.hid ho
  have HBF := Lib.hid hbf
  have HL := Lib.hid h16
  have HS := Lib.hid hs
  have HW := Lib.hid hw
  have HQ := Lib.hid hq
  have HN := Lib.hid hn
  have HP := Lib.hid hp
  have HMN := Lib.hid (show (p : Int) = if (16 : Int) < (n : Int) then 16 else (n : Int) by split <;> omega)
  have hsl : ∀ W, (Instr.sliceAt 82 (.pointer (some ⟨b, 1, none⟩)) none (some (.int .i64 (p : Int))) none).run Try.prog W = .ok (.slice (some ⟨b, 1, none⟩) p 16) W := fun W => slice_hd b hp16.1 W
  clear hX ho hbf h16 hs hw hq hn hp
  obtain ⟨hp1, hp2⟩ := hp16
  go_enter Try.func74, Try.ntmps74
  go_wp2_with fail
  (with_reducible refine (rng.implMin (n : Int) 16 (p : Int) HMN.out _).mono ?_)
  rintro e w0 ⟨rfl, hb0⟩
  have HR0 := Lib.hid (Rv.below ⟨A, m, c, HX.out, HO.out, HBF.out, HL.out, HS.out, HW.out⟩ hb0)
  have HK0 := Lib.hid (ks_bel2 (b :: fp) hb0)
  have HSZ := Lib.hid hb0.size
  clear hb0
  go_wp2_with fail
  clear hsl
  go_loopw [16] (fun i wr => ∃ (j : Nat) (f : List Nat), i = .int .i64 j ∧ j ≤ p ∧ Rv wr b f ⟨s, ws, out ++ bods (ws.take j)⟩ ∧ (∀ q, q ∈ f → q ∈ fp ∨ w.heap.size ≤ q) ∧ KS (b :: fp) w wr) (fun i _ => p - (intOf i).toNat)
  case atStart => exact ⟨0, fp, rfl, by omega, by simpa [bods] using HR0.out, fun q hq => .inl hq, HK0.out⟩
  case round =>
    obtain ⟨j, f, rfl, hj, hr, hf, hk⟩ := hrel
    have HR := Lib.hid hr
    have HF := Lib.hid hf
    have HK := Lib.hid hk
    clear hr hf hk
    by_cases hlt : j < p
    · have hlt2 : (j : Int) < p := by omega
      obtain ⟨A1, m1, c1, hX1, ho1, hbf1, _⟩ := HR.out
      simp only at hX1 ho1
      have HX1 := Lib.hid hX1
      have HO1 := Lib.hid ho1
      have HBF1 := Lib.hid hbf1
      obtain ⟨o, ho⟩ : ∃ o, ws[j]? = some o := ⟨_, List.getElem?_eq_getElem (by have := HL.out; omega)⟩
      have HE := Lib.hid ho
      have c0 : wr.cell? ⟨b, 1 + j * 2, none⟩ = some (.bool o.isSome) := by rw [hX1.cell]; exact vcs_win (wcs_at ho).1
      have c1_ : wr.cell? ⟨b, 1 + j * 2 + 1, none⟩ = some (.string (strOfNums (o.getD []))) := by rw [hX1.cell, Nat.add_assoc]; exact vcs_win (wcs_at ho).2
      clear hX1 ho1 hbf1 ho
      cases o with
      | none =>
        go_wp2_with fail
        have hbW : Below wr.heap.size wr (wr.alloc (.cells #[.bool false, .string (strOfNums [])] 80)) := below_box _ _
        go_roundw
        case rel => exact ⟨j + 1, f, by go_num, by omega, by have hh := HR.out.below hbW; rw [bods_snoc_none HE.out]; exact hh, HF.out, HK.out.trans (ks_bel2 _ hbW)⟩
        case measure => simp [intOf]; omega
      | some x =>
        go_wp2_with fail
        have HWX := Lib.hid (HW.out x (List.mem_of_getElem? HE.out))
        have hX6 : Bx 80 (wr.alloc (.cells #[.bool true, .string (strOfNums x)] 80)) wr.heap.size #[.bool true, .string (strOfNums x)] := Bx.made _ _ _
        have hbW : Below wr.heap.size wr (wr.alloc (.cells #[.bool true, .string (strOfNums x)] 80)) := below_box _ _
        have HM := Lib.hid (show m1 ≤ 1000016 by obtain ⟨_, _, _, e9, h9, _⟩ := ux.row_open (show RR (row 22 ux.bytes) wr 0 wr.heap.size (.slice A1 m1 c1) _ from HO1.out.rd); injection e9 with _ e9 _; rw [e9, ← h9, List.length_append]; have h8 := bods_len (ws.take j); rw [List.length_take] at h8; have h7 := HQ.out; omega)
        clear c0 c1_
        obtain ⟨g6, hg6⟩ : ∃ g, wr.heap.size = g := ⟨_, rfl⟩
        obtain ⟨W, hW⟩ : ∃ W, wr.alloc (.cells #[.bool true, .string (strOfNums x)] 80) = W := ⟨_, rfl⟩
        rw [hW] at hX6 hbW ⊢
        rw [hg6] at hX6 ⊢
        have HX6 := Lib.hid hX6
        have HBW := Lib.hid hbW
        have HG6 := Lib.hid hg6
        have HX2 := Lib.hid (HX1.out.below hbW)
        have HO2 := Lib.hid (HO1.out.below hbW)
        have HLB := Lib.hid HX1.out.lt
        clear hX6 hbW hW hg6
        obtain ⟨i0, hi0, hz0, hz1, hz2⟩ := info_parts infoSB
        have HZ := Lib.hid (And.intro hi0 (And.intro hz0 (And.intro hz1 hz2)))
        clear hi0 hz0 hz1 hz2
        have HG := Lib.hid (show g6 ∉ f from fun hm => by have h8 := (HO2.out.2.1 g6 hm).2; have h9 := HG6.out; omega)
        refine rgp.region_tailE (rgp.EA 9 reg.Bel (ux.ApU ux.bytes 22 wr.heap.size f A1 m1 c1 (out ++ bods (ws.take j)))) 10 59 [some [], some [], some [(1, 23)], some [(2, 24)], some [(3, 25)], some [], some [(5, 27)], some [(6, 28)], some [(7, 29)], some [(4, 26), (8, 30)], none, none, none] [(0, 22), (1, 23), (2, 24), (3, 25), (4, 26), (5, 27), (6, 28), (7, 29), (8, 30), (9, 31)]
          (ux.CU ux.bytes 22 wr.heap.size f A1 m1 c1 (out ++ bods (ws.take j)) W)
          (rgp.RA 9 [rgp.is (.pointer (some ⟨b, 0, none⟩)), rgp.is (.pointer (some ⟨b, 0, none⟩)), rgp.is (.pointer (some ⟨b, 0, none⟩)), rgp.is (.pointer (some ⟨b, 33, none⟩)), rgp.is (.slice A1 m1 c1), rgp.is (.pointer (some ⟨g6, 1, none⟩)), rgp.is (.string (strOfNums x)), ux.elU ux.bytes 22 wr.heap.size f A1 m1 c1 (out ++ bods (ws.take j)) ux.bytes (x), ux.oneU ux.bytes 22 wr.heap.size f A1 m1 c1 (out ++ bods (ws.take j)) (x), rgp.val fun _ => True] (ux.newU ux.bytes 22 wr.heap.size f m1 (out ++ bods (ws.take j)) (x)))
          (by kernel_rfl) rfl (by kernel_rfl) (by kernel_rfl) rfl
          (ux.cu_keep ux.bytes 22 wr.heap.size f A1 m1 c1 (out ++ bods (ws.take j)) 9 W)
          (rgp.ra_keep (ux.newU_keep ux.bytes 22 wr.heap.size f m1 (out ++ bods (ws.take j)) (x))) (ux.cu_start ux.bytes 22 wr.heap.size f A1 m1 c1 (out ++ bods (ws.take j)) HO2.out) (by kernel_rfl) ⟨?_, ?_, ?_, ?_, ?_, ?_, ?_, ?_, ?_, ?_, trivial⟩ ?_
        · refine fun w8 hc  K hK => ?_
          (try simp only [Act.put, List.setIfInBounds_toArray, List.set_cons_zero, List.set_cons_succ])
          go_simp
          exact hK (.pointer (some ⟨b, 0, none⟩)) _ (rgp.ra1 rfl rfl) (rgp.ea1 rfl (Below.refl _ _))
        · refine fun w8 hc  K hK => ?_
          (try simp only [Act.put, List.setIfInBounds_toArray, List.set_cons_zero, List.set_cons_succ])
          go_simp
          exact hK (.pointer (some ⟨b, 0, none⟩)) _ (rgp.ra1 rfl rfl) (rgp.ea1 rfl (Below.refl _ _))
        · refine fun w8 hc v1 h1 K hK => ?_
          have h1 := rgp.ra1_out rfl h1
          obtain rfl : v1 = .pointer (some ⟨b, 0, none⟩) := h1
          (try simp only [Act.put, List.setIfInBounds_toArray, List.set_cons_zero, List.set_cons_succ])
          go_simp
          exact hK (.pointer (some ⟨b, 0, none⟩)) _ (rgp.ra1 rfl rfl) (rgp.ea1 rfl (Below.refl _ _))
        · refine fun w8 hc v2 h2 K hK => ?_
          have h2 := rgp.ra1_out rfl h2
          obtain rfl : v2 = .pointer (some ⟨b, 0, none⟩) := h2
          (try simp only [Act.put, List.setIfInBounds_toArray, List.set_cons_zero, List.set_cons_succ])
          go_simp
          exact hK (.pointer (some ⟨b, 33, none⟩)) _ (rgp.ra1 rfl rfl) (rgp.ea1 rfl (Below.refl _ _))
        · refine fun w8 hc v3 h3 K hK => ?_
          have h3 := rgp.ra1_out rfl h3
          obtain rfl : v3 = .pointer (some ⟨b, 33, none⟩) := h3
          (try simp only [Act.put, List.setIfInBounds_toArray, List.set_cons_zero, List.set_cons_succ])
          have c0 : w8.cell? ⟨b, 33, none⟩ = some (.slice A1 m1 c1) := by rw [(ux.bx_ks HX2.out hc.1 HBF1.out).cell]; exact vcs_hd HL.out
          go_simp
          exact hK (.slice A1 m1 c1) _ (rgp.ra1 rfl rfl) (rgp.ea1 rfl (Below.refl _ _))
        · refine fun w8 hc  K hK => ?_
          (try simp only [Act.put, List.setIfInBounds_toArray, List.set_cons_zero, List.set_cons_succ])
          go_simp
          exact hK (.pointer (some ⟨g6, 1, none⟩)) _ (rgp.ra1 rfl rfl) (rgp.ea1 rfl (Below.refl _ _))
        · refine fun w8 hc v5 h5 K hK => ?_
          have h5 := rgp.ra1_out rfl h5
          obtain rfl : v5 = .pointer (some ⟨g6, 1, none⟩) := h5
          (try simp only [Act.put, List.setIfInBounds_toArray, List.set_cons_zero, List.set_cons_succ])
          have c0 : w8.cell? ⟨g6, 1, none⟩ = some (.string (strOfNums x)) := (ux.bx_ks HX6.out hc.1 HG.out).cell 1
          go_simp
          exact hK (.string (strOfNums x)) _ (rgp.ra1 rfl rfl) (rgp.ea1 rfl (Below.refl _ _))
        · refine fun w8 hc v6 h6 K hK => ?_
          have h6 := rgp.ra1_out rfl h6
          obtain rfl : v6 = .string (strOfNums x) := h6
          (try simp only [Act.put, List.setIfInBounds_toArray, List.set_cons_zero, List.set_cons_succ])
          obtain ⟨cN, w5, hrun, hom, hb5⟩ := conv_back HWX.out.1 (by have := HWX.out.2; omega) w8
          go_simp
          exact hK _ _ (rgp.ra1 rfl ⟨_, _, _, hc.2.hi_, ux.num_om hom⟩) (rgp.ea1 rfl hb5)
        · refine fun w8 hc v7 h7 K hK => ?_
          have h7 := rgp.ra1_out rfl h7
          obtain ⟨fe7, lo7, hi7, hl7, ho7⟩ := h7
          obtain ⟨Ae7, ne7, ce7, rfl⟩ := ux.bytes_slo ho7.1
          (try simp only [Act.put, List.setIfInBounds_toArray, List.set_cons_zero, List.set_cons_succ])
          go_simp
          exact hK (.slice (some ⟨w8.heap.size, 0, none⟩) 1 1) _ (rgp.ra1 rfl ⟨w8.heap.size, 1, .slice Ae7 ne7 ce7, fe7, lo7, hi7, rfl, hc.2.hi_, Bx.made _ _ _, hl7, ho7.below (below_box _ _)⟩) (rgp.ea1 rfl (below_box _ _))
        · refine fun w8 hc v4 h4 v8 h8 K hK => ?_
          have h4 := rgp.ra1_out rfl h4
          obtain rfl : v4 = .slice A1 m1 c1 := h4
          have h8 := rgp.ra1_out rfl h8
          obtain ⟨q8, cq8, u8, fe8, lo8, hi8, rfl, hq8, hX8, hl8, ho8⟩ := h8
          (try simp only [Act.put, List.setIfInBounds_toArray, List.set_cons_zero, List.set_cons_succ])
          rw [if_pos (by rfl)]
          refine ux.wp_push (S := ux.bytes) (T := 22) _ _ 53 rfl Try.underlying53 HZ.out.1 HZ.out.2.1 HZ.out.2.2.1 (by rw [HZ.out.2.2.2]; omega) rfl rfl rfl hc.2 (x) ho8 hl8 hX8 (by have := HM.out; omega) ?_
          intro A4 c4 w4 hn4 hp4
          exact hK _ _ (rgp.ra2 hn4) (rgp.ea2 hp4)
        refine fun w9 hc v0 h0 v1 h1 v2 h2 v3 h3 v4 h4 v5 h5 v6 h6 v7 h7 v8 h8 v9 h9 => ?_
        have h0 := rgp.ra1_out rfl h0
        obtain rfl : v0 = .pointer (some ⟨b, 0, none⟩) := h0
        have h1 := rgp.ra1_out rfl h1
        obtain rfl : v1 = .pointer (some ⟨b, 0, none⟩) := h1
        have h2 := rgp.ra1_out rfl h2
        obtain rfl : v2 = .pointer (some ⟨b, 0, none⟩) := h2
        have h3 := rgp.ra1_out rfl h3
        obtain rfl : v3 = .pointer (some ⟨b, 33, none⟩) := h3
        have h4 := rgp.ra1_out rfl h4
        obtain rfl : v4 = .slice A1 m1 c1 := h4
        have h5 := rgp.ra1_out rfl h5
        obtain rfl : v5 = .pointer (some ⟨g6, 1, none⟩) := h5
        have h6 := rgp.ra1_out rfl h6
        obtain rfl : v6 = .string (strOfNums x) := h6
        have h7 := rgp.ra1_out rfl h7
        obtain ⟨fe7, lo7, hi7, hl7, ho7⟩ := h7
        obtain ⟨Ae7, ne7, ce7, rfl⟩ := ux.bytes_slo ho7.1
        have h8 := rgp.ra1_out rfl h8
        obtain ⟨q8, cq8, u8, fe8, lo8, hi8, rfl, hq8, hX8, hl8, ho8⟩ := h8
        have h9 := rgp.ra2_out h9
        obtain ⟨A3, c3, f3, hi3, rfl, hO3, hf3⟩ := h9
        (try simp only [reg.Obs])
        (try simp only [Act.put, List.setIfInBounds_toArray, List.set_cons_zero, List.set_cons_succ])
        simp only [List.drop_succ_cons, List.drop_zero]
        have HX3 := Lib.hid (ux.bx_ks HX2.out hc.1 HBF1.out)
        have HO3 := Lib.hid hO3
        have HBF2 := Lib.hid (show b ∉ f3 from fun hm => by rcases hf3 b hm with h9 | h9; exact HBF1.out h9; (have := HLB.out; have := HG6.out; omega))
        have HK3 := Lib.hid (show KS (b :: f) wr w9 from (ks_bel2 _ HBW.out).trans (ux.ks_more hc.1 fun q h => List.mem_cons_of_mem _ h))
        have HF3 := Lib.hid (show ∀ q, q ∈ f3 → q ∈ f ∨ wr.heap.size ≤ q from fun q hq => by rcases hf3 q hq with h9 | h9; exact .inl h9; (have := HG6.out; exact .inr (by omega)))
        have HKS := Lib.hid HK.out.size
        clear hO3 hf3 hc
        have c33 : w9.cell? ⟨b, 33, none⟩ = some (.slice A1 m1 c1) := by rw [HX3.out.cell]; exact vcs_hd HL.out
        have f33 : w9.frozen? ⟨b, 33, none⟩ = false := HX3.out.free _
        go_wp2_with fail
        go_roundw
        case rel => exact ⟨j + 1, f3, by go_num, by omega, ⟨A3, m1 + 1, c3, by have hh := HX3.out.set 33 (.slice A3 (m1 + 1) c3); rw [vcs_put HL.out] at hh; exact hh, by have hh := HO3.out.ks (ux.ks_set (F := [b]) (List.mem_singleton.2 rfl) 33 (.slice A3 (m1 + 1) c3)) (fun q h8 h9 => HBF2.out (by rw [← List.mem_singleton.1 h9]; exact h8)); rw [bods_snoc_some HE.out, ← List.append_assoc]; exact hh.wide (Nat.le_refl _), HBF2.out, HL.out, HS.out, HW.out⟩, new_on HF.out HKS.out HF3.out, ks_on HK.out HF.out (HK3.out.trans (ux.ks_set List.mem_cons_self _ _))⟩
        case measure => simp [intOf]; omega
    · obtain rfl : p = j := by omega
      have hlt2 : ¬ (p : Int) < p := by omega
      obtain ⟨A1, m1, c1, hX1, ho1, hbf1, _⟩ := HR.out
      simp only at hX1 ho1
      have HO1 := Lib.hid ho1
      have HBF1 := Lib.hid hbf1
      have HX1 := Lib.hid (show Bx 84 wr.drew b (vcs ⟨s, ws, out ++ bods (ws.take p)⟩ (.slice A1 m1 c1)) from hX1.same rfl)
      have HK1 := Lib.hid (show KS [b] wr wr.drew from ⟨rfl, rfl, rfl, Nat.le_refl _, fun _ _ _ => rfl⟩)
      clear hX1 ho1 hbf1
      obtain ⟨l, hl⟩ : ∃ l, 16 - p = l := ⟨_, rfl⟩
      obtain ⟨ad1, had1, hs1⟩ := slice_tl b hp1
      obtain ⟨ad2, had2, hs2⟩ := slice_tl b (show l ≤ 16 by omega)
      have hs0 := slice_all b
      have hlp : 16 - l = p := by omega
      have hl16 : l ≤ 16 := by omega
      rw [hl] at hs1
      rw [hlp] at hs2
      have HAD1 := Lib.hid had1
      have HAD2 := Lib.hid had2
      have HLP := Lib.hid hlp
      have HLL := Lib.hid hl
      clear had1 had2 hlp hl
      have HZV := Lib.hid zeroAr
      go_upto_region 7 with fail
      go_still_tail 9, (by kernel_rfl)
      change wpList _ _ _ _ _ wr.drew
      obtain ⟨w1, hw1⟩ : ∃ w1, wr.drew = w1 := ⟨_, rfl⟩
      rw [hw1] at HX1 HK1 ⊢
      clear hw1 hs0 hs1
      refine list_copyB rfl _ _ 104 rfl 80 Try.underlying104 2 szAr b 1 16 16 ad1 l l rfl rfl (by omega) 84 _ HX1.out (wcs (ws.drop p)) (by rw [wcs_len, List.length_drop, HL.out]; have := HLL.out; omega) (src_cells HX1.out HL.out HAD1.out) (by rw [wcs_len, List.length_drop, vcs_size HL.out, HL.out]; omega) (wcs_one _) ?_
      intro w2 hX2 hk2
      rw [vcs_copied HL.out hp1 rfl, HLL.out] at hX2
      have HX2 := Lib.hid hX2
      have HK2 := Lib.hid (HK1.out.trans hk2)
      clear hX2 hk2 HX1 HK1
      rw [goInt_nat]
      obtain ⟨w3, hclr, hX3, hk3⟩ := run_clearB (P := Try.prog) (w := w2) 104 0 80 Try.underlying104 #[.bool false, .string ByteArray.empty] HZV.out b (1 + l * 2) p p ad2 (fun h => HAD2.out (by have := HLP.out; omega)) 84 _ HX2.out (wcs (List.replicate p none)) (zero_cells p) (by rw [wcs_len, List.length_replicate, vcs_size (by simp; have := HL.out; have := HLL.out; omega)]; have := HLL.out; omega) (wcs_one _) (fun h => by subst h; rfl)
      have hX3 : Bx 84 w3 b (vcs ⟨s, ws.drop p ++ List.replicate p none, out ++ bods (ws.take p)⟩ (.slice A1 m1 c1)) := by rw [← HLL.out] at hX3; rw [vcs_cleared HL.out hp1 (by rw [HLL.out])] at hX3; exact hX3
      have HX3 := Lib.hid hX3
      have HK3 := Lib.hid (HK2.out.trans hk3)
      clear hX3 hk3
      have c0 : w3.cell? ⟨b, 0, none⟩ = some (.int .i64 s) := HX3.out.cell 0
      have f0 : w3.frozen? ⟨b, 0, none⟩ = false := HX3.out.free 0
      go_wp2_with fail
      (with_reducible refine (bs.seqA s (n : Int) _ HS.out ⟨by omega, by have := HN.out; omega⟩).mono ?_)
      rintro e w4 ⟨rfl, rfl⟩
      go_wp2_with fail
      have HKE := Lib.hid (HK3.out.trans (ux.ks_set (F := [b]) (List.mem_singleton.2 rfl) 0 (.int .i64 ((s + (n : Int)) % 4096))))
      refine bodyPost_end (results_none rfl _ _ _) rfl ⟨rfl, f, ⟨A1, m1, c1, by rw [adv_min HL.out HP.out]; exact HX3.out.set 0 _, by rw [adv_min HL.out HP.out]; exact (HO1.out.ks HKE.out (fun q h8 h9 => HBF1.out (by rw [← List.mem_singleton.1 h9]; exact h8))).wide (Nat.le_refl _), HBF1.out, by rw [adv_len]; exact HL.out, adv_s _ _, fun x hx => HW.out x ?_⟩, HF.out, ks_on HK.out HF.out (ux.ks_more HKE.out (fun q h => by rw [List.mem_singleton.1 h]; exact List.mem_cons_self))⟩
      rcases take_mem hx with h9 | h9
      · exact h9
      · cases h9
end Go.Proofs.Ytejjafmppihneaa.ro
