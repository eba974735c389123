/- Merged texts of this seat. Atv: A byte of the input, as laws read it, told by the input alone. Condition: the slice of bytes reads as listed. | Dsp: A drawn list beside a frame and a category. Condition: the bytes that are drawn from are a slice that came in. | SeqLaw: The law function of the sequence numbers (FnSequenceNumbers) returns true and leaves what was there. Condition: the argument is a slice of bytes that came in. | DupLaw: The law function of duplicates (FnDuplicates) returns true and leaves what was there. Condition: the argument is a slice of bytes that came in. -/
import Derived.Test.YtbkdbdhbmabgcaaG1
import Derived.Test.YtbkdbdhbmabgcaaG9
section
namespace Go.Proofs.Ytbkdbdhbmabgcaa.lawAt
open Go.RowKit sl harn
set_option linter.unusedVariables false

def atv (zs : List Int) (len k : Nat) : Int := if k < len then zs.getD k 0 else ((k : Int) * 31 + (len : Int) * 7) % 256
theorem atv_in {a : Option Addr} {len cap lo hi : Nat} {zs : List Int} {w : World} (h : Rd .u8 w lo hi a len cap zs) (k : Nat) : 0 ≤ atv zs len k ∧ atv zs len k ≤ 255 := by
  unfold atv
  split
  · rename_i hk
    have h1 := h.wf.getD (i := k) (by have := h.len; omega)
    have := bounds_u8 h1; omega
  · have h1 := Int.emod_nonneg ((k : Int) * 31 + (len : Int) * 7) (show (256 : Int) ≠ 0 by omega)
    have h2 := Int.emod_lt_of_pos ((k : Int) * 31 + (len : Int) * 7) (show (0 : Int) < 256 by omega)
    omega
end Go.Proofs.Ytbkdbdhbmabgcaa.lawAt
end

section
namespace Go.Proofs.Ytbkdbdhbmabgcaa.sn
open Go.RowKit sl harn bx mrw drk stw draw
set_option linter.unusedVariables false
set_option linter.unusedSimpArgs false
open ux (Sen Fra)

theorem results_tct {fn : Func} {u p v : Tmp} {ty : TypeId} (h : fn.results = #[.tmp u, .cell p ty, .tmp v]) (tmps : Array Value) (P : Program) (w : World) :
    (results fn tmps).run P w = ((asAddr (tmps.getD p undef)).run P w).andThen fun a w₁ => ((loadVar ty a).run P w₁).andThen fun x w₂ => .ok (.tuple #[tmps.getD u undef, x, tmps.getD v undef]) w₂ := by
  simp only [results, h]
  simp [Sem.run_bind, Result.andThen]
theorem back_to {P : Program} {w : World} {b : Nat} {ty T : TypeId} {cur : Array Value} {d : TypeDesc} {X : Type} {r : Result X} {g : Value → World → Result X} (hX : Bx T w b cur) (hu : P.underlying ty = some d) (hd : d.isRow = true) (hi : (P.info? ty).map (·.size) = some cur.size) (hg : g (.agg cur) w = r) :
    ((asAddr (.pointer (some ⟨b, 0, none⟩))).run P w).andThen (fun a w₁ => ((loadVar ty a).run P w₁).andThen g) = r := by
  have h := stw.back hX hu hd hi
  have e : ((asAddr (.pointer (some ⟨b, 0, none⟩))).run P w).andThen (fun a w₁ => ((loadVar ty a).run P w₁).andThen g) = (((asAddr (.pointer (some ⟨b, 0, none⟩))).run P w).andThen (fun a w₁ => (loadVar ty a).run P w₁)).andThen g := by
    cases (asAddr (.pointer (some ⟨b, 0, none⟩))).run P w <;> rfl
  rw [e, h]
  exact hg
/-- A drawn list beside a frame and a category. -/
def PaPost (w : World) (e : Ending) (w' : World) : Prop :=
  ∃ (A : Option Addr) (n c : Nat) (l : List Sen) (lo hi : Nat) (f : Fra) (Af : Option Addr) (nf cf : Nat) (k : Int), e = .returned (.tuple #[.slice A n c, fr.fV f Af nf cf, .int .i64 k]) ∧ Nl l ∧ SmF f ∧ Sm k ∧ w.heap.size ≤ lo ∧ Rq senS w' lo hi A n c l ∧ Below w.heap.size w w'
theorem pa_parts {w w' : World} {e : Ending} (h : PaPost w e w') : ∃ (A : Option Addr) (n c : Nat) (l : List Sen) (lo hi : Nat) (f : Fra) (Af : Option Addr) (nf cf : Nat) (k : Int), e = .returned (.tuple #[.slice A n c, fr.fV f Af nf cf, .int .i64 k]) ∧ Nl l ∧ SmF f ∧ Sm k ∧ w.heap.size ≤ lo ∧ Rq senS w' lo hi A n c l ∧ Below w.heap.size w w' := h
set_option maxRecDepth 100000 in
set_option maxHeartbeats 4000000 in
theorem l19pair (w : World) (a : Option Addr) (len cap : Nat) (hc : draw.Code w w.heap.size a len) :
    Calls Try.prog 69 #[.slice a len cap] w (PaPost w) := by
  have HC := Lib.hid hc
  clear hc
  go_enter Try.func69, Try.ntmps69
  go_upto_region 1 with fail
  obtain ⟨w0, hW⟩ : ∃ w0, w.alloc (.cells #[.int .i64 0, .int .i64 0, .int .i64 0, .int .i64 0, .int .i64 0, .bool false, .bool false, .int .i64 0, .slice none 0 0] 25) = w0 := ⟨_, rfl⟩
  rw [hW]
  have B0 := Lib.hid (show Below w.heap.size w w0 by rw [← hW]; exact (Below.refl _ _).alloc (by simp <;> omega) _)
  have Z0 := Lib.hid (show Bx 25 w0 (w.heap.size) #[.int .i64 0, .int .i64 0, .int .i64 0, .int .i64 0, .int .i64 0, .bool false, .bool false, .int .i64 0, .slice none 0 0] by
      rw [← hW]
      have hh := Bx.made 25 w #[.int .i64 0, .int .i64 0, .int .i64 0, .int .i64 0, .int .i64 0, .bool false, .bool false, .int .i64 0, .slice none 0 0]
      exact hh)
  clear hW
  have LTZ := Lib.hid Z0.out.lt
  go_wp2_with fail
  (with_reducible refine (draw.new _ a len cap (code_later HC.out B0.out)).mono ?_)
  rintro e wb ⟨rfl, hk, hs, hc⟩
  have HB := Lib.hid (keep_bel B0.out B0.out.size hk)
  obtain ⟨p, hp⟩ : ∃ p, w0.heap.size = p := ⟨_, rfl⟩
  have LP := Lib.hid (show w.heap.size ≤ p ∧ p < wb.heap.size ∧ w.heap.size < p by have h0 := B0.out.size; have hZ := Z0.out.lt; first | omega | (simp at hs ⊢ <;> omega))
  rw [hp] at hk hs hc ⊢
  have Z1 := Lib.hid (drk.bx_keep Z0.out hk (by have h1 := LP.out; omega))
  have P0 := Lib.hid hs
  have C1 := Lib.hid hc
  have CW := Lib.hid hc
  have K1 := Lib.hid (Keep.refl p wb)
  clear hk hs hc hp B0 Z0
  go_wp2_with fail
  (with_reducible refine (l19list _ p a len cap C1.out).mono ?_)
  rintro e w2 hp
  obtain ⟨A, n, c, l, rfl, hnl, ho, hk, hc⟩ := ls_parts hp
  clear hp
  have HNL := Lib.hid hnl
  clear hnl
  have SS2 := Lib.hid hk.size
  have K2 := Lib.hid (K1.out.trans hk)
  have C2 := Lib.hid (hc)
  have Z2 := Lib.hid (drk.bx_keep Z1.out hk (by have hlP := LP.out; have h0 := P0.out; have hs0 := LTZ.out; have hs1 := SS2.out; first | omega | (simp <;> omega)))
  clear hk hc K1 C1 Z1
  have O2 := Lib.hid ho
  clear ho
  have HLN := Lib.hid (oe_n O2.out)
  have HN10 := Lib.hid (show n ≤ 10 by have h1 := HNL.out.1; have h2 := HLN.out; omega)
  go_wp2_with fail
  (with_reducible refine (anyD _ p a len cap C2.out).mono ?_)
  rintro e w3 hp
  obtain ⟨f, Af, nf, cf, rfl, hs9, hn9, ho9, hk, hc⟩ := frm_parts hp
  clear hp
  have HSf := Lib.hid hs9
  have HNf := Lib.hid hn9
  have SS3 := Lib.hid hk.size
  have K3 := Lib.hid (K2.out.trans hk)
  have C3 := Lib.hid (hc)
  have Z3 := Lib.hid (drk.bx_keep Z2.out hk (by have hlP := LP.out; have h0 := P0.out; have hs0 := LTZ.out; have hs1 := SS2.out; have hs2 := SS3.out; first | omega | (simp <;> omega)))
  have O3 := Lib.hid (oe_keep O2.out hk (by have hlP := LP.out; have h0 := P0.out; have hs0 := LTZ.out; have hs1 := SS2.out; have hs2 := SS3.out; first | omega | (simp <;> omega)))
  clear hk hc hs9 hn9 K2 C2 Z2 O2
  have F3 := Lib.hid ho9
  clear ho9
  go_upto_region 4 with fail
  obtain ⟨bx, hbb⟩ : ∃ b, w3.heap.size = b := ⟨_, rfl⟩
  generalize hW : w3.alloc (.cells #[.int .i64 f.Kind, .int .i64 f.From, .int .i64 f.To, .int .i64 f.Seq, .int .i64 f.Fragment, .bool f.More, .bool f.Retry, .int .i64 f.Duration, .slice Af nf cf] 25) = w4
  have LX := Lib.hid (show wb.heap.size ≤ bx ∧ w.heap.size < bx ∧ w2.heap.size ≤ bx by have h1 := K3.out.size; have h2Z := Z3.out.lt; have h2O := O3.out.hi_; have h3 := hbb; omega)
  have X4 := Lib.hid (show Bx 25 w4 bx #[.int .i64 f.Kind, .int .i64 f.From, .int .i64 f.To, .int .i64 f.Seq, .int .i64 f.Fragment, .bool f.More, .bool f.Retry, .int .i64 f.Duration, .slice Af nf cf] by rw [← hW, ← hbb]; exact Bx.made _ _ _)
  have hb : Below w3.heap.size w3 w4 := by rw [← hW]; exact below_box _ _
  (try rw [hbb])
  clear hW hbb
  have SS4 := Lib.hid hb.size
  have K4 := Lib.hid (drk.later K3.out K3.out.size hb)
  have C4 := Lib.hid (drk.cur_below C3.out hb)
  have Z4 := Lib.hid (Z3.out.below hb)
  have O4 := Lib.hid (O3.out.below hb)
  clear hb K3 C3 Z3 O3
  have LWX := Lib.hid X4.out.lt
  go_wp2_with fail
  (with_reducible refine (draw.below 5 (by omega) _ p a len cap C4.out).mono ?_)
  rintro e w5 ⟨q, rfl, hx0, hx1, hk, hc⟩
  have Hq := Lib.hid (show 0 ≤ q ∧ q < 5 from ⟨hx0, hx1 (by omega)⟩)
  have SS5 := Lib.hid hk.size
  have K5 := Lib.hid (K4.out.trans hk)
  have C5 := Lib.hid (hc)
  have Z5 := Lib.hid (drk.bx_keep Z4.out hk (by have hlP := LP.out; have hlX := LX.out; have h0 := P0.out; have hs0 := LTZ.out; have hs1 := SS2.out; have hs2 := SS3.out; have hs3 := SS4.out; have hs4 := LWX.out; have hs5 := SS5.out; first | omega | (simp <;> omega)))
  have X5 := Lib.hid (drk.bx_keep X4.out hk (by have hlP := LP.out; have hlX := LX.out; have h0 := P0.out; have hs0 := LTZ.out; have hs1 := SS2.out; have hs2 := SS3.out; have hs3 := SS4.out; have hs4 := LWX.out; have hs5 := SS5.out; first | omega | (simp <;> omega)))
  have O5 := Lib.hid (oe_keep O4.out hk (by have hlP := LP.out; have hlX := LX.out; have h0 := P0.out; have hs0 := LTZ.out; have hs1 := SS2.out; have hs2 := SS3.out; have hs3 := SS4.out; have hs4 := LWX.out; have hs5 := SS5.out; first | omega | (simp <;> omega)))
  clear hk hc hx0 hx1 K4 C4 Z4 X4 O4
  obtain ⟨k, hqk⟩ : ∃ k : Int, q - 1 = k := ⟨_, rfl⟩
  have HK := Lib.hid (show Sm k by have h1 := Hq.out; unfold Sm; omega)
  have mk : IntKind.i64.wrap k = k := IntWalk.i64_in _ (by have h1 := Hq.out; omega)
  have hn10 : n ≤ 10 := HN10.out
  go_upto_region 5 with fail
  clear hqk mk
  by_cases h0 : n = 0
  · have hn0 : ¬ (0 : Int) < n := by omega
    clear h0
    go_upto_region 12 with fail
    clear hn0
    refine reg.region_free (stw.E3 (drk.Dr p a len cap) [(4, ⟨25, w.heap.size, #[.int .i64 f.Kind, .int .i64 f.From, .int .i64 f.To, .int .i64 f.Seq, .int .i64 f.Fragment, .bool f.More, .bool f.Retry, .int .i64 f.Duration, .slice Af nf cf]⟩)]) 52 [(4, 50)] [some [], some [], some [], some [(0, 49)], some [(1, 50)], some [(2, 51)]] [(0, 49), (1, 50), (2, 51), (3, 2), (5, 4)]
      (fun w' => Cur w' p a len cap ∧ stw.KS [p, w.heap.size] wb w' ∧ Bx 25 w' (bx) #[.int .i64 f.Kind, .int .i64 f.From, .int .i64 f.To, .int .i64 f.Seq, .int .i64 f.Fragment, .bool f.More, .bool f.Retry, .int .i64 f.Duration, .slice Af nf cf] ∧ Oe senS w' wb.heap.size w2.heap.size A n c (l.map el) ∧ stw.Lies 25 (w.heap.size) 9 w' ∧ True)
      (stw.r3 (drk.Dr p a len cap) [(4, ⟨25, w.heap.size, #[.int .i64 f.Kind, .int .i64 f.From, .int .i64 f.To, .int .i64 f.Seq, .int .i64 f.Fragment, .bool f.More, .bool f.Retry, .int .i64 f.Duration, .slice Af nf cf]⟩)] [stw.is3 (drk.Dr p a len cap) [(4, ⟨25, w.heap.size, #[.int .i64 f.Kind, .int .i64 f.From, .int .i64 f.To, .int .i64 f.Seq, .int .i64 f.Fragment, .bool f.More, .bool f.Retry, .int .i64 f.Duration, .slice Af nf cf]⟩)] (.slice A n c), stw.is3 (drk.Dr p a len cap) [(4, ⟨25, w.heap.size, #[.int .i64 f.Kind, .int .i64 f.From, .int .i64 f.To, .int .i64 f.Seq, .int .i64 f.Fragment, .bool f.More, .bool f.Retry, .int .i64 f.Duration, .slice Af nf cf]⟩)] (.agg #[.int .i64 f.Kind, .int .i64 f.From, .int .i64 f.To, .int .i64 f.Seq, .int .i64 f.Fragment, .bool f.More, .bool f.Retry, .int .i64 f.Duration, .slice Af nf cf]), stw.is3 (drk.Dr p a len cap) [(4, ⟨25, w.heap.size, #[.int .i64 f.Kind, .int .i64 f.From, .int .i64 f.To, .int .i64 f.Seq, .int .i64 f.Fragment, .bool f.More, .bool f.Retry, .int .i64 f.Duration, .slice Af nf cf]⟩)] (.int .i64 k), stw.is3 (drk.Dr p a len cap) [(4, ⟨25, w.heap.size, #[.int .i64 f.Kind, .int .i64 f.From, .int .i64 f.To, .int .i64 f.Seq, .int .i64 f.Fragment, .bool f.More, .bool f.Retry, .int .i64 f.Duration, .slice Af nf cf]⟩)] (.slice A n c), stw.val3 (drk.Dr p a len cap) [(4, ⟨25, w.heap.size, #[.int .i64 f.Kind, .int .i64 f.From, .int .i64 f.To, .int .i64 f.Seq, .int .i64 f.Fragment, .bool f.More, .bool f.Retry, .int .i64 f.Duration, .slice Af nf cf]⟩)] fun _ => True, stw.is3 (drk.Dr p a len cap) [(4, ⟨25, w.heap.size, #[.int .i64 f.Kind, .int .i64 f.From, .int .i64 f.To, .int .i64 f.Seq, .int .i64 f.Fragment, .bool f.More, .bool f.Retry, .int .i64 f.Duration, .slice Af nf cf]⟩)] (.int .i64 k)])
      (by kernel_rfl) (by kernel_rfl) rfl
      (fun i w1 w2 hc he => he.cases (fun hb => ⟨hb.2, hc.2.1.trans (stw.KS.keep hb.1 (by simp)), drk.bx_keep hc.2.2.1 hb.1 (by have hlP := LP.out; have hlX := LX.out; have h0 := P0.out; have hs0 := LTZ.out; have hs1 := SS2.out; have hs2 := SS3.out; have hs3 := SS4.out; have hs4 := LWX.out; have hs5 := SS5.out; first | omega | (simp <;> omega)), oe_keep hc.2.2.2.1 hb.1 (by have hlP := LP.out; have hlX := LX.out; have h0 := P0.out; have hs0 := LTZ.out; have hs1 := SS2.out; have hs2 := SS3.out; have hs3 := SS4.out; have hs4 := LWX.out; have hs5 := SS5.out; first | omega | (simp <;> omega)), (hc.2.2.2.2.1).same (hb.1.block _ (hc.2.2.2.2.1).lt (by have hlP := LP.out; have hlX := LX.out; have h0 := P0.out; have hs0 := LTZ.out; have hs1 := SS2.out; have hs2 := SS3.out; have hs3 := SS4.out; have hs4 := LWX.out; have hs5 := SS5.out; first | omega | (simp <;> omega))), trivial⟩) (fun x hx hp => by
        simp only [List.mem_cons, List.not_mem_nil, or_false] at hx
        rcases hx with rfl
        · have hp : stw.Put 25 w1 (w.heap.size) #[.int .i64 f.Kind, .int .i64 f.From, .int .i64 f.To, .int .i64 f.Seq, .int .i64 f.Fragment, .bool f.More, .bool f.Retry, .int .i64 f.Duration, .slice Af nf cf] w2 := hp; exact ⟨stw.cur_put HC.out hc.1 hp (by have hlP := LP.out; have hlX := LX.out; have h0 := P0.out; have hs0 := LTZ.out; have hs1 := SS2.out; have hs2 := SS3.out; have hs3 := SS4.out; have hs4 := LWX.out; have hs5 := SS5.out; first | omega | (simp <;> omega)) (by have hlP := LP.out; have hlX := LX.out; have h0 := P0.out; have hs0 := LTZ.out; have hs1 := SS2.out; have hs2 := SS3.out; have hs3 := SS4.out; have hs4 := LWX.out; have hs5 := SS5.out; first | omega | (simp <;> omega)), hc.2.1.trans (stw.KS.put hp (by simp)), hp.keep hc.2.2.1 (by have hlP := LP.out; have hlX := LX.out; have h0 := P0.out; have hs0 := LTZ.out; have hs1 := SS2.out; have hs2 := SS3.out; have hs3 := SS4.out; have hs4 := LWX.out; have hs5 := SS5.out; first | omega | (simp <;> omega)), (hc.2.2.2.1).same hp.below.size fun b h1 h2 => hp.other b (by have hlP := LP.out; have hlX := LX.out; have h0 := P0.out; have hs0 := LTZ.out; have hs1 := SS2.out; have hs2 := SS3.out; have hs3 := SS4.out; have hs4 := LWX.out; have hs5 := SS5.out; first | omega | (simp <;> omega)), (hc.2.2.2.2.1).put hp (fun e => ⟨rfl, rfl⟩), trivial⟩))
      (stw.r3_keep (fun b => b ≠ p) (fun h hb hX => drk.bx_keep hX h.1 hb) (by intro x hx; simp only [List.mem_cons, List.not_mem_nil, or_false] at hx; rcases hx with rfl <;> (have hlP := LP.out; have hlX := LX.out; have h0 := P0.out; have hs0 := LTZ.out; have hs1 := SS2.out; have hs2 := SS3.out; have hs3 := SS4.out; have hs4 := LWX.out; have hs5 := SS5.out; dsimp only; omega)) (by intro x hx y hy hxy; simp only [List.mem_cons, List.not_mem_nil, or_false] at hx hy; rcases hx with rfl <;> rcases hy with rfl <;> first | exact absurd rfl hxy | (have hlP := LP.out; have hlX := LX.out; have h0 := P0.out; have hs0 := LTZ.out; have hs1 := SS2.out; have hs2 := SS3.out; have hs3 := SS4.out; have hs4 := LWX.out; have hs5 := SS5.out; dsimp only; omega)) _) (⟨show Cur w5.drew p a len cap from C5.out, (stw.KS.keep K5.out (by simp)).trans (stw.KS.keep (Keep.drew (Keep.refl p _)) (by simp)), X5.out.same rfl, (O5.out.same (Nat.le_refl _) (fun _ _ _ => rfl)), (stw.Lies.of Z5.out).same rfl, trivial⟩) (by kernel_rfl) ⟨?_, ?_, ?_, ?_, ?_, ?_, trivial⟩ ?_
    · refine fun w8 hc  K hK => ?_
      (try simp only [Act.put, List.setIfInBounds_toArray, List.set_cons_zero, List.set_cons_succ])
      go_simp
      exact hK (.slice A n c) _ (stw.r3_ne rfl rfl) (stw.e3_ne rfl (stw.dr_same hc.1))
    · refine fun w8 hc  K hK => ?_
      (try simp only [Act.put, List.setIfInBounds_toArray, List.set_cons_zero, List.set_cons_succ])
      rw [if_pos (by rfl)]
      refine stw.wp_load_bx 25 _ rfl (bx) rfl 25 _ hc.2.2.1 Try.underlying25 rfl fr.szFra ?_
      exact hK _ _ (stw.r3_ne rfl rfl) (stw.e3_ne rfl (stw.dr_same hc.1))
    · refine fun w8 hc  K hK => ?_
      (try simp only [Act.put, List.setIfInBounds_toArray, List.set_cons_zero, List.set_cons_succ])
      go_simp
      exact hK (.int .i64 k) _ (stw.r3_ne rfl rfl) (stw.e3_ne rfl (stw.dr_same hc.1))
    · refine fun w8 hc v0 h0 K hK => ?_
      have h0 := stw.r3_out rfl h0
      obtain rfl : v0 = .slice A n c := h0
      (try simp only [Act.put, List.setIfInBounds_toArray, List.set_cons_zero, List.set_cons_succ])
      go_simp
      exact hK (.slice A n c) _ (stw.r3_ne rfl rfl) (stw.e3_ne rfl (stw.dr_same hc.1))
    · refine fun w8 hc v1 h1 K hK => ?_
      have h1 := stw.r3_out rfl h1
      obtain rfl : v1 = .agg #[.int .i64 f.Kind, .int .i64 f.From, .int .i64 f.To, .int .i64 f.Seq, .int .i64 f.Fragment, .bool f.More, .bool f.Retry, .int .i64 f.Duration, .slice Af nf cf] := h1
      (try simp only [Act.put, List.setIfInBounds_toArray, List.set_cons_zero, List.set_cons_succ])
      obtain ⟨cur, hcur, hXc⟩ := hc.2.2.2.2.1
      refine stw.step_store rfl 25 _ _ rfl (w.heap.size) #[.int .i64 f.Kind, .int .i64 f.From, .int .i64 f.To, .int .i64 f.Seq, .int .i64 f.Fragment, .bool f.More, .bool f.Retry, .int .i64 f.Duration, .slice Af nf cf] rfl rfl 25 _ hXc (by rw [hcur]; rfl) fr.szFra (fr.oneFra _ _ _ _ _ _ _ _ _ _ _) ?_
      intro wz hz
      exact hK undef _ (stw.r3_put rfl hz.box) (stw.e3_put rfl hz)
    · refine fun w8 hc v2 h2 K hK => ?_
      have h2 := stw.r3_out rfl h2
      obtain rfl : v2 = .int .i64 k := h2
      (try simp only [Act.put, List.setIfInBounds_toArray, List.set_cons_zero, List.set_cons_succ])
      go_simp
      exact hK (.int .i64 k) _ (stw.r3_ne rfl rfl) (stw.e3_ne rfl (stw.dr_same hc.1))
    refine fun w9 hc v0 h0 v1 h1 v2 h2 v3 h3 v5 h5 => ?_
    have h0 := stw.r3_out rfl h0
    obtain rfl : v0 = .slice A n c := h0
    have h1 := stw.r3_out rfl h1
    obtain rfl : v1 = .agg #[.int .i64 f.Kind, .int .i64 f.From, .int .i64 f.To, .int .i64 f.Seq, .int .i64 f.Fragment, .bool f.More, .bool f.Retry, .int .i64 f.Duration, .slice Af nf cf] := h1
    have h2 := stw.r3_out rfl h2
    obtain rfl : v2 = .int .i64 k := h2
    have h3 := stw.r3_out rfl h3
    obtain rfl : v3 = .slice A n c := h3
    have h5 := stw.r3_out rfl h5
    obtain rfl : v5 = .int .i64 k := h5
    (try simp only [reg.Obs])
    intro hrf
    have hrf2 := hrf
    clear hrf
    have g4 := stw.r3_got rfl (hrf2 (4, 50) (by simp) rfl)
    clear hrf2
    (try simp only [Act.put, List.setIfInBounds_toArray, List.set_cons_zero, List.set_cons_succ])
    have C6 := Lib.hid hc.1
    have H6 := Lib.hid hc.2.1
    have X6 := Lib.hid hc.2.2.1
    have O6 := Lib.hid hc.2.2.2.1
    have Z6 := Lib.hid (show Bx 25 w9 (w.heap.size) #[.int .i64 f.Kind, .int .i64 f.From, .int .i64 f.To, .int .i64 f.Seq, .int .i64 f.Fragment, .bool f.More, .bool f.Retry, .int .i64 f.Duration, .slice Af nf cf] from g4)
    clear hc g4 K5 C5 Z5 X5 O5
    go_wp2_with fail
    have B6 := Lib.hid (HB.out.trans (H6.out.below (by have h1 := LP.out; intro x hx; simp only [List.mem_cons, List.not_mem_nil, or_false] at hx; rcases hx with rfl | rfl <;> omega) HB.out.size))
    (try simp only [Exit.inBlock, Exit.then])
    refine bodyPost_ret (v := .tuple #[.slice A n c, .agg #[.int .i64 f.Kind, .int .i64 f.From, .int .i64 f.To, .int .i64 f.Seq, .int .i64 f.Fragment, .bool f.More, .bool f.Retry, .int .i64 f.Duration, .slice Af nf cf], .int .i64 k]) ?_ rfl ?_
    · rw [results_tct rfl]
      exact back_to Z6.out Try.underlying25 rfl fr.szFra rfl
    · exact ⟨A, n, c, l, _, _, f, Af, nf, cf, k, rfl, HNL.out, HSf.out, HK.out, (by have hlP := LP.out; have hlX := LX.out; have h0 := P0.out; have hs0 := LTZ.out; have hs1 := SS2.out; have hs2 := SS3.out; have hs3 := SS4.out; have hs4 := LWX.out; have hs5 := SS5.out; have hHB := HB.out.size; first | omega | (simp <;> omega)), oe_rq O6.out, B6.out⟩
  · have hn0 : (0 : Int) < n := by omega
    clear h0
    go_wp2_with fail
    (with_reducible refine (draw.once 3 (by omega) _ p a len cap C5.out).mono ?_)
    rintro e w6 ⟨b0, rfl, hk, hc⟩
    have SS6 := Lib.hid hk.size
    have K6 := Lib.hid (K5.out.trans hk)
    have C6 := Lib.hid (hc)
    have Z6 := Lib.hid (drk.bx_keep Z5.out hk (by have hlP := LP.out; have hlX := LX.out; have h0 := P0.out; have hs0 := LTZ.out; have hs1 := SS2.out; have hs2 := SS3.out; have hs3 := SS4.out; have hs4 := LWX.out; have hs5 := SS5.out; have hs6 := SS6.out; first | omega | (simp <;> omega)))
    have X6 := Lib.hid (drk.bx_keep X5.out hk (by have hlP := LP.out; have hlX := LX.out; have h0 := P0.out; have hs0 := LTZ.out; have hs1 := SS2.out; have hs2 := SS3.out; have hs3 := SS4.out; have hs4 := LWX.out; have hs5 := SS5.out; have hs6 := SS6.out; first | omega | (simp <;> omega)))
    have O6 := Lib.hid (oe_keep O5.out hk (by have hlP := LP.out; have hlX := LX.out; have h0 := P0.out; have hs0 := LTZ.out; have hs1 := SS2.out; have hs2 := SS3.out; have hs3 := SS4.out; have hs4 := LWX.out; have hs5 := SS5.out; have hs6 := SS6.out; first | omega | (simp <;> omega)))
    clear hk hc  K5 C5 Z5 X5 O5
    cases b0 with
    | true =>
      go_upto_region 12 with fail
      clear hn0
      refine reg.region_free (stw.E3 (drk.Dr p a len cap) [(4, ⟨25, w.heap.size, #[.int .i64 f.Kind, .int .i64 f.From, .int .i64 f.To, .int .i64 f.Seq, .int .i64 f.Fragment, .bool f.More, .bool f.Retry, .int .i64 f.Duration, .slice Af nf cf]⟩)]) 52 [(4, 50)] [some [], some [], some [], some [(0, 49)], some [(1, 50)], some [(2, 51)]] [(0, 49), (1, 50), (2, 51), (3, 2), (5, 4)]
        (fun w' => Cur w' p a len cap ∧ stw.KS [p, w.heap.size] wb w' ∧ Bx 25 w' (bx) #[.int .i64 f.Kind, .int .i64 f.From, .int .i64 f.To, .int .i64 f.Seq, .int .i64 f.Fragment, .bool f.More, .bool f.Retry, .int .i64 f.Duration, .slice Af nf cf] ∧ Oe senS w' wb.heap.size w2.heap.size A n c (l.map el) ∧ stw.Lies 25 (w.heap.size) 9 w' ∧ True)
        (stw.r3 (drk.Dr p a len cap) [(4, ⟨25, w.heap.size, #[.int .i64 f.Kind, .int .i64 f.From, .int .i64 f.To, .int .i64 f.Seq, .int .i64 f.Fragment, .bool f.More, .bool f.Retry, .int .i64 f.Duration, .slice Af nf cf]⟩)] [stw.is3 (drk.Dr p a len cap) [(4, ⟨25, w.heap.size, #[.int .i64 f.Kind, .int .i64 f.From, .int .i64 f.To, .int .i64 f.Seq, .int .i64 f.Fragment, .bool f.More, .bool f.Retry, .int .i64 f.Duration, .slice Af nf cf]⟩)] (.slice A n c), stw.is3 (drk.Dr p a len cap) [(4, ⟨25, w.heap.size, #[.int .i64 f.Kind, .int .i64 f.From, .int .i64 f.To, .int .i64 f.Seq, .int .i64 f.Fragment, .bool f.More, .bool f.Retry, .int .i64 f.Duration, .slice Af nf cf]⟩)] (.agg #[.int .i64 f.Kind, .int .i64 f.From, .int .i64 f.To, .int .i64 f.Seq, .int .i64 f.Fragment, .bool f.More, .bool f.Retry, .int .i64 f.Duration, .slice Af nf cf]), stw.is3 (drk.Dr p a len cap) [(4, ⟨25, w.heap.size, #[.int .i64 f.Kind, .int .i64 f.From, .int .i64 f.To, .int .i64 f.Seq, .int .i64 f.Fragment, .bool f.More, .bool f.Retry, .int .i64 f.Duration, .slice Af nf cf]⟩)] (.int .i64 k), stw.is3 (drk.Dr p a len cap) [(4, ⟨25, w.heap.size, #[.int .i64 f.Kind, .int .i64 f.From, .int .i64 f.To, .int .i64 f.Seq, .int .i64 f.Fragment, .bool f.More, .bool f.Retry, .int .i64 f.Duration, .slice Af nf cf]⟩)] (.slice A n c), stw.val3 (drk.Dr p a len cap) [(4, ⟨25, w.heap.size, #[.int .i64 f.Kind, .int .i64 f.From, .int .i64 f.To, .int .i64 f.Seq, .int .i64 f.Fragment, .bool f.More, .bool f.Retry, .int .i64 f.Duration, .slice Af nf cf]⟩)] fun _ => True, stw.is3 (drk.Dr p a len cap) [(4, ⟨25, w.heap.size, #[.int .i64 f.Kind, .int .i64 f.From, .int .i64 f.To, .int .i64 f.Seq, .int .i64 f.Fragment, .bool f.More, .bool f.Retry, .int .i64 f.Duration, .slice Af nf cf]⟩)] (.int .i64 k)])
        (by kernel_rfl) (by kernel_rfl) rfl
        (fun i w1 w2 hc he => he.cases (fun hb => ⟨hb.2, hc.2.1.trans (stw.KS.keep hb.1 (by simp)), drk.bx_keep hc.2.2.1 hb.1 (by have hlP := LP.out; have hlX := LX.out; have h0 := P0.out; have hs0 := LTZ.out; have hs1 := SS2.out; have hs2 := SS3.out; have hs3 := SS4.out; have hs4 := LWX.out; have hs5 := SS5.out; have hs6 := SS6.out; first | omega | (simp <;> omega)), oe_keep hc.2.2.2.1 hb.1 (by have hlP := LP.out; have hlX := LX.out; have h0 := P0.out; have hs0 := LTZ.out; have hs1 := SS2.out; have hs2 := SS3.out; have hs3 := SS4.out; have hs4 := LWX.out; have hs5 := SS5.out; have hs6 := SS6.out; first | omega | (simp <;> omega)), (hc.2.2.2.2.1).same (hb.1.block _ (hc.2.2.2.2.1).lt (by have hlP := LP.out; have hlX := LX.out; have h0 := P0.out; have hs0 := LTZ.out; have hs1 := SS2.out; have hs2 := SS3.out; have hs3 := SS4.out; have hs4 := LWX.out; have hs5 := SS5.out; have hs6 := SS6.out; first | omega | (simp <;> omega))), trivial⟩) (fun x hx hp => by
          simp only [List.mem_cons, List.not_mem_nil, or_false] at hx
          rcases hx with rfl
          · have hp : stw.Put 25 w1 (w.heap.size) #[.int .i64 f.Kind, .int .i64 f.From, .int .i64 f.To, .int .i64 f.Seq, .int .i64 f.Fragment, .bool f.More, .bool f.Retry, .int .i64 f.Duration, .slice Af nf cf] w2 := hp; exact ⟨stw.cur_put HC.out hc.1 hp (by have hlP := LP.out; have hlX := LX.out; have h0 := P0.out; have hs0 := LTZ.out; have hs1 := SS2.out; have hs2 := SS3.out; have hs3 := SS4.out; have hs4 := LWX.out; have hs5 := SS5.out; have hs6 := SS6.out; first | omega | (simp <;> omega)) (by have hlP := LP.out; have hlX := LX.out; have h0 := P0.out; have hs0 := LTZ.out; have hs1 := SS2.out; have hs2 := SS3.out; have hs3 := SS4.out; have hs4 := LWX.out; have hs5 := SS5.out; have hs6 := SS6.out; first | omega | (simp <;> omega)), hc.2.1.trans (stw.KS.put hp (by simp)), hp.keep hc.2.2.1 (by have hlP := LP.out; have hlX := LX.out; have h0 := P0.out; have hs0 := LTZ.out; have hs1 := SS2.out; have hs2 := SS3.out; have hs3 := SS4.out; have hs4 := LWX.out; have hs5 := SS5.out; have hs6 := SS6.out; first | omega | (simp <;> omega)), (hc.2.2.2.1).same hp.below.size fun b h1 h2 => hp.other b (by have hlP := LP.out; have hlX := LX.out; have h0 := P0.out; have hs0 := LTZ.out; have hs1 := SS2.out; have hs2 := SS3.out; have hs3 := SS4.out; have hs4 := LWX.out; have hs5 := SS5.out; have hs6 := SS6.out; first | omega | (simp <;> omega)), (hc.2.2.2.2.1).put hp (fun e => ⟨rfl, rfl⟩), trivial⟩))
        (stw.r3_keep (fun b => b ≠ p) (fun h hb hX => drk.bx_keep hX h.1 hb) (by intro x hx; simp only [List.mem_cons, List.not_mem_nil, or_false] at hx; rcases hx with rfl <;> (have hlP := LP.out; have hlX := LX.out; have h0 := P0.out; have hs0 := LTZ.out; have hs1 := SS2.out; have hs2 := SS3.out; have hs3 := SS4.out; have hs4 := LWX.out; have hs5 := SS5.out; have hs6 := SS6.out; dsimp only; omega)) (by intro x hx y hy hxy; simp only [List.mem_cons, List.not_mem_nil, or_false] at hx hy; rcases hx with rfl <;> rcases hy with rfl <;> first | exact absurd rfl hxy | (have hlP := LP.out; have hlX := LX.out; have h0 := P0.out; have hs0 := LTZ.out; have hs1 := SS2.out; have hs2 := SS3.out; have hs3 := SS4.out; have hs4 := LWX.out; have hs5 := SS5.out; have hs6 := SS6.out; dsimp only; omega)) _) (⟨show Cur w6.drew p a len cap from C6.out, (stw.KS.keep K6.out (by simp)).trans (stw.KS.keep (Keep.drew (Keep.refl p _)) (by simp)), X6.out.same rfl, (O6.out.same (Nat.le_refl _) (fun _ _ _ => rfl)), (stw.Lies.of Z6.out).same rfl, trivial⟩) (by kernel_rfl) ⟨?_, ?_, ?_, ?_, ?_, ?_, trivial⟩ ?_
      · refine fun w8 hc  K hK => ?_
        (try simp only [Act.put, List.setIfInBounds_toArray, List.set_cons_zero, List.set_cons_succ])
        go_simp
        exact hK (.slice A n c) _ (stw.r3_ne rfl rfl) (stw.e3_ne rfl (stw.dr_same hc.1))
      · refine fun w8 hc  K hK => ?_
        (try simp only [Act.put, List.setIfInBounds_toArray, List.set_cons_zero, List.set_cons_succ])
        rw [if_pos (by rfl)]
        refine stw.wp_load_bx 25 _ rfl (bx) rfl 25 _ hc.2.2.1 Try.underlying25 rfl fr.szFra ?_
        exact hK _ _ (stw.r3_ne rfl rfl) (stw.e3_ne rfl (stw.dr_same hc.1))
      · refine fun w8 hc  K hK => ?_
        (try simp only [Act.put, List.setIfInBounds_toArray, List.set_cons_zero, List.set_cons_succ])
        go_simp
        exact hK (.int .i64 k) _ (stw.r3_ne rfl rfl) (stw.e3_ne rfl (stw.dr_same hc.1))
      · refine fun w8 hc v0 h0 K hK => ?_
        have h0 := stw.r3_out rfl h0
        obtain rfl : v0 = .slice A n c := h0
        (try simp only [Act.put, List.setIfInBounds_toArray, List.set_cons_zero, List.set_cons_succ])
        go_simp
        exact hK (.slice A n c) _ (stw.r3_ne rfl rfl) (stw.e3_ne rfl (stw.dr_same hc.1))
      · refine fun w8 hc v1 h1 K hK => ?_
        have h1 := stw.r3_out rfl h1
        obtain rfl : v1 = .agg #[.int .i64 f.Kind, .int .i64 f.From, .int .i64 f.To, .int .i64 f.Seq, .int .i64 f.Fragment, .bool f.More, .bool f.Retry, .int .i64 f.Duration, .slice Af nf cf] := h1
        (try simp only [Act.put, List.setIfInBounds_toArray, List.set_cons_zero, List.set_cons_succ])
        obtain ⟨cur, hcur, hXc⟩ := hc.2.2.2.2.1
        refine stw.step_store rfl 25 _ _ rfl (w.heap.size) #[.int .i64 f.Kind, .int .i64 f.From, .int .i64 f.To, .int .i64 f.Seq, .int .i64 f.Fragment, .bool f.More, .bool f.Retry, .int .i64 f.Duration, .slice Af nf cf] rfl rfl 25 _ hXc (by rw [hcur]; rfl) fr.szFra (fr.oneFra _ _ _ _ _ _ _ _ _ _ _) ?_
        intro wz hz
        exact hK undef _ (stw.r3_put rfl hz.box) (stw.e3_put rfl hz)
      · refine fun w8 hc v2 h2 K hK => ?_
        have h2 := stw.r3_out rfl h2
        obtain rfl : v2 = .int .i64 k := h2
        (try simp only [Act.put, List.setIfInBounds_toArray, List.set_cons_zero, List.set_cons_succ])
        go_simp
        exact hK (.int .i64 k) _ (stw.r3_ne rfl rfl) (stw.e3_ne rfl (stw.dr_same hc.1))
      refine fun w9 hc v0 h0 v1 h1 v2 h2 v3 h3 v5 h5 => ?_
      have h0 := stw.r3_out rfl h0
      obtain rfl : v0 = .slice A n c := h0
      have h1 := stw.r3_out rfl h1
      obtain rfl : v1 = .agg #[.int .i64 f.Kind, .int .i64 f.From, .int .i64 f.To, .int .i64 f.Seq, .int .i64 f.Fragment, .bool f.More, .bool f.Retry, .int .i64 f.Duration, .slice Af nf cf] := h1
      have h2 := stw.r3_out rfl h2
      obtain rfl : v2 = .int .i64 k := h2
      have h3 := stw.r3_out rfl h3
      obtain rfl : v3 = .slice A n c := h3
      have h5 := stw.r3_out rfl h5
      obtain rfl : v5 = .int .i64 k := h5
      (try simp only [reg.Obs])
      intro hrf
      have hrf2 := hrf
      clear hrf
      have g4 := stw.r3_got rfl (hrf2 (4, 50) (by simp) rfl)
      clear hrf2
      (try simp only [Act.put, List.setIfInBounds_toArray, List.set_cons_zero, List.set_cons_succ])
      have C7 := Lib.hid hc.1
      have H7 := Lib.hid hc.2.1
      have X7 := Lib.hid hc.2.2.1
      have O7 := Lib.hid hc.2.2.2.1
      have Z7 := Lib.hid (show Bx 25 w9 (w.heap.size) #[.int .i64 f.Kind, .int .i64 f.From, .int .i64 f.To, .int .i64 f.Seq, .int .i64 f.Fragment, .bool f.More, .bool f.Retry, .int .i64 f.Duration, .slice Af nf cf] from g4)
      clear hc g4 K6 C6 Z6 X6 O6
      go_wp2_with fail
      have B7 := Lib.hid (HB.out.trans (H7.out.below (by have h1 := LP.out; intro x hx; simp only [List.mem_cons, List.not_mem_nil, or_false] at hx; rcases hx with rfl | rfl <;> omega) HB.out.size))
      (try simp only [Exit.inBlock, Exit.then])
      refine bodyPost_ret (v := .tuple #[.slice A n c, .agg #[.int .i64 f.Kind, .int .i64 f.From, .int .i64 f.To, .int .i64 f.Seq, .int .i64 f.Fragment, .bool f.More, .bool f.Retry, .int .i64 f.Duration, .slice Af nf cf], .int .i64 k]) ?_ rfl ?_
      · rw [results_tct rfl]
        exact back_to Z7.out Try.underlying25 rfl fr.szFra rfl
      · exact ⟨A, n, c, l, _, _, f, Af, nf, cf, k, rfl, HNL.out, HSf.out, HK.out, (by have hlP := LP.out; have hlX := LX.out; have h0 := P0.out; have hs0 := LTZ.out; have hs1 := SS2.out; have hs2 := SS3.out; have hs3 := SS4.out; have hs4 := LWX.out; have hs5 := SS5.out; have hs6 := SS6.out; have hHB := HB.out.size; first | omega | (simp <;> omega)), oe_rq O7.out, B7.out⟩
    | false =>
      go_wp2_with fail
      (with_reducible refine (draw.below (n : Int) (by omega) _ p a len cap C6.out).mono ?_)
      rintro e w7 ⟨x, rfl, hx0, hx1, hk, hc⟩
      obtain ⟨i, rfl⟩ : ∃ i : Nat, x = (i : Int) := ⟨x.toNat, by omega⟩
      have hin : i < n := by have := hx1 (by omega); omega
      have SS7 := Lib.hid hk.size
      have K7 := Lib.hid (K6.out.trans hk)
      have C7 := Lib.hid (hc)
      have Z7 := Lib.hid (drk.bx_keep Z6.out hk (by have hlP := LP.out; have hlX := LX.out; have h0 := P0.out; have hs0 := LTZ.out; have hs1 := SS2.out; have hs2 := SS3.out; have hs3 := SS4.out; have hs4 := LWX.out; have hs5 := SS5.out; have hs6 := SS6.out; have hs7 := SS7.out; first | omega | (simp <;> omega)))
      have X7 := Lib.hid (drk.bx_keep X6.out hk (by have hlP := LP.out; have hlX := LX.out; have h0 := P0.out; have hs0 := LTZ.out; have hs1 := SS2.out; have hs2 := SS3.out; have hs3 := SS4.out; have hs4 := LWX.out; have hs5 := SS5.out; have hs6 := SS6.out; have hs7 := SS7.out; first | omega | (simp <;> omega)))
      have O7 := Lib.hid (oe_keep O6.out hk (by have hlP := LP.out; have hlX := LX.out; have h0 := P0.out; have hs0 := LTZ.out; have hs1 := SS2.out; have hs2 := SS3.out; have hs3 := SS4.out; have hs4 := LWX.out; have hs5 := SS5.out; have hs6 := SS6.out; have hs7 := SS7.out; first | omega | (simp <;> omega)))
      clear hk hc hx0 hx1 K6 C6 Z6 X6 O6
      obtain ⟨bq, offq, y, hA, hy, h1, h2, ce0, ce1, ce2, ce3⟩ := at_ (oe_rq O7.out) hin
      have HY := Lib.hid hy
      have HSY := Lib.hid (HNL.out.2 y (List.mem_of_getElem? hy))
      clear hy h1 h2
      have hinI : (i : Int) < n := by omega
      subst hA
      go_upto_region 7 with fail
      clear ce0 ce1 ce2 ce3
      obtain ⟨bn, hbb⟩ : ∃ b, w7.heap.size = b := ⟨_, rfl⟩
      generalize hW : w7.alloc (.cells #[.int .i64 y.From, .int .i64 y.Category, .int .i64 y.Seq, .int .i64 y.Fragment] 84) = w8
      have LN := Lib.hid (show wb.heap.size ≤ bn ∧ w.heap.size < bn ∧ bx < bn ∧ w2.heap.size ≤ bn by have h1 := K7.out.size; have h2Z := Z7.out.lt; have h2X := X7.out.lt; have h2O := O7.out.hi_; have h3 := hbb; omega)
      have N8 := Lib.hid (show Bx 84 w8 bn #[.int .i64 y.From, .int .i64 y.Category, .int .i64 y.Seq, .int .i64 y.Fragment] by rw [← hW, ← hbb]; exact Bx.made _ _ _)
      have hb : Below w7.heap.size w7 w8 := by rw [← hW]; exact below_box _ _
      (try rw [hbb])
      clear hW hbb
      have SS8 := Lib.hid hb.size
      have K8 := Lib.hid (drk.later K7.out K7.out.size hb)
      have C8 := Lib.hid (drk.cur_below C7.out hb)
      have Z8 := Lib.hid (Z7.out.below hb)
      have X8 := Lib.hid (X7.out.below hb)
      have O8 := Lib.hid (O7.out.below hb)
      clear hb K7 C7 Z7 X7 O7
      have LWN := Lib.hid N8.out.lt
      have cN0 : w8.cell? ⟨bn, 0, none⟩ = some (.int .i64 y.From) := N8.out.cell 0
      have cX1 : w8.cell? ⟨bx, 1, none⟩ = some (.int .i64 f.From) := X8.out.cell 1
      have fX1 : w8.frozen? ⟨bx, 1, none⟩ = false := X8.out.free 1
      go_upto_region 8 with fail
      clear cN0 cX1 fX1
      have BB := Lib.hid (show Below wb.heap.size w8 (w8.setCell ⟨bx, 1, none⟩ (.int .i64 y.From)) from (Below.refl _ _).setCell (p := ⟨bx, 1, none⟩) (by have hlP := LP.out; have hlX := LX.out; have hlN := LN.out; have h0 := P0.out; have hs0 := LTZ.out; have hs1 := SS2.out; have hs2 := SS3.out; have hs3 := SS4.out; have hs4 := LWX.out; have hs5 := SS5.out; have hs6 := SS6.out; have hs7 := SS7.out; have hs8 := SS8.out; have hs9 := LWN.out; (try simp only []); omega) _)
      have hWW : (w8.setCell ⟨bx, 1, none⟩ (.int .i64 y.From)) = (w8.setCell ⟨bx, 1, none⟩ (.int .i64 y.From)) := rfl
      obtain ⟨w9, hW⟩ : ∃ wy, (w8.setCell ⟨bx, 1, none⟩ (.int .i64 y.From)) = wy := ⟨_, rfl⟩
      rw [hW]
      clear hWW
      have K9 := Lib.hid (drk.later K8.out (Nat.le_refl _) (hW ▸ BB.out))
      have C9 := Lib.hid (drk.cur_later CW.out K8.out C8.out (Nat.le_refl _) (hW ▸ BB.out))
      have Z9 := Lib.hid (show Bx 25 w9 (w.heap.size) #[.int .i64 0, .int .i64 0, .int .i64 0, .int .i64 0, .int .i64 0, .bool false, .bool false, .int .i64 0, .slice none 0 0] by rw [← hW]; exact (Z8.out.other (by have hlP := LP.out; have hlX := LX.out; have hlN := LN.out; have h0 := P0.out; have hs0 := LTZ.out; have hs1 := SS2.out; have hs2 := SS3.out; have hs3 := SS4.out; have hs4 := LWX.out; have hs5 := SS5.out; have hs6 := SS6.out; have hs7 := SS7.out; have hs8 := SS8.out; have hs9 := LWN.out; first | omega | (simp <;> omega)) _ _))
      have X9 := Lib.hid (show Bx 25 w9 (bx) #[.int .i64 f.Kind, .int .i64 y.From, .int .i64 f.To, .int .i64 f.Seq, .int .i64 f.Fragment, .bool f.More, .bool f.Retry, .int .i64 f.Duration, .slice Af nf cf] by rw [← hW]; exact (X8.out.set 1 _))
      have N9 := Lib.hid (show Bx 84 w9 (bn) #[.int .i64 y.From, .int .i64 y.Category, .int .i64 y.Seq, .int .i64 y.Fragment] by rw [← hW]; exact (N8.out.other (by have hlP := LP.out; have hlX := LX.out; have hlN := LN.out; have h0 := P0.out; have hs0 := LTZ.out; have hs1 := SS2.out; have hs2 := SS3.out; have hs3 := SS4.out; have hs4 := LWX.out; have hs5 := SS5.out; have hs6 := SS6.out; have hs7 := SS7.out; have hs8 := SS8.out; have hs9 := LWN.out; first | omega | (simp <;> omega)) _ _))
      have O9 := Lib.hid (show Oe senS w9 wb.heap.size w2.heap.size (some ⟨bq, offq, none⟩) n c (l.map el) by rw [← hW]; exact (rgp.oe_setCell O8.out X8.out (by decide) (by decide) 1 _))
      clear hW BB K8 C8 Z8 X8 N8 O8
      have SQ9 := Lib.hid X9.out.lt
      have cN2 : w9.cell? ⟨bn, 2, none⟩ = some (.int .i64 y.Seq) := N9.out.cell 2
      have cX3 : w9.cell? ⟨bx, 3, none⟩ = some (.int .i64 f.Seq) := X9.out.cell 3
      have fX3 : w9.frozen? ⟨bx, 3, none⟩ = false := X9.out.free 3
      go_upto_region 9 with fail
      clear cN2 cX3 fX3
      have BB := Lib.hid (show Below wb.heap.size w9 (w9.setCell ⟨bx, 3, none⟩ (.int .i64 y.Seq)) from (Below.refl _ _).setCell (p := ⟨bx, 3, none⟩) (by have hlP := LP.out; have hlX := LX.out; have hlN := LN.out; have h0 := P0.out; have hs0 := LTZ.out; have hs1 := SS2.out; have hs2 := SS3.out; have hs3 := SS4.out; have hs4 := LWX.out; have hs5 := SS5.out; have hs6 := SS6.out; have hs7 := SS7.out; have hs8 := SS8.out; have hs9 := LWN.out; have hs10 := SQ9.out; (try simp only []); omega) _)
      have hWW : (w9.setCell ⟨bx, 3, none⟩ (.int .i64 y.Seq)) = (w9.setCell ⟨bx, 3, none⟩ (.int .i64 y.Seq)) := rfl
      obtain ⟨w10, hW⟩ : ∃ wy, (w9.setCell ⟨bx, 3, none⟩ (.int .i64 y.Seq)) = wy := ⟨_, rfl⟩
      rw [hW]
      clear hWW
      have K10 := Lib.hid (drk.later K9.out (Nat.le_refl _) (hW ▸ BB.out))
      have C10 := Lib.hid (drk.cur_later CW.out K9.out C9.out (Nat.le_refl _) (hW ▸ BB.out))
      have Z10 := Lib.hid (show Bx 25 w10 (w.heap.size) #[.int .i64 0, .int .i64 0, .int .i64 0, .int .i64 0, .int .i64 0, .bool false, .bool false, .int .i64 0, .slice none 0 0] by rw [← hW]; exact (Z9.out.other (by have hlP := LP.out; have hlX := LX.out; have hlN := LN.out; have h0 := P0.out; have hs0 := LTZ.out; have hs1 := SS2.out; have hs2 := SS3.out; have hs3 := SS4.out; have hs4 := LWX.out; have hs5 := SS5.out; have hs6 := SS6.out; have hs7 := SS7.out; have hs8 := SS8.out; have hs9 := LWN.out; have hs10 := SQ9.out; first | omega | (simp <;> omega)) _ _))
      have X10 := Lib.hid (show Bx 25 w10 (bx) #[.int .i64 f.Kind, .int .i64 y.From, .int .i64 f.To, .int .i64 y.Seq, .int .i64 f.Fragment, .bool f.More, .bool f.Retry, .int .i64 f.Duration, .slice Af nf cf] by rw [← hW]; exact (X9.out.set 3 _))
      have N10 := Lib.hid (show Bx 84 w10 (bn) #[.int .i64 y.From, .int .i64 y.Category, .int .i64 y.Seq, .int .i64 y.Fragment] by rw [← hW]; exact (N9.out.other (by have hlP := LP.out; have hlX := LX.out; have hlN := LN.out; have h0 := P0.out; have hs0 := LTZ.out; have hs1 := SS2.out; have hs2 := SS3.out; have hs3 := SS4.out; have hs4 := LWX.out; have hs5 := SS5.out; have hs6 := SS6.out; have hs7 := SS7.out; have hs8 := SS8.out; have hs9 := LWN.out; have hs10 := SQ9.out; first | omega | (simp <;> omega)) _ _))
      have O10 := Lib.hid (show Oe senS w10 wb.heap.size w2.heap.size (some ⟨bq, offq, none⟩) n c (l.map el) by rw [← hW]; exact (rgp.oe_setCell O9.out X9.out (by decide) (by decide) 3 _))
      clear hW BB K9 C9 Z9 X9 N9 O9
      have SQ10 := Lib.hid X10.out.lt
      have cN3 : w10.cell? ⟨bn, 3, none⟩ = some (.int .i64 y.Fragment) := N10.out.cell 3
      have cX4 : w10.cell? ⟨bx, 4, none⟩ = some (.int .i64 f.Fragment) := X10.out.cell 4
      have fX4 : w10.frozen? ⟨bx, 4, none⟩ = false := X10.out.free 4
      go_upto_region 10 with fail
      clear cN3 cX4 fX4
      have BB := Lib.hid (show Below wb.heap.size w10 (w10.setCell ⟨bx, 4, none⟩ (.int .i64 y.Fragment)) from (Below.refl _ _).setCell (p := ⟨bx, 4, none⟩) (by have hlP := LP.out; have hlX := LX.out; have hlN := LN.out; have h0 := P0.out; have hs0 := LTZ.out; have hs1 := SS2.out; have hs2 := SS3.out; have hs3 := SS4.out; have hs4 := LWX.out; have hs5 := SS5.out; have hs6 := SS6.out; have hs7 := SS7.out; have hs8 := SS8.out; have hs9 := LWN.out; have hs10 := SQ9.out; have hs11 := SQ10.out; (try simp only []); omega) _)
      have hWW : (w10.setCell ⟨bx, 4, none⟩ (.int .i64 y.Fragment)) = (w10.setCell ⟨bx, 4, none⟩ (.int .i64 y.Fragment)) := rfl
      obtain ⟨w11, hW⟩ : ∃ wy, (w10.setCell ⟨bx, 4, none⟩ (.int .i64 y.Fragment)) = wy := ⟨_, rfl⟩
      rw [hW]
      clear hWW
      have K11 := Lib.hid (drk.later K10.out (Nat.le_refl _) (hW ▸ BB.out))
      have C11 := Lib.hid (drk.cur_later CW.out K10.out C10.out (Nat.le_refl _) (hW ▸ BB.out))
      have Z11 := Lib.hid (show Bx 25 w11 (w.heap.size) #[.int .i64 0, .int .i64 0, .int .i64 0, .int .i64 0, .int .i64 0, .bool false, .bool false, .int .i64 0, .slice none 0 0] by rw [← hW]; exact (Z10.out.other (by have hlP := LP.out; have hlX := LX.out; have hlN := LN.out; have h0 := P0.out; have hs0 := LTZ.out; have hs1 := SS2.out; have hs2 := SS3.out; have hs3 := SS4.out; have hs4 := LWX.out; have hs5 := SS5.out; have hs6 := SS6.out; have hs7 := SS7.out; have hs8 := SS8.out; have hs9 := LWN.out; have hs10 := SQ9.out; have hs11 := SQ10.out; first | omega | (simp <;> omega)) _ _))
      have X11 := Lib.hid (show Bx 25 w11 (bx) #[.int .i64 f.Kind, .int .i64 y.From, .int .i64 f.To, .int .i64 y.Seq, .int .i64 y.Fragment, .bool f.More, .bool f.Retry, .int .i64 f.Duration, .slice Af nf cf] by rw [← hW]; exact (X10.out.set 4 _))
      have N11 := Lib.hid (show Bx 84 w11 (bn) #[.int .i64 y.From, .int .i64 y.Category, .int .i64 y.Seq, .int .i64 y.Fragment] by rw [← hW]; exact (N10.out.other (by have hlP := LP.out; have hlX := LX.out; have hlN := LN.out; have h0 := P0.out; have hs0 := LTZ.out; have hs1 := SS2.out; have hs2 := SS3.out; have hs3 := SS4.out; have hs4 := LWX.out; have hs5 := SS5.out; have hs6 := SS6.out; have hs7 := SS7.out; have hs8 := SS8.out; have hs9 := LWN.out; have hs10 := SQ9.out; have hs11 := SQ10.out; first | omega | (simp <;> omega)) _ _))
      have O11 := Lib.hid (show Oe senS w11 wb.heap.size w2.heap.size (some ⟨bq, offq, none⟩) n c (l.map el) by rw [← hW]; exact (rgp.oe_setCell O10.out X10.out (by decide) (by decide) 4 _))
      clear hW BB K10 C10 Z10 X10 N10 O10
      have SQ11 := Lib.hid X11.out.lt
      go_wp2_with fail
      (with_reducible refine (draw.once 4 (by omega) _ p a len cap C11.out).mono ?_)
      rintro e w12 ⟨b1, rfl, hk, hc⟩
      have SS12 := Lib.hid hk.size
      have K12 := Lib.hid (K11.out.trans hk)
      have C12 := Lib.hid (hc)
      have Z12 := Lib.hid (drk.bx_keep Z11.out hk (by have hlP := LP.out; have hlX := LX.out; have hlN := LN.out; have h0 := P0.out; have hs0 := LTZ.out; have hs1 := SS2.out; have hs2 := SS3.out; have hs3 := SS4.out; have hs4 := LWX.out; have hs5 := SS5.out; have hs6 := SS6.out; have hs7 := SS7.out; have hs8 := SS8.out; have hs9 := LWN.out; have hs10 := SQ9.out; have hs11 := SQ10.out; have hs12 := SQ11.out; have hs13 := SS12.out; first | omega | (simp <;> omega)))
      have X12 := Lib.hid (drk.bx_keep X11.out hk (by have hlP := LP.out; have hlX := LX.out; have hlN := LN.out; have h0 := P0.out; have hs0 := LTZ.out; have hs1 := SS2.out; have hs2 := SS3.out; have hs3 := SS4.out; have hs4 := LWX.out; have hs5 := SS5.out; have hs6 := SS6.out; have hs7 := SS7.out; have hs8 := SS8.out; have hs9 := LWN.out; have hs10 := SQ9.out; have hs11 := SQ10.out; have hs12 := SQ11.out; have hs13 := SS12.out; first | omega | (simp <;> omega)))
      have N12 := Lib.hid (drk.bx_keep N11.out hk (by have hlP := LP.out; have hlX := LX.out; have hlN := LN.out; have h0 := P0.out; have hs0 := LTZ.out; have hs1 := SS2.out; have hs2 := SS3.out; have hs3 := SS4.out; have hs4 := LWX.out; have hs5 := SS5.out; have hs6 := SS6.out; have hs7 := SS7.out; have hs8 := SS8.out; have hs9 := LWN.out; have hs10 := SQ9.out; have hs11 := SQ10.out; have hs12 := SQ11.out; have hs13 := SS12.out; first | omega | (simp <;> omega)))
      have O12 := Lib.hid (oe_keep O11.out hk (by have hlP := LP.out; have hlX := LX.out; have hlN := LN.out; have h0 := P0.out; have hs0 := LTZ.out; have hs1 := SS2.out; have hs2 := SS3.out; have hs3 := SS4.out; have hs4 := LWX.out; have hs5 := SS5.out; have hs6 := SS6.out; have hs7 := SS7.out; have hs8 := SS8.out; have hs9 := LWN.out; have hs10 := SQ9.out; have hs11 := SQ10.out; have hs12 := SQ11.out; have hs13 := SS12.out; first | omega | (simp <;> omega)))
      clear hk hc  K11 C11 Z11 X11 N11 O11
      obtain ⟨r, hr⟩ : ∃ r, (!b1) = r := ⟨_, rfl⟩
      have cX6 : w12.cell? ⟨bx, 6, none⟩ = some (.bool f.Retry) := X12.out.cell 6
      have fX6 : w12.frozen? ⟨bx, 6, none⟩ = false := X12.out.free 6
      go_upto_region 11 with fail
      clear cX6 fX6
      have BB := Lib.hid (show Below wb.heap.size w12 (w12.setCell ⟨bx, 6, none⟩ (.bool r)) from (Below.refl _ _).setCell (p := ⟨bx, 6, none⟩) (by have hlP := LP.out; have hlX := LX.out; have hlN := LN.out; have h0 := P0.out; have hs0 := LTZ.out; have hs1 := SS2.out; have hs2 := SS3.out; have hs3 := SS4.out; have hs4 := LWX.out; have hs5 := SS5.out; have hs6 := SS6.out; have hs7 := SS7.out; have hs8 := SS8.out; have hs9 := LWN.out; have hs10 := SQ9.out; have hs11 := SQ10.out; have hs12 := SQ11.out; have hs13 := SS12.out; (try simp only []); omega) _)
      have hWW : (w12.setCell ⟨bx, 6, none⟩ (.bool r)) = (w12.setCell ⟨bx, 6, none⟩ (.bool r)) := rfl
      obtain ⟨w13, hW⟩ : ∃ wy, (w12.setCell ⟨bx, 6, none⟩ (.bool r)) = wy := ⟨_, rfl⟩
      rw [hW]
      clear hWW
      have K13 := Lib.hid (drk.later K12.out (Nat.le_refl _) (hW ▸ BB.out))
      have C13 := Lib.hid (drk.cur_later CW.out K12.out C12.out (Nat.le_refl _) (hW ▸ BB.out))
      have Z13 := Lib.hid (show Bx 25 w13 (w.heap.size) #[.int .i64 0, .int .i64 0, .int .i64 0, .int .i64 0, .int .i64 0, .bool false, .bool false, .int .i64 0, .slice none 0 0] by rw [← hW]; exact (Z12.out.other (by have hlP := LP.out; have hlX := LX.out; have hlN := LN.out; have h0 := P0.out; have hs0 := LTZ.out; have hs1 := SS2.out; have hs2 := SS3.out; have hs3 := SS4.out; have hs4 := LWX.out; have hs5 := SS5.out; have hs6 := SS6.out; have hs7 := SS7.out; have hs8 := SS8.out; have hs9 := LWN.out; have hs10 := SQ9.out; have hs11 := SQ10.out; have hs12 := SQ11.out; have hs13 := SS12.out; first | omega | (simp <;> omega)) _ _))
      have X13 := Lib.hid (show Bx 25 w13 (bx) #[.int .i64 f.Kind, .int .i64 y.From, .int .i64 f.To, .int .i64 y.Seq, .int .i64 y.Fragment, .bool f.More, .bool r, .int .i64 f.Duration, .slice Af nf cf] by rw [← hW]; exact (X12.out.set 6 _))
      have N13 := Lib.hid (show Bx 84 w13 (bn) #[.int .i64 y.From, .int .i64 y.Category, .int .i64 y.Seq, .int .i64 y.Fragment] by rw [← hW]; exact (N12.out.other (by have hlP := LP.out; have hlX := LX.out; have hlN := LN.out; have h0 := P0.out; have hs0 := LTZ.out; have hs1 := SS2.out; have hs2 := SS3.out; have hs3 := SS4.out; have hs4 := LWX.out; have hs5 := SS5.out; have hs6 := SS6.out; have hs7 := SS7.out; have hs8 := SS8.out; have hs9 := LWN.out; have hs10 := SQ9.out; have hs11 := SQ10.out; have hs12 := SQ11.out; have hs13 := SS12.out; first | omega | (simp <;> omega)) _ _))
      have O13 := Lib.hid (show Oe senS w13 wb.heap.size w2.heap.size (some ⟨bq, offq, none⟩) n c (l.map el) by rw [← hW]; exact (rgp.oe_setCell O12.out X12.out (by decide) (by decide) 6 _))
      clear hW BB K12 C12 Z12 X12 N12 O12
      have SQ13 := Lib.hid X13.out.lt
      clear hr
      have cN1 : w13.cell? ⟨bn, 1, none⟩ = some (.int .i64 y.Category) := N13.out.cell 1
      go_upto_region 12 with fail
      clear cN1
      clear hn0 hinI
      refine reg.region_free (stw.E3 (drk.Dr p a len cap) [(4, ⟨25, w.heap.size, #[.int .i64 f.Kind, .int .i64 y.From, .int .i64 f.To, .int .i64 y.Seq, .int .i64 y.Fragment, .bool f.More, .bool r, .int .i64 f.Duration, .slice Af nf cf]⟩)]) 52 [(4, 50)] [some [], some [], some [], some [(0, 49)], some [(1, 50)], some [(2, 51)]] [(0, 49), (1, 50), (2, 51), (3, 2), (5, 4)]
        (fun w' => Cur w' p a len cap ∧ stw.KS [p, w.heap.size] wb w' ∧ Bx 25 w' (bx) #[.int .i64 f.Kind, .int .i64 y.From, .int .i64 f.To, .int .i64 y.Seq, .int .i64 y.Fragment, .bool f.More, .bool r, .int .i64 f.Duration, .slice Af nf cf] ∧ Bx 84 w' (bn) #[.int .i64 y.From, .int .i64 y.Category, .int .i64 y.Seq, .int .i64 y.Fragment] ∧ Oe senS w' wb.heap.size w2.heap.size (some ⟨bq, offq, none⟩) n c (l.map el) ∧ stw.Lies 25 (w.heap.size) 9 w' ∧ True)
        (stw.r3 (drk.Dr p a len cap) [(4, ⟨25, w.heap.size, #[.int .i64 f.Kind, .int .i64 y.From, .int .i64 f.To, .int .i64 y.Seq, .int .i64 y.Fragment, .bool f.More, .bool r, .int .i64 f.Duration, .slice Af nf cf]⟩)] [stw.is3 (drk.Dr p a len cap) [(4, ⟨25, w.heap.size, #[.int .i64 f.Kind, .int .i64 y.From, .int .i64 f.To, .int .i64 y.Seq, .int .i64 y.Fragment, .bool f.More, .bool r, .int .i64 f.Duration, .slice Af nf cf]⟩)] (.slice (some ⟨bq, offq, none⟩) n c), stw.is3 (drk.Dr p a len cap) [(4, ⟨25, w.heap.size, #[.int .i64 f.Kind, .int .i64 y.From, .int .i64 f.To, .int .i64 y.Seq, .int .i64 y.Fragment, .bool f.More, .bool r, .int .i64 f.Duration, .slice Af nf cf]⟩)] (.agg #[.int .i64 f.Kind, .int .i64 y.From, .int .i64 f.To, .int .i64 y.Seq, .int .i64 y.Fragment, .bool f.More, .bool r, .int .i64 f.Duration, .slice Af nf cf]), stw.is3 (drk.Dr p a len cap) [(4, ⟨25, w.heap.size, #[.int .i64 f.Kind, .int .i64 y.From, .int .i64 f.To, .int .i64 y.Seq, .int .i64 y.Fragment, .bool f.More, .bool r, .int .i64 f.Duration, .slice Af nf cf]⟩)] (.int .i64 y.Category), stw.is3 (drk.Dr p a len cap) [(4, ⟨25, w.heap.size, #[.int .i64 f.Kind, .int .i64 y.From, .int .i64 f.To, .int .i64 y.Seq, .int .i64 y.Fragment, .bool f.More, .bool r, .int .i64 f.Duration, .slice Af nf cf]⟩)] (.slice (some ⟨bq, offq, none⟩) n c), stw.val3 (drk.Dr p a len cap) [(4, ⟨25, w.heap.size, #[.int .i64 f.Kind, .int .i64 y.From, .int .i64 f.To, .int .i64 y.Seq, .int .i64 y.Fragment, .bool f.More, .bool r, .int .i64 f.Duration, .slice Af nf cf]⟩)] fun _ => True, stw.is3 (drk.Dr p a len cap) [(4, ⟨25, w.heap.size, #[.int .i64 f.Kind, .int .i64 y.From, .int .i64 f.To, .int .i64 y.Seq, .int .i64 y.Fragment, .bool f.More, .bool r, .int .i64 f.Duration, .slice Af nf cf]⟩)] (.int .i64 y.Category)])
        (by kernel_rfl) (by kernel_rfl) rfl
        (fun i w1 w2 hc he => he.cases (fun hb => ⟨hb.2, hc.2.1.trans (stw.KS.keep hb.1 (by simp)), drk.bx_keep hc.2.2.1 hb.1 (by have hlP := LP.out; have hlX := LX.out; have hlN := LN.out; have h0 := P0.out; have hs0 := LTZ.out; have hs1 := SS2.out; have hs2 := SS3.out; have hs3 := SS4.out; have hs4 := LWX.out; have hs5 := SS5.out; have hs6 := SS6.out; have hs7 := SS7.out; have hs8 := SS8.out; have hs9 := LWN.out; have hs10 := SQ9.out; have hs11 := SQ10.out; have hs12 := SQ11.out; have hs13 := SS12.out; have hs14 := SQ13.out; first | omega | (simp <;> omega)), drk.bx_keep hc.2.2.2.1 hb.1 (by have hlP := LP.out; have hlX := LX.out; have hlN := LN.out; have h0 := P0.out; have hs0 := LTZ.out; have hs1 := SS2.out; have hs2 := SS3.out; have hs3 := SS4.out; have hs4 := LWX.out; have hs5 := SS5.out; have hs6 := SS6.out; have hs7 := SS7.out; have hs8 := SS8.out; have hs9 := LWN.out; have hs10 := SQ9.out; have hs11 := SQ10.out; have hs12 := SQ11.out; have hs13 := SS12.out; have hs14 := SQ13.out; first | omega | (simp <;> omega)), oe_keep hc.2.2.2.2.1 hb.1 (by have hlP := LP.out; have hlX := LX.out; have hlN := LN.out; have h0 := P0.out; have hs0 := LTZ.out; have hs1 := SS2.out; have hs2 := SS3.out; have hs3 := SS4.out; have hs4 := LWX.out; have hs5 := SS5.out; have hs6 := SS6.out; have hs7 := SS7.out; have hs8 := SS8.out; have hs9 := LWN.out; have hs10 := SQ9.out; have hs11 := SQ10.out; have hs12 := SQ11.out; have hs13 := SS12.out; have hs14 := SQ13.out; first | omega | (simp <;> omega)), (hc.2.2.2.2.2.1).same (hb.1.block _ (hc.2.2.2.2.2.1).lt (by have hlP := LP.out; have hlX := LX.out; have hlN := LN.out; have h0 := P0.out; have hs0 := LTZ.out; have hs1 := SS2.out; have hs2 := SS3.out; have hs3 := SS4.out; have hs4 := LWX.out; have hs5 := SS5.out; have hs6 := SS6.out; have hs7 := SS7.out; have hs8 := SS8.out; have hs9 := LWN.out; have hs10 := SQ9.out; have hs11 := SQ10.out; have hs12 := SQ11.out; have hs13 := SS12.out; have hs14 := SQ13.out; first | omega | (simp <;> omega))), trivial⟩) (fun x hx hp => by
          simp only [List.mem_cons, List.not_mem_nil, or_false] at hx
          rcases hx with rfl
          · have hp : stw.Put 25 w1 (w.heap.size) #[.int .i64 f.Kind, .int .i64 y.From, .int .i64 f.To, .int .i64 y.Seq, .int .i64 y.Fragment, .bool f.More, .bool r, .int .i64 f.Duration, .slice Af nf cf] w2 := hp; exact ⟨stw.cur_put HC.out hc.1 hp (by have hlP := LP.out; have hlX := LX.out; have hlN := LN.out; have h0 := P0.out; have hs0 := LTZ.out; have hs1 := SS2.out; have hs2 := SS3.out; have hs3 := SS4.out; have hs4 := LWX.out; have hs5 := SS5.out; have hs6 := SS6.out; have hs7 := SS7.out; have hs8 := SS8.out; have hs9 := LWN.out; have hs10 := SQ9.out; have hs11 := SQ10.out; have hs12 := SQ11.out; have hs13 := SS12.out; have hs14 := SQ13.out; first | omega | (simp <;> omega)) (by have hlP := LP.out; have hlX := LX.out; have hlN := LN.out; have h0 := P0.out; have hs0 := LTZ.out; have hs1 := SS2.out; have hs2 := SS3.out; have hs3 := SS4.out; have hs4 := LWX.out; have hs5 := SS5.out; have hs6 := SS6.out; have hs7 := SS7.out; have hs8 := SS8.out; have hs9 := LWN.out; have hs10 := SQ9.out; have hs11 := SQ10.out; have hs12 := SQ11.out; have hs13 := SS12.out; have hs14 := SQ13.out; first | omega | (simp <;> omega)), hc.2.1.trans (stw.KS.put hp (by simp)), hp.keep hc.2.2.1 (by have hlP := LP.out; have hlX := LX.out; have hlN := LN.out; have h0 := P0.out; have hs0 := LTZ.out; have hs1 := SS2.out; have hs2 := SS3.out; have hs3 := SS4.out; have hs4 := LWX.out; have hs5 := SS5.out; have hs6 := SS6.out; have hs7 := SS7.out; have hs8 := SS8.out; have hs9 := LWN.out; have hs10 := SQ9.out; have hs11 := SQ10.out; have hs12 := SQ11.out; have hs13 := SS12.out; have hs14 := SQ13.out; first | omega | (simp <;> omega)), hp.keep hc.2.2.2.1 (by have hlP := LP.out; have hlX := LX.out; have hlN := LN.out; have h0 := P0.out; have hs0 := LTZ.out; have hs1 := SS2.out; have hs2 := SS3.out; have hs3 := SS4.out; have hs4 := LWX.out; have hs5 := SS5.out; have hs6 := SS6.out; have hs7 := SS7.out; have hs8 := SS8.out; have hs9 := LWN.out; have hs10 := SQ9.out; have hs11 := SQ10.out; have hs12 := SQ11.out; have hs13 := SS12.out; have hs14 := SQ13.out; first | omega | (simp <;> omega)), (hc.2.2.2.2.1).same hp.below.size fun b h1 h2 => hp.other b (by have hlP := LP.out; have hlX := LX.out; have hlN := LN.out; have h0 := P0.out; have hs0 := LTZ.out; have hs1 := SS2.out; have hs2 := SS3.out; have hs3 := SS4.out; have hs4 := LWX.out; have hs5 := SS5.out; have hs6 := SS6.out; have hs7 := SS7.out; have hs8 := SS8.out; have hs9 := LWN.out; have hs10 := SQ9.out; have hs11 := SQ10.out; have hs12 := SQ11.out; have hs13 := SS12.out; have hs14 := SQ13.out; first | omega | (simp <;> omega)), (hc.2.2.2.2.2.1).put hp (fun e => ⟨rfl, rfl⟩), trivial⟩))
        (stw.r3_keep (fun b => b ≠ p) (fun h hb hX => drk.bx_keep hX h.1 hb) (by intro x hx; simp only [List.mem_cons, List.not_mem_nil, or_false] at hx; rcases hx with rfl <;> (have hlP := LP.out; have hlX := LX.out; have hlN := LN.out; have h0 := P0.out; have hs0 := LTZ.out; have hs1 := SS2.out; have hs2 := SS3.out; have hs3 := SS4.out; have hs4 := LWX.out; have hs5 := SS5.out; have hs6 := SS6.out; have hs7 := SS7.out; have hs8 := SS8.out; have hs9 := LWN.out; have hs10 := SQ9.out; have hs11 := SQ10.out; have hs12 := SQ11.out; have hs13 := SS12.out; have hs14 := SQ13.out; dsimp only; omega)) (by intro x hx y hy hxy; simp only [List.mem_cons, List.not_mem_nil, or_false] at hx hy; rcases hx with rfl <;> rcases hy with rfl <;> first | exact absurd rfl hxy | (have hlP := LP.out; have hlX := LX.out; have hlN := LN.out; have h0 := P0.out; have hs0 := LTZ.out; have hs1 := SS2.out; have hs2 := SS3.out; have hs3 := SS4.out; have hs4 := LWX.out; have hs5 := SS5.out; have hs6 := SS6.out; have hs7 := SS7.out; have hs8 := SS8.out; have hs9 := LWN.out; have hs10 := SQ9.out; have hs11 := SQ10.out; have hs12 := SQ11.out; have hs13 := SS12.out; have hs14 := SQ13.out; dsimp only; omega)) _) (⟨show Cur w13.drew p a len cap from C13.out, (stw.KS.keep K13.out (by simp)).trans (stw.KS.keep (Keep.drew (Keep.refl p _)) (by simp)), X13.out.same rfl, N13.out.same rfl, (O13.out.same (Nat.le_refl _) (fun _ _ _ => rfl)), (stw.Lies.of Z13.out).same rfl, trivial⟩) (by kernel_rfl) ⟨?_, ?_, ?_, ?_, ?_, ?_, trivial⟩ ?_
      · refine fun w8 hc  K hK => ?_
        (try simp only [Act.put, List.setIfInBounds_toArray, List.set_cons_zero, List.set_cons_succ])
        go_simp
        exact hK (.slice (some ⟨bq, offq, none⟩) n c) _ (stw.r3_ne rfl rfl) (stw.e3_ne rfl (stw.dr_same hc.1))
      · refine fun w8 hc  K hK => ?_
        (try simp only [Act.put, List.setIfInBounds_toArray, List.set_cons_zero, List.set_cons_succ])
        rw [if_pos (by rfl)]
        refine stw.wp_load_bx 25 _ rfl (bx) rfl 25 _ hc.2.2.1 Try.underlying25 rfl fr.szFra ?_
        exact hK _ _ (stw.r3_ne rfl rfl) (stw.e3_ne rfl (stw.dr_same hc.1))
      · refine fun w8 hc  K hK => ?_
        (try simp only [Act.put, List.setIfInBounds_toArray, List.set_cons_zero, List.set_cons_succ])
        go_simp
        exact hK (.int .i64 y.Category) _ (stw.r3_ne rfl rfl) (stw.e3_ne rfl (stw.dr_same hc.1))
      · refine fun w8 hc v0 h0 K hK => ?_
        have h0 := stw.r3_out rfl h0
        obtain rfl : v0 = .slice (some ⟨bq, offq, none⟩) n c := h0
        (try simp only [Act.put, List.setIfInBounds_toArray, List.set_cons_zero, List.set_cons_succ])
        go_simp
        exact hK (.slice (some ⟨bq, offq, none⟩) n c) _ (stw.r3_ne rfl rfl) (stw.e3_ne rfl (stw.dr_same hc.1))
      · refine fun w8 hc v1 h1 K hK => ?_
        have h1 := stw.r3_out rfl h1
        obtain rfl : v1 = .agg #[.int .i64 f.Kind, .int .i64 y.From, .int .i64 f.To, .int .i64 y.Seq, .int .i64 y.Fragment, .bool f.More, .bool r, .int .i64 f.Duration, .slice Af nf cf] := h1
        (try simp only [Act.put, List.setIfInBounds_toArray, List.set_cons_zero, List.set_cons_succ])
        obtain ⟨cur, hcur, hXc⟩ := hc.2.2.2.2.2.1
        refine stw.step_store rfl 25 _ _ rfl (w.heap.size) #[.int .i64 f.Kind, .int .i64 y.From, .int .i64 f.To, .int .i64 y.Seq, .int .i64 y.Fragment, .bool f.More, .bool r, .int .i64 f.Duration, .slice Af nf cf] rfl rfl 25 _ hXc (by rw [hcur]; rfl) fr.szFra (fr.oneFra _ _ _ _ _ _ _ _ _ _ _) ?_
        intro wz hz
        exact hK undef _ (stw.r3_put rfl hz.box) (stw.e3_put rfl hz)
      · refine fun w8 hc v2 h2 K hK => ?_
        have h2 := stw.r3_out rfl h2
        obtain rfl : v2 = .int .i64 y.Category := h2
        (try simp only [Act.put, List.setIfInBounds_toArray, List.set_cons_zero, List.set_cons_succ])
        go_simp
        exact hK (.int .i64 y.Category) _ (stw.r3_ne rfl rfl) (stw.e3_ne rfl (stw.dr_same hc.1))
      refine fun w9 hc v0 h0 v1 h1 v2 h2 v3 h3 v5 h5 => ?_
      have h0 := stw.r3_out rfl h0
      obtain rfl : v0 = .slice (some ⟨bq, offq, none⟩) n c := h0
      have h1 := stw.r3_out rfl h1
      obtain rfl : v1 = .agg #[.int .i64 f.Kind, .int .i64 y.From, .int .i64 f.To, .int .i64 y.Seq, .int .i64 y.Fragment, .bool f.More, .bool r, .int .i64 f.Duration, .slice Af nf cf] := h1
      have h2 := stw.r3_out rfl h2
      obtain rfl : v2 = .int .i64 y.Category := h2
      have h3 := stw.r3_out rfl h3
      obtain rfl : v3 = .slice (some ⟨bq, offq, none⟩) n c := h3
      have h5 := stw.r3_out rfl h5
      obtain rfl : v5 = .int .i64 y.Category := h5
      (try simp only [reg.Obs])
      intro hrf
      have hrf2 := hrf
      clear hrf
      have g4 := stw.r3_got rfl (hrf2 (4, 50) (by simp) rfl)
      clear hrf2
      (try simp only [Act.put, List.setIfInBounds_toArray, List.set_cons_zero, List.set_cons_succ])
      have C14 := Lib.hid hc.1
      have H14 := Lib.hid hc.2.1
      have X14 := Lib.hid hc.2.2.1
      have N14 := Lib.hid hc.2.2.2.1
      have O14 := Lib.hid hc.2.2.2.2.1
      have Z14 := Lib.hid (show Bx 25 w9 (w.heap.size) #[.int .i64 f.Kind, .int .i64 y.From, .int .i64 f.To, .int .i64 y.Seq, .int .i64 y.Fragment, .bool f.More, .bool r, .int .i64 f.Duration, .slice Af nf cf] from g4)
      clear hc g4 K13 C13 Z13 X13 N13 O13
      go_wp2_with fail
      have B14 := Lib.hid (HB.out.trans (H14.out.below (by have h1 := LP.out; intro x hx; simp only [List.mem_cons, List.not_mem_nil, or_false] at hx; rcases hx with rfl | rfl <;> omega) HB.out.size))
      (try simp only [Exit.inBlock, Exit.then])
      refine bodyPost_ret (v := .tuple #[.slice (some ⟨bq, offq, none⟩) n c, .agg #[.int .i64 f.Kind, .int .i64 y.From, .int .i64 f.To, .int .i64 y.Seq, .int .i64 y.Fragment, .bool f.More, .bool r, .int .i64 f.Duration, .slice Af nf cf], .int .i64 y.Category]) ?_ rfl ?_
      · rw [results_tct rfl]
        exact back_to Z14.out Try.underlying25 rfl fr.szFra rfl
      · exact ⟨_, n, c, l, _, _, ⟨f.Kind, y.From, f.To, y.Seq, y.Fragment, f.More, r, f.Duration, f.Body⟩, Af, nf, cf, y.Category, rfl, HNL.out, ⟨HSY.out.1, HSY.out.2.2.1, HSY.out.2.2.2⟩, HSY.out.2.1, (by have hlP := LP.out; have hlX := LX.out; have hlN := LN.out; have h0 := P0.out; have hs0 := LTZ.out; have hs1 := SS2.out; have hs2 := SS3.out; have hs3 := SS4.out; have hs4 := LWX.out; have hs5 := SS5.out; have hs6 := SS6.out; have hs7 := SS7.out; have hs8 := SS8.out; have hs9 := LWN.out; have hs10 := SQ9.out; have hs11 := SQ10.out; have hs12 := SQ11.out; have hs13 := SS12.out; have hs14 := SQ13.out; have hHB := HB.out.size; first | omega | (simp <;> omega)), oe_rq O14.out, B14.out⟩

set_option maxRecDepth 100000 in
set_option maxHeartbeats 4000000 in
theorem drawAc (w : World) (a : Option Addr) (len cap : Nat) (hc : draw.Code w w.heap.size a len) :
    Calls Try.prog 23 #[.slice a len cap] w (PaPost w) := by
  have HC := Lib.hid hc
  clear hc
  go_enter Try.func23, Try.ntmps23
  go_upto_region 1 with fail
  obtain ⟨w0, hW⟩ : ∃ w0, w.alloc (.cells #[.int .i64 0, .int .i64 0, .int .i64 0, .int .i64 0, .int .i64 0, .bool false, .bool false, .int .i64 0, .slice none 0 0] 25) = w0 := ⟨_, rfl⟩
  rw [hW]
  have B0 := Lib.hid (show Below w.heap.size w w0 by rw [← hW]; exact (Below.refl _ _).alloc (by simp <;> omega) _)
  have Z0 := Lib.hid (show Bx 25 w0 (w.heap.size) #[.int .i64 0, .int .i64 0, .int .i64 0, .int .i64 0, .int .i64 0, .bool false, .bool false, .int .i64 0, .slice none 0 0] by
      rw [← hW]
      have hh := Bx.made 25 w #[.int .i64 0, .int .i64 0, .int .i64 0, .int .i64 0, .int .i64 0, .bool false, .bool false, .int .i64 0, .slice none 0 0]
      exact hh)
  clear hW
  have LTZ := Lib.hid Z0.out.lt
  go_wp2_with fail
  (with_reducible refine (l19pair _ a len cap (code_later HC.out B0.out)).mono ?_)
  rintro e w1 hp
  obtain ⟨A, n, c, l, lo, hi, f, Af, nf, cf, k, rfl, h1, h2, h3, h4, hq, hb⟩ := pa_parts hp
  clear hp
  have HNL := Lib.hid h1
  have HSF := Lib.hid h2
  have HSK := Lib.hid h3
  have HLO := Lib.hid h4
  clear h1 h2 h3 h4
  have SS1 := Lib.hid hb.size
  have B1 := Lib.hid (B0.out.trans (hb.mono B0.out.size))
  have Z1 := Lib.hid (Z0.out.below hb)
  clear hb B0 Z0
  have Q1 := Lib.hid hq
  have HLH := Lib.hid hq.hi_
  clear hq
  go_wp2_with (first | (refine stw.list_store rfl 25 _ _ rfl (w.heap.size) #[.int .i64 f.Kind, .int .i64 f.From, .int .i64 f.To, .int .i64 f.Seq, .int .i64 f.Fragment, .bool f.More, .bool f.Retry, .int .i64 f.Duration, .slice Af nf cf] rfl rfl 25 _ Z1.out rfl fr.szFra (fr.oneFra _ _ _ _ _ _ _ _ _ _ _) ?_; intro wz2 hz))
  have B2 := Lib.hid (hz.on B1.out (by have hs0 := LTZ.out; have hs1 := SS1.out; have hs2 := HLO.out; have hs3 := HLH.out; first | omega | (simp <;> omega)))
  have Z2 := Lib.hid (hz.box)
  have Q2 := Lib.hid (Q1.out.same hz.below.size fun b h1 h2 => hz.other b (by have hs0 := LTZ.out; have hs1 := SS1.out; have hs2 := HLO.out; have hs3 := HLH.out; first | omega | (simp <;> omega)))
  clear hz B1 Z1 Q1
  (try simp only [Exit.inBlock, Exit.then])
  refine bodyPost_ret (v := .tuple #[.slice A n c, fr.fV f Af nf cf, .int .i64 k]) ?_ rfl ?_
  · rw [results_tct rfl]
    exact back_to Z2.out Try.underlying25 rfl fr.szFra rfl
  · exact ⟨A, n, c, l, _, _, f, Af, nf, cf, k, rfl, HNL.out, HSF.out, HSK.out, (by have h1 := HLO.out; have h2 := LTZ.out; omega), Q2.out, B2.out⟩
end Go.Proofs.Ytbkdbdhbmabgcaa.sn
end

section
namespace Go.Proofs.Ytbkdbdhbmabgcaa.seqLaw
open Go.RowKit sl harn bx mrw drk stw sn
set_option linter.unusedVariables false
set_option linter.unusedSimpArgs false
open ux (Sen Fra)

set_option maxRecDepth 100000 in
set_option maxHeartbeats 16000000 in
theorem walk (a : Option Addr) (len cap : Nat) (zz : List Int) (w : World) (r0 : kit.IsRow .u8 w a len cap zz) :
    Calls Try.prog 5 #[.slice a len cap] w fun e w' => e = .returned (.bool true) ∧ Below w.heap.size w w' := by
  have HC := Lib.hid (draw.code_of_row r0)
  have hlen : (len : Int) ≤ 9223372036854775807 := by have := HC.out.1; omega
  have HLEN := Lib.hid hlen
  have R0 := Lib.hid r0
  clear r0
  by_cases hbig : 1048576 < (len : Int)
  · go_enter Try.func5, Try.ntmps5
    go_wp2
    go_ret
    exact ⟨rfl, Below.refl _ _⟩
  have HBG := Lib.hid hbig
  go_enter Try.func5, Try.ntmps5
  go_wp2_with (go_at_call 13; go_in)
  clear hbig
  go_wp2_with fail
  (with_reducible refine (drawSd _ a len cap HC.out).mono ?_)
  rintro e w1 hp
  obtain ⟨s, t, rfl, hs, ht, hb⟩ := sqd_parts hp
  have B1 := Lib.hid hb
  clear hb HC
  obtain ⟨hs0, hs1⟩ := hs
  obtain ⟨ht0, ht1⟩ := ht
  clear hp
  obtain ⟨d, hd⟩ : ∃ d, sqd s t = d := ⟨_, rfl⟩
  have HD := Lib.hid hd
  clear hd
  go_wp2_with fail
  (with_reducible refine (implSd s t _).mono ?_)
  rintro e w2 hp
  obtain ⟨rfl, hb⟩ := n_parts HD.out hp
  clear hp
  have SS2 := Lib.hid hb.size
  have B2 := Lib.hid (B1.out.trans (hb.mono B1.out.size))
  clear hb  B1 
  have HR := Lib.hid (And.intro (And.intro hs0 hs1) (And.intro ht0 ht1))
  by_cases h1 : s < 0
  · have g1 : s < 0 := h1
    have HV := Lib.hid (show ¬ ((0 ≤ s ∧ s ≤ 4095) ∧ (0 ≤ t ∧ t ≤ 4095)) by omega)
    obtain rfl : d = -1 := by rw [← HD.out]; unfold sqd; rw [if_neg HV.out]
    have HNW := Lib.hid (show nwr s t = false by unfold nwr sqd; rw [if_neg (fun h => HV.out ⟨h.2, h.1⟩)]; decide)
    clear hs0 hs1 ht0 ht1
    go_wp2_with fail
    (with_reducible refine (implNw s t _).mono ?_)
    rintro e w3 hp
    obtain ⟨rfl, hb⟩ := b_parts HNW.out hp
    clear hp
    have SS3 := Lib.hid hb.size
    have B3 := Lib.hid (B2.out.trans (hb.mono B2.out.size))
    clear hb  B2 
    go_wp2_with fail
    go_ret
    exact ⟨rfl, B3.out⟩
  · by_cases h2 : s ≤ 4095
    · by_cases h3 : t < 0
      · have g1 : ¬ s < 0 := by omega
        have g2 : ¬ (4095 : Int) < s := by omega
        have g3 : t < 0 := h3
        have HV := Lib.hid (show ¬ ((0 ≤ s ∧ s ≤ 4095) ∧ (0 ≤ t ∧ t ≤ 4095)) by omega)
        obtain rfl : d = -1 := by rw [← HD.out]; unfold sqd; rw [if_neg HV.out]
        have HNW := Lib.hid (show nwr s t = false by unfold nwr sqd; rw [if_neg (fun h => HV.out ⟨h.2, h.1⟩)]; decide)
        clear hs0 hs1 ht0 ht1
        go_wp2_with fail
        (with_reducible refine (implNw s t _).mono ?_)
        rintro e w3 hp
        obtain ⟨rfl, hb⟩ := b_parts HNW.out hp
        clear hp
        have SS3 := Lib.hid hb.size
        have B3 := Lib.hid (B2.out.trans (hb.mono B2.out.size))
        clear hb  B2 
        go_wp2_with fail
        go_ret
        exact ⟨rfl, B3.out⟩
      · by_cases h4 : t ≤ 4095
        · have HV := Lib.hid (show (0 ≤ s ∧ s ≤ 4095) ∧ (0 ≤ t ∧ t ≤ 4095) by omega)
          have HDD := Lib.hid (show d = (t - s) % 4096 by rw [← HD.out]; unfold sqd; rw [if_pos HV.out])
          have g1 : ¬ s < 0 := by omega
          have g2 : ¬ (4095 : Int) < s := by omega
          have g3 : ¬ t < 0 := by omega
          have g4 : ¬ (4095 : Int) < t := by omega
          have hdr : 0 ≤ d ∧ d ≤ 4095 := by have := HDD.out; omega
          obtain ⟨hd0, hd1⟩ := hdr
          clear hs0 hs1 ht0 ht1
          go_wp2_with fail
          clear g1 g2 g3 g4
          go_loopw [6, 7] (fun v0 v1 wr => ∃ (x : Int) (i : Nat), v0 = .int .i64 x ∧ v1 = .int .i64 ((i : Int)) ∧ (x = (s + i) % 4096) ∧ ((i : Int) ≤ d ∧ i ≤ 10) ∧ Below w.heap.size w wr) (fun _ i _ => 10 - (intOf i).toNat)
          case atStart => exact ⟨s, 0, rfl, rfl, by have h := HV.out; omega, ⟨by omega, by omega⟩, B2.out⟩
          case round =>
            obtain ⟨x, i, rfl, rfl, ghx, ghi, gB3⟩ := hrel
            have B3 := Lib.hid gB3
            have hx := Lib.hid ghx
            have hi := Lib.hid ghi
            clear gB3 ghx ghi
            have SBR3 := Lib.hid B3.out.size
            have hi1 := hi.out.1
            have hi2 := hi.out.2
            by_cases hlt : (i : Int) < d ∧ i < 10
            · obtain ⟨hl1, hl2⟩ := hlt
              have hl3 : (i : Int) < 10 := by omega
              obtain ⟨x2, hx2⟩ : ∃ y, nsq x = y := ⟨_, rfl⟩
              have HX2 := Lib.hid hx2
              have HXX := Lib.hid (show x2 = (s + ((i + 1 : Nat) : Int)) % 4096 by have h1 := hx.out; rw [← hx2]; unfold nsq; rw [if_pos (by omega)]; omega)
              clear hx2
              go_wp2_with fail
              (with_reducible refine (implNs x _).mono ?_)
              rintro e w4 hp
              obtain ⟨rfl, hb⟩ := n_parts HX2.out hp
              clear hp
              have SS4 := Lib.hid hb.size
              have B4 := Lib.hid (B3.out.trans (hb.mono B3.out.size))
              clear hb  B3 
              go_wp2_with fail
              go_roundw
              case rel => exact ⟨x2, i + 1, rfl, by go_num, HXX.out, ⟨by omega, by omega⟩, B4.out⟩
              case measure => simp [intOf]; omega
            · have HXE := Lib.hid (show d ≤ 10 → x = t from fun h => by
                  have h1 := hx.out
                  have h2 := HDD.out
                  have h3 := HV.out
                  have h4 : (i : Int) = d := by omega
                  rw [h4, h2] at h1
                  omega)
              obtain ⟨e0, he⟩ : ∃ e, sqd t s = e := ⟨_, rfl⟩
              have HE := Lib.hid he
              have HEE := Lib.hid (show e0 = (s - t) % 4096 by rw [← he]; unfold sqd; rw [if_pos ⟨HV.out.2, HV.out.1⟩])
              clear he
              obtain ⟨nf, hnf⟩ : ∃ b, nwr s t = b := ⟨_, rfl⟩
              have HNF := Lib.hid hnf
              have HNB := Lib.hid (show nf = true → nwr t s = false from fun h => by
                  rw [h] at hnf
                  unfold nwr at hnf ⊢
                  rw [HE.out] at hnf
                  rw [HD.out]
                  have h1 := of_decide_eq_true hnf
                  have h2 := HDD.out
                  have h3 := HEE.out
                  have h4 := HV.out
                  exact decide_eq_false (by omega))
              clear hnf
              obtain ⟨n2, hn2⟩ : ∃ y, nsq s = y := ⟨_, rfl⟩
              have HN2 := Lib.hid hn2
              have HNN := Lib.hid (show nwr n2 s = true by
                  rw [← hn2]
                  unfold nwr sqd nsq
                  have h4 := HV.out
                  rw [if_pos h4.1, if_pos ⟨h4.1, by omega⟩]
                  exact decide_eq_true (by omega))
              clear hn2
              by_cases hst : s = t
              · subst hst
                obtain rfl : d = 0 := by have := HDD.out; omega
                obtain rfl : e0 = 0 := by have := HEE.out; omega
                obtain rfl : s = x := (HXE.out (by omega)).symm
                have hi0 : (i : Int) = 0 := by omega
                have hq1 : ¬ (i : Int) < 0 := by omega
                clear hi1 hi2 hlt hi0 hd0 hd1
                go_wp2_with fail
                (with_reducible refine (implSd s s _).mono ?_)
                rintro e w4 hp
                obtain ⟨rfl, hb⟩ := n_parts HE.out hp
                clear hp
                have SS4 := Lib.hid hb.size
                have B4 := Lib.hid (B3.out.trans (hb.mono B3.out.size))
                clear hb  B3 
                go_wp2_with fail
                (with_reducible refine (implNw s s _).mono ?_)
                rintro e w5 hp
                obtain ⟨rfl, hb⟩ := b_parts HNF.out hp
                clear hp
                have SS5 := Lib.hid hb.size
                have B5 := Lib.hid (B4.out.trans (hb.mono B4.out.size))
                clear hb  B4 
                cases nf with
                | true =>
                  have HB2 := Lib.hid (HNB.out rfl)
                  go_wp2_with fail
                  (with_reducible refine (implNw s s _).mono ?_)
                  rintro e w6 hp
                  obtain ⟨rfl, hb⟩ := b_parts HB2.out hp
                  clear hp
                  have SS6 := Lib.hid hb.size
                  have B6 := Lib.hid (B5.out.trans (hb.mono B5.out.size))
                  clear hb  B5 
                  go_wp2_with fail
                  (with_reducible refine (implNs s _).mono ?_)
                  rintro e w7 hp
                  obtain ⟨rfl, hb⟩ := n_parts HN2.out hp
                  clear hp
                  have SS7 := Lib.hid hb.size
                  have B7 := Lib.hid (B6.out.trans (hb.mono B6.out.size))
                  clear hb  B6 
                  go_wp2_with fail
                  (with_reducible refine (implNw n2 s _).mono ?_)
                  rintro e w8 hp
                  obtain ⟨rfl, hb⟩ := b_parts HNN.out hp
                  clear hp
                  have SS8 := Lib.hid hb.size
                  have B8 := Lib.hid (B7.out.trans (hb.mono B7.out.size))
                  clear hb  B7 
                  go_wp2_with fail
                  go_ret
                  exact ⟨rfl, B8.out⟩
                | false =>
                  go_wp2_with fail
                  (with_reducible refine (implNs s _).mono ?_)
                  rintro e w6 hp
                  obtain ⟨rfl, hb⟩ := n_parts HN2.out hp
                  clear hp
                  have SS6 := Lib.hid hb.size
                  have B6 := Lib.hid (B5.out.trans (hb.mono B5.out.size))
                  clear hb  B5 
                  go_wp2_with fail
                  (with_reducible refine (implNw n2 s _).mono ?_)
                  rintro e w7 hp
                  obtain ⟨rfl, hb⟩ := b_parts HNN.out hp
                  clear hp
                  have SS7 := Lib.hid hb.size
                  have B7 := Lib.hid (B6.out.trans (hb.mono B6.out.size))
                  clear hb  B6 
                  go_wp2_with fail
                  go_ret
                  exact ⟨rfl, B7.out⟩
              · obtain ⟨m, hm⟩ : ∃ m : Int, d + e0 = m := ⟨_, rfl⟩
                obtain rfl : m = 4096 := by have h1 := HDD.out; have h2 := HEE.out; have h3 := HV.out; omega
                have hst2 : (s == t) = false := by simpa using hst
                clear hst
                by_cases hbig : 10 < d
                · by_cases hq : (i : Int) < d
                  · have hq2 : ¬ (i : Int) < 10 := by omega
                    clear hi1 hi2 hlt
                    go_wp2_with fail
                    (with_reducible refine (implSd t s _).mono ?_)
                    rintro e w4 hp
                    obtain ⟨rfl, hb⟩ := n_parts HE.out hp
                    clear hp
                    have SS4 := Lib.hid hb.size
                    have B4 := Lib.hid (B3.out.trans (hb.mono B3.out.size))
                    clear hb  B3 
                    go_wp2_with fail
                    (with_reducible refine (implNw s t _).mono ?_)
                    rintro e w5 hp
                    obtain ⟨rfl, hb⟩ := b_parts HNF.out hp
                    clear hp
                    have SS5 := Lib.hid hb.size
                    have B5 := Lib.hid (B4.out.trans (hb.mono B4.out.size))
                    clear hb  B4 
                    cases nf with
                    | true =>
                      have HB2 := Lib.hid (HNB.out rfl)
                      go_wp2_with fail
                      (with_reducible refine (implNw t s _).mono ?_)
                      rintro e w6 hp
                      obtain ⟨rfl, hb⟩ := b_parts HB2.out hp
                      clear hp
                      have SS6 := Lib.hid hb.size
                      have B6 := Lib.hid (B5.out.trans (hb.mono B5.out.size))
                      clear hb  B5 
                      go_wp2_with fail
                      (with_reducible refine (implNs s _).mono ?_)
                      rintro e w7 hp
                      obtain ⟨rfl, hb⟩ := n_parts HN2.out hp
                      clear hp
                      have SS7 := Lib.hid hb.size
                      have B7 := Lib.hid (B6.out.trans (hb.mono B6.out.size))
                      clear hb  B6 
                      go_wp2_with fail
                      (with_reducible refine (implNw n2 s _).mono ?_)
                      rintro e w8 hp
                      obtain ⟨rfl, hb⟩ := b_parts HNN.out hp
                      clear hp
                      have SS8 := Lib.hid hb.size
                      have B8 := Lib.hid (B7.out.trans (hb.mono B7.out.size))
                      clear hb  B7 
                      go_wp2_with fail
                      go_ret
                      exact ⟨rfl, B8.out⟩
                    | false =>
                      go_wp2_with fail
                      (with_reducible refine (implNs s _).mono ?_)
                      rintro e w6 hp
                      obtain ⟨rfl, hb⟩ := n_parts HN2.out hp
                      clear hp
                      have SS6 := Lib.hid hb.size
                      have B6 := Lib.hid (B5.out.trans (hb.mono B5.out.size))
                      clear hb  B5 
                      go_wp2_with fail
                      (with_reducible refine (implNw n2 s _).mono ?_)
                      rintro e w7 hp
                      obtain ⟨rfl, hb⟩ := b_parts HNN.out hp
                      clear hp
                      have SS7 := Lib.hid hb.size
                      have B7 := Lib.hid (B6.out.trans (hb.mono B6.out.size))
                      clear hb  B6 
                      go_wp2_with fail
                      go_ret
                      exact ⟨rfl, B7.out⟩
                  · clear hi1 hi2 hlt
                    go_wp2_with fail
                    (with_reducible refine (implSd t s _).mono ?_)
                    rintro e w4 hp
                    obtain ⟨rfl, hb⟩ := n_parts HE.out hp
                    clear hp
                    have SS4 := Lib.hid hb.size
                    have B4 := Lib.hid (B3.out.trans (hb.mono B3.out.size))
                    clear hb  B3 
                    go_wp2_with fail
                    (with_reducible refine (implNw s t _).mono ?_)
                    rintro e w5 hp
                    obtain ⟨rfl, hb⟩ := b_parts HNF.out hp
                    clear hp
                    have SS5 := Lib.hid hb.size
                    have B5 := Lib.hid (B4.out.trans (hb.mono B4.out.size))
                    clear hb  B4 
                    cases nf with
                    | true =>
                      have HB2 := Lib.hid (HNB.out rfl)
                      go_wp2_with fail
                      (with_reducible refine (implNw t s _).mono ?_)
                      rintro e w6 hp
                      obtain ⟨rfl, hb⟩ := b_parts HB2.out hp
                      clear hp
                      have SS6 := Lib.hid hb.size
                      have B6 := Lib.hid (B5.out.trans (hb.mono B5.out.size))
                      clear hb  B5 
                      go_wp2_with fail
                      (with_reducible refine (implNs s _).mono ?_)
                      rintro e w7 hp
                      obtain ⟨rfl, hb⟩ := n_parts HN2.out hp
                      clear hp
                      have SS7 := Lib.hid hb.size
                      have B7 := Lib.hid (B6.out.trans (hb.mono B6.out.size))
                      clear hb  B6 
                      go_wp2_with fail
                      (with_reducible refine (implNw n2 s _).mono ?_)
                      rintro e w8 hp
                      obtain ⟨rfl, hb⟩ := b_parts HNN.out hp
                      clear hp
                      have SS8 := Lib.hid hb.size
                      have B8 := Lib.hid (B7.out.trans (hb.mono B7.out.size))
                      clear hb  B7 
                      go_wp2_with fail
                      go_ret
                      exact ⟨rfl, B8.out⟩
                    | false =>
                      go_wp2_with fail
                      (with_reducible refine (implNs s _).mono ?_)
                      rintro e w6 hp
                      obtain ⟨rfl, hb⟩ := n_parts HN2.out hp
                      clear hp
                      have SS6 := Lib.hid hb.size
                      have B6 := Lib.hid (B5.out.trans (hb.mono B5.out.size))
                      clear hb  B5 
                      go_wp2_with fail
                      (with_reducible refine (implNw n2 s _).mono ?_)
                      rintro e w7 hp
                      obtain ⟨rfl, hb⟩ := b_parts HNN.out hp
                      clear hp
                      have SS7 := Lib.hid hb.size
                      have B7 := Lib.hid (B6.out.trans (hb.mono B6.out.size))
                      clear hb  B6 
                      go_wp2_with fail
                      go_ret
                      exact ⟨rfl, B7.out⟩
                · by_cases hq : (i : Int) < d
                  · obtain rfl : t = x := (HXE.out (by omega)).symm
                    have hng : ¬ (10 : Int) < d := hbig
                    have hq2 : ¬ (i : Int) < 10 := by omega
                    clear hi1 hi2 hlt
                    go_wp2_with fail
                    (with_reducible refine (implSd t s _).mono ?_)
                    rintro e w4 hp
                    obtain ⟨rfl, hb⟩ := n_parts HE.out hp
                    clear hp
                    have SS4 := Lib.hid hb.size
                    have B4 := Lib.hid (B3.out.trans (hb.mono B3.out.size))
                    clear hb  B3 
                    go_wp2_with fail
                    (with_reducible refine (implNw s t _).mono ?_)
                    rintro e w5 hp
                    obtain ⟨rfl, hb⟩ := b_parts HNF.out hp
                    clear hp
                    have SS5 := Lib.hid hb.size
                    have B5 := Lib.hid (B4.out.trans (hb.mono B4.out.size))
                    clear hb  B4 
                    cases nf with
                    | true =>
                      have HB2 := Lib.hid (HNB.out rfl)
                      go_wp2_with fail
                      (with_reducible refine (implNw t s _).mono ?_)
                      rintro e w6 hp
                      obtain ⟨rfl, hb⟩ := b_parts HB2.out hp
                      clear hp
                      have SS6 := Lib.hid hb.size
                      have B6 := Lib.hid (B5.out.trans (hb.mono B5.out.size))
                      clear hb  B5 
                      go_wp2_with fail
                      (with_reducible refine (implNs s _).mono ?_)
                      rintro e w7 hp
                      obtain ⟨rfl, hb⟩ := n_parts HN2.out hp
                      clear hp
                      have SS7 := Lib.hid hb.size
                      have B7 := Lib.hid (B6.out.trans (hb.mono B6.out.size))
                      clear hb  B6 
                      go_wp2_with fail
                      (with_reducible refine (implNw n2 s _).mono ?_)
                      rintro e w8 hp
                      obtain ⟨rfl, hb⟩ := b_parts HNN.out hp
                      clear hp
                      have SS8 := Lib.hid hb.size
                      have B8 := Lib.hid (B7.out.trans (hb.mono B7.out.size))
                      clear hb  B7 
                      go_wp2_with fail
                      go_ret
                      exact ⟨rfl, B8.out⟩
                    | false =>
                      go_wp2_with fail
                      (with_reducible refine (implNs s _).mono ?_)
                      rintro e w6 hp
                      obtain ⟨rfl, hb⟩ := n_parts HN2.out hp
                      clear hp
                      have SS6 := Lib.hid hb.size
                      have B6 := Lib.hid (B5.out.trans (hb.mono B5.out.size))
                      clear hb  B5 
                      go_wp2_with fail
                      (with_reducible refine (implNw n2 s _).mono ?_)
                      rintro e w7 hp
                      obtain ⟨rfl, hb⟩ := b_parts HNN.out hp
                      clear hp
                      have SS7 := Lib.hid hb.size
                      have B7 := Lib.hid (B6.out.trans (hb.mono B6.out.size))
                      clear hb  B6 
                      go_wp2_with fail
                      go_ret
                      exact ⟨rfl, B7.out⟩
                  · obtain rfl : t = x := (HXE.out (by omega)).symm
                    have hng : ¬ (10 : Int) < d := hbig
                    clear hi1 hi2 hlt
                    go_wp2_with fail
                    (with_reducible refine (implSd t s _).mono ?_)
                    rintro e w4 hp
                    obtain ⟨rfl, hb⟩ := n_parts HE.out hp
                    clear hp
                    have SS4 := Lib.hid hb.size
                    have B4 := Lib.hid (B3.out.trans (hb.mono B3.out.size))
                    clear hb  B3 
                    go_wp2_with fail
                    (with_reducible refine (implNw s t _).mono ?_)
                    rintro e w5 hp
                    obtain ⟨rfl, hb⟩ := b_parts HNF.out hp
                    clear hp
                    have SS5 := Lib.hid hb.size
                    have B5 := Lib.hid (B4.out.trans (hb.mono B4.out.size))
                    clear hb  B4 
                    cases nf with
                    | true =>
                      have HB2 := Lib.hid (HNB.out rfl)
                      go_wp2_with fail
                      (with_reducible refine (implNw t s _).mono ?_)
                      rintro e w6 hp
                      obtain ⟨rfl, hb⟩ := b_parts HB2.out hp
                      clear hp
                      have SS6 := Lib.hid hb.size
                      have B6 := Lib.hid (B5.out.trans (hb.mono B5.out.size))
                      clear hb  B5 
                      go_wp2_with fail
                      (with_reducible refine (implNs s _).mono ?_)
                      rintro e w7 hp
                      obtain ⟨rfl, hb⟩ := n_parts HN2.out hp
                      clear hp
                      have SS7 := Lib.hid hb.size
                      have B7 := Lib.hid (B6.out.trans (hb.mono B6.out.size))
                      clear hb  B6 
                      go_wp2_with fail
                      (with_reducible refine (implNw n2 s _).mono ?_)
                      rintro e w8 hp
                      obtain ⟨rfl, hb⟩ := b_parts HNN.out hp
                      clear hp
                      have SS8 := Lib.hid hb.size
                      have B8 := Lib.hid (B7.out.trans (hb.mono B7.out.size))
                      clear hb  B7 
                      go_wp2_with fail
                      go_ret
                      exact ⟨rfl, B8.out⟩
                    | false =>
                      go_wp2_with fail
                      (with_reducible refine (implNs s _).mono ?_)
                      rintro e w6 hp
                      obtain ⟨rfl, hb⟩ := n_parts HN2.out hp
                      clear hp
                      have SS6 := Lib.hid hb.size
                      have B6 := Lib.hid (B5.out.trans (hb.mono B5.out.size))
                      clear hb  B5 
                      go_wp2_with fail
                      (with_reducible refine (implNw n2 s _).mono ?_)
                      rintro e w7 hp
                      obtain ⟨rfl, hb⟩ := b_parts HNN.out hp
                      clear hp
                      have SS7 := Lib.hid hb.size
                      have B7 := Lib.hid (B6.out.trans (hb.mono B6.out.size))
                      clear hb  B6 
                      go_wp2_with fail
                      go_ret
                      exact ⟨rfl, B7.out⟩
        · have g1 : ¬ s < 0 := by omega
          have g2 : ¬ (4095 : Int) < s := by omega
          have g3 : ¬ t < 0 := by omega
          have g4 : (4095 : Int) < t := by omega
          have HV := Lib.hid (show ¬ ((0 ≤ s ∧ s ≤ 4095) ∧ (0 ≤ t ∧ t ≤ 4095)) by omega)
          obtain rfl : d = -1 := by rw [← HD.out]; unfold sqd; rw [if_neg HV.out]
          have HNW := Lib.hid (show nwr s t = false by unfold nwr sqd; rw [if_neg (fun h => HV.out ⟨h.2, h.1⟩)]; decide)
          clear hs0 hs1 ht0 ht1
          go_wp2_with fail
          (with_reducible refine (implNw s t _).mono ?_)
          rintro e w3 hp
          obtain ⟨rfl, hb⟩ := b_parts HNW.out hp
          clear hp
          have SS3 := Lib.hid hb.size
          have B3 := Lib.hid (B2.out.trans (hb.mono B2.out.size))
          clear hb  B2 
          go_wp2_with fail
          go_ret
          exact ⟨rfl, B3.out⟩
    · have g1 : ¬ s < 0 := by omega
      have g2 : (4095 : Int) < s := by omega
      have HV := Lib.hid (show ¬ ((0 ≤ s ∧ s ≤ 4095) ∧ (0 ≤ t ∧ t ≤ 4095)) by omega)
      obtain rfl : d = -1 := by rw [← HD.out]; unfold sqd; rw [if_neg HV.out]
      have HNW := Lib.hid (show nwr s t = false by unfold nwr sqd; rw [if_neg (fun h => HV.out ⟨h.2, h.1⟩)]; decide)
      clear hs0 hs1 ht0 ht1
      go_wp2_with fail
      (with_reducible refine (implNw s t _).mono ?_)
      rintro e w3 hp
      obtain ⟨rfl, hb⟩ := b_parts HNW.out hp
      clear hp
      have SS3 := Lib.hid hb.size
      have B3 := Lib.hid (B2.out.trans (hb.mono B2.out.size))
      clear hb  B2 
      go_wp2_with fail
      go_ret
      exact ⟨rfl, B3.out⟩
end Go.Proofs.Ytbkdbdhbmabgcaa.seqLaw
end

section
namespace Go.Proofs.Ytbkdbdhbmabgcaa.dupLaw
open Go.RowKit sl harn bx mrw drk stw sn
set_option linter.unusedVariables false
set_option linter.unusedSimpArgs false
open ux (Sen Fra)

theorem getD_set {l : List Sen} {i j : Nat} {s : Sen} (hi : i < l.length) : (l.set i s).getD j zn = if j = i then s else l.getD j zn := by
  rw [List.getD_eq_getElem?_getD, List.getElem?_set]
  by_cases h : i = j
  · subst h; rw [if_pos rfl, if_pos hi, if_pos rfl]; rfl
  · rw [if_neg h, if_neg (fun e => h e.symm), List.getD_eq_getElem?_getD]
theorem getD_snoc {l : List Sen} {j : Nat} {s : Sen} (hj : j < l.length) : (l ++ [s]).getD j zn = l.getD j zn := by
  rw [List.getD_eq_getElem?_getD, List.getD_eq_getElem?_getD, List.getElem?_append_left hj]
/-- Where a frame is remembered. -/
theorem rem_at (l : List Sen) (f : Fra) (k : Int) : ∃ i, fst (rem l f k) f.From k = i ∧ (rem l f k)[i]? = some (see f k) := by
  by_cases h : fst l f.From k < l.length
  · obtain ⟨i, hi⟩ : ∃ i, fst l f.From k = i := ⟨_, rfl⟩
    rw [hi] at h
    rw [rem_some hi h]
    have hg : (l.set i (see f k))[i]? = some (see f k) := List.getElem?_set_self h
    refine ⟨i, fst_hit (fun j hj => ?_) hg (by simp [hit, see]), hg⟩
    rw [getD_set h, if_neg (by omega)]
    exact fst_before (by omega)
  · rw [rem_none h]
    have hl : fst l f.From k = l.length := by have := fst_le l f.From k; omega
    have hg : (l ++ [see f k])[l.length]? = some (see f k) := by rw [List.getElem?_append_right (Nat.le_refl _), Nat.sub_self]; rfl
    refine ⟨l.length, fst_hit (fun j hj => ?_) hg (by simp [hit, see]), hg⟩
    rw [getD_snoc hj]
    exact fst_before (by omega)
theorem isd_at {l : List Sen} {f g : Fra} {k : Int} {i : Nat} (hi : fst l f.From k = i) (hg : l[i]? = some (see f k)) (h1 : g.From = f.From) (h2 : g.Retry = true) (h3 : g.Seq = f.Seq) (h4 : g.Fragment = f.Fragment) : isd l g k = true := by
  rw [isd_some h2 (h1 ▸ hi) hg]
  simp [see, h3, h4]
theorem not_isd {l : List Sen} {f g : Fra} {k : Int} (h : isd l f k = true) (h1 : g.From = f.From) (h3 : g.Seq ≠ f.Seq) : isd l g k = false := by
  unfold isd at h ⊢
  simp only [Bool.and_eq_true, decide_eq_true_eq, beq_iff_eq] at h
  rw [h1, h.2.2.1]
  have : (f.Seq == g.Seq) = false := by simp; exact fun e => h3 e.symm
  rw [this]
  simp
theorem isd_again {l : List Sen} {f g : Fra} {k : Int} (h : isd l f k = true) (h1 : g.From = f.From) (h2 : g.Retry = true) (h3 : g.Seq = f.Seq) (h4 : g.Fragment = f.Fragment) : isd l g k = true := by
  unfold isd at h ⊢
  simp only [Bool.and_eq_true, decide_eq_true_eq, beq_iff_eq] at h ⊢
  rw [h1, h3, h4]
  exact ⟨h2, h.2⟩
theorem okAt_of {l : List Sen} {i : Nat} {y : Sen} (hy : l[i]? = some y) (h1 : inr y = true) (hp : ∀ j, j < i → hit y.From y.Category (l.getD j zn) = false) : okAt l i = true := by
  unfold okAt
  rw [getD_of hy, h1, fst_hit hp hy (hit_self y)]
  simp
theorem okAt_parts {l : List Sen} {i : Nat} {y : Sen} (hy : l[i]? = some y) (h : okAt l i = true) : inr y = true ∧ ∀ j, j < i → hit y.From y.Category (l.getD j zn) = false := by
  unfold okAt at h
  rw [getD_of hy] at h
  simp only [Bool.and_eq_true, beq_iff_eq] at h
  exact ⟨h.1, fun j hj => fst_before (by omega)⟩
/-- A valid list remains valid. -/
theorem vs_rem {l : List Sen} {f : Fra} {k : Int} (h : vs l = true) (hs : inr (see f k) = true) : vs (rem l f k) = true := by
  refine vs_yes fun i hi => ?_
  by_cases hf : fst l f.From k < l.length
  · obtain ⟨q, hq⟩ : ∃ q, fst l f.From k = q := ⟨_, rfl⟩
    have hh := fst_at hf
    rw [hq] at hf hh
    rw [rem_some hq hf] at hi ⊢
    rw [List.length_set] at hi
    by_cases hiq : i = q
    · subst hiq
      refine okAt_of (List.getElem?_set_self hf) hs fun j hj => ?_
      rw [getD_set hf, if_neg (by omega)]
      exact fst_before (a := f.From) (b := k) (by omega)
    · have hy : l[i]? = some l[i] := List.getElem?_eq_getElem hi
      obtain ⟨h1, h2⟩ := okAt_parts hy (vs_at h hi)
      refine okAt_of (by rw [List.getElem?_set_ne (fun e => hiq e.symm)]; exact hy) h1 fun j hj => ?_
      rw [getD_set hf]
      split
      · rename_i e
        subst e
        have h3 := h2 j hj
        rw [hit_iff] at hh
        unfold hit at h3 ⊢
        rw [hh.1, hh.2] at h3
        exact h3
      · exact h2 j hj
  · rw [rem_none hf] at hi ⊢
    have hl : fst l f.From k = l.length := by have := fst_le l f.From k; omega
    rw [List.length_append] at hi
    by_cases hil : i < l.length
    · have hy : l[i]? = some l[i] := List.getElem?_eq_getElem hil
      obtain ⟨h1, h2⟩ := okAt_parts hy (vs_at h hil)
      refine okAt_of (by rw [List.getElem?_append_left hil]; exact hy) h1 fun j hj => ?_
      rw [getD_snoc (by omega)]
      exact h2 j hj
    · obtain rfl : i = l.length := by simp at hi; omega
      refine okAt_of (by rw [List.getElem?_append_right (Nat.le_refl _), Nat.sub_self]; rfl) hs fun j hj => ?_
      rw [getD_snoc hj]
      exact fst_before (a := f.From) (b := k) (by omega)
theorem acc_mem {l l1 : List Sen} {f : Fra} {k : Int} {ok : Bool} (h : acc l f k = (l1, ok)) (hl : ∀ y ∈ l, SmS y) (hf : SmF f) (hk : Sm k) : ∀ y ∈ l1, SmS y := by
  unfold acc at h
  split at h
  · injection h with h _; subst h; exact hl
  · injection h with h _; subst h; exact rem_mem hl hf hk
/-- What accepting a frame does. -/
theorem acc_facts {l l1 : List Sen} {f g : Fra} {k : Int} {ok : Bool} (h : acc l f k = (l1, ok)) (h1 : g.From = f.From) (h2 : g.Retry = true) (h3 : g.Seq = f.Seq) (h4 : g.Fragment = f.Fragment) : ok = !isd l f k ∧ isd l1 g k = true ∧ (vs l = true → inr (see f k) = true → vs l1 = true) := by
  cases hd : isd l f k with
  | true =>
    rw [acc_no hd] at h
    injection h with e1 e2
    subst e1 e2
    exact ⟨rfl, isd_again hd h1 h2 h3 h4, fun h _ => h⟩
  | false =>
    rw [acc_yes hd] at h
    injection h with e1 e2
    subst e1 e2
    obtain ⟨i, hi, hg⟩ := rem_at l f k
    exact ⟨rfl, isd_at hi hg h1 h2 h3 h4, fun h hs => vs_rem h hs⟩
set_option maxRecDepth 100000 in
set_option maxHeartbeats 16000000 in
theorem walk (a : Option Addr) (len cap : Nat) (zz : List Int) (w : World) (r0 : kit.IsRow .u8 w a len cap zz) :
    Calls Try.prog 4 #[.slice a len cap] w fun e w' => e = .returned (.bool true) ∧ Below w.heap.size w w' := by
  have HC := Lib.hid (draw.code_of_row r0)
  have hlen : (len : Int) ≤ 9223372036854775807 := by have := HC.out.1; omega
  have HLEN := Lib.hid hlen
  have R0 := Lib.hid r0
  clear r0
  by_cases hbig : 1048576 < (len : Int)
  · go_enter Try.func4, Try.ntmps4
    go_wp2
    go_ret
    exact ⟨rfl, Below.refl _ _⟩
  have HBG := Lib.hid hbig
  go_enter Try.func4, Try.ntmps4
  go_wp2_with (go_at_call 13; go_in)
  clear hbig
  go_wp2_with fail
  (with_reducible refine (drawAc _ a len cap HC.out).mono ?_)
  rintro e w1 hp
  obtain ⟨A, n, c, l, lo, hi, f, Af, nf, cf, k, rfl, h1, h2, h3, h4, hq, hb⟩ := pa_parts hp
  have HNL := Lib.hid h1
  have HSF := Lib.hid h2
  have HSK := Lib.hid h3
  have HLO := Lib.hid h4
  have Q1 := Lib.hid hq
  have B1 := Lib.hid hb
  have HLN := Lib.hid hq.len
  have HN := Lib.hid (show n ≤ 67108864 by have e1 := h1.1; have e2 := hq.len; omega)
  have HHI := Lib.hid hq.hi_
  clear h1 h2 h3 h4 hq hb HC
  clear hp
  go_upto_region 4 with fail
  obtain ⟨bx, hbb⟩ : ∃ b, w1.heap.size = b := ⟨_, rfl⟩
  generalize hW : w1.alloc (.cells #[.int .i64 f.Kind, .int .i64 f.From, .int .i64 f.To, .int .i64 f.Seq, .int .i64 f.Fragment, .bool f.More, .bool f.Retry, .int .i64 f.Duration, .slice Af nf cf] 25) = w2
  have LX := Lib.hid (show w.heap.size ≤ bx ∧ hi ≤ bx by have h1 := B1.out.size; have h2Q := Q1.out.hi_; have h3 := hbb; omega)
  have X2 := Lib.hid (show Bx 25 w2 bx #[.int .i64 f.Kind, .int .i64 f.From, .int .i64 f.To, .int .i64 f.Seq, .int .i64 f.Fragment, .bool f.More, .bool f.Retry, .int .i64 f.Duration, .slice Af nf cf] by rw [← hW, ← hbb]; exact Bx.made _ _ _)
  have hb : Below w1.heap.size w1 w2 := by rw [← hW]; exact below_box _ _
  (try rw [hbb])
  clear hW hbb
  have SS2 := Lib.hid hb.size
  have B2 := Lib.hid (B1.out.trans (hb.mono B1.out.size))
  have Q2 := Lib.hid (Q1.out.below hb)
  clear hb B1 Q1
  have LWX := Lib.hid X2.out.lt
  obtain ⟨⟨l1, ok⟩, hacc⟩ : ∃ p, acc l f k = p := ⟨_, rfl⟩
  have HA1 := Lib.hid hacc
  obtain ⟨f2, hf2⟩ : ∃ f2 : Fra, f2 = ⟨f.Kind, f.From, f.To, f.Seq, f.Fragment, f.More, true, f.Duration, f.Body⟩ := ⟨_, rfl⟩
  have HFA := Lib.hid (show ok = !isd l f k ∧ isd l1 (⟨f.Kind, f.From, f.To, f.Seq, f.Fragment, f.More, true, f.Duration, f.Body⟩ : Fra) k = true ∧ (vs l = true → inr (see f k) = true → vs l1 = true) from acc_facts hacc rfl rfl rfl rfl)
  have HM1 := Lib.hid (acc_mem hacc HNL.out.2 HSF.out HSK.out)
  have HL1 := Lib.hid (show l1.length ≤ 11 by have e1 := acc_len l f k; rw [hacc] at e1; have e2 := HNL.out.1; dsimp only at e1; omega)
  clear hacc hf2 f2
  have cX0 : w2.cell? ⟨bx, 0, none⟩ = some (.int .i64 f.Kind) := X2.out.cell 0
  have cX1 : w2.cell? ⟨bx, 1, none⟩ = some (.int .i64 f.From) := X2.out.cell 1
  have cX2 : w2.cell? ⟨bx, 2, none⟩ = some (.int .i64 f.To) := X2.out.cell 2
  have cX3 : w2.cell? ⟨bx, 3, none⟩ = some (.int .i64 f.Seq) := X2.out.cell 3
  have cX4 : w2.cell? ⟨bx, 4, none⟩ = some (.int .i64 f.Fragment) := X2.out.cell 4
  have cX5 : w2.cell? ⟨bx, 5, none⟩ = some (.bool f.More) := X2.out.cell 5
  have cX6 : w2.cell? ⟨bx, 6, none⟩ = some (.bool f.Retry) := X2.out.cell 6
  have cX7 : w2.cell? ⟨bx, 7, none⟩ = some (.int .i64 f.Duration) := X2.out.cell 7
  have cX8 : w2.cell? ⟨bx, 8, none⟩ = some (.slice Af nf cf) := X2.out.cell 8
  go_wp2_with fail
  clear cX0 cX1 cX2 cX3 cX4 cX5 cX6 cX7 cX8
  (with_reducible refine (HA1.out ▸ implAc l A n c _ _ _ Q2.out HN.out f k Af nf cf).mono ?_)
  rintro e w3 hp
  obtain ⟨A1, n1, c1, rfl, ho2, hb⟩ := ac_out hp
  clear hp
  have SS3 := Lib.hid hb.size
  have B3 := Lib.hid (B2.out.trans (hb.mono B2.out.size))
  have X3 := Lib.hid (X2.out.below hb)
  have Q3 := Lib.hid (Q2.out.below hb)
  clear hb B2 X2 Q2
  have Y3 := Lib.hid ho2
  clear ho2
  have HN1 := Lib.hid (oe_n Y3.out)
  have HNN := Lib.hid (show n1 ≤ 67108864 by have e1 := HL1.out; have e2 := HN1.out; omega)
  obtain ⟨v, hv⟩ : ∃ v, isd l f k = v := ⟨_, rfl⟩
  have HV := Lib.hid hv
  clear hv
  obtain rfl : ok = !v := by rw [← HV.out]; exact HFA.out.1
  have cX0 : w3.cell? ⟨bx, 0, none⟩ = some (.int .i64 f.Kind) := X3.out.cell 0
  have cX1 : w3.cell? ⟨bx, 1, none⟩ = some (.int .i64 f.From) := X3.out.cell 1
  have cX2 : w3.cell? ⟨bx, 2, none⟩ = some (.int .i64 f.To) := X3.out.cell 2
  have cX3 : w3.cell? ⟨bx, 3, none⟩ = some (.int .i64 f.Seq) := X3.out.cell 3
  have cX4 : w3.cell? ⟨bx, 4, none⟩ = some (.int .i64 f.Fragment) := X3.out.cell 4
  have cX5 : w3.cell? ⟨bx, 5, none⟩ = some (.bool f.More) := X3.out.cell 5
  have cX6 : w3.cell? ⟨bx, 6, none⟩ = some (.bool f.Retry) := X3.out.cell 6
  have cX7 : w3.cell? ⟨bx, 7, none⟩ = some (.int .i64 f.Duration) := X3.out.cell 7
  have cX8 : w3.cell? ⟨bx, 8, none⟩ = some (.slice Af nf cf) := X3.out.cell 8
  go_wp2_with fail
  clear cX0 cX1 cX2 cX3 cX4 cX5 cX6 cX7 cX8
  (with_reducible refine (specId l A n c _ _ _ Q3.out HN.out f k Af nf cf).mono ?_)
  rintro e w4 hp
  obtain ⟨rfl, hb⟩ := b_parts HV.out hp
  clear hp
  have SS4 := Lib.hid hb.size
  have B4 := Lib.hid (B3.out.trans (hb.mono B3.out.size))
  have X4 := Lib.hid (X3.out.below hb)
  have Q4 := Lib.hid (Q3.out.below hb)
  have Y4 := Lib.hid (Y3.out.below hb)
  clear hb  B3 X3 Q3 Y3
  cases v with
  | true =>
    have cX0 : w4.cell? ⟨bx, 0, none⟩ = some (.int .i64 f.Kind) := X4.out.cell 0
    have cX1 : w4.cell? ⟨bx, 1, none⟩ = some (.int .i64 f.From) := X4.out.cell 1
    have cX2 : w4.cell? ⟨bx, 2, none⟩ = some (.int .i64 f.To) := X4.out.cell 2
    have cX3 : w4.cell? ⟨bx, 3, none⟩ = some (.int .i64 f.Seq) := X4.out.cell 3
    have cX4 : w4.cell? ⟨bx, 4, none⟩ = some (.int .i64 f.Fragment) := X4.out.cell 4
    have cX5 : w4.cell? ⟨bx, 5, none⟩ = some (.bool f.More) := X4.out.cell 5
    have cX6 : w4.cell? ⟨bx, 6, none⟩ = some (.bool f.Retry) := X4.out.cell 6
    have cX7 : w4.cell? ⟨bx, 7, none⟩ = some (.int .i64 f.Duration) := X4.out.cell 7
    have cX8 : w4.cell? ⟨bx, 8, none⟩ = some (.slice Af nf cf) := X4.out.cell 8
    go_wp2_with fail
    clear cX0 cX1 cX2 cX3 cX4 cX5 cX6 cX7 cX8
    (with_reducible refine (implId l A n c _ _ _ Q4.out HN.out f k Af nf cf).mono ?_)
    rintro e w5 hp
    obtain ⟨rfl, hb⟩ := b_parts HV.out hp
    clear hp
    have SS5 := Lib.hid hb.size
    have B5 := Lib.hid (B4.out.trans (hb.mono B4.out.size))
    have X5 := Lib.hid (X4.out.below hb)
    have Q5 := Lib.hid (Q4.out.below hb)
    have Y5 := Lib.hid (Y4.out.below hb)
    clear hb  B4 X4 Q4 Y4
    have cX6 : w5.cell? ⟨bx, 6, none⟩ = some (.bool f.Retry) := X5.out.cell 6
    have fX6 : w5.frozen? ⟨bx, 6, none⟩ = false := X5.out.free 6
    go_upto_region 8 with fail
    clear cX6 fX6
    have hWW : (w5.setCell ⟨bx, 6, none⟩ (.bool true)) = (w5.setCell ⟨bx, 6, none⟩ (.bool true)) := rfl
    obtain ⟨w6, hW⟩ : ∃ wy, (w5.setCell ⟨bx, 6, none⟩ (.bool true)) = wy := ⟨_, rfl⟩
    rw [hW]
    clear hWW
    have B6 := Lib.hid (show Below w.heap.size w w6 by rw [← hW]; exact (B5.out.setCell (p := ⟨bx, 6, none⟩) (by have hlX := LX.out; have hs0 := HLO.out; have hs1 := HHI.out; have hs2 := SS2.out; have hs3 := LWX.out; have hs4 := SS3.out; have hs5 := SS4.out; have hs6 := SS5.out; first | omega | (simp <;> omega)) _))
    have X6 := Lib.hid (show Bx 25 w6 (bx) #[.int .i64 f.Kind, .int .i64 f.From, .int .i64 f.To, .int .i64 f.Seq, .int .i64 f.Fragment, .bool f.More, .bool true, .int .i64 f.Duration, .slice Af nf cf] by rw [← hW]; exact (X5.out.set 6 _))
    have Q6 := Lib.hid (show Rq senS w6 lo hi A n c l by rw [← hW]; exact (Q5.out.same (by simp [World.setCell]) fun b h1 h2 => by rw [Below.heap_setCell _ _ _ _ (by have hlX := LX.out; have hs0 := HLO.out; have hs1 := HHI.out; have hs2 := SS2.out; have hs3 := LWX.out; have hs4 := SS3.out; have hs5 := SS4.out; have hs6 := SS5.out; first | omega | (simp <;> omega))]))
    have Y6 := Lib.hid (show Oe senS w6 w2.heap.size w3.heap.size A1 n1 c1 (l1.map el) by rw [← hW]; exact (rgp.oe_setCell Y5.out X5.out (by decide) (by decide) 6 _))
    clear hW B5 X5 Q5 Y5
    have SQ6 := Lib.hid X6.out.lt
    have HA2 := Lib.hid (show acc l1 (⟨f.Kind, f.From, f.To, f.Seq, f.Fragment, f.More, true, f.Duration, f.Body⟩ : Fra) k = (l1, false) from acc_no HFA.out.2.1)
    have cX0 : w6.cell? ⟨bx, 0, none⟩ = some (.int .i64 f.Kind) := X6.out.cell 0
    have cX1 : w6.cell? ⟨bx, 1, none⟩ = some (.int .i64 f.From) := X6.out.cell 1
    have cX2 : w6.cell? ⟨bx, 2, none⟩ = some (.int .i64 f.To) := X6.out.cell 2
    have cX3 : w6.cell? ⟨bx, 3, none⟩ = some (.int .i64 f.Seq) := X6.out.cell 3
    have cX4 : w6.cell? ⟨bx, 4, none⟩ = some (.int .i64 f.Fragment) := X6.out.cell 4
    have cX5 : w6.cell? ⟨bx, 5, none⟩ = some (.bool f.More) := X6.out.cell 5
    have cX6 : w6.cell? ⟨bx, 6, none⟩ = some (.bool true) := X6.out.cell 6
    have cX7 : w6.cell? ⟨bx, 7, none⟩ = some (.int .i64 f.Duration) := X6.out.cell 7
    have cX8 : w6.cell? ⟨bx, 8, none⟩ = some (.slice Af nf cf) := X6.out.cell 8
    go_wp2_with fail
    clear cX0 cX1 cX2 cX3 cX4 cX5 cX6 cX7 cX8
    (with_reducible refine (HA2.out ▸ implAc l1 A1 n1 c1 _ _ _ (oe_rq Y6.out) HNN.out (⟨f.Kind, f.From, f.To, f.Seq, f.Fragment, f.More, true, f.Duration, f.Body⟩ : Fra) k Af nf cf).mono ?_)
    rintro e w7 hp
    obtain ⟨A2, n2, c2, rfl, ho2, hb⟩ := ac_out hp
    clear hp
    have SS7 := Lib.hid hb.size
    have B7 := Lib.hid (B6.out.trans (hb.mono B6.out.size))
    have X7 := Lib.hid (X6.out.below hb)
    have Q7 := Lib.hid (Q6.out.below hb)
    have Y7 := Lib.hid (Y6.out.below hb)
    clear hb B6 X6 Q6 Y6
    have W7 := Lib.hid ho2
    clear ho2
    have HN2 := Lib.hid (oe_n W7.out)
    have h21 : n2 = n1 := HN2.out.symm.trans HN1.out
    have H21 := Lib.hid h21
    clear h21
    have cX0 : w7.cell? ⟨bx, 0, none⟩ = some (.int .i64 f.Kind) := X7.out.cell 0
    have cX1 : w7.cell? ⟨bx, 1, none⟩ = some (.int .i64 f.From) := X7.out.cell 1
    have cX2 : w7.cell? ⟨bx, 2, none⟩ = some (.int .i64 f.To) := X7.out.cell 2
    have cX3 : w7.cell? ⟨bx, 3, none⟩ = some (.int .i64 f.Seq) := X7.out.cell 3
    have cX4 : w7.cell? ⟨bx, 4, none⟩ = some (.int .i64 f.Fragment) := X7.out.cell 4
    have cX5 : w7.cell? ⟨bx, 5, none⟩ = some (.bool f.More) := X7.out.cell 5
    have cX6 : w7.cell? ⟨bx, 6, none⟩ = some (.bool true) := X7.out.cell 6
    have cX7 : w7.cell? ⟨bx, 7, none⟩ = some (.int .i64 f.Duration) := X7.out.cell 7
    have cX8 : w7.cell? ⟨bx, 8, none⟩ = some (.slice Af nf cf) := X7.out.cell 8
    go_upto_region 10 with fail
    clear cX0 cX1 cX2 cX3 cX4 cX5 cX6 cX7 cX8
    obtain ⟨bg, hbb⟩ : ∃ b, w7.heap.size = b := ⟨_, rfl⟩
    generalize hW : w7.alloc (.cells #[.int .i64 f.Kind, .int .i64 f.From, .int .i64 f.To, .int .i64 f.Seq, .int .i64 f.Fragment, .bool f.More, .bool true, .int .i64 f.Duration, .slice Af nf cf] 25) = w8
    have LG := Lib.hid (show w.heap.size ≤ bg ∧ bx < bg ∧ hi ≤ bg ∧ w3.heap.size ≤ bg ∧ w7.heap.size ≤ bg by have h1 := B7.out.size; have h2X := X7.out.lt; have h2Q := Q7.out.hi_; have h2Y := Y7.out.hi_; have h2W := W7.out.hi_; have h3 := hbb; omega)
    have G8 := Lib.hid (show Bx 25 w8 bg #[.int .i64 f.Kind, .int .i64 f.From, .int .i64 f.To, .int .i64 f.Seq, .int .i64 f.Fragment, .bool f.More, .bool true, .int .i64 f.Duration, .slice Af nf cf] by rw [← hW, ← hbb]; exact Bx.made _ _ _)
    have hb : Below w7.heap.size w7 w8 := by rw [← hW]; exact below_box _ _
    (try rw [hbb])
    clear hW hbb
    have SS8 := Lib.hid hb.size
    have B8 := Lib.hid (B7.out.trans (hb.mono B7.out.size))
    have X8 := Lib.hid (X7.out.below hb)
    have Q8 := Lib.hid (Q7.out.below hb)
    have Y8 := Lib.hid (Y7.out.below hb)
    have W8 := Lib.hid (W7.out.below hb)
    clear hb B7 X7 Q7 Y7 W7
    have LWG := Lib.hid G8.out.lt
    obtain ⟨s2, hs2⟩ : ∃ s : Int, f.Seq + 1 = s := ⟨_, rfl⟩
    have HS2 := Lib.hid hs2
    have ms : IntKind.i64.wrap s2 = s2 := IntWalk.i64_in _ (by have h1 := HSF.out.2.1; unfold Sm at h1; omega)
    have cX3 : w8.cell? ⟨bx, 3, none⟩ = some (.int .i64 f.Seq) := X8.out.cell 3
    have cG3 : w8.cell? ⟨bg, 3, none⟩ = some (.int .i64 f.Seq) := G8.out.cell 3
    have fG3 : w8.frozen? ⟨bg, 3, none⟩ = false := G8.out.free 3
    go_upto_region 11 with fail
    clear cX3 cG3 fG3
    have hWW : (w8.setCell ⟨bg, 3, none⟩ (.int .i64 s2)) = (w8.setCell ⟨bg, 3, none⟩ (.int .i64 s2)) := rfl
    obtain ⟨w9, hW⟩ : ∃ wy, (w8.setCell ⟨bg, 3, none⟩ (.int .i64 s2)) = wy := ⟨_, rfl⟩
    rw [hW]
    clear hWW
    have B9 := Lib.hid (show Below w.heap.size w w9 by rw [← hW]; exact (B8.out.setCell (p := ⟨bg, 3, none⟩) (by have hlX := LX.out; have hlG := LG.out; have hs0 := HLO.out; have hs1 := HHI.out; have hs2 := SS2.out; have hs3 := LWX.out; have hs4 := SS3.out; have hs5 := SS4.out; have hs6 := SS5.out; have hs7 := SQ6.out; have hs8 := SS7.out; have hs9 := SS8.out; have hs10 := LWG.out; first | omega | (simp <;> omega)) _))
    have X9 := Lib.hid (show Bx 25 w9 (bx) #[.int .i64 f.Kind, .int .i64 f.From, .int .i64 f.To, .int .i64 f.Seq, .int .i64 f.Fragment, .bool f.More, .bool true, .int .i64 f.Duration, .slice Af nf cf] by rw [← hW]; exact (X8.out.other (by have hlX := LX.out; have hlG := LG.out; have hs0 := HLO.out; have hs1 := HHI.out; have hs2 := SS2.out; have hs3 := LWX.out; have hs4 := SS3.out; have hs5 := SS4.out; have hs6 := SS5.out; have hs7 := SQ6.out; have hs8 := SS7.out; have hs9 := SS8.out; have hs10 := LWG.out; first | omega | (simp <;> omega)) _ _))
    have G9 := Lib.hid (show Bx 25 w9 (bg) #[.int .i64 f.Kind, .int .i64 f.From, .int .i64 f.To, .int .i64 s2, .int .i64 f.Fragment, .bool f.More, .bool true, .int .i64 f.Duration, .slice Af nf cf] by rw [← hW]; exact (G8.out.set 3 _))
    have Q9 := Lib.hid (show Rq senS w9 lo hi A n c l by rw [← hW]; exact (Q8.out.same (by simp [World.setCell]) fun b h1 h2 => by rw [Below.heap_setCell _ _ _ _ (by have hlX := LX.out; have hlG := LG.out; have hs0 := HLO.out; have hs1 := HHI.out; have hs2 := SS2.out; have hs3 := LWX.out; have hs4 := SS3.out; have hs5 := SS4.out; have hs6 := SS5.out; have hs7 := SQ6.out; have hs8 := SS7.out; have hs9 := SS8.out; have hs10 := LWG.out; first | omega | (simp <;> omega))]))
    have Y9 := Lib.hid (show Oe senS w9 w2.heap.size w3.heap.size A1 n1 c1 (l1.map el) by rw [← hW]; exact (rgp.oe_setCell Y8.out G8.out (by decide) (by decide) 3 _))
    have W9 := Lib.hid (show Oe senS w9 w6.heap.size w7.heap.size A2 n2 c2 (l1.map el) by rw [← hW]; exact (rgp.oe_setCell W8.out G8.out (by decide) (by decide) 3 _))
    clear hW B8 X8 G8 Q8 Y8 W8
    have SQ9 := Lib.hid G9.out.lt
    clear hs2 ms
    have HA3 := Lib.hid (show acc l1 (⟨f.Kind, f.From, f.To, s2, f.Fragment, f.More, true, f.Duration, f.Body⟩ : Fra) k = (rem l1 (⟨f.Kind, f.From, f.To, s2, f.Fragment, f.More, true, f.Duration, f.Body⟩ : Fra) k, true) from acc_yes (not_isd HFA.out.2.1 rfl (by have h1 := HS2.out; dsimp only; omega)))
    have HNW := Lib.hid (show n2 ≤ 67108864 by have e1 := H21.out; have e2 := HNN.out; omega)
    have cG0 : w9.cell? ⟨bg, 0, none⟩ = some (.int .i64 f.Kind) := G9.out.cell 0
    have cG1 : w9.cell? ⟨bg, 1, none⟩ = some (.int .i64 f.From) := G9.out.cell 1
    have cG2 : w9.cell? ⟨bg, 2, none⟩ = some (.int .i64 f.To) := G9.out.cell 2
    have cG3 : w9.cell? ⟨bg, 3, none⟩ = some (.int .i64 s2) := G9.out.cell 3
    have cG4 : w9.cell? ⟨bg, 4, none⟩ = some (.int .i64 f.Fragment) := G9.out.cell 4
    have cG5 : w9.cell? ⟨bg, 5, none⟩ = some (.bool f.More) := G9.out.cell 5
    have cG6 : w9.cell? ⟨bg, 6, none⟩ = some (.bool true) := G9.out.cell 6
    have cG7 : w9.cell? ⟨bg, 7, none⟩ = some (.int .i64 f.Duration) := G9.out.cell 7
    have cG8 : w9.cell? ⟨bg, 8, none⟩ = some (.slice Af nf cf) := G9.out.cell 8
    go_wp2_with fail
    clear cG0 cG1 cG2 cG3 cG4 cG5 cG6 cG7 cG8
    (with_reducible refine (HA3.out ▸ implAc l1 A2 n2 c2 _ _ _ (oe_rq W9.out) HNW.out (⟨f.Kind, f.From, f.To, s2, f.Fragment, f.More, true, f.Duration, f.Body⟩ : Fra) k Af nf cf).mono ?_)
    rintro e w10 hp
    obtain ⟨A3, n3, c3, rfl, ho2, hb⟩ := ac_out hp
    clear hp
    have SS10 := Lib.hid hb.size
    have B10 := Lib.hid (B9.out.trans (hb.mono B9.out.size))
    have X10 := Lib.hid (X9.out.below hb)
    have G10 := Lib.hid (G9.out.below hb)
    have Q10 := Lib.hid (Q9.out.below hb)
    have Y10 := Lib.hid (Y9.out.below hb)
    have W10 := Lib.hid (W9.out.below hb)
    clear hb B9 X9 G9 Q9 Y9 W9
    have T10 := Lib.hid ho2
    clear ho2
    have e21 : (n2 : Int) = (n1 : Int) := by rw [H21.out]
    obtain ⟨vl, hvl⟩ : ∃ v, vs l = v := ⟨_, rfl⟩
    have HVL := Lib.hid hvl
    clear hvl
    go_wp2_with fail
    (with_reducible refine (specVs l A n c _ _ _ Q10.out).mono ?_)
    rintro e w11 hp
    obtain ⟨rfl, hb⟩ := b_parts HVL.out hp
    clear hp
    have SS11 := Lib.hid hb.size
    have B11 := Lib.hid (B10.out.trans (hb.mono B10.out.size))
    have X11 := Lib.hid (X10.out.below hb)
    have G11 := Lib.hid (G10.out.below hb)
    have Q11 := Lib.hid (Q10.out.below hb)
    have Y11 := Lib.hid (Y10.out.below hb)
    have W11 := Lib.hid (W10.out.below hb)
    have T11 := Lib.hid (T10.out.below hb)
    clear hb  B10 X10 G10 Q10 Y10 W10 T10
    cases vl with
    | true =>
      by_cases g0 : f.From < 0
      · have cX1 : w11.cell? ⟨bx, 1, none⟩ = some (.int .i64 f.From) := X11.out.cell 1
        have cX3 : w11.cell? ⟨bx, 3, none⟩ = some (.int .i64 f.Seq) := X11.out.cell 3
        have cX4 : w11.cell? ⟨bx, 4, none⟩ = some (.int .i64 f.Fragment) := X11.out.cell 4
        go_wp2_with fail
        clear cX1 cX3 cX4
        go_ret
        exact ⟨rfl, B11.out⟩
      · by_cases g1 : 16 ≤ f.From
        · have cX1 : w11.cell? ⟨bx, 1, none⟩ = some (.int .i64 f.From) := X11.out.cell 1
          have cX3 : w11.cell? ⟨bx, 3, none⟩ = some (.int .i64 f.Seq) := X11.out.cell 3
          have cX4 : w11.cell? ⟨bx, 4, none⟩ = some (.int .i64 f.Fragment) := X11.out.cell 4
          go_wp2_with fail
          clear cX1 cX3 cX4
          go_ret
          exact ⟨rfl, B11.out⟩
        · by_cases g2 : k < 0
          · have cX1 : w11.cell? ⟨bx, 1, none⟩ = some (.int .i64 f.From) := X11.out.cell 1
            have cX3 : w11.cell? ⟨bx, 3, none⟩ = some (.int .i64 f.Seq) := X11.out.cell 3
            have cX4 : w11.cell? ⟨bx, 4, none⟩ = some (.int .i64 f.Fragment) := X11.out.cell 4
            go_wp2_with fail
            clear cX1 cX3 cX4
            go_ret
            exact ⟨rfl, B11.out⟩
          · by_cases g3 : 3 < k
            · have cX1 : w11.cell? ⟨bx, 1, none⟩ = some (.int .i64 f.From) := X11.out.cell 1
              have cX3 : w11.cell? ⟨bx, 3, none⟩ = some (.int .i64 f.Seq) := X11.out.cell 3
              have cX4 : w11.cell? ⟨bx, 4, none⟩ = some (.int .i64 f.Fragment) := X11.out.cell 4
              go_wp2_with fail
              clear cX1 cX3 cX4
              go_ret
              exact ⟨rfl, B11.out⟩
            · by_cases g4 : f.Seq < 0
              · have cX1 : w11.cell? ⟨bx, 1, none⟩ = some (.int .i64 f.From) := X11.out.cell 1
                have cX3 : w11.cell? ⟨bx, 3, none⟩ = some (.int .i64 f.Seq) := X11.out.cell 3
                have cX4 : w11.cell? ⟨bx, 4, none⟩ = some (.int .i64 f.Fragment) := X11.out.cell 4
                go_wp2_with fail
                clear cX1 cX3 cX4
                go_ret
                exact ⟨rfl, B11.out⟩
              · by_cases g5 : 4095 < f.Seq
                · have cX1 : w11.cell? ⟨bx, 1, none⟩ = some (.int .i64 f.From) := X11.out.cell 1
                  have cX3 : w11.cell? ⟨bx, 3, none⟩ = some (.int .i64 f.Seq) := X11.out.cell 3
                  have cX4 : w11.cell? ⟨bx, 4, none⟩ = some (.int .i64 f.Fragment) := X11.out.cell 4
                  go_wp2_with fail
                  clear cX1 cX3 cX4
                  go_ret
                  exact ⟨rfl, B11.out⟩
                · by_cases g6 : f.Fragment < 0
                  · have cX1 : w11.cell? ⟨bx, 1, none⟩ = some (.int .i64 f.From) := X11.out.cell 1
                    have cX3 : w11.cell? ⟨bx, 3, none⟩ = some (.int .i64 f.Seq) := X11.out.cell 3
                    have cX4 : w11.cell? ⟨bx, 4, none⟩ = some (.int .i64 f.Fragment) := X11.out.cell 4
                    go_wp2_with fail
                    clear cX1 cX3 cX4
                    go_ret
                    exact ⟨rfl, B11.out⟩
                  · by_cases g7 : 15 < f.Fragment
                    · have cX1 : w11.cell? ⟨bx, 1, none⟩ = some (.int .i64 f.From) := X11.out.cell 1
                      have cX3 : w11.cell? ⟨bx, 3, none⟩ = some (.int .i64 f.Seq) := X11.out.cell 3
                      have cX4 : w11.cell? ⟨bx, 4, none⟩ = some (.int .i64 f.Fragment) := X11.out.cell 4
                      go_wp2_with fail
                      clear cX1 cX3 cX4
                      go_ret
                      exact ⟨rfl, B11.out⟩
                    · have HIN := Lib.hid (show vs l1 = true from HFA.out.2.2 HVL.out (by
                          unfold inr see
                          dsimp only
                          rw [decide_eq_true (show 0 ≤ f.From ∧ f.From ≤ 15 by omega), decide_eq_true (show 0 ≤ k ∧ k ≤ 3 by omega), decide_eq_true (show 0 ≤ f.Seq ∧ f.Seq ≤ 4095 by omega), decide_eq_true (show 0 ≤ f.Fragment ∧ f.Fragment ≤ 15 by omega)]
                          rfl))
                      have cX1 : w11.cell? ⟨bx, 1, none⟩ = some (.int .i64 f.From) := X11.out.cell 1
                      have cX3 : w11.cell? ⟨bx, 3, none⟩ = some (.int .i64 f.Seq) := X11.out.cell 3
                      have cX4 : w11.cell? ⟨bx, 4, none⟩ = some (.int .i64 f.Fragment) := X11.out.cell 4
                      go_wp2_with fail
                      clear cX1 cX3 cX4
                      (with_reducible refine (implVs l1 A1 n1 c1 _ _ _ (oe_rq Y11.out) (fun y hy => (HM1.out y hy).wf)).mono ?_)
                      rintro e w12 hp
                      obtain ⟨rfl, hb⟩ := b_parts HIN.out hp
                      clear hp
                      have SS12 := Lib.hid hb.size
                      have B12 := Lib.hid (B11.out.trans (hb.mono B11.out.size))
                      have X12 := Lib.hid (X11.out.below hb)
                      have G12 := Lib.hid (G11.out.below hb)
                      have Q12 := Lib.hid (Q11.out.below hb)
                      have Y12 := Lib.hid (Y11.out.below hb)
                      have W12 := Lib.hid (W11.out.below hb)
                      have T12 := Lib.hid (T11.out.below hb)
                      clear hb  B11 X11 G11 Q11 Y11 W11 T11
                      go_wp2_with fail
                      go_ret
                      exact ⟨rfl, B12.out⟩
    | false =>
      go_wp2_with fail
      go_ret
      exact ⟨rfl, B11.out⟩
  | false =>
    have cX0 : w4.cell? ⟨bx, 0, none⟩ = some (.int .i64 f.Kind) := X4.out.cell 0
    have cX1 : w4.cell? ⟨bx, 1, none⟩ = some (.int .i64 f.From) := X4.out.cell 1
    have cX2 : w4.cell? ⟨bx, 2, none⟩ = some (.int .i64 f.To) := X4.out.cell 2
    have cX3 : w4.cell? ⟨bx, 3, none⟩ = some (.int .i64 f.Seq) := X4.out.cell 3
    have cX4 : w4.cell? ⟨bx, 4, none⟩ = some (.int .i64 f.Fragment) := X4.out.cell 4
    have cX5 : w4.cell? ⟨bx, 5, none⟩ = some (.bool f.More) := X4.out.cell 5
    have cX6 : w4.cell? ⟨bx, 6, none⟩ = some (.bool f.Retry) := X4.out.cell 6
    have cX7 : w4.cell? ⟨bx, 7, none⟩ = some (.int .i64 f.Duration) := X4.out.cell 7
    have cX8 : w4.cell? ⟨bx, 8, none⟩ = some (.slice Af nf cf) := X4.out.cell 8
    go_wp2_with fail
    clear cX0 cX1 cX2 cX3 cX4 cX5 cX6 cX7 cX8
    (with_reducible refine (implId l A n c _ _ _ Q4.out HN.out f k Af nf cf).mono ?_)
    rintro e w5 hp
    obtain ⟨rfl, hb⟩ := b_parts HV.out hp
    clear hp
    have SS5 := Lib.hid hb.size
    have B5 := Lib.hid (B4.out.trans (hb.mono B4.out.size))
    have X5 := Lib.hid (X4.out.below hb)
    have Q5 := Lib.hid (Q4.out.below hb)
    have Y5 := Lib.hid (Y4.out.below hb)
    clear hb  B4 X4 Q4 Y4
    have cX6 : w5.cell? ⟨bx, 6, none⟩ = some (.bool f.Retry) := X5.out.cell 6
    have fX6 : w5.frozen? ⟨bx, 6, none⟩ = false := X5.out.free 6
    go_upto_region 8 with fail
    clear cX6 fX6
    have hWW : (w5.setCell ⟨bx, 6, none⟩ (.bool true)) = (w5.setCell ⟨bx, 6, none⟩ (.bool true)) := rfl
    obtain ⟨w6, hW⟩ : ∃ wy, (w5.setCell ⟨bx, 6, none⟩ (.bool true)) = wy := ⟨_, rfl⟩
    rw [hW]
    clear hWW
    have B6 := Lib.hid (show Below w.heap.size w w6 by rw [← hW]; exact (B5.out.setCell (p := ⟨bx, 6, none⟩) (by have hlX := LX.out; have hs0 := HLO.out; have hs1 := HHI.out; have hs2 := SS2.out; have hs3 := LWX.out; have hs4 := SS3.out; have hs5 := SS4.out; have hs6 := SS5.out; first | omega | (simp <;> omega)) _))
    have X6 := Lib.hid (show Bx 25 w6 (bx) #[.int .i64 f.Kind, .int .i64 f.From, .int .i64 f.To, .int .i64 f.Seq, .int .i64 f.Fragment, .bool f.More, .bool true, .int .i64 f.Duration, .slice Af nf cf] by rw [← hW]; exact (X5.out.set 6 _))
    have Q6 := Lib.hid (show Rq senS w6 lo hi A n c l by rw [← hW]; exact (Q5.out.same (by simp [World.setCell]) fun b h1 h2 => by rw [Below.heap_setCell _ _ _ _ (by have hlX := LX.out; have hs0 := HLO.out; have hs1 := HHI.out; have hs2 := SS2.out; have hs3 := LWX.out; have hs4 := SS3.out; have hs5 := SS4.out; have hs6 := SS5.out; first | omega | (simp <;> omega))]))
    have Y6 := Lib.hid (show Oe senS w6 w2.heap.size w3.heap.size A1 n1 c1 (l1.map el) by rw [← hW]; exact (rgp.oe_setCell Y5.out X5.out (by decide) (by decide) 6 _))
    clear hW B5 X5 Q5 Y5
    have SQ6 := Lib.hid X6.out.lt
    have HA2 := Lib.hid (show acc l1 (⟨f.Kind, f.From, f.To, f.Seq, f.Fragment, f.More, true, f.Duration, f.Body⟩ : Fra) k = (l1, false) from acc_no HFA.out.2.1)
    have cX0 : w6.cell? ⟨bx, 0, none⟩ = some (.int .i64 f.Kind) := X6.out.cell 0
    have cX1 : w6.cell? ⟨bx, 1, none⟩ = some (.int .i64 f.From) := X6.out.cell 1
    have cX2 : w6.cell? ⟨bx, 2, none⟩ = some (.int .i64 f.To) := X6.out.cell 2
    have cX3 : w6.cell? ⟨bx, 3, none⟩ = some (.int .i64 f.Seq) := X6.out.cell 3
    have cX4 : w6.cell? ⟨bx, 4, none⟩ = some (.int .i64 f.Fragment) := X6.out.cell 4
    have cX5 : w6.cell? ⟨bx, 5, none⟩ = some (.bool f.More) := X6.out.cell 5
    have cX6 : w6.cell? ⟨bx, 6, none⟩ = some (.bool true) := X6.out.cell 6
    have cX7 : w6.cell? ⟨bx, 7, none⟩ = some (.int .i64 f.Duration) := X6.out.cell 7
    have cX8 : w6.cell? ⟨bx, 8, none⟩ = some (.slice Af nf cf) := X6.out.cell 8
    go_wp2_with fail
    clear cX0 cX1 cX2 cX3 cX4 cX5 cX6 cX7 cX8
    (with_reducible refine (HA2.out ▸ implAc l1 A1 n1 c1 _ _ _ (oe_rq Y6.out) HNN.out (⟨f.Kind, f.From, f.To, f.Seq, f.Fragment, f.More, true, f.Duration, f.Body⟩ : Fra) k Af nf cf).mono ?_)
    rintro e w7 hp
    obtain ⟨A2, n2, c2, rfl, ho2, hb⟩ := ac_out hp
    clear hp
    have SS7 := Lib.hid hb.size
    have B7 := Lib.hid (B6.out.trans (hb.mono B6.out.size))
    have X7 := Lib.hid (X6.out.below hb)
    have Q7 := Lib.hid (Q6.out.below hb)
    have Y7 := Lib.hid (Y6.out.below hb)
    clear hb B6 X6 Q6 Y6
    have W7 := Lib.hid ho2
    clear ho2
    have HN2 := Lib.hid (oe_n W7.out)
    have h21 : n2 = n1 := HN2.out.symm.trans HN1.out
    have H21 := Lib.hid h21
    clear h21
    have cX0 : w7.cell? ⟨bx, 0, none⟩ = some (.int .i64 f.Kind) := X7.out.cell 0
    have cX1 : w7.cell? ⟨bx, 1, none⟩ = some (.int .i64 f.From) := X7.out.cell 1
    have cX2 : w7.cell? ⟨bx, 2, none⟩ = some (.int .i64 f.To) := X7.out.cell 2
    have cX3 : w7.cell? ⟨bx, 3, none⟩ = some (.int .i64 f.Seq) := X7.out.cell 3
    have cX4 : w7.cell? ⟨bx, 4, none⟩ = some (.int .i64 f.Fragment) := X7.out.cell 4
    have cX5 : w7.cell? ⟨bx, 5, none⟩ = some (.bool f.More) := X7.out.cell 5
    have cX6 : w7.cell? ⟨bx, 6, none⟩ = some (.bool true) := X7.out.cell 6
    have cX7 : w7.cell? ⟨bx, 7, none⟩ = some (.int .i64 f.Duration) := X7.out.cell 7
    have cX8 : w7.cell? ⟨bx, 8, none⟩ = some (.slice Af nf cf) := X7.out.cell 8
    go_upto_region 10 with fail
    clear cX0 cX1 cX2 cX3 cX4 cX5 cX6 cX7 cX8
    obtain ⟨bg, hbb⟩ : ∃ b, w7.heap.size = b := ⟨_, rfl⟩
    generalize hW : w7.alloc (.cells #[.int .i64 f.Kind, .int .i64 f.From, .int .i64 f.To, .int .i64 f.Seq, .int .i64 f.Fragment, .bool f.More, .bool true, .int .i64 f.Duration, .slice Af nf cf] 25) = w8
    have LG := Lib.hid (show w.heap.size ≤ bg ∧ bx < bg ∧ hi ≤ bg ∧ w3.heap.size ≤ bg ∧ w7.heap.size ≤ bg by have h1 := B7.out.size; have h2X := X7.out.lt; have h2Q := Q7.out.hi_; have h2Y := Y7.out.hi_; have h2W := W7.out.hi_; have h3 := hbb; omega)
    have G8 := Lib.hid (show Bx 25 w8 bg #[.int .i64 f.Kind, .int .i64 f.From, .int .i64 f.To, .int .i64 f.Seq, .int .i64 f.Fragment, .bool f.More, .bool true, .int .i64 f.Duration, .slice Af nf cf] by rw [← hW, ← hbb]; exact Bx.made _ _ _)
    have hb : Below w7.heap.size w7 w8 := by rw [← hW]; exact below_box _ _
    (try rw [hbb])
    clear hW hbb
    have SS8 := Lib.hid hb.size
    have B8 := Lib.hid (B7.out.trans (hb.mono B7.out.size))
    have X8 := Lib.hid (X7.out.below hb)
    have Q8 := Lib.hid (Q7.out.below hb)
    have Y8 := Lib.hid (Y7.out.below hb)
    have W8 := Lib.hid (W7.out.below hb)
    clear hb B7 X7 Q7 Y7 W7
    have LWG := Lib.hid G8.out.lt
    obtain ⟨s2, hs2⟩ : ∃ s : Int, f.Seq + 1 = s := ⟨_, rfl⟩
    have HS2 := Lib.hid hs2
    have ms : IntKind.i64.wrap s2 = s2 := IntWalk.i64_in _ (by have h1 := HSF.out.2.1; unfold Sm at h1; omega)
    have cX3 : w8.cell? ⟨bx, 3, none⟩ = some (.int .i64 f.Seq) := X8.out.cell 3
    have cG3 : w8.cell? ⟨bg, 3, none⟩ = some (.int .i64 f.Seq) := G8.out.cell 3
    have fG3 : w8.frozen? ⟨bg, 3, none⟩ = false := G8.out.free 3
    go_upto_region 11 with fail
    clear cX3 cG3 fG3
    have hWW : (w8.setCell ⟨bg, 3, none⟩ (.int .i64 s2)) = (w8.setCell ⟨bg, 3, none⟩ (.int .i64 s2)) := rfl
    obtain ⟨w9, hW⟩ : ∃ wy, (w8.setCell ⟨bg, 3, none⟩ (.int .i64 s2)) = wy := ⟨_, rfl⟩
    rw [hW]
    clear hWW
    have B9 := Lib.hid (show Below w.heap.size w w9 by rw [← hW]; exact (B8.out.setCell (p := ⟨bg, 3, none⟩) (by have hlX := LX.out; have hlG := LG.out; have hs0 := HLO.out; have hs1 := HHI.out; have hs2 := SS2.out; have hs3 := LWX.out; have hs4 := SS3.out; have hs5 := SS4.out; have hs6 := SS5.out; have hs7 := SQ6.out; have hs8 := SS7.out; have hs9 := SS8.out; have hs10 := LWG.out; first | omega | (simp <;> omega)) _))
    have X9 := Lib.hid (show Bx 25 w9 (bx) #[.int .i64 f.Kind, .int .i64 f.From, .int .i64 f.To, .int .i64 f.Seq, .int .i64 f.Fragment, .bool f.More, .bool true, .int .i64 f.Duration, .slice Af nf cf] by rw [← hW]; exact (X8.out.other (by have hlX := LX.out; have hlG := LG.out; have hs0 := HLO.out; have hs1 := HHI.out; have hs2 := SS2.out; have hs3 := LWX.out; have hs4 := SS3.out; have hs5 := SS4.out; have hs6 := SS5.out; have hs7 := SQ6.out; have hs8 := SS7.out; have hs9 := SS8.out; have hs10 := LWG.out; first | omega | (simp <;> omega)) _ _))
    have G9 := Lib.hid (show Bx 25 w9 (bg) #[.int .i64 f.Kind, .int .i64 f.From, .int .i64 f.To, .int .i64 s2, .int .i64 f.Fragment, .bool f.More, .bool true, .int .i64 f.Duration, .slice Af nf cf] by rw [← hW]; exact (G8.out.set 3 _))
    have Q9 := Lib.hid (show Rq senS w9 lo hi A n c l by rw [← hW]; exact (Q8.out.same (by simp [World.setCell]) fun b h1 h2 => by rw [Below.heap_setCell _ _ _ _ (by have hlX := LX.out; have hlG := LG.out; have hs0 := HLO.out; have hs1 := HHI.out; have hs2 := SS2.out; have hs3 := LWX.out; have hs4 := SS3.out; have hs5 := SS4.out; have hs6 := SS5.out; have hs7 := SQ6.out; have hs8 := SS7.out; have hs9 := SS8.out; have hs10 := LWG.out; first | omega | (simp <;> omega))]))
    have Y9 := Lib.hid (show Oe senS w9 w2.heap.size w3.heap.size A1 n1 c1 (l1.map el) by rw [← hW]; exact (rgp.oe_setCell Y8.out G8.out (by decide) (by decide) 3 _))
    have W9 := Lib.hid (show Oe senS w9 w6.heap.size w7.heap.size A2 n2 c2 (l1.map el) by rw [← hW]; exact (rgp.oe_setCell W8.out G8.out (by decide) (by decide) 3 _))
    clear hW B8 X8 G8 Q8 Y8 W8
    have SQ9 := Lib.hid G9.out.lt
    clear hs2 ms
    have HA3 := Lib.hid (show acc l1 (⟨f.Kind, f.From, f.To, s2, f.Fragment, f.More, true, f.Duration, f.Body⟩ : Fra) k = (rem l1 (⟨f.Kind, f.From, f.To, s2, f.Fragment, f.More, true, f.Duration, f.Body⟩ : Fra) k, true) from acc_yes (not_isd HFA.out.2.1 rfl (by have h1 := HS2.out; dsimp only; omega)))
    have HNW := Lib.hid (show n2 ≤ 67108864 by have e1 := H21.out; have e2 := HNN.out; omega)
    have cG0 : w9.cell? ⟨bg, 0, none⟩ = some (.int .i64 f.Kind) := G9.out.cell 0
    have cG1 : w9.cell? ⟨bg, 1, none⟩ = some (.int .i64 f.From) := G9.out.cell 1
    have cG2 : w9.cell? ⟨bg, 2, none⟩ = some (.int .i64 f.To) := G9.out.cell 2
    have cG3 : w9.cell? ⟨bg, 3, none⟩ = some (.int .i64 s2) := G9.out.cell 3
    have cG4 : w9.cell? ⟨bg, 4, none⟩ = some (.int .i64 f.Fragment) := G9.out.cell 4
    have cG5 : w9.cell? ⟨bg, 5, none⟩ = some (.bool f.More) := G9.out.cell 5
    have cG6 : w9.cell? ⟨bg, 6, none⟩ = some (.bool true) := G9.out.cell 6
    have cG7 : w9.cell? ⟨bg, 7, none⟩ = some (.int .i64 f.Duration) := G9.out.cell 7
    have cG8 : w9.cell? ⟨bg, 8, none⟩ = some (.slice Af nf cf) := G9.out.cell 8
    go_wp2_with fail
    clear cG0 cG1 cG2 cG3 cG4 cG5 cG6 cG7 cG8
    (with_reducible refine (HA3.out ▸ implAc l1 A2 n2 c2 _ _ _ (oe_rq W9.out) HNW.out (⟨f.Kind, f.From, f.To, s2, f.Fragment, f.More, true, f.Duration, f.Body⟩ : Fra) k Af nf cf).mono ?_)
    rintro e w10 hp
    obtain ⟨A3, n3, c3, rfl, ho2, hb⟩ := ac_out hp
    clear hp
    have SS10 := Lib.hid hb.size
    have B10 := Lib.hid (B9.out.trans (hb.mono B9.out.size))
    have X10 := Lib.hid (X9.out.below hb)
    have G10 := Lib.hid (G9.out.below hb)
    have Q10 := Lib.hid (Q9.out.below hb)
    have Y10 := Lib.hid (Y9.out.below hb)
    have W10 := Lib.hid (W9.out.below hb)
    clear hb B9 X9 G9 Q9 Y9 W9
    have T10 := Lib.hid ho2
    clear ho2
    have e21 : (n2 : Int) = (n1 : Int) := by rw [H21.out]
    obtain ⟨vl, hvl⟩ : ∃ v, vs l = v := ⟨_, rfl⟩
    have HVL := Lib.hid hvl
    clear hvl
    go_wp2_with fail
    (with_reducible refine (specVs l A n c _ _ _ Q10.out).mono ?_)
    rintro e w11 hp
    obtain ⟨rfl, hb⟩ := b_parts HVL.out hp
    clear hp
    have SS11 := Lib.hid hb.size
    have B11 := Lib.hid (B10.out.trans (hb.mono B10.out.size))
    have X11 := Lib.hid (X10.out.below hb)
    have G11 := Lib.hid (G10.out.below hb)
    have Q11 := Lib.hid (Q10.out.below hb)
    have Y11 := Lib.hid (Y10.out.below hb)
    have W11 := Lib.hid (W10.out.below hb)
    have T11 := Lib.hid (T10.out.below hb)
    clear hb  B10 X10 G10 Q10 Y10 W10 T10
    cases vl with
    | true =>
      by_cases g0 : f.From < 0
      · have cX1 : w11.cell? ⟨bx, 1, none⟩ = some (.int .i64 f.From) := X11.out.cell 1
        have cX3 : w11.cell? ⟨bx, 3, none⟩ = some (.int .i64 f.Seq) := X11.out.cell 3
        have cX4 : w11.cell? ⟨bx, 4, none⟩ = some (.int .i64 f.Fragment) := X11.out.cell 4
        go_wp2_with fail
        clear cX1 cX3 cX4
        go_ret
        exact ⟨rfl, B11.out⟩
      · by_cases g1 : 16 ≤ f.From
        · have cX1 : w11.cell? ⟨bx, 1, none⟩ = some (.int .i64 f.From) := X11.out.cell 1
          have cX3 : w11.cell? ⟨bx, 3, none⟩ = some (.int .i64 f.Seq) := X11.out.cell 3
          have cX4 : w11.cell? ⟨bx, 4, none⟩ = some (.int .i64 f.Fragment) := X11.out.cell 4
          go_wp2_with fail
          clear cX1 cX3 cX4
          go_ret
          exact ⟨rfl, B11.out⟩
        · by_cases g2 : k < 0
          · have cX1 : w11.cell? ⟨bx, 1, none⟩ = some (.int .i64 f.From) := X11.out.cell 1
            have cX3 : w11.cell? ⟨bx, 3, none⟩ = some (.int .i64 f.Seq) := X11.out.cell 3
            have cX4 : w11.cell? ⟨bx, 4, none⟩ = some (.int .i64 f.Fragment) := X11.out.cell 4
            go_wp2_with fail
            clear cX1 cX3 cX4
            go_ret
            exact ⟨rfl, B11.out⟩
          · by_cases g3 : 3 < k
            · have cX1 : w11.cell? ⟨bx, 1, none⟩ = some (.int .i64 f.From) := X11.out.cell 1
              have cX3 : w11.cell? ⟨bx, 3, none⟩ = some (.int .i64 f.Seq) := X11.out.cell 3
              have cX4 : w11.cell? ⟨bx, 4, none⟩ = some (.int .i64 f.Fragment) := X11.out.cell 4
              go_wp2_with fail
              clear cX1 cX3 cX4
              go_ret
              exact ⟨rfl, B11.out⟩
            · by_cases g4 : f.Seq < 0
              · have cX1 : w11.cell? ⟨bx, 1, none⟩ = some (.int .i64 f.From) := X11.out.cell 1
                have cX3 : w11.cell? ⟨bx, 3, none⟩ = some (.int .i64 f.Seq) := X11.out.cell 3
                have cX4 : w11.cell? ⟨bx, 4, none⟩ = some (.int .i64 f.Fragment) := X11.out.cell 4
                go_wp2_with fail
                clear cX1 cX3 cX4
                go_ret
                exact ⟨rfl, B11.out⟩
              · by_cases g5 : 4095 < f.Seq
                · have cX1 : w11.cell? ⟨bx, 1, none⟩ = some (.int .i64 f.From) := X11.out.cell 1
                  have cX3 : w11.cell? ⟨bx, 3, none⟩ = some (.int .i64 f.Seq) := X11.out.cell 3
                  have cX4 : w11.cell? ⟨bx, 4, none⟩ = some (.int .i64 f.Fragment) := X11.out.cell 4
                  go_wp2_with fail
                  clear cX1 cX3 cX4
                  go_ret
                  exact ⟨rfl, B11.out⟩
                · by_cases g6 : f.Fragment < 0
                  · have cX1 : w11.cell? ⟨bx, 1, none⟩ = some (.int .i64 f.From) := X11.out.cell 1
                    have cX3 : w11.cell? ⟨bx, 3, none⟩ = some (.int .i64 f.Seq) := X11.out.cell 3
                    have cX4 : w11.cell? ⟨bx, 4, none⟩ = some (.int .i64 f.Fragment) := X11.out.cell 4
                    go_wp2_with fail
                    clear cX1 cX3 cX4
                    go_ret
                    exact ⟨rfl, B11.out⟩
                  · by_cases g7 : 15 < f.Fragment
                    · have cX1 : w11.cell? ⟨bx, 1, none⟩ = some (.int .i64 f.From) := X11.out.cell 1
                      have cX3 : w11.cell? ⟨bx, 3, none⟩ = some (.int .i64 f.Seq) := X11.out.cell 3
                      have cX4 : w11.cell? ⟨bx, 4, none⟩ = some (.int .i64 f.Fragment) := X11.out.cell 4
                      go_wp2_with fail
                      clear cX1 cX3 cX4
                      go_ret
                      exact ⟨rfl, B11.out⟩
                    · have HIN := Lib.hid (show vs l1 = true from HFA.out.2.2 HVL.out (by
                          unfold inr see
                          dsimp only
                          rw [decide_eq_true (show 0 ≤ f.From ∧ f.From ≤ 15 by omega), decide_eq_true (show 0 ≤ k ∧ k ≤ 3 by omega), decide_eq_true (show 0 ≤ f.Seq ∧ f.Seq ≤ 4095 by omega), decide_eq_true (show 0 ≤ f.Fragment ∧ f.Fragment ≤ 15 by omega)]
                          rfl))
                      have cX1 : w11.cell? ⟨bx, 1, none⟩ = some (.int .i64 f.From) := X11.out.cell 1
                      have cX3 : w11.cell? ⟨bx, 3, none⟩ = some (.int .i64 f.Seq) := X11.out.cell 3
                      have cX4 : w11.cell? ⟨bx, 4, none⟩ = some (.int .i64 f.Fragment) := X11.out.cell 4
                      go_wp2_with fail
                      clear cX1 cX3 cX4
                      (with_reducible refine (implVs l1 A1 n1 c1 _ _ _ (oe_rq Y11.out) (fun y hy => (HM1.out y hy).wf)).mono ?_)
                      rintro e w12 hp
                      obtain ⟨rfl, hb⟩ := b_parts HIN.out hp
                      clear hp
                      have SS12 := Lib.hid hb.size
                      have B12 := Lib.hid (B11.out.trans (hb.mono B11.out.size))
                      have X12 := Lib.hid (X11.out.below hb)
                      have G12 := Lib.hid (G11.out.below hb)
                      have Q12 := Lib.hid (Q11.out.below hb)
                      have Y12 := Lib.hid (Y11.out.below hb)
                      have W12 := Lib.hid (W11.out.below hb)
                      have T12 := Lib.hid (T11.out.below hb)
                      clear hb  B11 X11 G11 Q11 Y11 W11 T11
                      go_wp2_with fail
                      go_ret
                      exact ⟨rfl, B12.out⟩
    | false =>
      go_wp2_with fail
      go_ret
      exact ⟨rfl, B11.out⟩
end Go.Proofs.Ytbkdbdhbmabgcaa.dupLaw
end
