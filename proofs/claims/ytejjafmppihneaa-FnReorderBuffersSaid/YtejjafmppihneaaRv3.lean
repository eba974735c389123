/- What is ready is delivered by the program; the window of a valid buffer. Condition: what was delivered is short. -/
import Derived.Test.YtejjafmppihneaaRv2
import Derived.Test.YtejjafmppihneaaUs22
namespace Go.Proofs.Ytejjafmppihneaa.ro
open Go.RowKit sl harn bx stw
open ux (Nf Rob RR OO row rowB rowNf nf rob)
open bs (nsq sqd)
set_option linter.unusedVariables false
set_option linter.unusedSimpArgs false

def sAt (w : World) (b : Nat) : Int := intOf ((w.cell? ⟨b, 0, none⟩).getD undef)
theorem sAt_of {w : World} {b : Nat} {fp : List Nat} {t : St} (h : Rv w b fp t) : sAt w b = t.s := by
  obtain ⟨A, n, c, hX, _⟩ := h
  unfold sAt
  rw [hX.cell]; rfl
theorem adv_out (t : St) (k : Nat) : (advS t k).out.length ≤ t.out.length + t.ws.length := by
  simp only [advS, List.length_append]
  have := bods_len (t.ws.take k)
  rw [List.length_take] at this
  omega
set_option maxRecDepth 100000 in
set_option maxHeartbeats 4000000 in
theorem ready (t : St) (b : Nat) (fp : List Nat) (w : World) (h : Rv w b fp t) (hq : t.out.length ≤ 900000) :
    Calls Try.prog 76 #[.pointer (some ⟨b, 0, none⟩)] w (AvPost b fp (runS t) w) := by
  have HR0 := Lib.hid h
  have HQ := Lib.hid hq
  have HL := Lib.hid (show t.ws.length = 16 from by obtain ⟨_, _, _, _, _, _, h4, _⟩ := h; exact h4)
  have HS := Lib.hid (show 0 ≤ t.s ∧ t.s ≤ 4095 from by obtain ⟨_, _, _, _, _, _, _, h5, _⟩ := h; exact h5)
  have HRD := Lib.hid (rdy_le t.ws)
  clear h hq
  go_enter Try.func76, Try.ntmps76
  go_wp2_with fail
  go_loopw [] (fun wr => ∃ (k : Nat) (f : List Nat), k ≤ rdy t.ws ∧ Rv wr b f (advS t k) ∧ (∀ q, q ∈ f → q ∈ fp ∨ w.heap.size ≤ q) ∧ KS (b :: fp) w wr) (fun wr => ((t.s + 20 - sAt wr b) % 4096).toNat)
  case atStart => exact ⟨0, fp, Nat.zero_le _, by rw [adv_zero HS.out]; exact HR0.out, fun q hq => .inl hq, KS.refl _ _⟩
  case round =>
    obtain ⟨k, f, hk, hr, hf, hks⟩ := hrel
    have HR := Lib.hid hr
    have HF := Lib.hid hf
    have HK := Lib.hid hks
    have HKL := Lib.hid hk
    obtain ⟨A1, m1, c1, hX1, _, _, hl1, _⟩ := hr
    have HX1 := Lib.hid hX1
    have HL1 := Lib.hid hl1
    have HH := Lib.hid (adv_head HL.out k)
    clear hX1 hl1 hf hks hk
    by_cases hlt : k < rdy t.ws
    · have HE := Lib.hid (show ∃ x, (advS t k).ws[0]? = some (some x) by
        obtain ⟨x, hx⟩ := rdy_at hlt
        rw [HH.out, if_pos (by have := HRD.out; have := HL.out; omega)]; exact ⟨x, hx⟩)
      have c0 : wr.cell? ⟨b, 1, none⟩ = some (.bool true) := by
        obtain ⟨x, hx⟩ := HE.out
        rw [HX1.out.cell]
        exact vcs_win (i := 0) (wcs_at hx).1
      go_wp2_with fail
      have HA : Calls Try.prog 74 #[.pointer (some ⟨b, 0, none⟩), .int .i64 1] wr (AvPost b f (advS (advS t k) 1) wr) := (advance (advS t k) 1 b f wr HR.out (by omega) (by have h1 := adv_out t k; have h2 := HQ.out; have h3 := HL.out; omega))
      have HA := Lib.hid HA
      (with_reducible refine HA.out.mono ?_)
      rintro e w2 hp
      obtain ⟨rfl, f2, hr2, hf2, hk2⟩ := av_parts hp
      rw [adv_step (by have := HRD.out; omega)] at hr2
      have HM := Lib.hid (show ((t.s + 20 - sAt w2 b) % 4096).toNat < ((t.s + 20 - sAt wr b) % 4096).toNat by
        rw [sAt_of hr2, sAt_of HR.out]
        simp only [advS]
        have h1 := HRD.out; have h2 := HL.out; have h3 := HS.out
        push_cast
        omega)
      have HR2 := Lib.hid hr2
      have HF2 := Lib.hid (new_on HF.out HK.out.size hf2)
      have HK2 := Lib.hid (ks_on HK.out HF.out hk2)
      clear hp hr2 hf2 hk2 c0
      go_wp2_with fail
      go_roundw
      case rel => exact ⟨k + 1, f2, by omega, HR2.out, HF2.out, HK2.out⟩
      case measure => exact HM.out
    · have HE := Lib.hid (show k = rdy t.ws by have := HKL.out; omega)
      have c0 : wr.cell? ⟨b, 1, none⟩ = some (.bool false) := by
        have h0 : (advS t k).ws[0]? = some none := by
          rw [HH.out]
          split
          · rename_i h16
            match hx : t.ws[k]? with
            | none => rw [List.getElem?_eq_none_iff] at hx; have := HL.out; omega
            | some none => rfl
            | some (some y) => rw [HE.out] at hx; exact absurd hx (rdy_end _ _)
          · rfl
        rw [HX1.out.cell]
        exact vcs_win (i := 0) (wcs_at h0).1
      go_wp2_with fail
      exact bodyPost_end (results_none rfl _ _ _) rfl ⟨rfl, f, by unfold runS; rw [← HE.out]; exact HR.out, HF.out, HK.out⟩
end Go.Proofs.Ytejjafmppihneaa.ro
