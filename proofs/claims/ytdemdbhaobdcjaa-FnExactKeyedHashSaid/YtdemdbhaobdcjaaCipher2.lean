/- The cipher of the specification: statements that draw their order, with a call and an append. Condition: lengths up to 2^26. -/
import Derived.Test.YtdemdbhaobdcjaaCipher
import Derived.Deep.RegionWith
import Derived.Deep.RegionHeld3
namespace Go.Proofs.Ytdemdbhaobdcjaa.cip
open Go.RowKit sl harn hsh

/-- An append onto a slice of the call's own, at a step of a region that draws its order. -/
theorem step_app {P : Program} {ops : Array Oper} {o : Oper} {a : Act} {w : World} {K : Act → World → Prop} {Q : Exit → Act → World → Prop} {X : Prop} (hg : o.guard = none) (s x : Operand) (t : TypeId)
    (hop : o.op = .call { callee := .builtin .append, args := #[s, x], argTypes := #[t, t] })
    (E : TypeId) (i : TypeInfo) (z : Value) (k : IntKind) (h1 : P.underlying t = some (.slice E)) (h2 : P.info? E = some i) (h3 : i.zero = some z) (h4 : i.size = 1) (h5 : i.bytes ≤ 8) (h6 : z.cells.size = 1)
    {lo hi lo2 hi2 n cap m c : Nat} {A B : Option Addr} {zs ys : List Int} (hs : a.eval s = .slice A n cap) (hx : a.eval x = .slice B m c) (ho : Ow E k w lo hi A n cap zs) (hr : Rd k w lo2 hi2 B m c ys) (hn : n + m ≤ 1073741824) (hlo : lo ≤ w.heap.size)
    (hK : ∀ A' cap' w', Ow E k w' lo w'.heap.size A' (n + m) cap' (zs ++ ys) → Below lo w w' → K (a.put o.dst (.slice A' (n + m) cap')) w') :
    if Region.wanted o (yielded ops a.tmps) = true then Oper.wp P o a w K Q else X := by
  have hw : Region.wanted o (yielded ops a.tmps) = true := by simp [Region.wanted, hg]
  rw [if_pos hw]
  obtain ⟨A', cap', w', hrun, g1, g2⟩ := app (P := P) t o.type E i z k h1 h2 h3 h4 h5 h6 ho hr hn hlo
  unfold Oper.wp execOp
  simp only [hop, resolve, invoke, builtin, Sem.run_bind, Sem.run_pure, Result.andThen_ok, List.map_toArray, List.map_cons, List.map_nil, hs, hx, hrun]
  exact hK A' cap' w' g1 g2

theorem rd_drew {k : IntKind} {w : World} {lo hi n cap : Nat} {A : Option Addr} {zs : List Int} (h : Rd k w lo hi A n cap zs) : Rd k w.drew lo hi A n cap zs := h.same (Nat.le_refl _) fun _ _ _ => rfl
theorem ow_drew {E : TypeId} {k : IntKind} {w : World} {lo hi n cap : Nat} {A : Option Addr} {zs : List Int} (h : Ow E k w lo hi A n cap zs) : Ow E k w.drew lo hi A n cap zs := h.same (Nat.le_refl _) fun _ _ _ => rfl
/-- Bytes that are being gathered. -/
def Gath (w wr : World) (zs : List Int) (k : Nat) (v : Value) : Prop := ∃ A c, v = .slice A k c ∧ Ow 5 .u8 wr w.heap.size wr.heap.size A k c (zs.take k) ∧ Below w.heap.size w wr
theorem behind {wr W w7 : World} {o : Obj} (hb : Below W.heap.size W w7) (e : W.heap = (wr.alloc o).heap) (e1 : W.os = wr.os) (e2 : W.tape = wr.tape) (e3 : W.output = wr.output) : Below wr.heap.size wr w7 := by
  have h2 : Below wr.heap.size wr W := ⟨e1, e2, e3, by rw [e]; simp, fun k hk => by rw [e]; exact heap_alloc_old _ _ hk⟩
  exact h2.trans (hb.mono h2.size)
theorem cell_same {k : IntKind} {w w' : World} {lo hi n cap : Nat} {b off : Nat} {zs : List Int} (h : Rd k w lo hi (some ⟨b, off, none⟩) n cap zs) (h2 : Rd k w' lo hi (some ⟨b, off, none⟩) n cap zs) {i : Nat} (hi' : i < n) : w'.cell? ⟨b, off + i, none⟩ = w.cell? ⟨b, off + i, none⟩ := by
  obtain ⟨b1, o1, e1, _, _, g1⟩ := h.at_ hi'
  obtain ⟨b2, o2, e2, _, _, g2⟩ := h2.at_ hi'
  injection e1 with e1; injection e1 with e1 e1'; subst e1 e1'
  injection e2 with e2; injection e2 with e2 e2'; subst e2 e2'
  rw [g1, g2]
theorem enc_val {x g : Int} (h0 : 0 ≤ x) (h1 : x ≤ 255) (h2 : 0 ≤ g) : IntKind.u8.wrap ((IntKind.i64.wrap (IntKind.i64.wrap x + g.tmod 256)).tmod 256) = (x + g % 256) % 256 := by
  have e := Int.tmod_eq_emod_of_nonneg (b := 256) h2
  rw [IntWalk.i64_in x (by omega), e, IntWalk.i64_in _ (by omega), Int.tmod_eq_emod_of_nonneg (by omega), IntWalk.u8_in _ (by omega)]
theorem dec_val {x g : Int} (h0 : 0 ≤ x) (h1 : x ≤ 255) (h2 : 0 ≤ g) : IntKind.u8.wrap (IntKind.i64.wrap (IntKind.i64.wrap x - g.tmod 256) % 256) = (x - g % 256) % 256 := by
  have e := Int.tmod_eq_emod_of_nonneg (b := 256) h2
  rw [IntWalk.i64_in x (by omega), e, IntWalk.i64_in _ (by omega), IntWalk.u8_in _ (by omega)]
set_option maxRecDepth 100000 in
set_option maxHeartbeats 4000000 in
theorem specEnc (key : Int) (hk : (Lit.int .i64 key).wf = true) (zs : List Int) (lo hi : Nat) (A : Option Addr) (n cap : Nat) (w : World) (h : Rd .u8 w lo hi A n cap zs) (hn : n ≤ 67108864) :
    Calls Try.prog 38 #[.int .i64 key, .slice A n cap] w (SlPost 5 .u8 w (enc key zs)) := by
  obtain ⟨i0, hi0, hz0, hz1, hz2⟩ := info_parts u8Info
  have HZ := Lib.hid (And.intro hi0 (And.intro hz0 (And.intro hz1 hz2)))
  have HR := Lib.hid h
  have HK := Lib.hid hk
  clear h hz2 hz1 hz0 hi0 hk
  go_enter Try.func38, Try.ntmps38
  go_wp2
  go_loopw [5, 6] (fun v i wr => ∃ k : Nat, i = .int .i64 k ∧ k ≤ n ∧ Gath w wr (enc key zs) k v) (fun _ i _ => n - (intOf i).toNat)
  case atStart => exact ⟨0, rfl, by omega, _, _, rfl, (Ow.empty 5 .u8 w).up, (Below.refl _ _).alloc (Nat.le_refl _) _⟩
  case round =>
    obtain ⟨k, rfl, hk, B, c, rfl, ho, hb⟩ := hrel
    have HO := Lib.hid ho
    have HB := Lib.hid hb
    clear ho hb
    by_cases hlt : k < n
    · obtain ⟨b, off, rfl, h1, h2, hc⟩ := (HR.out.below HB.out).at_ hlt
      have hx01 : 0 ≤ zs.getD k 0 ∧ zs.getD k 0 ≤ 255 := by
        have h1 := HR.out.wf.getD (i := k) (by have := HR.out.len; omega)
        have := bounds_u8 h1; omega
      obtain ⟨x, hx⟩ : ∃ x, zs.getD k 0 = x := ⟨_, rfl⟩
      obtain ⟨g, hg⟩ : ∃ g, kh key [(k : Int)] = g := ⟨_, rfl⟩
      have hg01 := kh_in key [(k : Int)]
      rw [hg] at hg01
      rw [hx] at hc hx01
      obtain ⟨hx0, hx1⟩ := hx01
      obtain ⟨hg0, hg1⟩ := hg01
      have HE := Lib.hid (show (enc key zs).getD k 0 = IntKind.u8.wrap ((IntKind.i64.wrap (IntKind.i64.wrap x + g.tmod 256)).tmod 256) by rw [enc_at key zs (by have := HR.out.len; omega), hx, hg]; exact (enc_val hx0 hx1 hg0).symm)
      have HL := Lib.hid (show k < (enc key zs).length by rw [enc_len]; have := HR.out.len; omega)
      have HG := Lib.hid hg
      have hb1 : b < wr.heap.size := by have := HB.out.size; have := HR.out.hi_; omega
      have HI := Lib.hid (show (Lit.int .i64 (k : Int)).wf = true from WalkArith.wf_i64 (by omega))
      have HC8 := Lib.hid (fun (W : World) (hW : Below w.heap.size w W) => (cell_same (HR.out.below HB.out) (HR.out.below hW) hlt).trans hc)
      clear hx hg h1 h2
      have hlt2 : (k : Int) < n := by omega
      go_wp2_with fail
      go_region_held3 (fun w' => w'.cell? ⟨b, off + k, none⟩ = some (.int .u8 x)) (go_keep)
        (first
        | (go_at_call 29; refine (specKh key HK.out _ _ _ _ 1 1 _ (rd_drew (Rd.one .i64 3 wr k HI.out)) (by omega)).mono ?_; rintro e w7 ⟨rfl, hb7⟩; rw [HG.out]; have B7 := Lib.hid (behind hb7 rfl rfl rfl rfl); have c7 := (B7.out.cell (p := ⟨b, off + k, none⟩) hb1).trans hc; clear hb7)
        | (refine step_app rfl _ _ 22 rfl 5 i0 _ .u8 Try.underlying22 HZ.out.1 HZ.out.2.1 HZ.out.2.2.1 (by rw [HZ.out.2.2.2]; omega) rfl rfl rfl ((HO.out.below B7.out).alloc _) (Rd.one .u8 _ _ _ (wf_u8_wrap _)) (by omega) (by have := B7.out.size; have := HB.out.size; simp; omega) ?_; intro A8 c8 w8 ho8 hb8; have O8 := Lib.hid ho8; have B8 := Lib.hid (((HB.out.trans (B7.out.mono HB.out.size)).alloc (Nat.le_trans HB.out.size B7.out.size) _).trans hb8); have k8 := HC8.out _ B8.out; clear ho8 hb8))
      clear k8 c7
      go_wp2_with fail
      go_roundw
      case rel => exact ⟨k + 1, by go_num, by omega, A8, c8, rfl, by rw [take_one _ HL.out, HE.out]; exact O8.out, B8.out⟩
      case measure => simp [intOf]; omega
    · have hlt2 : ¬ (k : Int) < n := by omega
      go_wp2
      go_ret
      have hz := HO.out
      rw [List.take_of_length_le (by rw [enc_len]; have := HR.out.len; omega)] at hz
      exact ⟨_, _, _, rfl, hz, HB.out⟩
set_option maxRecDepth 100000 in
set_option maxHeartbeats 4000000 in
theorem specDec (key : Int) (hk : (Lit.int .i64 key).wf = true) (zs : List Int) (lo hi : Nat) (A : Option Addr) (n cap : Nat) (w : World) (h : Rd .u8 w lo hi A n cap zs) (hn : n ≤ 67108864) :
    Calls Try.prog 40 #[.int .i64 key, .slice A n cap] w (SlPost 5 .u8 w (dec key zs)) := by
  obtain ⟨i0, hi0, hz0, hz1, hz2⟩ := info_parts u8Info
  have HZ := Lib.hid (And.intro hi0 (And.intro hz0 (And.intro hz1 hz2)))
  have HR := Lib.hid h
  have HK := Lib.hid hk
  clear h hz2 hz1 hz0 hi0 hk
  go_enter Try.func40, Try.ntmps40
  go_wp2
  go_loopw [5, 6] (fun v i wr => ∃ k : Nat, i = .int .i64 k ∧ k ≤ n ∧ Gath w wr (dec key zs) k v) (fun _ i _ => n - (intOf i).toNat)
  case atStart => exact ⟨0, rfl, by omega, _, _, rfl, (Ow.empty 5 .u8 w).up, (Below.refl _ _).alloc (Nat.le_refl _) _⟩
  case round =>
    obtain ⟨k, rfl, hk, B, c, rfl, ho, hb⟩ := hrel
    have HO := Lib.hid ho
    have HB := Lib.hid hb
    clear ho hb
    by_cases hlt : k < n
    · obtain ⟨b, off, rfl, h1, h2, hc⟩ := (HR.out.below HB.out).at_ hlt
      have hx01 : 0 ≤ zs.getD k 0 ∧ zs.getD k 0 ≤ 255 := by
        have h1 := HR.out.wf.getD (i := k) (by have := HR.out.len; omega)
        have := bounds_u8 h1; omega
      obtain ⟨x, hx⟩ : ∃ x, zs.getD k 0 = x := ⟨_, rfl⟩
      obtain ⟨g, hg⟩ : ∃ g, kh key [(k : Int)] = g := ⟨_, rfl⟩
      have hg01 := kh_in key [(k : Int)]
      rw [hg] at hg01
      rw [hx] at hc hx01
      obtain ⟨hx0, hx1⟩ := hx01
      obtain ⟨hg0, hg1⟩ := hg01
      have HE := Lib.hid (show (dec key zs).getD k 0 = IntKind.u8.wrap (IntKind.i64.wrap (IntKind.i64.wrap x - g.tmod 256) % 256) by rw [dec_at key zs (by have := HR.out.len; omega), hx, hg]; exact (dec_val hx0 hx1 hg0).symm)
      have HL := Lib.hid (show k < (dec key zs).length by rw [dec_len]; have := HR.out.len; omega)
      have HG := Lib.hid hg
      have hb1 : b < wr.heap.size := by have := HB.out.size; have := HR.out.hi_; omega
      have HI := Lib.hid (show (Lit.int .i64 (k : Int)).wf = true from WalkArith.wf_i64 (by omega))
      have HC8 := Lib.hid (fun (W : World) (hW : Below w.heap.size w W) => (cell_same (HR.out.below HB.out) (HR.out.below hW) hlt).trans hc)
      clear hx hg h1 h2
      have hlt2 : (k : Int) < n := by omega
      go_wp2_with fail
      go_region_held3 (fun w' => w'.cell? ⟨b, off + k, none⟩ = some (.int .u8 x)) (go_keep)
        (first
        | (go_at_call 29; refine (specKh key HK.out _ _ _ _ 1 1 _ (rd_drew (Rd.one .i64 3 wr k HI.out)) (by omega)).mono ?_; rintro e w7 ⟨rfl, hb7⟩; rw [HG.out]; have B7 := Lib.hid (behind hb7 rfl rfl rfl rfl); have c7 := (B7.out.cell (p := ⟨b, off + k, none⟩) hb1).trans hc; clear hb7)
        | (go_at_call 22; refine (specMod _ 256 (by omega) _).mono ?_; rintro e w9 ⟨rfl, rfl⟩)
        | (refine step_app rfl _ _ 22 rfl 5 i0 _ .u8 Try.underlying22 HZ.out.1 HZ.out.2.1 HZ.out.2.2.1 (by rw [HZ.out.2.2.2]; omega) rfl rfl rfl ((HO.out.below B7.out).alloc _) (Rd.one .u8 _ _ _ (wf_u8_wrap _)) (by omega) (by have := B7.out.size; have := HB.out.size; simp; omega) ?_; intro A8 c8 w8 ho8 hb8; have O8 := Lib.hid ho8; have B8 := Lib.hid (((HB.out.trans (B7.out.mono HB.out.size)).alloc (Nat.le_trans HB.out.size B7.out.size) _).trans hb8); have k8 := HC8.out _ B8.out; clear ho8 hb8))
      clear k8 c7
      go_wp2_with fail
      go_roundw
      case rel => exact ⟨k + 1, by go_num, by omega, A8, c8, rfl, by rw [take_one _ HL.out, HE.out]; exact O8.out, B8.out⟩
      case measure => simp [intOf]; omega
    · have hlt2 : ¬ (k : Int) < n := by omega
      go_wp2
      go_ret
      have hz := HO.out
      rw [List.take_of_length_le (by rw [dec_len]; have := HR.out.len; omega)] at hz
      exact ⟨_, _, _, rfl, hz, HB.out⟩
end Go.Proofs.Ytdemdbhaobdcjaa.cip
