/- Drawn slices of bytes, and an append between two draws. Condition: the bytes that are drawn from are a slice that came in. -/
import Derived.Test.YtejjafmppihneaaDraw2
import Derived.Test.YtejjafmppihneaaApp
namespace Go.Proofs.Ytejjafmppihneaa.draw
open Go.RowKit sl harn

theorem ow_keep {E : TypeId} {k : IntKind} {w w' : World} {lo hi n cap p : Nat} {A : Option Addr} {zs : List Int} (h : Ow E k w lo hi A n cap zs) (hk : Keep p w w') (hp : p < lo) : Ow E k w' lo hi A n cap zs :=
  h.same hk.size fun b h1 h2 => hk.block b (by have := h.hi_; omega) (by omega)
theorem cur_then {w w1 w2 : World} {p : Nat} {a : Option Addr} {len cap : Nat} (hc0 : Code w p a len) (hp : p < w.heap.size) (hk : Keep p w w1) (hc : Cur w1 p a len cap) (hb : Below w.heap.size w1 w2) : Keep p w w2 ∧ Cur w2 p a len cap := by
  have k2 : Keep p w w2 := ⟨hb.os.trans hk.os, hb.tape.trans hk.tape, hb.output.trans hk.output, Nat.le_trans hk.size hb.size, fun j hj hn => (hb.block j hj).trans (hk.block j hj hn)⟩
  obtain ⟨-, i, g, hi, hblk⟩ := hc
  exact ⟨k2, hc0.keep k2, i, g, hi, (hb.block p hp).trans hblk⟩

theorem below_push' {B : Nat} {w w' : World} {o : Obj} (hl : B ≤ w.heap.size) (hb : Below B (w.alloc o) w') : Below B w w' := ((Below.refl _ _).alloc hl o).trans hb
theorem cur_then2 {w w1 w2 : World} {B : Nat} {a : Option Addr} {len cap : Nat} (hc0 : Code w w.heap.size a len) (hp : w.heap.size < B) (hk : Keep w.heap.size w w1) (hc : Cur w1 w.heap.size a len cap) (hb : Below B w1 w2) : Keep w.heap.size w w2 ∧ Cur w2 w.heap.size a len cap := by
  have k2 : Keep w.heap.size w w2 := ⟨hb.os.trans hk.os, hb.tape.trans hk.tape, hb.output.trans hk.output, Nat.le_trans hk.size hb.size, fun j hj hn => (hb.block j (by omega)).trans (hk.block j hj hn)⟩
  obtain ⟨-, i, g, hi, hblk⟩ := hc
  exact ⟨k2, hc0.keep k2, i, g, hi, (hb.block _ hp).trans hblk⟩
/-- Some bytes, as many as asked for. -/
def SomePost (N : Int) (p : Nat) (a : Option Addr) (len cap : Nat) (w : World) (e : Ending) (w' : World) : Prop :=
  ∃ A n c zs, e = .returned (.slice A n c) ∧ (n : Int) ≤ N ∧ Ow 5 .u8 w' w.heap.size w'.heap.size A n c zs ∧ Keep p w w' ∧ Cur w' p a len cap
/-- Bytes that are being drawn. -/
def Drawing (w wr : World) (p : Nat) (a : Option Addr) (len cap : Nat) (k : Nat) (v : Value) : Prop :=
  ∃ A c zs, v = .slice A k c ∧ Ow 5 .u8 wr w.heap.size wr.heap.size A k c zs ∧ Keep p w wr ∧ Cur wr p a len cap
set_option maxRecDepth 100000 in
theorem bytes (N : Int) (h0 : 0 ≤ N) (hN : N ≤ 1000) (w : World) (p : Nat) (a : Option Addr) (len cap : Nat) (hc : Cur w p a len cap) :
    Calls Try.prog 68 #[.pointer (some ⟨p, 0, none⟩), .int .i64 N] w (SomePost N p a len cap w) := by
  obtain ⟨i0, hi0, hz0, hz1, hz2⟩ := info_parts u8Info
  have C0 := Lib.hid hc
  have P0 := Lib.hid hc.lt
  have HZ := Lib.hid (And.intro hi0 (And.intro hz0 (And.intro hz1 hz2)))
  clear hc hi0 hz0 hz1 hz2
  go_enter Try.func68, Try.ntmps68
  go_wp2
  go_loopw [5, 6] (fun v i wr => ∃ k : Nat, i = .int .i64 k ∧ (k : Int) ≤ N ∧ Drawing w wr p a len cap k v) (fun _ i _ => (N - intOf i).toNat)
  case atStart => exact ⟨0, rfl, by omega, _, _, [], rfl, (Ow.empty 5 .u8 w).up, (Keep.refl p w).alloc _, C0.out.alloc _⟩
  case round =>
    obtain ⟨k, rfl, hk, B, c, zs, rfl, ho, hkp, hcu⟩ := hrel
    have HO := Lib.hid ho
    have HK := Lib.hid hkp
    have HC := Lib.hid hcu
    clear ho hkp hcu
    by_cases hlt : (k : Int) < N
    · go_wp2_with (first
        | (go_at_call 94; refine (byte _ p a len cap HC.out).mono ?_; rintro e w1 ⟨x, rfl, hx0, hx1, hk1, hc1⟩; have HO1 := Lib.hid (ow_keep HO.out hk1 P0.out); have HX := Lib.hid (show (Lit.int .u8 x).wf = true from WalkArith.wf_u8 (by omega)); have HC1 := Lib.hid hc1; have HK1 := Lib.hid (HK.out.trans hk1); (have hs1 : w.heap.size ≤ w1.heap.size := HK1.out.size); clear hk1 hc1 HC HO HK)
        | (at_builtin; refine wpList_app _ rfl _ _ 22 rfl 5 i0 _ .u8 Try.underlying22 HZ.out.1 HZ.out.2.1 HZ.out.2.2.1 (by rw [HZ.out.2.2.2]; omega) rfl rfl rfl (HO1.out.alloc _) (Rd.one .u8 _ _ _ HX.out) (by omega) (by simp; omega) ?_; intro A1 cap1 w3 ho hb1; have HO3 := Lib.hid ho; have HB := Lib.hid (cur_then C0.out.1 P0.out HK1.out HC1.out (below_push' hs1 hb1)); clear ho hb1))
      go_roundw
      case rel => exact ⟨k + 1, by go_num, by omega, A1, cap1, zs ++ [x], rfl, HO3.out, HB.out.1, HB.out.2⟩
      case measure => simp [intOf]; omega
    · go_wp2
      go_ret
      exact ⟨_, _, _, zs, rfl, hk, HO.out, HK.out, HC.out⟩

end Go.Proofs.Ytejjafmppihneaa.draw
