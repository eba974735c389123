/- The functions of varints, program and specification: AppendUvarint. Condition: lengths up to 2^27. -/
import Derived.Test.YtejjafmppihneaaApp
import Derived.Test.YtejjafmppihneaaEnc
import Derived.Laws.Bits128
namespace Go.Proofs.Ytejjafmppihneaa.uvs
open Go.RowKit sl enc harn

theorem inRange_yes (n a b : Int) (h : a ≤ n ∧ n ≤ b) (w : World) :
    Calls Try.prog 50 #[.int .i64 n, .int .i64 a, .int .i64 b] w fun e w' => e = .returned (.bool true) ∧ w = w' := by
  obtain ⟨h1, h2⟩ := h
  go_enter Try.func50, Try.ntmps50
  go_wp2
  go_ret
  exact ⟨rfl, rfl⟩
theorem inRange_no (n a b : Int) (h : ¬ (a ≤ n ∧ n ≤ b)) (w : World) :
    Calls Try.prog 50 #[.int .i64 n, .int .i64 a, .int .i64 b] w fun e w' => e = .returned (.bool false) ∧ w = w' := by
  by_cases h1 : a ≤ n
  · have h2 : ¬ n ≤ b := by omega
    clear h
    go_enter Try.func50, Try.ntmps50
    go_wp2
    go_ret
    exact ⟨rfl, rfl⟩
  · clear h
    go_enter Try.func50, Try.ntmps50
    go_wp2
    go_ret
    exact ⟨rfl, rfl⟩
theorem l1In_yes (n a b : Int) (h : a ≤ n ∧ n ≤ b) (w : World) :
    Calls Try.prog 60 #[.int .i64 n, .int .i64 a, .int .i64 b] w fun e w' => e = .returned (.bool true) ∧ w = w' := by
  obtain ⟨h1, h2⟩ := h
  go_enter Try.func60, Try.ntmps60
  go_wp2
  go_ret
  exact ⟨rfl, rfl⟩
theorem l1In_no (n a b : Int) (h : ¬ (a ≤ n ∧ n ≤ b)) (w : World) :
    Calls Try.prog 60 #[.int .i64 n, .int .i64 a, .int .i64 b] w fun e w' => e = .returned (.bool false) ∧ w = w' := by
  by_cases h1 : a ≤ n
  · have h2 : ¬ n ≤ b := by omega
    clear h
    go_enter Try.func60, Try.ntmps60
    go_wp2
    go_ret
    exact ⟨rfl, rfl⟩
  · clear h
    go_enter Try.func60, Try.ntmps60
    go_wp2
    go_ret
    exact ⟨rfl, rfl⟩

/-- A part of a slice of bytes: it is read where it lies. -/
def PartPost (lo hi : Nat) (zs : List Int) (i j : Nat) (w : World) (e : Ending) (w' : World) : Prop :=
  ∃ A, e = .returned (.slice A (j - i) (j - i)) ∧ Rd .u8 w lo hi A (j - i) (j - i) ((zs.drop i).take (j - i)) ∧ w = w'
theorem part (lo hi : Nat) (A : Option Addr) (n cap : Nat) (zs : List Int) (i j : Nat) (w : World) (h : Rd .u8 w lo hi A n cap zs) (h1 : i ≤ j) (h2 : j ≤ n) :
    Calls Try.prog 108 #[.slice A n cap, .int .i64 i, .int .i64 j] w (PartPost lo hi zs i j w) := by
  have hb := h.cap_
  have h3 : j ≤ cap := by omega
  have HR := Lib.hid h
  clear h
  by_cases hij : j = i
  · subst hij
    go_enter Try.func108, Try.ntmps108
    go_wp2
    go_ret
    exact ⟨A, by rw [Nat.sub_self]; rfl, HR.out.cut j j (j - j) A (fun h => by omega) h1 h2 (Nat.le_refl _) (by unfold maxLen; omega), rfl⟩
  · go_enter Try.func108, Try.ntmps108
    go_wp2
    go_ret
    exact ⟨_, rfl, HR.out.cut i j (j - i) _ (fun h => by simp) h1 h2 (Nat.le_refl _) (by unfold maxLen; omega), rfl⟩

/-- A copy in new memory. -/
theorem copyPart (lo hi : Nat) (A : Option Addr) (n cap : Nat) (zs : List Int) (i j : Nat) (w : World) (h : Rd .u8 w lo hi A n cap zs) (h1 : i ≤ j) (h2 : j ≤ n) (hn : n ≤ 134217728) :
    Calls Try.prog 96 #[.slice A n cap, .int .i64 i, .int .i64 j] w (SlPost 5 .u8 w ((zs.drop i).take (j - i))) := by
  obtain ⟨i0, hi0, hz0, hz1, hz2⟩ := info_parts u8Info
  have hb := h.cap_
  have HR := Lib.hid h
  have HZ := Lib.hid (And.intro hi0 (And.intro hz0 (And.intro hz1 hz2)))
  clear h hi0 hz0 hz1 hz2
  go_enter Try.func96, Try.ntmps96
  go_wp2_with (first
    | (go_at_call 108; refine (part lo hi A n cap zs i j _ (HR.out.alloc _) h1 h2).mono ?_; rintro e w1 ⟨B, rfl, hr, rfl⟩; have HP := Lib.hid hr; clear hr)
    | (at_builtin; refine wpList_app _ rfl _ _ 22 rfl 5 i0 _ .u8 Try.underlying22 HZ.out.1 HZ.out.2.1 HZ.out.2.2.1 (by rw [HZ.out.2.2.2]; omega) rfl rfl rfl (Ow.empty _ _ _) HP.out (by omega) (by simp) ?_; intro A1 cap1 w1 ho hb1; have HO := Lib.hid ho; have HB := Lib.hid hb1; clear ho hb1))
  go_ret
  refine ⟨_, _, _, rfl, by simpa using HO.out, ?_⟩
  exact ((Below.refl _ _).alloc (Nat.le_refl _) _).trans HB.out

/-- A slice of bytes from block lo on, below which nothing has turned. -/
def AddPost (lo : Nat) (w : World) (zs : List Int) (e : Ending) (w' : World) : Prop :=
  ∃ A n cap, e = .returned (.slice A n cap) ∧ Ow 5 .u8 w' lo w'.heap.size A n cap zs ∧ Below lo w w'
theorem AddPost.intro {lo : Nat} {w w' : World} {zs : List Int} {A : Option Addr} {n cap hi : Nat} (h : Ow 5 .u8 w' lo hi A n cap zs) (hb : Below lo w w') : AddPost lo w zs (.returned (.slice A n cap)) w' :=
  ⟨A, n, cap, rfl, h.up, hb⟩
/-- A varint that is being written: what is there, and what is to come. -/
def Way (lo : Nat) (w wr : World) (zs : List Int) (N : Nat) (b x : Value) : Prop :=
  ∃ A m cap l y, b = .slice A m cap ∧ x = .int .i64 (y : Nat) ∧ l ++ enc y = zs ++ enc N ∧ Ow 5 .u8 wr lo wr.heap.size A m cap l ∧ Below lo w wr ∧ y ≤ N ∧ lo ≤ wr.heap.size
theorem way_step {l zs : List Int} {y N : Nat} (h : l ++ enc y = zs ++ enc N) (hy : 128 ≤ y) : (l ++ [((y % 128 + 128 : Nat) : Int)]) ++ enc (y / 128) = zs ++ enc N := by
  rw [← h, enc_more hy]; simp
theorem way_last {l zs : List Int} {y N : Nat} (h : l ++ enc y = zs ++ enc N) (hy : y < 128) : l ++ [(y : Int)] = zs ++ enc N := by
  rw [← h, enc_less hy]
theorem way_len {l zs : List Int} {y N : Nat} (h : l ++ enc y = zs ++ enc N) (hN : N ≤ 1000000000000) : l.length ≤ zs.length + 5 := by
  have e := congrArg List.length h
  rw [List.length_append, List.length_append] at e
  have := enc_pos y
  have := enc_len6 hN
  omega
theorem below_push {lo : Nat} {w wr w' : World} {o : Obj} (h : Below lo w wr) (hl : lo ≤ wr.heap.size) (hb : Below lo (wr.alloc o) w') : Below lo w w' := (h.alloc hl o).trans hb

theorem or128 (x : Int) (h0 : 0 ≤ x) (h1 : x < 128) : bits .or .i64 x 128 = x + 128 := by
  obtain ⟨k, rfl⟩ := Int.eq_ofNat_of_zero_le h0
  have e : (k ||| 128) = k + 128 := by
    have := Nat.two_pow_add_eq_or_of_lt (show k < 2 ^ 7 by omega) 1
    rw [Nat.or_comm]
    simpa [Nat.add_comm] using this.symm
  show IntKind.i64.wrap ((BitVec.ofInt 64 (k : Int) ||| BitVec.ofInt 64 128).toNat : Int) = _
  rw [BitVec.toNat_or]
  have e1 : (BitVec.ofInt 64 (k : Int)).toNat = k := by rw [BitVec.ofInt_natCast, BitVec.toNat_ofNat]; omega
  have e2 : (BitVec.ofInt 64 128).toNat = 128 := by rfl
  rw [e1, e2, e, IntKind.wrap_i64]
  omega
theorem and127 (x : Int) : bits .and .i64 x 127 = x % 128 := i64_and127 x

end Go.Proofs.Ytejjafmppihneaa.uvs
