/- AppendCrc and CheckCrc, program and specification. Condition: lengths up to 2^26. -/
import Derived.Test.YtebbnopconbnlaaCrc1
import Derived.Test.YtebbnopconbnlaaUv
import Derived.Test.YtebbnopconbnlaaEq
namespace Go.Proofs.Ytebbnopconbnlaa.crcs
open Go.RowKit sl harn rng crcm

/-- The bytes with their check. -/
def wc (l : List Int) : List Int := l ++ [(crc l : Int) % 256, (crc l : Int) / 256]
theorem wc_len (l : List Int) : (wc l).length = l.length + 2 := by simp [wc]
/-- The bytes in front of the check. -/
def front (l : List Int) : List Int := l.take (l.length - 2)
theorem front_len (l : List Int) : (front l).length = l.length - 2 := by simp only [front, List.length_take]; omega
theorem front_wf {k : IntKind} {l : List Int} (h : Wf k l) : Wf k (front l) := h.take _
/-- CheckCrc. -/
def chk (l : List Int) : List Int × Bool := if 2 ≤ l.length ∧ wc (front l) = l then (front l, true) else ([], false)
theorem chk_yes {l : List Int} (h : 2 ≤ l.length) (h2 : wc (front l) = l) : chk l = (front l, true) := if_pos ⟨h, h2⟩
theorem chk_no {l : List Int} (h : ¬ (2 ≤ l.length ∧ wc (front l) = l)) : chk l = ([], false) := if_neg h
theorem chk_len (l : List Int) : (chk l).1.length ≤ l.length := by
  unfold chk; split
  · rw [front_len]; omega
  · simp
theorem two_last {l : List Int} {n : Nat} (h : l.length = n + 2) : l = l.take n ++ [l.getD n 0, l.getD (n + 1) 0] := by
  conv => lhs; rw [← List.take_append_drop n l]
  congr 1
  rw [List.drop_eq_getElem_cons (by omega), List.drop_eq_getElem_cons (by omega), List.drop_of_length_le (by omega), List.getD_eq_getElem?_getD, List.getD_eq_getElem?_getD, List.getElem?_eq_getElem (by omega), List.getElem?_eq_getElem (by omega)]
  rfl
theorem wc_iff {l : List Int} {n : Nat} (h : l.length = n + 2) (hb : Byt l) : wc (front l) = l ↔ l.getD n 0 + l.getD (n + 1) 0 * 256 = (crc (l.take n) : Int) := by
  have e := two_last h
  have hf : front l = l.take n := by rw [front, h]; rfl
  have hx : 0 ≤ l.getD n 0 ∧ l.getD n 0 ≤ 255 := by
    apply hb; rw [List.getD_eq_getElem?_getD, List.getElem?_eq_getElem (by omega)]; exact List.getElem_mem _
  have hy : 0 ≤ l.getD (n + 1) 0 ∧ l.getD (n + 1) 0 ≤ 255 := by
    apply hb; rw [List.getD_eq_getElem?_getD, List.getElem?_eq_getElem (by omega)]; exact List.getElem_mem _
  have hc : crc (l.take n) < 65536 := crc_lt fun z hz => hb z (List.mem_of_mem_take hz)
  rw [hf]
  constructor
  · intro g
    rw [wc] at g
    have g2 := List.append_cancel_left (g.trans e)
    injection g2 with g3 g4
    injection g4 with g4 _
    omega
  · intro g
    conv => rhs; rw [e]
    rw [wc]
    congr 2
    · omega
    · congr 1; omega

theorem Rd.two (k : IntKind) (E : TypeId) (w : World) (x y : Int) (hx : (Lit.int k x).wf = true) (hy : (Lit.int k y).wf = true) : Rd k (w.alloc (.cells #[.int k x, .int k y] E)) w.heap.size (w.heap.size + 1) (some ⟨w.heap.size, 0, none⟩) 2 2 [x, y] :=
  ⟨rfl, by omega, by unfold maxLen; omega, by simp, fun z hz => by
    rcases List.mem_cons.1 hz with rfl | hz
    · exact hx
    · have : z = y := by simpa using hz
      rw [this]; exact hy, fun _ => ⟨_, 0, rfl, Nat.le_refl _, by omega, fun i hi => by
    have : i = 0 ∨ i = 1 := by omega
    rcases this with rfl | rfl <;> simp⟩⟩

/-- What CheckCrc hands back. -/
def CkPost (zs : List Int) (w : World) (e : Ending) (w' : World) : Prop :=
  ∃ A n cap, e = .returned (.tuple #[.slice A n cap, .bool (chk zs).2]) ∧ Ow 5 .u8 w' w.heap.size w'.heap.size A n cap (chk zs).1 ∧ Below w.heap.size w w'
theorem CkPost.parts {zs ys : List Int} {t : Bool} (ht : chk zs = (ys, t)) {w : World} {e : Ending} {w' : World} (h : CkPost zs w e w') :
    ∃ A n cap, e = .returned (.tuple #[.slice A n cap, .bool t]) ∧ Ow 5 .u8 w' w.heap.size w'.heap.size A n cap ys ∧ Below w.heap.size w w' := by
  unfold CkPost at h; rw [ht] at h; exact h
theorem ck_yes {zs : List Int} (h : chk zs = (front zs, true)) {w w' : World} {A : Option Addr} {n cap : Nat} (ho : Ow 5 .u8 w' w.heap.size w'.heap.size A n cap (front zs)) (hb : Below w.heap.size w w') :
    CkPost zs w (.returned (.tuple #[.slice A n cap, .bool true])) w' := by
  unfold CkPost; rw [h]; exact ⟨_, _, _, rfl, ho, hb⟩
theorem ck_empty {zs : List Int} (h : chk zs = ([], false)) {w w' : World} (hb : Below w.heap.size w w') :
    CkPost zs w (.returned (.tuple #[.slice (some ⟨w'.heap.size, 0, none⟩) 0 0, .bool false])) (w'.alloc (.cells #[] 5)) := by
  unfold CkPost; rw [h]
  exact ⟨_, _, _, rfl, (Ow.empty 5 .u8 w').up.down hb.size, hb.alloc hb.size _⟩

theorem or_high {p q : Nat} (hp : p < 256) (hq : q < 256) : bits .or .i64 (p : Int) ((q : Int) * 256) = (p : Int) + (q : Int) * 256 := by
  have e : (p ||| q * 256) = p + q * 256 := by
    have := Nat.two_pow_add_eq_or_of_lt (show p < 2 ^ 8 by omega) q
    rw [Nat.or_comm, Nat.mul_comm q, Nat.add_comm p]
    exact this.symm
  rw [show ((q : Int) * 256) = ((q * 256 : Nat) : Int) by omega]
  show IntKind.i64.wrap ((BitVec.ofInt 64 (p : Int) ||| BitVec.ofInt 64 ((q * 256 : Nat) : Int)).toNat : Int) = _
  rw [BitVec.toNat_or]
  have e1 : (BitVec.ofInt 64 (p : Int)).toNat = p := by rw [BitVec.ofInt_natCast, BitVec.toNat_ofNat]; omega
  have e2 : (BitVec.ofInt 64 ((q * 256 : Nat) : Int)).toNat = q * 256 := by rw [BitVec.ofInt_natCast, BitVec.toNat_ofNat]; omega
  rw [e1, e2, e, IntKind.wrap_i64]
  omega
end Go.Proofs.Ytebbnopconbnlaa.crcs
