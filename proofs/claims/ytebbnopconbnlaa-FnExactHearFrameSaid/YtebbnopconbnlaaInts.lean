/- Lists of integers as varints one behind the other, program and specification. Condition: lists up to 2^21 numbers, bytes up to 2^27. -/
import Derived.Test.YtebbnopconbnlaaBytes
namespace Go.Proofs.Ytebbnopconbnlaa.uvs
open Go.RowKit sl enc harn

/-- What EncodeInts hands back. -/
def encs (l : List Int) : List Int := l.foldl uv []
theorem encs_nil : encs [] = [] := rfl
theorem encs_snoc (l : List Int) (x : Int) : encs (l ++ [x]) = uv (encs l) x := by simp [encs, List.foldl_append]
theorem encs_take {l : List Int} {k : Nat} (h : k < l.length) : encs (l.take (k + 1)) = uv (encs (l.take k)) (l.getD k 0) := by
  rw [List.take_succ_eq_append_getElem h, encs_snoc, List.getD_eq_getElem?_getD, List.getElem?_eq_getElem h]; rfl
theorem encs_len (l : List Int) : ∀ k, (encs (l.take k)).length ≤ 6 * k := by
  intro k
  induction k with
  | zero => simp [encs]
  | succ k ih =>
    rcases Nat.lt_or_ge k l.length with h | h
    · rw [encs_take h]
      have := uv_len (encs (l.take k)) (l.getD k 0)
      omega
    · rw [List.take_of_length_le (by omega)]
      rw [List.take_of_length_le h] at ih
      omega
theorem encs_len_all (l : List Int) : (encs l).length ≤ 6 * l.length := by
  have := encs_len l l.length
  rwa [List.take_of_length_le (Nat.le_refl _)] at this

/-- What DecodeInts hands back. -/
def dvs : Nat → List Int → Int → List Int → List Int × Int × Bool
  | 0, _, off, acc => (acc, off, true)
  | c + 1, zs, off, acc => if (rv zs off).2.2 = true then dvs c zs (rv zs off).2.1 (acc ++ [(rv zs off).1]) else ([], 0, false)
theorem dvs_zero (zs : List Int) (off : Int) (acc : List Int) : dvs 0 zs off acc = (acc, off, true) := rfl
theorem dvs_yes {c : Nat} {zs : List Int} {off m nx : Int} {acc : List Int} (h : rv zs off = (m, nx, true)) : dvs (c + 1) zs off acc = dvs c zs nx (acc ++ [m]) := by
  rw [dvs, h, if_pos rfl]
theorem dvs_no {c : Nat} {zs : List Int} {off m nx : Int} {acc : List Int} (h : rv zs off = (m, nx, false)) : dvs (c + 1) zs off acc = ([], 0, false) := by
  rw [dvs, h]; exact if_neg (by simp)
def dv (zs : List Int) (off count : Int) : List Int × Int × Bool :=
  if (0 ≤ count ∧ count ≤ 100) ∧ (0 ≤ off ∧ off ≤ zs.length) then dvs count.toNat zs off [] else ([], 0, false)
theorem dv_in {zs : List Int} {off : Int} {count : Nat} (h : (0 ≤ (count : Int) ∧ (count : Int) ≤ 100) ∧ (0 ≤ off ∧ off ≤ zs.length)) : dv zs off count = dvs count zs off [] := by
  unfold dv; rw [if_pos h, Int.toNat_natCast]
theorem dv_out {zs : List Int} {off count : Int} (h : ¬ ((0 ≤ count ∧ count ≤ 100) ∧ (0 ≤ off ∧ off ≤ zs.length))) : dv zs off count = ([], 0, false) := if_neg h
theorem dvs_len : ∀ (c : Nat) (zs : List Int) (off : Int) (acc : List Int), (dvs c zs off acc).1.length ≤ acc.length + c
  | 0, _, _, _ => by simp [dvs]
  | c + 1, zs, off, acc => by
    rw [dvs]
    split
    · have := dvs_len c zs (rv zs off).2.1 (acc ++ [(rv zs off).1])
      rw [List.length_append] at this
      simp at this ⊢; omega
    · simp
theorem dv_len {zs : List Int} {off count : Int} {l : List Int} {i : Int} {ok : Bool} (h : dv zs off count = (l, i, ok)) : l.length ≤ 100 := by
  unfold dv at h
  split at h
  · rename_i hc
    have := dvs_len count.toNat zs off []
    rw [h] at this
    simp at this; omega
  · injection h with h _; rw [← h]; simp
theorem SlIBPost.mk_ (E : TypeId) (k : IntKind) {w w1 : World} {t : List Int × Int × Bool} {A : Option Addr} {n cap hi : Nat} {l : List Int} {off : Int} (ho : Ow E k w1 w.heap.size hi A n cap l) (hb : Below w.heap.size w w1) (ht : t = (l, off, true)) :
    SlIBPost E k w t (.returned (.tuple #[.slice A n cap, .int .i64 off, .bool true])) w1 := by
  subst ht
  exact ⟨_, _, _, rfl, ho.up, hb⟩
/-- Numbers that are being decoded: j of them are there, the rest is to come. -/
def Dway (w wr : World) (zs : List Int) (off0 : Int) (count : Nat) (j : Nat) (o v : Value) : Prop :=
  ∃ A m cap l off, v = .slice A m cap ∧ o = .int .i64 off ∧ l.length = j ∧ Ow 3 .i64 wr w.heap.size wr.heap.size A m cap l ∧ Below w.heap.size w wr ∧ dvs count zs off0 [] = dvs (count - j) zs off l

end Go.Proofs.Ytebbnopconbnlaa.uvs
