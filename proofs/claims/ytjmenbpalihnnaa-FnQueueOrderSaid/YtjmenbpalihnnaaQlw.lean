/- Lemmas of the exact laws over queues. Condition: none. -/
import Derived.Test.YtjmenbpalihnnaaQc9
namespace Go.Proofs.Ytjmenbpalihnnaa.mq
open Go.RowKit sl harn bx mrw
set_option linter.unusedVariables false
set_option linter.unusedSimpArgs false
theorem q_parts2 {l : List Msg} {d : Int} {w w' : World} {e : Ending} (h : QPost (l, d) w e w') : ∃ A n cap es, e = .returned (qV A n cap d) ∧ es.map (·.x) = l ∧ Oe msg w' w.heap.size w'.heap.size A n cap es ∧ Below w.heap.size w w' := q_parts h
theorem rq_of {w : World} {lo hi n cap : Nat} {A : Option Addr} {es : List (El Msg)} {l : List Msg} (he : es.map (·.x) = l) (h : Oe msg w lo hi A n cap es) : Rq msg w lo hi A n cap l := he ▸ h.rq
theorem _root_.Go.Proofs.Ytjmenbpalihnnaa.mrw.Oe.tch {α : Type} {S : Sh α} {w w' : World} {l r n c : Nat} {A : Option Addr} {es : List (El α)} (h : Oe S w l r A n c es) {lo hi : Nat} (hb : Tch lo hi w w') (hd : r ≤ lo ∨ hi ≤ l) : Oe S w' l r A n c es :=
  h.same hb.size fun b h1 h2 => hb.block b (by have := h.hi_; omega) (by omega)
theorem mem_blk {ms : List Msg} {y : Msg} (h : y ∈ ms) : y.2.2.2.length ≤ blk ms := by
  induction ms with
  | nil => cases h
  | cons a r ih =>
    have e : blk (a :: r) = a.2.2.2.length + blk r := by simp [blk]
    rcases List.mem_cons.1 h with rfl | h
    · omega
    · have := ih h; omega
theorem sub_bnd {l ms : List Msg} (h : l.Sublist ms) : l.length ≤ ms.length ∧ blk l ≤ blk ms := by
  induction h with
  | slnil => exact ⟨Nat.le_refl _, Nat.le_refl _⟩
  | @cons l1 l2 a _ ih =>
    have e : blk (a :: l2) = a.2.2.2.length + blk l2 := by simp [blk]
    simp only [List.length_cons]; omega
  | @cons_cons l1 l2 a _ ih =>
    have e : blk (a :: l2) = a.2.2.2.length + blk l2 := by simp [blk]
    have e2 : blk (a :: l1) = a.2.2.2.length + blk l1 := by simp [blk]
    simp only [List.length_cons]; omega
/-- What holds of messages that are together within the bound. -/
def Bd (l : List Msg) : Prop := (∀ y ∈ l, y.2.2.2.length ≤ 67108864) ∧ 1 + tot l ≤ 1099511627776 ∧ 0 ≤ 1 + tot l
theorem bd_of {l ms : List Msg} (h : l.Sublist ms) (hm : ms.length + blk ms ≤ 67108864) : Bd l := by
  have h1 := sub_bnd h
  refine ⟨fun y hy => ?_, ?_, ?_⟩
  · have := mem_blk hy; omega
  · unfold tot; omega
  · unfold tot; omega
theorem Bd.top {l : List Msg} (h : Bd l) : 1 + tot l ≤ 1099511627776 := h.2.1
theorem Bd.body {l : List Msg} (h : Bd l) : ∀ y ∈ l, y.2.2.2.length ≤ 67108864 := h.1
theorem oq_of {w : World} {lo hi n cap : Nat} {A : Option Addr} {es : List (El Msg)} {l : List Msg} (he : es.map (·.x) = l) (h : Oe msg w lo hi A n cap es) : Oq msg w lo hi A n cap l := ⟨es, he, h⟩
theorem keep_sub (t : Int) (ms : List Msg) : ∀ k, k ≤ ms.length → (keep t ms k).Sublist (ms.take k)
  | 0, _ => List.nil_sublist _
  | k + 1, hk => by
    have ih := keep_sub t ms k (by omega)
    have hin : k < ms.length := by omega
    rw [take_snoc (List.getElem?_eq_getElem hin), keep, getD_of (List.getElem?_eq_getElem hin)]
    split
    · exact ih.trans (List.sublist_append_left _ _)
    · exact ih.append (List.Sublist.refl _)
theorem keep_sub2 (t : Int) (ms : List Msg) (n : Nat) (h : ms.length = n) : (keep t ms n).Sublist ms := by
  have := keep_sub t ms n (by omega)
  rwa [List.take_of_length_le (by omega)] at this
theorem enq_sub (ms : List Msg) (d : Int) (x : Msg) : (enq ms d x).1.Sublist (ms ++ [x]) := by
  unfold enq
  split
  · split
    · exact List.Sublist.refl _
    · exact List.eraseIdx_sublist _ _
  · exact List.sublist_append_left _ _
theorem tk_sub (ms : List Msg) (i : Int) : (tk ms i).1.Sublist ms := by
  unfold tk
  split
  · exact List.eraseIdx_sublist _ _
  · exact List.Sublist.refl _
end Go.Proofs.Ytjmenbpalihnnaa.mq
