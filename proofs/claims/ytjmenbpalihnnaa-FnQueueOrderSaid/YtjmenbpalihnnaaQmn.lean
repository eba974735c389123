/- Queues as data: what a full queue loses, which message is chosen, how many are expired. Condition: none. -/
import Derived.Test.YtjmenbpalihnnaaDry
namespace Go.Proofs.Ytjmenbpalihnnaa.mq
open Go.RowKit sl harn bx mrw
set_option linter.unusedVariables false

theorem cnt_take (x : Int) (ms : List Msg) : ∀ k, k ≤ ms.length → cnt x ms k = (ms.take k).countP (fun m => decide (m.2.1 = x))
  | 0, _ => by simp [cnt]
  | k + 1, hk => by
    have hin : k < ms.length := by omega
    rw [take_snoc (List.getElem?_eq_getElem hin), List.countP_append, cnt, getD_of (List.getElem?_eq_getElem hin), cnt_take x ms k (by omega)]
    by_cases h : (ms[k]).2.1 = x
    · rw [if_pos h]; simp [h]
    · rw [if_neg h]; simp [h]
theorem cnt_all (x : Int) {ms : List Msg} {n : Nat} (h : ms.length = n) : cnt x ms n = ms.countP (fun m => decide (m.2.1 = x)) := by
  rw [cnt_take x ms n (by omega), List.take_of_length_le (by omega)]
theorem countP_erase {α : Type} (p : α → Bool) (l : List α) (i : Nat) (h : i < l.length) : (l.eraseIdx i).countP p + (if p l[i] then 1 else 0) = l.countP p := by
  have e : l.take i ++ l[i] :: l.drop (i + 1) = l := by
    rw [← List.drop_eq_getElem_cons h]; exact List.take_append_drop i l
  have h2 : l.countP p = (l.take i).countP p + ((l.drop (i + 1)).countP p + (if p l[i] then 1 else 0)) := by
    conv => lhs; rw [← e]
    rw [List.countP_append, List.countP_cons]
  rw [h2, List.eraseIdx_eq_take_drop_succ, List.countP_append]
  omega
theorem bst_le (ms : List Msg) : ∀ k, ∀ j, j < k → (ms.getD (bst le ms k).toNat zm).2.1 ≤ (ms.getD j zm).2.1
  | 0, j, h => by omega
  | k + 1, j, h => by
    have hr := bst_range le ms k
    unfold bst
    split
    · rename_i hn
      have hk0 : k = 0 := by
        rcases Nat.eq_zero_or_pos k with h0 | h0
        · exact h0
        · have := hr.2.2 h0; omega
      have : j = k := by omega
      subst this
      simp
    · split
      · rename_i hn hl
        have hl := of_decide_eq_true hl
        rcases Nat.lt_or_ge j k with hj | hj
        · have := bst_le ms k j hj
          simp only [Int.toNat_natCast]
          omega
        · have : j = k := by omega
          subst this
          simp
      · rename_i hn hl
        have hl : ¬ (ms.getD k zm).2.1 ≤ (ms.getD (bst le ms k).toNat zm).2.1 := fun h => hl (decide_eq_true h)
        rcases Nat.lt_or_ge j k with hj | hj
        · exact bst_le ms k j hj
        · have : j = k := by omega
          subst this
          omega
theorem bst_gt (ms : List Msg) : ∀ k, ∀ j, j < k → (ms.getD j zm).2.1 ≤ (ms.getD (bst gt ms k).toNat zm).2.1 ∧ (j < (bst gt ms k).toNat → (ms.getD j zm).2.1 ≠ (ms.getD (bst gt ms k).toNat zm).2.1)
  | 0, j, h => by omega
  | k + 1, j, h => by
    have hr := bst_range gt ms k
    unfold bst
    split
    · rename_i hn
      have hk0 : k = 0 := by
        rcases Nat.eq_zero_or_pos k with h0 | h0
        · exact h0
        · have := hr.2.2 h0; omega
      have : j = k := by omega
      subst this
      simp
    · split
      · rename_i hn hl
        have hl := of_decide_eq_true hl
        simp only [Int.toNat_natCast]
        rcases Nat.lt_or_ge j k with hj | hj
        · have := (bst_gt ms k j hj).1
          exact ⟨by omega, fun _ => by omega⟩
        · have : j = k := by omega
          subst this
          exact ⟨Int.le_refl _, fun h => by omega⟩
      · rename_i hn hl
        have hl : ¬ (ms.getD (bst gt ms k).toNat zm).2.1 < (ms.getD k zm).2.1 := fun h => hl (decide_eq_true h)
        rcases Nat.lt_or_ge j k with hj | hj
        · exact bst_gt ms k j hj
        · have : j = k := by omega
          subst this
          exact ⟨by omega, fun h => by omega⟩
theorem vm_cat {x : Msg} (h : vm x = true) : 0 ≤ x.2.1 ∧ x.2.1 ≤ 3 := by
  unfold vm at h
  simp only [Bool.and_eq_true] at h
  exact of_decide_eq_true h.2.1
theorem vq_parts {ms : List Msg} {d : Int} (h : vq ms d = true) : ms.length ≤ 12 ∧ 0 ≤ d ∧ ∀ x ∈ ms, vm x = true := by
  unfold vq at h
  simp only [Bool.and_eq_true] at h
  exact ⟨of_decide_eq_true h.1, of_decide_eq_true h.2.1, List.all_eq_true.1 h.2.2⟩
theorem vq_make {ms : List Msg} {d : Int} (h1 : ms.length ≤ 12) (h2 : 0 ≤ d) (h3 : ∀ x ∈ ms, vm x = true) : vq ms d = true := by
  unfold vq
  rw [decide_eq_true h1, decide_eq_true h2, List.all_eq_true.2 h3]
  rfl
/-- A queue and a message that are both valid. -/
theorem enq_facts {ms l : List Msg} {d d1 : Int} {x : Msg} (hv : vq ms d = true) (hx : vm x = true) (hd : d ≤ 14) (he : enq ms d x = (l, d1)) :
    vq l d1 = true ∧ (l.length : Int) + d1 = ms.length + d + 1 ∧ 0 ≤ d1 ∧ d1 ≤ 15 ∧ l.length ≤ 12 ∧ ((ms.length < 12 ∧ l = ms ++ [x] ∧ d1 = d) ∨
      (ms.length = 12 ∧ l.length = 12 ∧ d1 = d + 1 ∧ ∃ z : Int, 0 ≤ z ∧ z ≤ 3 ∧ (∀ k, cnt k ms 12 + (if x.2.1 = k then 1 else 0) = cnt k l 12 + (if k = z then 1 else 0)) ∧ ∀ k, k < z → cnt k l 12 = 0)) := by
  obtain ⟨h1, h2, h3⟩ := vq_parts hv
  have hall : ∀ y ∈ ms ++ [x], vm y = true := fun y hy => by
    rcases List.mem_append.1 hy with hy | hy
    · exact h3 y hy
    · obtain rfl : y = x := by simpa using hy
      exact hx
  have hlen : (ms ++ [x]).length = ms.length + 1 := by simp
  unfold enq at he
  rw [hv, hx, if_pos (show (true && true) = true from rfl)] at he
  split at he
  · rename_i hl
    injection he with e1 e2
    subst e1 e2
    exact ⟨vq_make hl h2 hall, by rw [hlen]; omega, h2, by omega, hl, .inl ⟨by omega, rfl, rfl⟩⟩
  · rename_i hl
    have hw : IntKind.i64.wrap (d + 1) = d + 1 := IntWalk.i64_in _ (by omega)
    rw [hw] at he
    injection he with e1 e2
    subst e2
    have hr := bst_range le (ms ++ [x]) (ms ++ [x]).length
    have h6 := hr.2.2 (by omega)
    obtain ⟨i, hi⟩ : ∃ i, (bst le (ms ++ [x]) (ms ++ [x]).length).toNat = i := ⟨_, rfl⟩
    have hil : i < (ms ++ [x]).length := by omega
    have hbl := bst_le (ms ++ [x]) (ms ++ [x]).length
    rw [hi] at e1 hbl
    have hl1 : l.length = 12 := by rw [← e1, List.length_eraseIdx, if_pos hil]; omega
    have hz := vm_cat (hall _ (List.getElem_mem hil))
    have hgz : ((ms ++ [x]).getD i zm).2.1 = (ms ++ [x])[i].2.1 := by rw [getD_of (List.getElem?_eq_getElem hil)]
    refine ⟨vq_make (by omega) (by omega) (fun y hy => hall y (by rw [← e1] at hy; exact List.mem_of_mem_eraseIdx hy)), by omega, by omega, by omega, by omega, .inr ⟨by omega, hl1, rfl, (ms ++ [x])[i].2.1, hz.1, hz.2, fun k => ?_, fun k hk => ?_⟩⟩
    · rw [cnt_all k (show ms.length = 12 by omega), cnt_all k hl1]
      have h7 := countP_erase (fun m : Msg => decide (m.2.1 = k)) (ms ++ [x]) i hil
      rw [e1, List.countP_append] at h7
      simp only [List.countP_cons, List.countP_nil, decide_eq_true_eq] at h7
      by_cases ha : x.2.1 = k <;> by_cases hb : (ms ++ [x])[i].2.1 = k
      · rw [if_pos ha] at h7 ⊢; rw [if_pos hb] at h7; rw [if_pos hb.symm]; omega
      · rw [if_pos ha] at h7 ⊢; rw [if_neg hb] at h7; rw [if_neg (fun e => hb e.symm)]; omega
      · rw [if_neg ha] at h7 ⊢; rw [if_pos hb] at h7; rw [if_pos hb.symm]; omega
      · rw [if_neg ha] at h7 ⊢; rw [if_neg hb] at h7; rw [if_neg (fun e => hb e.symm)]; omega
    · rw [cnt_all k hl1, List.countP_eq_zero]
      intro y hy
      rw [← e1] at hy
      obtain ⟨j, hj, hye⟩ := List.getElem_of_mem (List.mem_of_mem_eraseIdx hy)
      have h8 := hbl j hj
      rw [hgz, getD_of (List.getElem?_eq_getElem hj), hye] at h8
      simp only [decide_eq_true_eq]
      omega
theorem keep_mem (t : Int) (ms : List Msg) : ∀ k, ∀ y ∈ keep t ms k, ¬ y.2.2.1 < t
  | 0, y, h => by cases h
  | k + 1, y, h => by
    unfold keep at h
    split at h
    · exact keep_mem t ms k y h
    · rename_i hn
      rcases List.mem_append.1 h with h | h
      · exact keep_mem t ms k y h
      · obtain rfl : y = ms.getD k zm := by simpa using h
        exact hn
theorem drp_keep (t : Int) (ms : List Msg) (d : Int) (hd : -1 ≤ d ∧ d ≤ 14) : ∀ k, k ≤ 1000 → drp t ms d k = d + ((k : Int) - (keep t ms k).length)
  | 0, _ => by simp [drp, keep]
  | k + 1, hk => by
    have ih := drp_keep t ms d hd k (by omega)
    have hl := keep_len t ms k
    unfold drp keep
    split
    · rw [ih]
      have e : IntKind.i64.wrap (d + ((k : Int) - (keep t ms k).length) + 1) = d + ((k : Int) - (keep t ms k).length) + 1 := IntWalk.i64_in _ (by omega)
      rw [e]
      omega
    · rw [ih, List.length_append, List.length_singleton]
      omega
end Go.Proofs.Ytjmenbpalihnnaa.mq
