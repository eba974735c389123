/- What the laws of stage 12 take of the contracts. Condition: none. -/
import Derived.Test.YtnnlkkohbjolaaaFrp
import Derived.Test.YtnnlkkohbjolaaaFeq
import Derived.Test.YtnnlkkohbjolaaaFds
namespace Go.Proofs.Ytnnlkkohbjolaaa.frm
theorem rt_len (x : Fm) : (rt x).1.z.length ≤ 100 := by
  unfold rt
  split <;> simp [zero]
theorem wf7 {k f t s g d : Int} (m r : Bool) (hk : (Lit.int .i64 k).wf = true) (hf : (Lit.int .i64 f).wf = true) (ht : (Lit.int .i64 t).wf = true) (hs : (Lit.int .i64 s).wf = true) (hg : (Lit.int .i64 g).wf = true) (hd : (Lit.int .i64 d).wf = true) : sl.Wf .i64 (nums ⟨k, f, t, s, g, m, r, d, []⟩) := by
  intro z hz
  have h7 := fl_in m r
  simp only [nums, List.mem_cons, List.not_mem_nil, or_false] at hz
  rcases hz with rfl | rfl | rfl | rfl | rfl | rfl | rfl
  · exact hk
  · exact hf
  · exact ht
  · exact hs
  · exact hg
  · exact WalkArith.wf_i64 (by omega)
  · exact hd
end Go.Proofs.Ytnnlkkohbjolaaa.frm
