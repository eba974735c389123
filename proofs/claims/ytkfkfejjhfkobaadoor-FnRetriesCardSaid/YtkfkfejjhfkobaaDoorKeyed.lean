/- The keyed hash, program and specification; and the integers of bytes. Condition: lengths up to 2^27. -/
import Derived.Test.YtkfkfejjhfkobaaDoorConcat
import Derived.Test.YtkfkfejjhfkobaaDoorHash
namespace Go.Proofs.YtkfkfejjhfkobaaDoor.hsh
open Go.RowKit sl harn cat

/-- The keyed hash of a list. -/
def kh (k : Int) (l : List Int) : Int := hs ([k] ++ l ++ [k])
theorem kh_in (k : Int) (l : List Int) : 0 ≤ kh k l ∧ kh k l < 2147483647 := hs_in _
def KhPost (k : Int) (zs : List Int) (w : World) (e : Ending) (w' : World) : Prop := e = .returned (.int .i64 (kh k zs)) ∧ Below w.heap.size w w'

theorem KhPost.parts {k : Int} {zs : List Int} {r : Int} (ht : kh k zs = r) {w : World} {e : Ending} {w' : World} (h : KhPost k zs w e w') : e = .returned (.int .i64 r) ∧ Below w.heap.size w w' := by
  subst ht; exact h
theorem cell_at {w : World} {b i : Nat} {cs : Array Value} {t : TypeId} {v : Value} (h : w.heap[b]? = some (.cells cs t (0, 0))) (hi : cs[i]? = some v) : w.cell? ⟨b, i, none⟩ = some v := by simp [World.cell?, h, hi]
def three (w : World) (k : Int) (A : Option Addr) (n cap : Nat) (zs : List Int) : List Piece :=
  [⟨some ⟨w.heap.size, 0, none⟩, 1, 1, [k]⟩, ⟨A, n, cap, zs⟩, ⟨some ⟨w.heap.size + 1, 0, none⟩, 1, 1, [k]⟩]
theorem three_lie {w : World} {k : Int} (hk : (Lit.int .i64 k).wf = true) {lo hi n cap : Nat} {A : Option Addr} {zs : List Int} (h : Rd .i64 w lo hi A n cap zs) (E : TypeId) :
    Pieces (((w.alloc (.cells #[.int .i64 k] 3)).alloc (.cells #[.int .i64 k] 3)).alloc (.cells #[.slice (some ⟨w.heap.size, 0, none⟩) 1 1, .slice A n cap, .slice (some ⟨w.heap.size + 1, 0, none⟩) 1 1] E))
      (some ⟨w.heap.size + 1 + 1, 0, none⟩) 3 (three w k A n cap zs) := by
  refine ⟨rfl, fun j s hj => ?_⟩
  have hb : ∀ j v, (#[Value.slice (some ⟨w.heap.size, 0, none⟩) 1 1, .slice A n cap, .slice (some ⟨w.heap.size + 1, 0, none⟩) 1 1] : Array Value)[j]? = some v →
      (((w.alloc (.cells #[.int .i64 k] 3)).alloc (.cells #[.int .i64 k] 3)).alloc (.cells #[.slice (some ⟨w.heap.size, 0, none⟩) 1 1, .slice A n cap, .slice (some ⟨w.heap.size + 1, 0, none⟩) 1 1] E)).cell? ⟨w.heap.size + 1 + 1, 0 + j, none⟩ = some v := fun j v hv => by
    rw [Nat.zero_add]
    have := heap_alloc_new ((w.alloc (.cells #[.int .i64 k] 3)).alloc (.cells #[.int .i64 k] 3)) (.cells #[.slice (some ⟨w.heap.size, 0, none⟩) 1 1, .slice A n cap, .slice (some ⟨w.heap.size + 1, 0, none⟩) 1 1] E)
    simp only [World.size_alloc] at this
    exact cell_at this hv
  have r1 := (((Rd.one .i64 3 w k hk).alloc (.cells #[.int .i64 k] 3)).alloc (.cells #[.slice (some ⟨w.heap.size, 0, none⟩) 1 1, .slice A n cap, .slice (some ⟨w.heap.size + 1, 0, none⟩) 1 1] E)).wide
  have r3 := ((Rd.one .i64 3 (w.alloc (.cells #[.int .i64 k] 3)) k hk).alloc (.cells #[.slice (some ⟨w.heap.size, 0, none⟩) 1 1, .slice A n cap, .slice (some ⟨w.heap.size + 1, 0, none⟩) 1 1] E)).wide
  have r2 := (((h.alloc (.cells #[.int .i64 k] 3)).alloc (.cells #[.int .i64 k] 3)).alloc (.cells #[.slice (some ⟨w.heap.size, 0, none⟩) 1 1, .slice A n cap, .slice (some ⟨w.heap.size + 1, 0, none⟩) 1 1] E)).wide
  rcases j with _ | _ | _ | j
  · injection hj with hj; subst hj
    exact ⟨⟨_, 0, rfl, by simp, hb 0 _ rfl⟩, r1⟩
  · injection hj with hj; subst hj
    exact ⟨⟨_, 0, rfl, by simp, hb 1 _ rfl⟩, r2⟩
  · injection hj with hj; subst hj
    exact ⟨⟨_, 0, rfl, by simp, hb 2 _ rfl⟩, by simpa only [World.size_alloc] using r3⟩
  · simp [three] at hj
theorem three_flat (w : World) (k : Int) (A : Option Addr) (n cap : Nat) (zs : List Int) : flat (three w k A n cap zs) = [k] ++ zs ++ [k] := by simp [flat, three]
theorem three_tot (w : World) (k : Int) (A : Option Addr) (n cap : Nat) (zs : List Int) : tot (three w k A n cap zs) = n + 2 := by simp [tot, three]; omega

set_option maxRecDepth 100000 in
theorem implKh (k : Int) (hk : (Lit.int .i64 k).wf = true) (zs : List Int) (lo hi : Nat) (A : Option Addr) (n cap : Nat) (w : World) (h : Rd .i64 w lo hi A n cap zs) (hn : n ≤ 134217728) :
    Calls Tryd.prog 29 #[.int .i64 k, .slice A n cap] w (KhPost k zs w) := by
  have HL := Lib.hid (three_lie hk h 49)
  have hlen := h.len
  clear h
  go_enter Tryd.func29, Tryd.ntmps29
  go_wp2_with fail
  (with_reducible refine (concat _ _ 3 3 _ HL.out (by omega) (by rw [three_tot]; omega)).mono ?_)
  rintro e w1 ⟨B, m, c, rfl, ho, hb⟩
  rw [three_flat] at ho
  have HO := Lib.hid ho
  have HB := Lib.hid (((((Below.refl w.heap.size w).alloc (Nat.le_refl _) _).alloc (by simp) _).alloc (by simp; omega) _).trans (hb.mono (by simp; omega)))
  clear ho hb
  go_wp2_with fail
  (with_reducible refine (implHash _ _ _ B m c _ HO.out.rd).mono ?_)
  rintro e w2 hp
  obtain ⟨rfl, hb⟩ := hp.below
  have HB2 := Lib.hid (HB.out.trans (hb.mono HB.out.size))
  clear hb hp
  go_wp2_with fail
  go_ret
  exact ⟨rfl, HB2.out⟩

set_option maxRecDepth 100000 in
theorem specKh (k : Int) (hk : (Lit.int .i64 k).wf = true) (zs : List Int) (lo hi : Nat) (A : Option Addr) (n cap : Nat) (w : World) (h : Rd .i64 w lo hi A n cap zs) (hn : n ≤ 134217728) :
    Calls Tryd.prog 43 #[.int .i64 k, .slice A n cap] w (KhPost k zs w) := by
  obtain ⟨i0, hi0, hz0, hz1, hz2⟩ := info_parts intInfo
  have HZ := Lib.hid (And.intro hi0 (And.intro hz0 (And.intro hz1 hz2)))
  have HR := Lib.hid h
  have HK := Lib.hid hk
  have H1 := Lib.hid (show Ow 3 .i64 (w.alloc (.cells #[.int .i64 k] 3)) w.heap.size (w.alloc (.cells #[.int .i64 k] 3)).heap.size (some ⟨w.heap.size, 0, none⟩) 1 1 [k] from Ow.lit w #[.int .i64 k] [k] rfl (Wf.one hk) (by unfold maxLen; simp) rfl)
  clear h hi0 hz0 hz1 hz2 hk
  go_enter Tryd.func43, Tryd.ntmps43
  go_wp2_with (first
    | (at_builtin; refine wpList_app _ rfl _ _ 49 rfl 3 i0 _ .i64 Tryd.underlying49 HZ.out.1 HZ.out.2.1 HZ.out.2.2.1 (by rw [HZ.out.2.2.2]; omega) rfl rfl rfl H1.out (HR.out.alloc _) (by omega) (by simp) ?_; intro A1 cap1 w1 ho hb1; have HO := Lib.hid ho; have HB := Lib.hid (((Below.refl w.heap.size w).alloc (Nat.le_refl _) _).trans hb1); (have hs1 := HB.out.size); clear ho hb1 H1)
    | (at_builtin; refine wpList_app _ rfl _ _ 49 rfl 3 i0 _ .i64 Tryd.underlying49 HZ.out.1 HZ.out.2.1 HZ.out.2.2.1 (by rw [HZ.out.2.2.2]; omega) rfl rfl rfl (HO.out.alloc _) (Rd.one .i64 _ _ _ HK.out) (by omega) (by simp; omega) ?_; intro A2 cap2 w2 ho hb1; have HO2 := Lib.hid ho; have HB2 := Lib.hid ((HB.out.alloc hs1 _).trans hb1); clear ho hb1))
  (with_reducible refine (specHash _ _ _ A2 _ cap2 _ HO2.out.rd).mono ?_)
  rintro e w3 hp
  obtain ⟨rfl, hb⟩ := hp.below
  have HB3 := Lib.hid (HB2.out.trans (hb.mono HB2.out.size))
  clear hb hp
  go_wp2_with fail
  go_ret
  exact ⟨rfl, HB3.out⟩

/-- The integers of bytes: the length, then each byte. -/
def bi (l : List Int) : List Int := [(l.length : Int)] ++ l
theorem bi_len (l : List Int) : (bi l).length = l.length + 1 := by simp [bi]
/-- Integers that are being gathered. -/
def Bing (w wr : World) (zs : List Int) (k : Nat) (v : Value) : Prop := ∃ A c, v = .slice A (1 + k) c ∧ Ow 3 .i64 wr w.heap.size wr.heap.size A (1 + k) c ([(zs.length : Int)] ++ zs.take k) ∧ Below w.heap.size w wr
theorem bing_start (w : World) (zs : List Int) {n : Nat} (h : zs.length = n) (hn : n ≤ 67108864) : Bing w (w.alloc (.cells #[.int .i64 n] 3)) zs 0 (.slice (some ⟨w.heap.size, 0, none⟩) 1 1) := by
  subst h
  exact ⟨_, _, rfl, Ow.lit w _ _ rfl (Wf.one (WalkArith.wf_i64 (by omega))) (by unfold maxLen; simp) rfl, (Below.refl _ _).alloc (Nat.le_refl _) _⟩
theorem bing_done {w wr : World} {zs : List Int} {n : Nat} (h : zs.length = n) {A : Option Addr} {c : Nat} (ho : Ow 3 .i64 wr w.heap.size wr.heap.size A (1 + n) c ([(zs.length : Int)] ++ zs.take n)) (hb : Below w.heap.size w wr) :
    SlPost 3 .i64 w (bi zs) (.returned (.slice A (1 + n) c)) wr := by
  rw [List.take_of_length_le (by omega)] at ho
  exact ⟨_, _, _, rfl, ho, hb⟩
theorem take_one (zs : List Int) {k : Nat} (h : k < zs.length) : zs.take (k + 1) = zs.take k ++ [zs.getD k 0] := by
  rw [List.take_add_one, List.getD_eq_getElem?_getD, List.getElem?_eq_getElem h]; rfl
end Go.Proofs.YtkfkfejjhfkobaaDoor.hsh
