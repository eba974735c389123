/- A map of the program's own from integers to integers (map[int]int): what it holds, look-ups, stores; its keys collected and sorted by the library. Condition: none. -/
import Derived.Test.YtejjafmppihneaaOwn
import Derived.Test.YtejjafmppihneaaDraw
import Derived.BigFrame
import Derived.Maps.RangeWalk
import Derived.Maps.OwnSet
import Derived.Shelf.SlIterI.Nil
import Derived.Shelf.SortM.Plain
import Derived.Shelf.SortM.SortNone
import Derived.Ground.GgzProg
import Derived.Ground.SlgmProg
import Derived.Shelf.AbstractIn
namespace Go.Proofs
open Go.RowKit Go.Maps Go.Sort Go.Shelf
shelf_lay_g SlLaysZI.n7 Ggz 7 at Try 54 as Try.keysA
shelf_lay_g SlLaysZI.n6 Ggz 6 at Try 53 as Try.sortedA
shelf_lay_g SlLaysM.n5 Slgm 5 at Try 83 as Try.sortA
theorem Try.sortsA (m : Nat) : AnyZI.SortsIn Try.prog Try.sortedA_ren Fence.wide m :=
  ⟨fun blk off cap ss W hH hblk hsz => callsIn_wide.2 (AnyM.slices_Sort_int Try.sortA blk off cap ss W hH hblk hsz),
   fun p cap W => callsIn_wide.2 (AnyM.slices_Sort_int_none Try.sortA p cap W)⟩
theorem Try.keysC (mb : Option Nat) (W : World) : Calls Try.prog 54 #[.map mb] W fun e w' => e = .returned (.func (.func 84) #[] #[.pointer (some ⟨W.heap.size, 0, none⟩)]) ∧ w' = W.alloc (.cells #[.map mb] 69) :=
  (callsIn_wide (n := 5)).1 (AnyZI.keys_in Try.keysA Fence.wide 5 trivial rfl mb W)
set_option maxHeartbeats 1000000 in
theorem Try.sortedC {H : Type} (b nn : Nat) (D0 : DataW H) (R : Value → Option (DataW H × List MemPlace)) (w : World) (hown : w.ownsMap Try.prog 3 R b nn D0) (hmax : Maps.size D0 ≤ maxLen) (hbytes : Maps.size D0 * 8 ≤ 140737488355328) :
    Calls Try.prog 53 #[.func (.func 84) #[] #[.pointer (some ⟨w.heap.size, 0, none⟩)]] (w.alloc (.cells #[.map (some b)] 69)) fun e w' => ∃ (v : Value) (ss : List Int), e = .returned v ∧ ss.Perm (intKeys D0) ∧
      w'.ownsRow (w.alloc (.cells #[.map (some b)] 69)).heap.size 3 1 v ss.length ((ss.mergeSort (fun x y => decide (x ≤ y))).map encZ) ∧ (v = .slice none 0 0 ↔ ss = []) ∧ Below (w.alloc (.cells #[.map (some b)] 69)).heap.size (w.alloc (.cells #[.map (some b)] 69)) w' := by
  refine (callsIn_wide (n := 5)).1 ?_
  have hbl := hown.lt
  have hseq : SeqGives Fence.wide 2 Try.prog 84 #[.pointer (some ⟨w.heap.size, 0, none⟩)] encZ (fun ss => ss.Perm (intKeys D0)) (Maps.size D0) (w.alloc (.cells #[.map (some b)] 69)) :=
    AnyZI.keys_gives (ρ := Try.keysA_ren) { Try.keysA with } Fence.wide _ trivial rfl (by omega) w.heap.size b nn D0 _ (by simp) (by simp) (by
      obtain ⟨es, clock, hb, Ft, hs, hD⟩ := hown
      exact ⟨es, clock, (Below.heap_alloc _ _ b hbl).trans hb, Ft, hs, hD⟩)
  exact AnyZI.sorted_in Try.sortedA Fence.wide 5 trivial trivial trivial trivial rfl (by omega) (Try.sortsA _) (enters_of Try.func83 (by kernel_rfl) rfl) 84 #[.pointer (some ⟨w.heap.size, 0, none⟩)] trivial (enters_of Try.func84 (by kernel_rfl) rfl) _ _ hmax hbytes _ hseq
end Go.Proofs
namespace Go.Proofs.Ytejjafmppihneaa.mii
open Go.RowKit Go.Maps sl harn
set_option linter.unusedVariables false

theorem lawInt : Keyed Try.prog 3 := int_keyed Try.underlying3
theorem zeroInt (w : World) : (zeroValue 3).run Try.prog w = .ok (.int .i64 0) w := by kernel_rfl
/-- How an element is read. -/
def iel : Value → Option (DataW Unit × List MemPlace)
  | .int .i64 n => some (.lit (.int .i64 n), [])
  | _ => none
theorem iel_inv {v : Value} {y : DataW Unit × List MemPlace} (h : iel v = some y) : ∃ n, v = .int .i64 n ∧ y = (.lit (.int .i64 n), []) := by
  unfold iel at h
  split at h
  · exact ⟨_, rfl, by injection h with h; exact h.symm⟩
  · cases h
def ki (x : Int) : Lit := .int .i64 x
theorem ki_lit (x : Int) : WideAt.IsKeyLit (ki x) := trivial
theorem ki_inj {x y : Int} (h : ki x = ki y) : x = y := by unfold ki at h; injection h
def Says (D : DataW Unit) (T : List (Int × Int)) : Prop := ∀ x, (∀ v, (x, v) ∈ T → Maps.has D (ki x) = true ∧ ∀ z, D.atKey (ki x) z = .lit (.int .i64 v)) ∧ (x ∉ T.map (·.1) → Maps.has D (ki x) = false)
/-- Block B is a map that holds T. -/
def Mii (w : World) (B n : Nat) (T : List (Int × Int)) : Prop := ∃ D, w.ownsMap Try.prog 3 iel B n D ∧ Says D T
section
variable {w w' : World} {B n : Nat} {T : List (Int × Int)}
theorem Mii.kept {row : Option Nat} (h : Mii w B n T) (hg : w.grownBy w' row) (hne : some B ≠ row) : Mii w' B n T := by
  obtain ⟨D, h1, h2⟩ := h
  exact ⟨D, h1.kept hg hne, h2⟩
theorem Mii.lt (h : Mii w B n T) : B < w.heap.size := by obtain ⟨D, h1, h2⟩ := h; exact h1.lt
theorem Mii.same (h : Mii w B n T) (hb : w'.heap[B]? = w.heap[B]?) : Mii w' B n T := by
  obtain ⟨D, ⟨es, clock, hh, F, hs, hD⟩, h2⟩ := h
  exact ⟨D, ⟨es, clock, hb.trans hh, F, hs, hD⟩, h2⟩
theorem Mii.below {lo : Nat} (h : Mii w B n T) (hb : Below lo w w') (hl : B < lo) : Mii w' B n T := h.same (hb.block B hl)
theorem Mii.made (w : World) : Mii (w.alloc (.map #[] 0)) w.heap.size 0 [] :=
  ⟨.map [], World.ownsMap_made w _ _ _, fun x => ⟨fun v h => (by cases h), fun _ => rfl⟩⟩
theorem Says.put {D : DataW Unit} (hD : IsMap D) (h : Says D T) {x : Int} (hx : x ∉ T.map (·.1)) (v : Int) : Says (D.put (ki x) (.lit (.int .i64 v))) (T ++ [(x, v)]) := fun y => by
  by_cases e : y = x
  · subst e
    refine ⟨fun u hu => ?_, fun g => absurd (by simp) g⟩
    rcases List.mem_append.1 hu with h1 | h1
    · exact absurd (List.mem_map.2 ⟨_, h1, rfl⟩) hx
    · have : u = v := by simpa using h1
      subst this
      exact ⟨Maps.has_put_same hD (ki_lit _) _, fun z => Maps.atKey_put_same hD (ki_lit _) _ z⟩
  · have hne : ki y ≠ ki x := fun g => e (ki_inj g)
    refine ⟨fun u hu => ?_, fun g => ?_⟩
    · have g2 : (y, u) ∈ T := by
        rcases List.mem_append.1 hu with h1 | h1
        · exact h1
        · have := List.mem_singleton.1 h1
          injection this with h2 h3
          exact absurd h2 e
      have := (h y).1 u g2
      exact ⟨by rw [Maps.has_put_other hne]; exact this.1, fun z => by rw [Maps.atKey_put_other hne]; exact this.2 z⟩
    · have g2 : y ∉ T.map (·.1) := fun g3 => g (by rw [List.map_append]; exact List.mem_append_left _ g3)
      rw [Maps.has_put_other hne]; exact (h y).2 g2
theorem Mii.put (h : Mii w B n T) (hn : n < 4294967296) {x : Int} (hx : (Lit.int .i64 x).wf = true) (hnew : x ∉ T.map (·.1)) (v : Int) :
    ∃ w', (Instr.mapUpdate 69 (.map (some B)) (.int .i64 x) (.int .i64 v)).run Try.prog w = .ok () w' ∧ Mii w' B (n + 1) (T ++ [(x, v)]) ∧ w.grownBy w' (some B) := by
  obtain ⟨D, h1, h2⟩ := h
  obtain ⟨w', g1, g2, g3⟩ := h1.update (val := .int .i64 v) lawInt Try.underlying69 (by unfold maxLen; omega) (keyOf_int_mk Try.underlying3 hx) (d := .lit (.int .i64 v)) (ps := []) rfl
  exact ⟨w', g1, ⟨_, g2, h2.put h1.isMap hnew v⟩, g3⟩
theorem Mii.yes (h : Mii w B n T) {x v : Int} (hx : (Lit.int .i64 x).wf = true) (hm : (x, v) ∈ T) : (Instr.lookup 69 (.map (some B)) (.int .i64 x) false).run Try.prog w = .ok (.int .i64 v) w := by
  obtain ⟨D, h1, h2⟩ := h
  obtain ⟨u, ps, g1, g2⟩ := h1.lookup lawInt Try.underlying69 (zeroInt w) (zd := .lit (.int .i64 0)) (zp := []) rfl (keyOf_int_mk Try.underlying3 hx)
  obtain ⟨m, rfl, e⟩ := iel_inv g2
  rw [g1]
  have := ((h2 x).1 v hm).2 (.lit (.int .i64 0))
  unfold ki at this
  rw [this] at e
  simp only [Prod.mk.injEq, DataW.lit.injEq, Lit.int.injEq] at e
  rw [← e.1.2]
/-- Its keys, whatever their order. -/
theorem Says.keys {D : DataW Unit} (h1 : w.ownsMap Try.prog 3 iel B n D) (h : Says D T) (hd : (T.map (·.1)).Nodup) : (T.map (·.1)).Perm (intKeys D) := by
  refine CollectedI.perm (left := fun _ => false) ⟨hd, fun x => ?_⟩ h1 lawInt Try.underlying3 (fun _ => rfl)
  constructor
  · intro hx
    obtain ⟨⟨y, v⟩, hp, rfl⟩ := List.mem_map.1 hx
    exact ⟨((h y).1 v hp).1, rfl⟩
  · intro ⟨hx, _⟩
    apply Classical.byContradiction
    intro hn
    have := (h x).2 hn
    unfold ki at this
    rw [this] at hx; cases hx
end
/-- What slices.Sorted(maps.Keys(m)) hands back where the keys are told in order. -/
theorem sorted {w : World} {B n : Nat} {T : List (Int × Int)} (h : Mii w B n T) (hs : (T.map (·.1)).Pairwise (· < ·)) (hw : Wf .i64 (T.map (·.1))) (hn : T.length ≤ 1000) :
    Calls Try.prog 53 #[.func (.func 84) #[] #[.pointer (some ⟨w.heap.size, 0, none⟩)]] (w.alloc (.cells #[.map (some B)] 69)) fun e w' => ∃ A cap, e = .returned (.slice A T.length cap) ∧ Ow 3 .i64 w' w.heap.size w'.heap.size A T.length cap (T.map (·.1)) ∧ Below w.heap.size (w.alloc (.cells #[.map (some B)] 69)) w' := by
  obtain ⟨D, h1, h2⟩ := h
  have hk := h2.keys h1 (hs.imp fun h e => by omega)
  have hl : T.length = (intKeys D).length := by have := hk.length_eq; simpa using this
  have hsz : Maps.size D = T.length := by
    rw [hl]
    obtain ⟨es, rfl, _⟩ := h1.keysOf
    simp [intKeys, Maps.size]
  refine (Try.sortedC B n D iel w h1 (by rw [hsz]; unfold maxLen; omega) (by rw [hsz]; omega)).mono ?_
  rintro e w' ⟨v, ss, rfl, hp, ho, _, hb⟩
  have hsrt : ss.mergeSort (fun x y => decide (x ≤ y)) = T.map (·.1) := by
    have hpp : ss.Perm (T.map (·.1)) := hp.trans hk.symm
    have e1 := mergeSort_of_perm_i hpp
    refine e1.trans ?_
    refine List.mergeSort_of_pairwise (hs.imp fun h => by simp; omega)
  have hsl : ss.length = T.length := by have := (hp.trans hk.symm).length_eq; simpa using this
  rw [hsrt, hsl] at ho
  obtain ⟨A, cap, rfl, hO⟩ := Ow.of_own (k := .i64) (zs := T.map (·.1)) ho hw
  exact ⟨A, cap, rfl, hO.down (by simp), hb.mono (by simp)⟩
/-- A look-up in a region, under whatever guard that says yes. -/
theorem wpList_look {P : Program} (w : World) {ops : Array Oper} {rest : List Oper} {o : Oper} {a : Act} {Q : Exit → Act → World → Prop} (hg : Region.wanted o (yielded ops a.tmps) = true) (m x : Operand) (t : TypeId) (c : Bool) (hop : o.op = Op.lookup t m x c)
    {mv kv v : Value} (hrun : (Instr.lookup t mv kv c).run P w = .ok v w) (hm : a.eval m = mv) (hx : a.eval x = kv) (hK : wpList P ops Q rest (a.put o.dst v) w) : wpList P ops Q (o :: rest) a w := by
  refine Go.BigFrame.wpList_want hg fun K' hK' => ?_
  unfold Oper.wp
  simp [execOp, hop, hm, hx, hrun, Result.andThen]
  exact hK' _ _ hK
theorem wpList_put (w : World) {ops : Array Oper} {rest : List Oper} {o : Oper} {a : Act} {Q : Exit → Act → World → Prop} (hg : o.guard = none) (m x y : Operand) (hop : o.op = Op.mapUpdate 69 m x y)
    {B n : Nat} {T : List (Int × Int)} (hT : Mii w B n T) (hn : n < 4294967296) {z v : Int} (hz : (Lit.int .i64 z).wf = true) (hnew : z ∉ T.map (·.1)) (hm : a.eval m = .map (some B)) (hx : a.eval x = .int .i64 z) (hy : a.eval y = .int .i64 v)
    (hK : ∀ w', Mii w' B (n + 1) (T ++ [(z, v)]) → w.grownBy w' (some B) → wpList Try.prog ops Q rest (a.put o.dst undef) w') : wpList Try.prog ops Q (o :: rest) a w := by
  obtain ⟨w', h1, h2, h3⟩ := hT.put hn hz hnew v
  refine wpList_plain hg fun K' hK' => ?_
  unfold Oper.wp
  simp [execOp, hop, hm, hx, hy, h1, Result.andThen]
  exact hK' _ _ (hK w' h2 h3)
end Go.Proofs.Ytejjafmppihneaa.mii
