/- Messages and queues as data: what each function of the chapter hands back; how a message lies in memory. Condition: none. -/
import Derived.Test.YtejjafmppihneaaMrs
namespace Go.Proofs.Ytejjafmppihneaa.mq
open Go.RowKit sl harn bx mrw
set_option linter.unusedVariables false

/-- To, Category, Deadline, Body. -/
abbrev Msg := Int × Int × Int × List Int
def zm : Msg := (0, 0, 0, [])
/-- The value of a message, of a queue. -/
abbrev mV (x : Msg) (A : Option Addr) (n c : Nat) : Value := .agg #[.int .i64 x.1, .int .i64 x.2.1, .int .i64 x.2.2.1, .slice A n c]
abbrev qV (A : Option Addr) (n c : Nat) (d : Int) : Value := .agg #[.slice A n c, .int .i64 d]
/-- A message is valid. -/
def vm (x : Msg) : Bool := (decide (0 ≤ x.1 ∧ x.1 ≤ 15) || x.1 == 63) && (decide (0 ≤ x.2.1 ∧ x.2.1 ≤ 3) && (decide (0 ≤ x.2.2.1 ∧ x.2.2.1 ≤ 1000000000000) && decide ((x.2.2.2.length : Int) ≤ 100)))
def vq (ms : List Msg) (d : Int) : Bool := decide (ms.length ≤ 12) && (decide (0 ≤ d) && ms.all vm)
/-- How many of the first k have this category. -/
def cnt (x : Int) (ms : List Msg) : Nat → Nat
  | 0 => 0
  | k + 1 => if (ms.getD k zm).2.1 = x then cnt x ms k + 1 else cnt x ms k
theorem cnt_le (x : Int) (ms : List Msg) : ∀ k, cnt x ms k ≤ k
  | 0 => Nat.le_refl _
  | k + 1 => by
    have := cnt_le x ms k
    unfold cnt
    split <;> omega
/-- Which of the first k is chosen by the order r; -1 if there is none. -/
def bst (r : Int → Int → Bool) (ms : List Msg) : Nat → Int
  | 0 => -1
  | k + 1 => if bst r ms k < 0 then (k : Int) else if r (ms.getD k zm).2.1 (ms.getD (bst r ms k).toNat zm).2.1 = true then (k : Int) else bst r ms k
theorem bst_range (r : Int → Int → Bool) (ms : List Msg) : ∀ k, -1 ≤ bst r ms k ∧ bst r ms k < k ∧ (0 < k → 0 ≤ bst r ms k)
  | 0 => by unfold bst; omega
  | k + 1 => by
    have h := bst_range r ms k
    unfold bst
    split
    · omega
    · split <;> omega
def gt (m e : Int) : Bool := decide (e < m)
def le (m e : Int) : Bool := decide (m ≤ e)
/-- Removal of the element number i. -/
def enq (ms : List Msg) (d : Int) (m : Msg) : List Msg × Int :=
  if vq ms d && vm m then (if (ms ++ [m]).length ≤ 12 then (ms ++ [m], d) else ((ms ++ [m]).eraseIdx (bst le (ms ++ [m]) (ms ++ [m]).length).toNat, IntKind.i64.wrap (d + 1))) else (ms, d)
def tk (ms : List Msg) (i : Int) : List Msg × Msg × Bool := if 0 ≤ i ∧ i < ms.length then (ms.eraseIdx i.toNat, ms.getD i.toNat zm, true) else (ms, zm, false)
/-- Those of the first k that are not expired; the number of dropped ones. -/
def keep (t : Int) (ms : List Msg) : Nat → List Msg
  | 0 => []
  | k + 1 => if (ms.getD k zm).2.2.1 < t then keep t ms k else keep t ms k ++ [ms.getD k zm]
def drp (t : Int) (ms : List Msg) (d : Int) : Nat → Int
  | 0 => d
  | k + 1 => if (ms.getD k zm).2.2.1 < t then IntKind.i64.wrap (drp t ms d k + 1) else drp t ms d k
theorem keep_len (t : Int) (ms : List Msg) : ∀ k, (keep t ms k).length ≤ k
  | 0 => Nat.le_refl _
  | k + 1 => by
    have := keep_len t ms k
    unfold keep
    split
    · omega
    · simp; omega
/-- How much the messages hold. -/
def blk (ms : List Msg) : Nat := (ms.map fun x => x.2.2.2.length).sum
theorem blk_snoc (ms : List Msg) (m : Msg) : blk (ms ++ [m]) = blk ms + m.2.2.2.length := by simp [blk]
theorem getD_of {ms : List Msg} {i : Nat} {x : Msg} (h : ms[i]? = some x) : ms.getD i zm = x := by rw [List.getD_eq_getElem?_getD, h]; rfl
theorem take_snoc {ms : List Msg} {i : Nat} {x : Msg} (h : ms[i]? = some x) : ms.take (i + 1) = ms.take i ++ [x] := by rw [List.take_add_one, h]; rfl

section
variable {w w' : World} {lo hi n cap : Nat} {A : Option Addr} {ms : List Msg}
end
def XPost (x : Msg) (w : World) (e : Ending) (w' : World) : Prop :=
  ∃ A n cap, e = .returned (mV x A n cap) ∧ Ow 5 .u8 w' w.heap.size w'.heap.size A n cap x.2.2.2 ∧ Below w.heap.size w w'
end Go.Proofs.Ytejjafmppihneaa.mq
