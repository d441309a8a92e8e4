/-
  Which lists of parts may be: the program's Right and the document's RightAll give back the same; Light ends. Condition: each number fits its kind.
-/
import Derived.Test.YtfkmodmgihadkaaProw
import Derived.Deep.QuietTactic
import Derived.BigQuiet
import Derived.Lib.QuietBelow
import Derived.IntWalk
namespace Go.Proofs.Ytfkmodmgihadkaa
set_option linter.unusedSimpArgs false
set_option linter.unusedVariables false
open Go.RowKit

/-- each number fits its kind. -/
structure P5.Rng (x : P5) : Prop where
  g : 0 ≤ x.g ∧ x.g ≤ 255
  k : 0 ≤ x.k ∧ x.k ≤ 255
  n : -9223372036854775808 ≤ x.n ∧ x.n ≤ 9223372036854775807
  key : x.key.size ≤ maxLen
  val : x.val.size ≤ maxLen
def rAll (X : List P5) : Bool := decide (1 ≤ X.length) && decide (X.length ≤ 4) && X.all P5.r
theorem rAll_false {X : List P5} {k : Nat} {x : P5} (h : X[k]? = some x) (hr : x.r = false) : rAll X = false := by
  have : X.all P5.r = false := by
    rw [List.all_eq_false]
    exact ⟨x, List.mem_of_getElem? h, by simp [hr]⟩
  simp [rAll, this]
theorem rAll_true {X : List P5} (h1 : 1 ≤ X.length) (h2 : X.length ≤ 4) (h : ∀ (j : Nat) (x : P5), X[j]? = some x → x.r = true) : rAll X = true := by
  have : X.all P5.r = true := by
    rw [List.all_eq_true]
    intro x hx
    obtain ⟨j, hj⟩ := List.getElem?_of_mem hx
    exact h j x hj
  simp [rAll, this, h1, h2]
theorem rAll_len {X : List P5} (h : X.length < 1 ∨ 4 < X.length) : rAll X = false := by
  unfold rAll
  rcases h with h | h
  · have : ¬ 1 ≤ X.length := by omega
    simp [this]
  · have : ¬ X.length ≤ 4 := by omega
    simp [this]

/-- what Light leaves: of n parts at most. -/
def lite : Nat → Int → List P5 → Int
  | 0, l, _ => l
  | _ + 1, l, [] => l
  | n + 1, l, x :: X => if 0 ≤ l then lite n (l - 3 - min (x.key.size : Int) 4000 - min (x.val.size : Int) 4000) X else l
def lightB (X : List P5) : Bool := decide (0 ≤ lite 300 3000 X)
theorem lite_neg (n : Nat) (l : Int) (X : List P5) (h : ¬ 0 ≤ l) : lite n l X = l := by
  cases n <;> cases X <;> simp [lite, h]
theorem lite_step (n : Nat) (l : Int) (X : List P5) (k : Nat) (x : P5) (h : 0 ≤ l) (hx : X[k]? = some x) (hk : k < n) :
    lite (n - k) l (X.drop k) = lite (n - (k + 1)) (l - 3 - min (x.key.size : Int) 4000 - min (x.val.size : Int) 4000) (X.drop (k + 1)) := by
  have hl : k < X.length := (List.getElem?_eq_some_iff.1 hx).1
  have e : n - k = (n - (k + 1)) + 1 := by omega
  rw [e, List.drop_eq_getElem_cons hl]
  have e2 : X[k] = x := by rw [List.getElem?_eq_getElem hl] at hx; exact Option.some.inj hx
  rw [e2, lite, if_pos h]

theorem wrap3 (z a b : Int) (h1 : 0 ≤ z) (h2 : z ≤ 3000) (ha : 0 ≤ a) (hb : 0 ≤ b) :
    IntKind.i64.wrap (IntKind.i64.wrap (IntKind.i64.wrap (z - 3) - if 4000 < a then 4000 else a) - if 4000 < b then 4000 else b) = z - 3 - min a 4000 - min b 4000 := by
  have ea : (if 4000 < a then 4000 else a) = min a 4000 := by split <;> omega
  have eb : (if 4000 < b then 4000 else b) = min b 4000 := by split <;> omega
  rw [ea, eb, IntWalk.i64_in (z - 3) (by omega), IntWalk.i64_in (z - 3 - min a 4000) (by omega), IntWalk.i64_in (z - 3 - min a 4000 - min b 4000) (by omega)]
end Go.Proofs.Ytfkmodmgihadkaa
