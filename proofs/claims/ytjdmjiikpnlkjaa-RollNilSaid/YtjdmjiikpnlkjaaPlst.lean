/-
  Which lists of parts may be: the program's Right and the document's RightAll give back the same; Light ends. Condition: each number fits its kind.
-/
import Derived.Test.YtjdmjiikpnlkjaaProw
import Derived.Deep.QuietTactic
import Derived.BigQuiet
import Derived.Lib.QuietBelow
import Derived.IntWalk
namespace Go.Proofs.Ytjdmjiikpnlkjaa
set_option linter.unusedSimpArgs false
set_option linter.unusedVariables false
open Go.RowKit

/-- each number fits its kind. -/
structure P5.Rng (x : P5) : Prop where
  g : 0 ≤ x.g ∧ x.g ≤ 255
  k : 0 ≤ x.k ∧ x.k ≤ 255
  n : -9223372036854775808 ≤ x.n ∧ x.n ≤ 9223372036854775807
  key : x.key.size ≤ maxLen
  val : x.val.size ≤ maxLen
def rAll (X : List P5) : Bool := decide (1 ≤ X.length) && decide (X.length ≤ 4) && X.all P5.r
theorem rAll_false {X : List P5} {k : Nat} {x : P5} (h : X[k]? = some x) (hr : x.r = false) : rAll X = false := by
  have : X.all P5.r = false := by
    rw [List.all_eq_false]
    exact ⟨x, List.mem_of_getElem? h, by simp [hr]⟩
  simp [rAll, this]
theorem rAll_true {X : List P5} (h1 : 1 ≤ X.length) (h2 : X.length ≤ 4) (h : ∀ (j : Nat) (x : P5), X[j]? = some x → x.r = true) : rAll X = true := by
  have : X.all P5.r = true := by
    rw [List.all_eq_true]
    intro x hx
    obtain ⟨j, hj⟩ := List.getElem?_of_mem hx
    exact h j x hj
  simp [rAll, this, h1, h2]
theorem rAll_len {X : List P5} (h : X.length < 1 ∨ 4 < X.length) : rAll X = false := by
  unfold rAll
  rcases h with h | h
  · have : ¬ 1 ≤ X.length := by omega
    simp [this]
  · have : ¬ X.length ≤ 4 := by omega
    simp [this]

/-- what Light leaves: of n parts at most. -/
def lite : Nat → Int → List P5 → Int
  | 0, l, _ => l
  | _ + 1, l, [] => l
  | n + 1, l, x :: X => if 0 ≤ l then lite n (l - 3 - min (x.key.size : Int) 4000 - min (x.val.size : Int) 4000) X else l
def lightB (X : List P5) : Bool := decide (0 ≤ lite 300 3000 X)
theorem lite_neg (n : Nat) (l : Int) (X : List P5) (h : ¬ 0 ≤ l) : lite n l X = l := by
  cases n <;> cases X <;> simp [lite, h]
theorem lite_step (n : Nat) (l : Int) (X : List P5) (k : Nat) (x : P5) (h : 0 ≤ l) (hx : X[k]? = some x) (hk : k < n) :
    lite (n - k) l (X.drop k) = lite (n - (k + 1)) (l - 3 - min (x.key.size : Int) 4000 - min (x.val.size : Int) 4000) (X.drop (k + 1)) := by
  have hl : k < X.length := (List.getElem?_eq_some_iff.1 hx).1
  have e : n - k = (n - (k + 1)) + 1 := by omega
  rw [e, List.drop_eq_getElem_cons hl]
  have e2 : X[k] = x := by rw [List.getElem?_eq_getElem hl] at hx; exact Option.some.inj hx
  rw [e2, lite, if_pos h]

theorem wrap3 (z a b : Int) (h1 : 0 ≤ z) (h2 : z ≤ 3000) (ha : 0 ≤ a) (hb : 0 ≤ b) :
    IntKind.i64.wrap (IntKind.i64.wrap (IntKind.i64.wrap (z - 3) - if 4000 < a then 4000 else a) - if 4000 < b then 4000 else b) = z - 3 - min a 4000 - min b 4000 := by
  have ea : (if 4000 < a then 4000 else a) = min a 4000 := by split <;> omega
  have eb : (if 4000 < b then 4000 else b) = min b 4000 := by split <;> omega
  rw [ea, eb, IntWalk.i64_in (z - 3) (by omega), IntWalk.i64_in (z - 3 - min a 4000) (by omega), IntWalk.i64_in (z - 3 - min a 4000 - min b 4000) (by omega)]
set_option maxRecDepth 100000 in
set_option maxHeartbeats 2000000 in
theorem light (A : Option Addr) (X : List P5) (c : Nat) (w : World) (hr : RowsP w w.heap.size A X) (hc : X.length ≤ c) (hm : c ≤ maxLen) :
    Calls Try.prog 63 #[.slice A X.length c] w fun e w' => e = .returned (.bool (lightB X)) ∧ Below w.heap.size w w' := by
  unfold maxLen at hm
  go_enter Try.func63, Try.ntmps63
  go_wp2
  go_loopw [3, 4] (fun l i wx => ∃ (k : Nat) (z : Int), k ≤ X.length ∧ k ≤ 300 ∧ i = .int .i64 k ∧ l = .int .i64 z ∧ -9000 ≤ z ∧ z ≤ 3000 ∧ Hid (lite (300 - k) z (X.drop k) = lite 300 3000 X) ∧ Hid (Below w.heap.size w wx)) (fun _ i _ => X.length - (intOf i).toNat)
  case atStart => exact ⟨0, 3000, by omega, by omega, rfl, rfl, by omega, by omega, Lib.hid (by simp), Lib.hid (Below.refl _ _)⟩
  case round =>
    obtain ⟨k, z, hk, hk3, rfl, rfl, hz1, hz2, T, B⟩ := hrel
    have hbs := B.out.size
    by_cases hlt : k < X.length
    · by_cases h10 : k < 300
      · by_cases hz : 0 ≤ z
        · obtain ⟨b, o, rfl, hb, C⟩ := hr.at_ hlt
          have C' := C.below B.out hb
          have hx : X[k]? = some X[k] := List.getElem?_eq_getElem hlt
          have hst := lite_step 300 z X k _ hz hx h10
          have HS := Lib.hid hst
          clear hst hx
          generalize X[k] = x at *
          obtain ⟨c0, c1, c2, c3, c4⟩ := C'
          clear hr C
          have hji : (k : Int) < (X.length : Int) := by omega
          have hj10 : (k : Int) < 300 := by omega
          have hci : (X.length : Int) ≤ (c : Int) := by omega
          go_wp2
          go_region_held3 (fun w' => w'.cell? ⟨b, o + k * 5 + 2, none⟩ = some (.string x.key) ∧ w'.cell? ⟨b, o + k * 5 + 3, none⟩ = some (.string x.val)) (((first | (simp; done) | (go_simp; done) | go_keep))) (fail)
          all_goals go_wp2
          all_goals
            rw [wrap3 z _ _ (by omega) (by omega) (by omega) (by omega)]
            exact ⟨⟨k + 1, _, by omega, by omega, by go_num, rfl, by omega, by omega, Lib.hid (by rw [← T.out, HS.out]), Lib.hid (by repeat (first | (with_reducible exact B.out) | (with_reducible exact Below.refl _ _) | (with_reducible refine Below.setCell ?_ (by first | omega | (simp; done) | (simp; omega)) _) | (with_reducible refine Below.drew ?_) | (with_reducible refine Below.trans ?_ (bw.mono (by first | omega | (simp; done) | (simp; omega)))) | (with_reducible refine Below.alloc ?_ (by first | omega | (simp; done) | (simp; omega)) _)))⟩, by simp [intOf]; omega⟩
        · have hz' : z < 0 := by omega
          have hji : (k : Int) < (X.length : Int) := by omega
          have hj10 : (k : Int) < 300 := by omega
          have HN := Lib.hid (show lightB X = false by unfold lightB; rw [← T.out, lite_neg _ _ _ hz]; simpa using hz')
          go_wp2
          go_ret
          exact ⟨by rw [HN.out]; rfl, B.out⟩
      · have hji : (k : Int) < (X.length : Int) := by omega
        have hj10 : 300 ≤ (k : Int) := by omega
        have HN := Lib.hid (show lightB X = decide (0 ≤ z) by unfold lightB; rw [← T.out, show 300 - k = 0 by omega]; rfl)
        go_wp2
        go_ret
        exact ⟨by rw [HN.out]; rfl, B.out⟩
    · have hkk : k = X.length := by omega
      subst hkk
      have HN := Lib.hid (show lightB X = decide (0 ≤ z) by unfold lightB; rw [← T.out, List.drop_length]; cases (300 - X.length) <;> rfl)
      go_wp2
      go_ret
      exact ⟨by rw [HN.out]; rfl, B.out⟩

end Go.Proofs.Ytjdmjiikpnlkjaa
