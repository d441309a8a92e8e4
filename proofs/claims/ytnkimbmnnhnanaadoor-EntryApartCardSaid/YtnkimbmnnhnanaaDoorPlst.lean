/-
  Which lists of parts may be: the program's Right and the document's RightAll give back the same; Light ends. Condition: each number fits its kind.
-/
import Derived.Test.YtnkimbmnnhnanaaDoorProw
import Derived.Deep.QuietTactic
import Derived.BigQuiet
import Derived.Lib.QuietBelow
import Derived.IntWalk
namespace Go.Proofs.YtnkimbmnnhnanaaDoor
set_option linter.unusedSimpArgs false
set_option linter.unusedVariables false
open Go.RowKit

/-- each number fits its kind. -/
structure P5.Rng (x : P5) : Prop where
  g : 0 ≤ x.g ∧ x.g ≤ 255
  k : 0 ≤ x.k ∧ x.k ≤ 255
  n : -9223372036854775808 ≤ x.n ∧ x.n ≤ 9223372036854775807
  key : x.key.size ≤ maxLen
  val : x.val.size ≤ maxLen
def rAll (X : List P5) : Bool := decide (1 ≤ X.length) && decide (X.length ≤ 4) && X.all P5.r
theorem rAll_false {X : List P5} {k : Nat} {x : P5} (h : X[k]? = some x) (hr : x.r = false) : rAll X = false := by
  have : X.all P5.r = false := by
    rw [List.all_eq_false]
    exact ⟨x, List.mem_of_getElem? h, by simp [hr]⟩
  simp [rAll, this]
theorem rAll_true {X : List P5} (h1 : 1 ≤ X.length) (h2 : X.length ≤ 4) (h : ∀ (j : Nat) (x : P5), X[j]? = some x → x.r = true) : rAll X = true := by
  have : X.all P5.r = true := by
    rw [List.all_eq_true]
    intro x hx
    obtain ⟨j, hj⟩ := List.getElem?_of_mem hx
    exact h j x hj
  simp [rAll, this, h1, h2]
theorem rAll_len {X : List P5} (h : X.length < 1 ∨ 4 < X.length) : rAll X = false := by
  unfold rAll
  rcases h with h | h
  · have : ¬ 1 ≤ X.length := by omega
    simp [this]
  · have : ¬ X.length ≤ 4 := by omega
    simp [this]

set_option maxRecDepth 100000 in
set_option maxHeartbeats 2000000 in
theorem rightAll (A : Option Addr) (X : List P5) (c : Nat) (w : World) (hr : RowsP w w.heap.size A X) (hX : ∀ x ∈ X, x.Rng) (hc : X.length ≤ c) (hm : c ≤ maxLen) :
    Calls Tryd.prog 21 #[.slice A X.length c] w fun e w' => e = .returned (.bool (rAll X)) ∧ Below w.heap.size w w' := by
  unfold maxLen at hm
  rcases (show ((X.length : Int) < 1) ∨ (1 ≤ (X.length : Int) ∧ (X.length : Int) ≤ 4) ∨ (1 ≤ (X.length : Int) ∧ 4 < (X.length : Int)) by omega) with h | ⟨h1, h2⟩ | ⟨h1, h2⟩
  · rw [rAll_len (.inl (by omega))]
    go_enter Tryd.func21, Tryd.ntmps21
    go_wp2
    go_ret
    exact ⟨rfl, Below.refl _ _⟩
  · go_enter Tryd.func21, Tryd.ntmps21
    go_wp2
    go_loopw [15] (fun i wx => ∃ k : Nat, k ≤ X.length ∧ i = .int .i64 k ∧ Hid (∀ j x, j < k → X[j]? = some x → x.r = true) ∧ Hid (Below w.heap.size w wx)) (fun i _ => X.length - (intOf i).toNat)
    case atStart => exact ⟨0, by omega, rfl, Lib.hid (fun j x hj => absurd hj (by omega)), Lib.hid (Below.refl _ _)⟩
    case round =>
      obtain ⟨k, hk, rfl, T, B⟩ := hrel
      by_cases hlt : k < X.length
      · obtain ⟨b, o, rfl, hb, C⟩ := hr.at_ hlt
        have C' := C.below B.out hb
        have hx : X[k]? = some X[k] := List.getElem?_eq_getElem hlt
        have rx := hX _ (List.mem_of_getElem? hx)
        have HX := Lib.hid hx
        generalize X[k] = x at *
        obtain ⟨c0, c1, c2, c3, c4⟩ := C'
        clear hr C hx hX
        have hji : (k : Int) < (X.length : Int) := by omega
        have hci : (X.length : Int) ≤ (c : Int) := by omega
        have CR := fun W => rightPart x.g x.k x.n x.key x.val W rx.k.1
        have HC := Lib.hid CR
        have hbs := B.out.size
        clear CR
        cases hxr : x.r with
        | true =>
          have hxr' : Hid (rP x.g x.k x.n x.key x.val = true) := Lib.hid hxr
          have HR := Lib.hid hxr
          clear hxr
          go_wp2_with (go_at_call 50; refine (HC.out _).mono ?_; rw [hxr'.out]; rintro e w' ⟨rfl, bw⟩)
          go_roundw
          case rel => exact ⟨k + 1, by omega, by go_num, Lib.hid (fun j y (hj : j < k + 1) hy => by
            by_cases e : j = k
            · subst e
              rw [HX.out] at hy
              cases hy
              exact HR.out
            · exact T.out j y (by omega) hy), Lib.hid (by repeat (first | (with_reducible exact B.out) | (with_reducible exact Below.refl _ _) | (with_reducible refine Below.setCell ?_ (by first | omega | (simp; done) | (simp; omega)) _) | (with_reducible refine Below.drew ?_) | (with_reducible refine Below.trans ?_ (bw.mono (by first | omega | (simp; done) | (simp; omega)))) | (with_reducible refine Below.alloc ?_ (by first | omega | (simp; done) | (simp; omega)) _)))⟩
          case measure => simp [intOf]; omega
        | false =>
          have hxr' : Hid (rP x.g x.k x.n x.key x.val = false) := Lib.hid hxr
          have HA := Lib.hid (rAll_false HX.out hxr)
          clear hxr
          go_wp2_with (go_at_call 50; refine (HC.out _).mono ?_; rw [hxr'.out]; rintro e w' ⟨rfl, bw⟩)
          go_ret
          exact ⟨by rw [HA.out]; rfl, (by repeat (first | (with_reducible exact B.out) | (with_reducible exact Below.refl _ _) | (with_reducible refine Below.setCell ?_ (by first | omega | (simp; done) | (simp; omega)) _) | (with_reducible refine Below.drew ?_) | (with_reducible refine Below.trans ?_ (bw.mono (by first | omega | (simp; done) | (simp; omega)))) | (with_reducible refine Below.alloc ?_ (by first | omega | (simp; done) | (simp; omega)) _)))⟩
      · have hkk : k = X.length := by omega
        subst hkk
        have HA := Lib.hid (rAll_true (X := X) (by omega) (by omega) fun j x hj => T.out j x (List.getElem?_eq_some_iff.1 hj).1 hj)
        go_wp2
        go_ret
        exact ⟨by rw [HA.out]; rfl, B.out⟩
  · rw [rAll_len (.inr (by omega))]
    go_enter Tryd.func21, Tryd.ntmps21
    go_wp2
    go_ret
    exact ⟨rfl, Below.refl _ _⟩

set_option maxRecDepth 100000 in
set_option maxHeartbeats 2000000 in
theorem refRightAll (A : Option Addr) (X : List P5) (c : Nat) (w : World) (hr : RowsP w w.heap.size A X) (hX : ∀ x ∈ X, x.Rng) (hc : X.length ≤ c) (hm : c ≤ maxLen) :
    Calls Tryd.prog 52 #[.slice A X.length c] w fun e w' => e = .returned (.bool (rAll X)) ∧ Below w.heap.size w w' := by
  unfold maxLen at hm
  go_enter Tryd.func52, Tryd.ntmps52
  go_wp2
  go_loopw [3] (fun i wx => ∃ k : Nat, k ≤ X.length ∧ k ≤ 10 ∧ i = .int .i64 k ∧ Hid (∀ j x, j < k → X[j]? = some x → x.r = true) ∧ Hid (Below w.heap.size w wx)) (fun i _ => X.length - (intOf i).toNat)
  case atStart => exact ⟨0, by omega, by omega, rfl, Lib.hid (fun j x hj => absurd hj (by omega)), Lib.hid (Below.refl _ _)⟩
  case round =>
    obtain ⟨k, hk, hk10, rfl, T, B⟩ := hrel
    have hbs := B.out.size
    by_cases hlt : k < X.length
    · by_cases h10 : k < 10
      · obtain ⟨b, o, rfl, hb, C⟩ := hr.at_ hlt
        have C' := C.below B.out hb
        have hx : X[k]? = some X[k] := List.getElem?_eq_getElem hlt
        have rx := hX _ (List.mem_of_getElem? hx)
        have HX := Lib.hid hx
        generalize X[k] = x at *
        obtain ⟨c0, c1, c2, c3, c4⟩ := C'
        clear hr C hx hX
        have hji : (k : Int) < (X.length : Int) := by omega
        have hj10 : (k : Int) < 10 := by omega
        have hci : (X.length : Int) ≤ (c : Int) := by omega
        have CR := fun W => refRight x.g x.k x.n x.key x.val W rx.k.1
        have HC := Lib.hid CR
        clear CR
        cases hxr : x.r with
        | true =>
          have hxr' : Hid (rP x.g x.k x.n x.key x.val = true) := Lib.hid hxr
          have HR := Lib.hid hxr
          clear hxr
          go_wp2_with (go_at_call 62; refine (HC.out _).mono ?_; rw [hxr'.out]; rintro e w' ⟨rfl, bw⟩)
          go_roundw
          case rel => exact ⟨k + 1, by omega, by omega, by go_num, Lib.hid (fun j y (hj : j < k + 1) hy => by
            by_cases e : j = k
            · subst e
              rw [HX.out] at hy
              cases hy
              exact HR.out
            · exact T.out j y (by omega) hy), Lib.hid (by repeat (first | (with_reducible exact B.out) | (with_reducible exact Below.refl _ _) | (with_reducible refine Below.setCell ?_ (by first | omega | (simp; done) | (simp; omega)) _) | (with_reducible refine Below.drew ?_) | (with_reducible refine Below.trans ?_ (bw.mono (by first | omega | (simp; done) | (simp; omega)))) | (with_reducible refine Below.alloc ?_ (by first | omega | (simp; done) | (simp; omega)) _)))⟩
          case measure => simp [intOf]; omega
        | false =>
          have hxr' : Hid (rP x.g x.k x.n x.key x.val = false) := Lib.hid hxr
          have HA := Lib.hid (rAll_false HX.out hxr)
          clear hxr
          go_wp2_with (go_at_call 62; refine (HC.out _).mono ?_; rw [hxr'.out]; rintro e w' ⟨rfl, bw⟩)
          go_ret
          exact ⟨by rw [HA.out]; rfl, (by repeat (first | (with_reducible exact B.out) | (with_reducible exact Below.refl _ _) | (with_reducible refine Below.setCell ?_ (by first | omega | (simp; done) | (simp; omega)) _) | (with_reducible refine Below.drew ?_) | (with_reducible refine Below.trans ?_ (bw.mono (by first | omega | (simp; done) | (simp; omega)))) | (with_reducible refine Below.alloc ?_ (by first | omega | (simp; done) | (simp; omega)) _)))⟩
      · have h4 : 4 < (X.length : Int) := by omega
        have h4' : 1 ≤ (X.length : Int) := by omega
        have hji : (k : Int) < (X.length : Int) := by omega
        have hj10 : 10 ≤ (k : Int) := by omega
        have HA := Lib.hid (rAll_len (X := X) (.inr (by omega)))
        go_wp2
        go_ret
        exact ⟨by rw [HA.out]; exact ret_bool (decide_eq_false (by omega)), B.out⟩
    · have hkk : k = X.length := by omega
      subst hkk
      rcases (show ((X.length : Int) < 1) ∨ (1 ≤ (X.length : Int) ∧ (X.length : Int) ≤ 4) ∨ (1 ≤ (X.length : Int) ∧ 4 < (X.length : Int)) by omega) with h | ⟨h1, h2⟩ | ⟨h1, h2⟩
      · have HA := Lib.hid (rAll_len (X := X) (.inl (by omega)))
        go_wp2
        go_ret
        exact ⟨by rw [HA.out]; first | rfl | exact ret_bool (decide_eq_false (by omega)), B.out⟩
      · have HA := Lib.hid (rAll_true (X := X) (by omega) (by omega) fun j x hj => T.out j x (List.getElem?_eq_some_iff.1 hj).1 hj)
        go_wp2
        go_ret
        exact ⟨by rw [HA.out]; first | rfl | exact ret_bool (decide_eq_true (by omega)), B.out⟩
      · have HA := Lib.hid (rAll_len (X := X) (.inr (by omega)))
        go_wp2
        go_ret
        exact ⟨by rw [HA.out]; first | rfl | exact ret_bool (decide_eq_false (by omega)), B.out⟩

/-- what Light leaves: of n parts at most. -/
def lite : Nat → Int → List P5 → Int
  | 0, l, _ => l
  | _ + 1, l, [] => l
  | n + 1, l, x :: X => if 0 ≤ l then lite n (l - 3 - min (x.key.size : Int) 4000 - min (x.val.size : Int) 4000) X else l
def lightB (X : List P5) : Bool := decide (0 ≤ lite 300 3000 X)
theorem lite_neg (n : Nat) (l : Int) (X : List P5) (h : ¬ 0 ≤ l) : lite n l X = l := by
  cases n <;> cases X <;> simp [lite, h]
theorem lite_step (n : Nat) (l : Int) (X : List P5) (k : Nat) (x : P5) (h : 0 ≤ l) (hx : X[k]? = some x) (hk : k < n) :
    lite (n - k) l (X.drop k) = lite (n - (k + 1)) (l - 3 - min (x.key.size : Int) 4000 - min (x.val.size : Int) 4000) (X.drop (k + 1)) := by
  have hl : k < X.length := (List.getElem?_eq_some_iff.1 hx).1
  have e : n - k = (n - (k + 1)) + 1 := by omega
  rw [e, List.drop_eq_getElem_cons hl]
  have e2 : X[k] = x := by rw [List.getElem?_eq_getElem hl] at hx; exact Option.some.inj hx
  rw [e2, lite, if_pos h]

theorem wrap3 (z a b : Int) (h1 : 0 ≤ z) (h2 : z ≤ 3000) (ha : 0 ≤ a) (hb : 0 ≤ b) :
    IntKind.i64.wrap (IntKind.i64.wrap (IntKind.i64.wrap (z - 3) - if 4000 < a then 4000 else a) - if 4000 < b then 4000 else b) = z - 3 - min a 4000 - min b 4000 := by
  have ea : (if 4000 < a then 4000 else a) = min a 4000 := by split <;> omega
  have eb : (if 4000 < b then 4000 else b) = min b 4000 := by split <;> omega
  rw [ea, eb, IntWalk.i64_in (z - 3) (by omega), IntWalk.i64_in (z - 3 - min a 4000) (by omega), IntWalk.i64_in (z - 3 - min a 4000 - min b 4000) (by omega)]
set_option maxRecDepth 100000 in
set_option maxHeartbeats 2000000 in
theorem light (A : Option Addr) (X : List P5) (c : Nat) (w : World) (hr : RowsP w w.heap.size A X) (hc : X.length ≤ c) (hm : c ≤ maxLen) :
    Calls Tryd.prog 14 #[.slice A X.length c] w fun e w' => e = .returned (.bool (lightB X)) ∧ Below w.heap.size w w' := by
  unfold maxLen at hm
  go_enter Tryd.func14, Tryd.ntmps14
  go_wp2
  go_loopw [3, 4] (fun l i wx => ∃ (k : Nat) (z : Int), k ≤ X.length ∧ k ≤ 300 ∧ i = .int .i64 k ∧ l = .int .i64 z ∧ -9000 ≤ z ∧ z ≤ 3000 ∧ Hid (lite (300 - k) z (X.drop k) = lite 300 3000 X) ∧ Hid (Below w.heap.size w wx)) (fun _ i _ => X.length - (intOf i).toNat)
  case atStart => exact ⟨0, 3000, by omega, by omega, rfl, rfl, by omega, by omega, Lib.hid (by simp), Lib.hid (Below.refl _ _)⟩
  case round =>
    obtain ⟨k, z, hk, hk3, rfl, rfl, hz1, hz2, T, B⟩ := hrel
    have hbs := B.out.size
    by_cases hlt : k < X.length
    · by_cases h10 : k < 300
      · by_cases hz : 0 ≤ z
        · obtain ⟨b, o, rfl, hb, C⟩ := hr.at_ hlt
          have C' := C.below B.out hb
          have hx : X[k]? = some X[k] := List.getElem?_eq_getElem hlt
          have hst := lite_step 300 z X k _ hz hx h10
          have HS := Lib.hid hst
          clear hst hx
          generalize X[k] = x at *
          obtain ⟨c0, c1, c2, c3, c4⟩ := C'
          clear hr C
          have hji : (k : Int) < (X.length : Int) := by omega
          have hj10 : (k : Int) < 300 := by omega
          have hci : (X.length : Int) ≤ (c : Int) := by omega
          go_wp2
          go_region_held3 (fun w' => w'.cell? ⟨b, o + k * 5 + 2, none⟩ = some (.string x.key) ∧ w'.cell? ⟨b, o + k * 5 + 3, none⟩ = some (.string x.val)) (((first | (simp; done) | (go_simp; done) | go_keep))) (fail)
          all_goals go_wp2
          all_goals
            rw [wrap3 z _ _ (by omega) (by omega) (by omega) (by omega)]
            exact ⟨⟨k + 1, _, by omega, by omega, by go_num, rfl, by omega, by omega, Lib.hid (by rw [← T.out, HS.out]), Lib.hid (by repeat (first | (with_reducible exact B.out) | (with_reducible exact Below.refl _ _) | (with_reducible refine Below.setCell ?_ (by first | omega | (simp; done) | (simp; omega)) _) | (with_reducible refine Below.drew ?_) | (with_reducible refine Below.trans ?_ (bw.mono (by first | omega | (simp; done) | (simp; omega)))) | (with_reducible refine Below.alloc ?_ (by first | omega | (simp; done) | (simp; omega)) _)))⟩, by simp [intOf]; omega⟩
        · have hz' : z < 0 := by omega
          have hji : (k : Int) < (X.length : Int) := by omega
          have hj10 : (k : Int) < 300 := by omega
          have HN := Lib.hid (show lightB X = false by unfold lightB; rw [← T.out, lite_neg _ _ _ hz]; simpa using hz')
          go_wp2
          go_ret
          exact ⟨by rw [HN.out]; rfl, B.out⟩
      · have hji : (k : Int) < (X.length : Int) := by omega
        have hj10 : 300 ≤ (k : Int) := by omega
        have HN := Lib.hid (show lightB X = decide (0 ≤ z) by unfold lightB; rw [← T.out, show 300 - k = 0 by omega]; rfl)
        go_wp2
        go_ret
        exact ⟨by rw [HN.out]; rfl, B.out⟩
    · have hkk : k = X.length := by omega
      subst hkk
      have HN := Lib.hid (show lightB X = decide (0 ≤ z) by unfold lightB; rw [← T.out, List.drop_length]; cases (300 - X.length) <;> rfl)
      go_wp2
      go_ret
      exact ⟨by rw [HN.out]; rfl, B.out⟩

end Go.Proofs.YtnkimbmnnhnanaaDoor
