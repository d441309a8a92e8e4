/-
  Where a node stands in a list: the program's place, over slices.IndexFunc, by an exact answer. Condition: the list lies in memory.
-/
import Derived.Test.YtfkmodmgihadkaaVsam
namespace Go.Proofs.Ytfkmodmgihadkaa.V
set_option linter.unusedSimpArgs false
set_option linter.unusedVariables false
open Go.RowKit

/-- where a node stands. -/
def fi (X : List P2) (n : Int) : Int := match X.findIdx? (fun q => decide (q.n = n)) with
  | some i => i
  | none => -1
theorem fi_none {X : List P2} {n : Int} (h : ∀ (j : Nat) (x : P2), X[j]? = some x → x.n ≠ n) : fi X n = -1 := by
  have : X.findIdx? (fun q => decide (q.n = n)) = none := by
    rw [List.findIdx?_eq_none_iff]
    intro x hx
    obtain ⟨j, hj⟩ := List.getElem?_of_mem hx
    simpa using h j x hj
  simp [fi, this]
theorem fi_some {X : List P2} {n : Int} {k : Nat} {x : P2} (hk : X[k]? = some x) (hn : x.n = n) (h : ∀ (j : Nat) (x : P2), j < k → X[j]? = some x → x.n ≠ n) : fi X n = k := by
  obtain ⟨hl, he⟩ := List.getElem?_eq_some_iff.1 hk
  have : X.findIdx? (fun q => decide (q.n = n)) = some k := by
    rw [List.findIdx?_eq_some_iff_getElem]
    refine ⟨hl, ?_, ?_⟩
    · rw [he]; simpa using hn
    · intro j hj
      have hjl : j < X.length := by omega
      have := h j X[j] hj (List.getElem?_eq_getElem hjl)
      simpa using this
  simp [fi, this]
/-- it stands nowhere, or at a place, and nowhere ahead of it. -/
theorem fi_is (X : List P2) (n : Int) : (fi X n = -1 ∧ ∀ (j : Nat) (x : P2), X[j]? = some x → x.n ≠ n) ∨ ∃ (k : Nat) (x : P2), fi X n = k ∧ X[k]? = some x ∧ x.n = n ∧ ∀ (j : Nat) (x : P2), j < k → X[j]? = some x → x.n ≠ n := by
  cases h : X.findIdx? (fun q => decide (q.n = n)) with
  | none =>
    rw [List.findIdx?_eq_none_iff] at h
    refine .inl ⟨by simp [fi, List.findIdx?_eq_none_iff.2 h], fun j x hj => ?_⟩
    have := h x (List.mem_of_getElem? hj)
    simpa using this
  | some i =>
    have h0 := h
    rw [List.findIdx?_eq_some_iff_getElem] at h
    obtain ⟨hl, he, hlt⟩ := h
    refine .inr ⟨i, X[i], by simp [fi, h0], List.getElem?_eq_getElem hl, by simpa using he, fun j x hj hx => ?_⟩
    obtain ⟨hjl, hje⟩ := List.getElem?_eq_some_iff.1 hx
    have := hlt j hj
    rw [hje] at this
    simpa using this

set_option maxHeartbeats 400000 in
theorem place1 (x : P2) (p : Nat) (n : Int) (w : World) (h0 : w.cell? ⟨p, 0, none⟩ = some (.int .u8 n)) :
    Calls Try.prog 47 #[.agg #[.int .u8 x.n, .int .u16 x.l], .pointer (some ⟨p, 0, none⟩)] w fun e w' => e = .returned (.bool (decide (x.n = n))) ∧ Below w.heap.size w w' := by
  have hp := World.block_lt_of_cell? w _ h0
  have q0 := Go.Lib.cell?_alloc_some (.cells #[.int .u8 x.n, .int .u16 x.l] 54) h0
  by_cases he : x.n = n
  · have heb : (x.n == n) = true := by rw [beq_iff_eq]; exact he
    rw [decide_eq_true he]
    clear he
    go_enter Try.func47, Try.ntmps47
    go_wp2
    go_ret
    exact ⟨rfl, (Below.refl _ _).alloc (Nat.le_refl _) _⟩
  · have heb : (x.n == n) = false := by rw [beq_eq_false_iff_ne]; exact he
    rw [decide_eq_false he]
    clear he
    go_enter Try.func47, Try.ntmps47
    go_wp2
    go_ret
    exact ⟨rfl, (Below.refl _ _).alloc (Nat.le_refl _) _⟩

set_option maxRecDepth 100000 in
set_option maxHeartbeats 1000000 in
theorem idxPlace (A : Option Addr) (X : List P2) (c p : Nat) (n : Int) (w : World) (hr : RowsV w w.heap.size A X) (hc : X.length ≤ c) (hm : c ≤ maxLen) (h0 : w.cell? ⟨p, 0, none⟩ = some (.int .u8 n)) :
    Calls Try.prog 46 #[.slice A X.length c, .func (.func 47) #[] #[.pointer (some ⟨p, 0, none⟩)]] w fun e w' => e = .returned (.int .i64 (fi X n)) ∧ Below w.heap.size w w' := by
  have hp := World.block_lt_of_cell? w _ h0
  unfold maxLen at hm
  go_enter Try.func46, Try.ntmps46
  go_wp2
  go_loopw [8] (fun i wx => ∃ k : Nat, k ≤ X.length ∧ i = .int .i64 k ∧ Hid (∀ (j : Nat) (x : P2), j < k → X[j]? = some x → x.n ≠ n) ∧ Hid (Below w.heap.size w wx)) (fun i _ => X.length - (intOf i).toNat)
  case atStart => exact ⟨0, by omega, rfl, Lib.hid (fun j x hj => absurd hj (by omega)), Lib.hid (Below.refl _ _)⟩
  case round =>
    obtain ⟨k, hk, rfl, T, B⟩ := hrel
    by_cases hlt : k < X.length
    · obtain ⟨b, o, rfl, hb, C⟩ := hr.at_ hlt
      obtain ⟨c0, c1⟩ := C.below B.out hb
      have HX := Lib.hid (show X[k]? = some X[k] from List.getElem?_eq_getElem hlt)
      generalize X[k] = x at *
      clear hr C
      have q0 := (B.out.cell (p := ⟨p, 0, none⟩) hp).trans h0
      have hji : (k : Int) < (X.length : Int) := by omega
      have hj0 : (0 : Int) ≤ (k : Int) := by omega
      have hci : (X.length : Int) ≤ (c : Int) := by omega
      have hbs := B.out.size
      have UA := Lib.hid (fun W a => place1 x p n W a)
      by_cases he : x.n = n
      · rw [decide_eq_true he] at UA
        have HE := Lib.hid (fi_some HX.out he T.out)
        clear he h0
        go_wp2_with (go_at_call 47; refine (UA.out _ q0).mono ?_; rintro e w1 ⟨rfl, b1⟩
                     have B1 := Lib.hid (B.out.trans (b1.mono hbs))
                     clear b1 c0 c1 q0)
        go_ret
        exact ⟨by rw [HE.out]; rfl, B1.out⟩
      · rw [decide_eq_false he] at UA
        have HE := Lib.hid he
        clear he h0
        go_wp2_with (go_at_call 47; refine (UA.out _ q0).mono ?_; rintro e w1 ⟨rfl, b1⟩
                     have B1 := Lib.hid (B.out.trans (b1.mono hbs))
                     clear b1 c0 c1 q0)
        go_roundw
        case rel => exact ⟨k + 1, by omega, by go_num, Lib.hid (fun j z (hj : j < k + 1) hz => by
          by_cases e : j = k
          · subst e
            rw [HX.out] at hz
            cases hz
            exact HE.out
          · exact T.out j z (by omega) hz), B1⟩
        case measure => simp [intOf]; omega
    · have hkk : k = X.length := by omega
      subst hkk
      have HE := Lib.hid (fi_none (X := X) (n := n) fun j x hj => T.out j x (List.getElem?_eq_some_iff.1 hj).1 hj)
      go_wp2
      go_ret
      exact ⟨by rw [HE.out]; rfl, B.out⟩

set_option maxHeartbeats 400000 in
theorem placeO (A : Option Addr) (X : List P2) (c : Nat) (n : Int) (w : World) (hr : RowsV w w.heap.size A X) (hc : X.length ≤ c) (hm : c ≤ maxLen) :
    Calls Try.prog 39 #[.slice A X.length c, .int .u8 n] w fun e w' => e = .returned (.int .i64 (fi X n)) ∧ Below w.heap.size w w' := by
  have b0 : Below w.heap.size w (w.alloc (.cells #[.int .u8 n] 5)) := (Below.refl _ _).alloc (Nat.le_refl _) _
  have K := Lib.hid (idxPlace A X c w.heap.size n _ (hr.below b0 (Nat.le_refl _) b0.size) hc hm (by simp))
  have B0 := Lib.hid b0
  clear hr b0
  go_enter Try.func39, Try.ntmps39
  go_wp2_with (go_at_call 46; refine K.out.mono ?_; rintro e w1 ⟨rfl, b1⟩
               have B1 := Lib.hid (B0.out.trans (b1.mono B0.out.size)))
  go_ret
  exact ⟨rfl, B1.out⟩

end Go.Proofs.Ytfkmodmgihadkaa.V
