/-
  slices.IndexFunc at identifiers under the closure of Set.Under: the first that is not the process's. Condition: the row lies in memory, the captured process too.
-/
import Derived.Test.YtehkofeokccdeaaAll
import Derived.Test.YtehkofeokccdeaaNew
namespace Go.Proofs.Ytehkofeokccdeaa
set_option linter.unusedSimpArgs false
set_option linter.unusedVariables false
open Go.RowKit Go.Maps Go.Sort Go.Shelf

/-- not the process's. -/
def notOf (n l : Int) (x : I10) : Bool := neP x.n x.l n l

theorem underAsk' (x : I10) (p : Nat) (n l : Int) (w : World) (h0 : w.cell? ⟨p, 0, none⟩ = some (.int .u8 n)) (h1 : w.cell? ⟨p, 1, none⟩ = some (.int .u16 l)) :
    Calls Try.prog 27 #[.agg #[.int .u8 x.n, .int .u16 x.l, .int .u32 x.s, .int .u8 x.d, .int .u8 x.a0, .int .u8 x.a1, .int .u8 x.b0, .int .u8 x.b1, .int .u8 x.c0, .int .u8 x.c1], .pointer (some ⟨p, 0, none⟩)] w fun e w' => e = .returned (.bool (notOf n l x)) ∧ Below w.heap.size w w' := underAsk x p n l w h0 h1

set_option maxRecDepth 100000 in
set_option maxHeartbeats 2000000 in
theorem idxUnder (X : List I10) (g cap p : Nat) (n l : Int) (w : World) (hg : g < w.heap.size) (hcap : X.length ≤ cap) (hcm : cap ≤ maxLen) (hX : X.length * 16 ≤ 140737488355328) (hat : ∀ i x, X[i]? = some x → IdAt w g (i * 10) x)
    (h0 : w.cell? ⟨p, 0, none⟩ = some (.int .u8 n)) (h1 : w.cell? ⟨p, 1, none⟩ = some (.int .u16 l)) :
    Calls Try.prog 36 #[.slice (some ⟨g, 0, none⟩) X.length cap, .func (.func 27) #[] #[.pointer (some ⟨p, 0, none⟩)]] w fun e w' => Below w.heap.size w w' ∧
      ((e = .returned (.int .i64 (-1)) ∧ ∀ x ∈ X, notOf n l x = false) ∨ ∃ k x, e = .returned (.int .i64 (k : Nat)) ∧ X[k]? = some x ∧ notOf n l x = true ∧ ∀ y ∈ X.take k, notOf n l y = false) := by
  have hp := World.block_lt_of_cell? w _ h0
  unfold maxLen at hcm
  go_enter Try.func36, Try.ntmps36
  go_wp2
  go_loopw [8] (fun i wx => ∃ k : Nat, k ≤ X.length ∧ i = .int .i64 k ∧ Hid (∀ y ∈ X.take k, notOf n l y = false) ∧ Hid (Below w.heap.size w wx)) (fun i _ => X.length - (intOf i).toNat)
  case atStart => exact ⟨0, by omega, rfl, Lib.hid (by simp), Lib.hid (Below.refl _ _)⟩
  case round =>
    obtain ⟨k, hk, rfl, A, B⟩ := hrel
    by_cases hlt : k < X.length
    · have hx : X[k]? = some X[k] := List.getElem?_eq_getElem hlt
      have C' := (hat k _ hx).below B.out hg
      have HX := Lib.hid hx
      have htk : X.take (k + 1) = X.take k ++ [X[k]] := by rw [List.take_add_one, hx]; rfl
      have HT := Lib.hid htk
      clear hx htk
      generalize X[k] = x at *
      obtain ⟨c0, c1, c2, c3, c4, c5, c6, c7, c8, c9⟩ := C'
      have q0 := (B.out.cell (p := ⟨p, 0, none⟩) hp).trans h0
      have q1 := (B.out.cell (p := ⟨p, 1, none⟩) hp).trans h1
      have hji : (k : Int) < (X.length : Int) := by omega
      have hci : (X.length : Int) ≤ (cap : Int) := by omega
      have hbs := B.out.size
      by_cases hq : notOf n l x = true
      · have UA := Lib.hid (fun W a b => hq ▸ underAsk' x p n l W a b)
        have HQ := Lib.hid hq
        clear hq hat h0 h1
        go_wp2_with (go_at_call 27; refine (UA.out _ q0 q1).mono ?_; rintro e w1 ⟨rfl, b1⟩
                     have B1 := Lib.hid (B.out.trans (b1.mono hbs))
                     clear b1 c0 c1 c2 c3 c4 c5 c6 c7 c8 c9 q0 q1)
        go_ret
        exact ⟨B1.out, .inr ⟨k, x, rfl, HX.out, HQ.out, A.out⟩⟩
      · have hq' : notOf n l x = false := by simpa using hq
        have UA := Lib.hid (fun W a b => hq' ▸ underAsk' x p n l W a b)
        have AA := Lib.hid (show ∀ y ∈ X.take (k + 1), notOf n l y = false by
          rw [HT.out]
          intro y hy
          rcases List.mem_append.1 hy with h | h
          · exact A.out y h
          · rw [List.mem_singleton.1 h]; exact hq')
        clear hq hq' hat h0 h1
        go_wp2_with (go_at_call 27; refine (UA.out _ q0 q1).mono ?_; rintro e w1 ⟨rfl, b1⟩
                     have B1 := Lib.hid (B.out.trans (b1.mono hbs))
                     clear b1 c0 c1 c2 c3 c4 c5 c6 c7 c8 c9 q0 q1)
        go_roundw
        case rel => exact ⟨k + 1, by omega, by go_num, AA, B1⟩
        case measure => simp [intOf]; omega
    · have hkk : k = X.length := by omega
      subst hkk
      rw [List.take_length] at A
      go_wp2
      go_ret
      exact ⟨B.out, .inl ⟨rfl, A.out⟩⟩

end Go.Proofs.Ytehkofeokccdeaa
