/-
  The law's few: it says yes only of lists that are few and short. Condition: the list lies in memory.
-/
import Derived.Test.YthmdnbgfnaokkaaDoorQrow
import Derived.BigQuiet
namespace Go.Proofs.YthmdnbgfnaokkaaDoor
set_option linter.unusedSimpArgs false
set_option linter.unusedVariables false
open Go.RowKit

def litW : List W3 → Int
  | [] => 0
  | x :: L => 1 + min (x.key.size : Int) 4000 + min (x.val.size : Int) 4000 + litW L
theorem litW_app (A B : List W3) : litW (A ++ B) = litW A + litW B := by
  induction A with
  | nil => simp [litW]
  | cons a A ih => simp only [List.cons_append, litW, ih]; omega
theorem litW_nn (L : List W3) : 0 ≤ litW L := by
  induction L with
  | nil => simp [litW]
  | cons a A ih => simp only [litW]; omega
theorem litW_snoc {L : List W3} {k : Nat} {x : W3} (h : L[k]? = some x) : litW (L.take (k + 1)) = litW (L.take k) + (1 + min (x.key.size : Int) 4000 + min (x.val.size : Int) 4000) := by
  rw [List.take_add_one, h, litW_app]
  simp [litW]
theorem litW_mem {L : List W3} {x : W3} (h : x ∈ L) : 1 + min (x.key.size : Int) 4000 + min (x.val.size : Int) 4000 ≤ litW L := by
  induction L with
  | nil => cases h
  | cons a A ih =>
    have := litW_nn A
    rcases List.mem_cons.1 h with rfl | h
    · simp only [litW]; omega
    · have := ih h
      simp only [litW]; omega
theorem wrapF (z a b : Int) (h1 : -3000000 ≤ z) (h2 : z ≤ 3000) (ha : 0 ≤ a) (hb : 0 ≤ b) :
    IntKind.i64.wrap (IntKind.i64.wrap (IntKind.i64.wrap (z - 1) - if 4000 < a then 4000 else a) - if 4000 < b then 4000 else b) = z - (1 + min a 4000 + min b 4000) := by
  have ea : (if 4000 < a then 4000 else a) = min a 4000 := by split <;> omega
  have eb : (if 4000 < b then 4000 else b) = min b 4000 := by split <;> omega
  rw [ea, eb, IntWalk.i64_in (z - 1) (by omega), IntWalk.i64_in (z - 1 - min a 4000) (by omega), IntWalk.i64_in (z - 1 - min a 4000 - min b 4000) (by omega)]
  omega
def FewP (X : List W3) (w : World) (e : Ending) (w' : World) : Prop := ∃ r, e = .returned (.bool r) ∧ (r = true → X.length ≤ 250 ∧ litW X ≤ 3000) ∧ Below w.heap.size w w'
theorem mkFew {X : List W3} {w w' : World} {e : Ending} (r : Bool) (he : e = .returned (.bool r)) (h : r = true → X.length ≤ 250 ∧ litW X ≤ 3000) (hb : Below w.heap.size w w') : FewP X w e w' := ⟨r, he, h, hb⟩
set_option maxRecDepth 100000 in
set_option maxHeartbeats 2000000 in
theorem fewS (A : Option Addr) (X : List W3) (c : Nat) (w : World) (hr : RowsW w w.heap.size A X) (hc : X.length ≤ c) (hm : c ≤ maxLen) :
    Calls Tryd.prog 6 #[.slice A X.length c] w (FewP X w) := by
  unfold maxLen at hm
  go_enter Tryd.func6, Tryd.ntmps6
  go_wp2
  go_loopw [3, 4] (fun l i wx => ∃ (k : Nat) (z : Int), k ≤ X.length ∧ k ≤ 300 ∧ i = .int .i64 k ∧ l = .int .i64 z ∧ z ≤ 3000 ∧ 3000 - 8001 * (k : Int) ≤ z ∧ Hid (z = 3000 - litW (X.take k)) ∧ Hid (Below w.heap.size w wx)) (fun _ i _ => X.length - (intOf i).toNat)
  case atStart => exact ⟨0, 3000, by omega, by omega, rfl, rfl, by omega, by omega, Lib.hid (by simp [litW]), Lib.hid (Below.refl _ _)⟩
  case round =>
    obtain ⟨k, z, hk, hk3, rfl, rfl, hz1, hz2, Tz, B⟩ := hrel
    have hbs := B.out.size
    by_cases hlt : k < X.length
    · by_cases h10 : k < 300
      · obtain ⟨b, o, rfl, hb, C⟩ := hr.at_ hlt
        have C' := C.below B.out hb
        have hx : X[k]? = some X[k] := List.getElem?_eq_getElem hlt
        have HS := Lib.hid (litW_snoc hx)
        clear hx
        generalize X[k] = x at *
        obtain ⟨c0, c1, c2⟩ := C'
        clear hr C
        have hji : (k : Int) < (X.length : Int) := by omega
        have hj0 : (0 : Int) ≤ (k : Int) := by omega
        have hj10 : (k : Int) < 300 := by omega
        have hci : (X.length : Int) ≤ (c : Int) := by omega
        go_wp2
        go_region_held3 (fun w' => w'.cell? ⟨b, o + k * 3, none⟩ = some (.string x.key) ∧ w'.cell? ⟨b, o + k * 3 + 1, none⟩ = some (.string x.val)) (((first | (simp; done) | (go_simp; done) | go_keep))) (fail)
        all_goals go_wp2
        all_goals
          rw [wrapF z _ _ (by omega) (by omega) (by omega) (by omega)]
          exact ⟨⟨k + 1, _, by omega, by omega, by go_num, rfl, by omega, by omega, Lib.hid (by have h1 := Tz.out; have h2 := HS.out; omega), Lib.hid (by first | exact B.out | exact B.out.drew | exact Below.drewsN B.out)⟩, by simp [intOf]; omega⟩
      · have hji : (k : Int) < (X.length : Int) := by omega
        have hj10 : 300 ≤ (k : Int) := by omega
        have hL : (250 : Int) < (X.length : Int) := by omega
        go_wp2
        all_goals
          go_ret
          exact mkFew _ rfl (fun h => by simp at h <;> omega) B.out
    · have hkk : k = X.length := by omega
      subst hkk
      rw [List.take_length] at Tz
      go_wp2
      all_goals
        go_ret
        exact mkFew _ rfl (fun h => by have := Tz.out; simp at h <;> omega) B.out

end Go.Proofs.YthmdnbgfnaokkaaDoor
