/-
  Two results joined: the program's Join and the document's, by contracts. Condition: the texts are short.
-/
import Derived.Test.YtggaakjimkfliaaDoorPdig
namespace Go.Proofs.YtggaakjimkfliaaDoor
set_option linter.unusedSimpArgs false
set_option linter.unusedVariables false
open Go.RowKit

/-- results joined: the code, the value. -/
def joinC (c d : Int) : Int := if c = 0 then (if d = 0 then 0 else 4) else c
def joinV (c d : Int) (u v : ByteArray) : ByteArray := if c = 0 then (if d = 0 then u ++ ({ data := #[44] } ++ v) else v) else u
set_option maxHeartbeats 1000000 in
theorem join (c d : Int) (u v : ByteArray) (w : World) (hs : u.size + v.size ≤ 5000) :
    Calls Tryd.prog 20 #[.agg #[.int .u8 c, .string u], .agg #[.int .u8 d, .string v]] w fun e w' => e = .returned (.agg #[.int .u8 (joinC c d), .string (joinV c d u v)]) ∧ Below w.heap.size w w' := by
  by_cases hc : c = 0
  · by_cases hd : d = 0
    · subst hc hd
      have e1 : joinC 0 0 = 0 := rfl
      have e2 : joinV 0 0 u v = u ++ { data := #[44] } ++ v := by simp [joinV, ByteArray.append_assoc]
      rw [e1, e2]
      clear e1 e2
      go_enter Tryd.func20, Tryd.ntmps20
      go_wp2
      exact bodyPost_ret (v := .agg #[.int .u8 0, .string (u ++ { data := #[44] } ++ v)]) (by simp [results, Tryd.results20, go_sem]) rfl ⟨rfl, (by repeat (first | (with_reducible exact Below.refl _ _) | (with_reducible exact Below.refl _ _) | (with_reducible refine Below.setCell ?_ (by first | omega | (simp; done) | (simp; omega)) _) | (with_reducible refine Below.drew ?_) | (with_reducible refine Below.alloc ?_ (by first | omega | (simp; done) | (simp; omega)) _)))⟩
    · subst hc
      have e1 : joinC 0 d = 4 := by simp [joinC, hd]
      have e2 : joinV 0 d u v = v := by simp [joinV, hd]
      rw [e1, e2]
      clear e1 e2
      go_enter Tryd.func20, Tryd.ntmps20
      go_wp2
      exact bodyPost_ret (v := .agg #[.int .u8 4, .string v]) (by simp [results, Tryd.results20, go_sem]) rfl ⟨rfl, (by repeat (first | (with_reducible exact Below.refl _ _) | (with_reducible exact Below.refl _ _) | (with_reducible refine Below.setCell ?_ (by first | omega | (simp; done) | (simp; omega)) _) | (with_reducible refine Below.drew ?_) | (with_reducible refine Below.alloc ?_ (by first | omega | (simp; done) | (simp; omega)) _)))⟩
  · have e1 : joinC c d = c := by simp [joinC, hc]
    have e2 : joinV c d u v = u := by simp [joinV, hc]
    rw [e1, e2]
    clear e1 e2
    go_enter Tryd.func20, Tryd.ntmps20
    go_wp2
    exact bodyPost_ret (v := .agg #[.int .u8 c, .string u]) (by simp [results, Tryd.results20, go_sem]) rfl ⟨rfl, (by repeat (first | (with_reducible exact Below.refl _ _) | (with_reducible exact Below.refl _ _) | (with_reducible refine Below.setCell ?_ (by first | omega | (simp; done) | (simp; omega)) _) | (with_reducible refine Below.drew ?_) | (with_reducible refine Below.alloc ?_ (by first | omega | (simp; done) | (simp; omega)) _)))⟩

set_option maxHeartbeats 1000000 in
theorem refJoin (c d : Int) (u v : ByteArray) (w : World) (hs : u.size + v.size ≤ 5000) :
    Calls Tryd.prog 21 #[.agg #[.int .u8 c, .string u], .agg #[.int .u8 d, .string v]] w fun e w' => e = .returned (.agg #[.int .u8 (joinC c d), .string (joinV c d u v)]) ∧ Below w.heap.size w w' := by
  by_cases hc : c = 0
  · by_cases hd : d = 0
    · subst hc hd
      have e1 : joinC 0 0 = 0 := rfl
      have e2 : joinV 0 0 u v = u ++ { data := #[44] } ++ v := by simp [joinV, ByteArray.append_assoc]
      rw [e1, e2]
      clear e1 e2
      go_enter Tryd.func21, Tryd.ntmps21
      go_wp2
      exact bodyPost_ret (v := .agg #[.int .u8 0, .string (u ++ { data := #[44] } ++ v)]) (by simp [results, Tryd.results21, go_sem]) rfl ⟨rfl, (by repeat (first | (with_reducible exact Below.refl _ _) | (with_reducible exact Below.refl _ _) | (with_reducible refine Below.setCell ?_ (by first | omega | (simp; done) | (simp; omega)) _) | (with_reducible refine Below.drew ?_) | (with_reducible refine Below.alloc ?_ (by first | omega | (simp; done) | (simp; omega)) _)))⟩
    · subst hc
      have e1 : joinC 0 d = 4 := by simp [joinC, hd]
      have e2 : joinV 0 d u v = v := by simp [joinV, hd]
      rw [e1, e2]
      clear e1 e2
      go_enter Tryd.func21, Tryd.ntmps21
      go_wp2
      exact bodyPost_ret (v := .agg #[.int .u8 4, .string v]) (by simp [results, Tryd.results21, go_sem]) rfl ⟨rfl, (by repeat (first | (with_reducible exact Below.refl _ _) | (with_reducible exact Below.refl _ _) | (with_reducible refine Below.setCell ?_ (by first | omega | (simp; done) | (simp; omega)) _) | (with_reducible refine Below.drew ?_) | (with_reducible refine Below.alloc ?_ (by first | omega | (simp; done) | (simp; omega)) _)))⟩
  · have e1 : joinC c d = c := by simp [joinC, hc]
    have e2 : joinV c d u v = u := by simp [joinV, hc]
    rw [e1, e2]
    clear e1 e2
    go_enter Tryd.func21, Tryd.ntmps21
    go_wp2
    exact bodyPost_ret (v := .agg #[.int .u8 c, .string u]) (by simp [results, Tryd.results21, go_sem]) rfl ⟨rfl, (by repeat (first | (with_reducible exact Below.refl _ _) | (with_reducible exact Below.refl _ _) | (with_reducible refine Below.setCell ?_ (by first | omega | (simp; done) | (simp; omega)) _) | (with_reducible refine Below.drew ?_) | (with_reducible refine Below.alloc ?_ (by first | omega | (simp; done) | (simp; omega)) _)))⟩

end Go.Proofs.YtggaakjimkfliaaDoor
