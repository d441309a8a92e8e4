/-
  Two lists of the document's identifiers held against each other, by a contract. Condition: both lie in memory.
-/
import Derived.Test.YtehkofeokccdeaaIrow
import Derived.Test.YtehkofeokccdeaaUnd
import Derived.Test.YtehkofeokccdeaaLex
import Derived.Laws.StructEq
import Derived.Lib.QuietBelow
import Derived.BigQuiet
import Derived.Deep.QuietTactic
namespace Go.Proofs.Ytehkofeokccdeaa
set_option linter.unusedSimpArgs false
set_option linter.unusedVariables false
open Go.RowKit Go.Sort

theorem neq38 (x y : I10) (w : World) : Sem.run Try.prog (binOp .neq 38 (.agg #[.int .u8 x.n, .int .u16 x.l, .int .u32 x.s, .int .u8 x.d, .int .u8 x.a0, .int .u8 x.a1, .int .u8 x.b0, .int .u8 x.b1, .int .u8 x.c0, .int .u8 x.c1]) (.agg #[.int .u8 y.n, .int .u16 y.l, .int .u32 y.s, .int .u8 y.d, .int .u8 y.a0, .int .u8 y.a1, .int .u8 y.b0, .int .u8 y.b1, .int .u8 y.c0, .int .u8 y.c1])) w = .ok (.bool (!eqI x y)) w := by
  rw [run_neq_struct, show (10000 : Nat) = 9999 + 1 from rfl, eqRefrun]
  rfl
/-- are two lists the same? -/
def sameI (X Y : List I10) : Bool := decide (X.length = Y.length) && (List.range X.length).all fun i => eqI X[i]! Y[i]!
theorem sameI_refl (X : List I10) : sameI X X = true := by
  simp [sameI]
  intro i _
  rw [eqI_iff]
theorem sameI_len {X Y : List I10} (h : X.length ≠ Y.length) : sameI X Y = false := by simp [sameI, h]
theorem sameI_false {X Y : List I10} {k : Nat} (hk : k < X.length) (h : eqI X[k]! Y[k]! = false) : sameI X Y = false := by
  have : ((List.range X.length).all fun i => eqI X[i]! Y[i]!) = false := by
    rw [List.all_eq_false]
    exact ⟨k, List.mem_range.2 hk, by rw [h]; decide⟩
  unfold sameI
  rw [this, Bool.and_false]
theorem sameI_true {X Y : List I10} (hl : X.length = Y.length) (h : ∀ k, k < X.length → eqI X[k]! Y[k]! = true) : sameI X Y = true := by
  have : ((List.range X.length).all fun i => eqI X[i]! Y[i]!) = true := by
    rw [List.all_eq_true]
    intro i hi
    exact h i (List.mem_range.1 hi)
  unfold sameI
  rw [this, decide_eq_true hl]
  rfl

set_option maxRecDepth 100000 in
set_option maxHeartbeats 4000000 in
theorem sameIDs (A1 A2 : Option Addr) (X Y : List I10) (c d : Nat) (w : World) (hr : RowsI w w.heap.size A1 X) (hs : RowsI w w.heap.size A2 Y) (hc : X.length ≤ c) (hm : c ≤ maxLen) (hd : Y.length ≤ d) (hn : d ≤ maxLen) :
    Calls Try.prog 14 #[.slice A1 X.length c, .slice A2 Y.length d] w fun e w' => e = .returned (.bool (sameI X Y)) ∧ Below w.heap.size w w' := by
  unfold maxLen at hm hn
  have hci : (X.length : Int) ≤ (c : Int) := by omega
  have hdi : (Y.length : Int) ≤ (d : Int) := by omega
  by_cases hl : X.length = Y.length
  · have HL := Lib.hid hl
    rw [← hl]
    have hdi' : (X.length : Int) ≤ (d : Int) := by omega
    clear hl hdi
    go_enter Try.func14, Try.ntmps14
    go_wp2
    go_loopw [5] (fun i wx => ∃ k : Nat, k ≤ X.length ∧ i = .int .i64 k ∧ Hid (∀ j, j < k → eqI X[j]! Y[j]! = true) ∧ Hid (Below w.heap.size w wx)) (fun i _ => X.length - (intOf i).toNat)
    case atStart => exact ⟨0, by omega, rfl, Lib.hid (fun j hj => absurd hj (by omega)), Lib.hid (Below.refl _ _)⟩
    case round =>
      obtain ⟨k, hk, rfl, T, B⟩ := hrel
      have hbs := B.out.size
      by_cases hlt : k < X.length
      · obtain ⟨b, o, rfl, hb, C⟩ := hr.at_ hlt
        obtain ⟨b2, o2, rfl, hb2, C2⟩ := hs.at_ (k := k) (by rw [← HL.out]; exact hlt)
        have C' := C.below B.out hb
        have C2' := C2.below B.out hb2
        have ex : Hid (X[k]! = X[k]) := Lib.hid (getElem!_pos X k hlt)
        have ey : Hid (Y[k]! = Y[k]'(by rw [← HL.out]; exact hlt)) := Lib.hid (getElem!_pos Y k (by rw [← HL.out]; exact hlt))
        generalize X[k] = x at *
        generalize Y[k]'(by rw [← HL.out]; exact hlt) = y at *
        have k0 := cell_regrown C'.c0
        have k1 := cell_regrown C'.c1
        have k2 := cell_regrown C'.c2
        have k3 := cell_regrown C'.c3
        have k4 := cell_regrown C'.c4
        have k5 := cell_regrown C'.c5
        have k6 := cell_regrown C'.c6
        have k7 := cell_regrown C'.c7
        have k8 := cell_regrown C'.c8
        have k9 := cell_regrown C'.c9
        have l0 := cell_regrown C2'.c0
        have l1 := cell_regrown C2'.c1
        have l2 := cell_regrown C2'.c2
        have l3 := cell_regrown C2'.c3
        have l4 := cell_regrown C2'.c4
        have l5 := cell_regrown C2'.c5
        have l6 := cell_regrown C2'.c6
        have l7 := cell_regrown C2'.c7
        have l8 := cell_regrown C2'.c8
        have l9 := cell_regrown C2'.c9
        have hq := neq38 x y
        clear C C' C2 C2' hr hs
        have hji : (k : Int) < (X.length : Int) := by omega
        cases he : eqI x y with
        | true =>
          rw [he] at hq
          have HE := Lib.hid he
          clear he
          go_wp2_with fail
          refine wp_region_quiet_below (by kernel_rfl) (by kernel_rfl) ?_
          repeat (go_big_quiet_step (fail))
          refine wpQuiet_nil ?_
          rintro W ⟨p, rfl⟩
          have y1 := below_regrown wr p.d p.os
          generalize grow (redrawn wr p.d) p.os = w2 at *
          clear k0 k1 k2 k3 k4 k5 k6 k7 k8 k9 l0 l1 l2 l3 l4 l5 l6 l7 l8 l9 hq
          have Y1 := Lib.hid y1
          clear y1
          go_wp2
          go_roundw
          case rel => exact ⟨k + 1, by omega, by go_num, Lib.hid (fun j (hj : j < k + 1) => by
            by_cases e : j = k
            · subst e
              rw [ex.out, ey.out]; exact HE.out
            · exact T.out j (by omega)), Lib.hid (B.out.trans (Y1.out.mono hbs))⟩
          case measure => simp [intOf]; omega
        | false =>
          rw [he] at hq
          have HF := Lib.hid (sameI_false (X := X) (Y := Y) hlt (by rw [ex.out, ey.out]; exact he))
          clear he
          go_wp2_with fail
          refine wp_region_quiet_below (by kernel_rfl) (by kernel_rfl) ?_
          repeat (go_big_quiet_step (fail))
          refine wpQuiet_nil ?_
          rintro W ⟨p, rfl⟩
          have y1 := below_regrown wr p.d p.os
          generalize grow (redrawn wr p.d) p.os = w2 at *
          clear k0 k1 k2 k3 k4 k5 k6 k7 k8 k9 l0 l1 l2 l3 l4 l5 l6 l7 l8 l9 hq
          have Y1 := Lib.hid y1
          clear y1
          go_wp2
          go_ret
          exact ⟨by rw [HF.out]; rfl, B.out.trans (Y1.out.mono hbs)⟩
      · have hkk : k = X.length := by omega
        subst hkk
        have HF := Lib.hid (sameI_true (X := X) (Y := Y) HL.out T.out)
        go_wp2
        go_ret
        exact ⟨by rw [HF.out]; rfl, B.out⟩
  · have HF := Lib.hid (sameI_len hl)
    have hl' : ¬ (X.length : Int) = (Y.length : Int) := by omega
    go_enter Try.func14, Try.ntmps14
    go_wp2
    go_ret
    exact ⟨by rw [HF.out]; rfl, Below.refl _ _⟩

end Go.Proofs.Ytehkofeokccdeaa
