/-
  Two lists of parts held against each other: slices.Equal, the program's Same and the document's, by contracts. Condition: both lie in memory.
-/
import Derived.Test.YtfkmodmgihadkaaPlst
import Derived.Laws.StructEq
namespace Go.Proofs.Ytfkmodmgihadkaa
set_option linter.unusedSimpArgs false
set_option linter.unusedVariables false
open Go.RowKit Go.Sort

/-- are two parts the same? -/
def eqP (x y : P5) : Bool := decide (x.g = y.g) && decide (x.k = y.k) && decide (x.key = y.key) && decide (x.val = y.val) && decide (x.n = y.n)
theorem eqP_iff (x y : P5) : eqP x y = true ↔ x = y := by
  cases x; cases y
  simp [eqP]
  constructor
  · rintro ⟨⟨⟨⟨h1, h2⟩, h3⟩, h4⟩, h5⟩; exact ⟨h1, h2, h3, h4, h5⟩
  · rintro ⟨h1, h2, h3, h4, h5⟩; exact ⟨⟨⟨⟨h1, h2⟩, h3⟩, h4⟩, h5⟩

theorem toList_inj (s t : ByteArray) : s.toList = t.toList ↔ s = t := by
  rw [ByteArray.toList_eq, ByteArray.toList_eq]
  constructor
  · intro h
    exact ByteArray.ext (Array.ext' h)
  · rintro rfl; rfl
theorem neq28 (x y : P5) (w : World) : Sem.run Try.prog (binOp .neq 108 (.agg #[.int .u8 x.g, .int .u8 x.k, .string x.key, .string x.val, .int .i64 x.n]) (.agg #[.int .u8 y.g, .int .u8 y.k, .string y.key, .string y.val, .int .i64 y.n])) w = .ok (.bool (!eqP x y)) w := by
  have u5 := Try.underlying5
  have a5 := Try.isAgg5
  have z5 := Try.sizeOf5
  have u9 := Try.underlying9
  have a9 := Try.isAgg9
  have z9 := Try.sizeOf9
  have u2 := Try.underlying2
  have a2 := Try.isAgg2
  have z2 := Try.sizeOf2
  have hS : Try.prog.underlying 108 = some (.struct (Try.prog.fieldsOf 108)) := by kernel_rfl
  have hp : Try.prog.stoodInHeld 108 = false := by kernel_rfl
  rw [run_neq_struct, show (10000 : Nat) = 9999 + 1 from rfl, run_equalIn_agg w 9999 108 _ _ hS hp]
  simp only [Program.fieldsOf, Try.underlying108]
  go_simp
  simp only [toList_inj]
  unfold eqP
  by_cases h1 : x.g = y.g <;> by_cases h2 : x.k = y.k <;> by_cases h3 : x.key = y.key <;> by_cases h4 : x.val = y.val <;> by_cases h5 : x.n = y.n <;> simp [h1, h2, h3, h4, h5]
theorem eql28 (x y : P5) (w : World) : Sem.run Try.prog (binOp .eql 108 (.agg #[.int .u8 x.g, .int .u8 x.k, .string x.key, .string x.val, .int .i64 x.n]) (.agg #[.int .u8 y.g, .int .u8 y.k, .string y.key, .string y.val, .int .i64 y.n])) w = .ok (.bool (eqP x y)) w := by
  have u5 := Try.underlying5
  have a5 := Try.isAgg5
  have z5 := Try.sizeOf5
  have u9 := Try.underlying9
  have a9 := Try.isAgg9
  have z9 := Try.sizeOf9
  have u2 := Try.underlying2
  have a2 := Try.isAgg2
  have z2 := Try.sizeOf2
  have hS : Try.prog.underlying 108 = some (.struct (Try.prog.fieldsOf 108)) := by kernel_rfl
  have hp : Try.prog.stoodInHeld 108 = false := by kernel_rfl
  rw [run_eql_struct, show (10000 : Nat) = 9999 + 1 from rfl, run_equalIn_agg w 9999 108 _ _ hS hp]
  simp only [Program.fieldsOf, Try.underlying108]
  go_simp
  simp only [toList_inj]
  unfold eqP
  by_cases h1 : x.g = y.g <;> by_cases h2 : x.k = y.k <;> by_cases h3 : x.key = y.key <;> by_cases h4 : x.val = y.val <;> by_cases h5 : x.n = y.n <;> simp [h1, h2, h3, h4, h5]
/-- are two lists the same? -/
def sameB (X Y : List P5) : Bool := decide (X.length = Y.length) && (List.range X.length).all fun i => eqP X[i]! Y[i]!
theorem sameB_refl (X : List P5) : sameB X X = true := by
  simp [sameB]
  intro i _
  rw [eqP_iff]
theorem sameB_len {X Y : List P5} (h : X.length ≠ Y.length) : sameB X Y = false := by simp [sameB, h]
theorem sameB_false {X Y : List P5} {k : Nat} (hk : k < X.length) (h : eqP X[k]! Y[k]! = false) : sameB X Y = false := by
  have : ((List.range X.length).all fun i => eqP X[i]! Y[i]!) = false := by
    rw [List.all_eq_false]
    exact ⟨k, List.mem_range.2 hk, by rw [h]; decide⟩
  unfold sameB
  rw [this, Bool.and_false]
theorem sameB_true {X Y : List P5} (hl : X.length = Y.length) (h : ∀ k, k < X.length → eqP X[k]! Y[k]! = true) : sameB X Y = true := by
  have : ((List.range X.length).all fun i => eqP X[i]! Y[i]!) = true := by
    rw [List.all_eq_true]
    intro i hi
    exact h i (List.mem_range.1 hi)
  unfold sameB
  rw [this, decide_eq_true hl]
  rfl

set_option maxRecDepth 100000 in
set_option maxHeartbeats 4000000 in
theorem equal (A1 A2 : Option Addr) (X Y : List P5) (c d : Nat) (w : World) (hr : RowsP w w.heap.size A1 X) (hs : RowsP w w.heap.size A2 Y) (hc : X.length ≤ c) (hm : c ≤ maxLen) (hd : Y.length ≤ d) (hn : d ≤ maxLen) :
    Calls Try.prog 51 #[.slice A1 X.length c, .slice A2 Y.length d] w fun e w' => e = .returned (.bool (sameB X Y)) ∧ Below w.heap.size w w' := by
  unfold maxLen at hm hn
  have hci : (X.length : Int) ≤ (c : Int) := by omega
  have hdi : (Y.length : Int) ≤ (d : Int) := by omega
  by_cases hl : X.length = Y.length
  · have HL := Lib.hid hl
    rw [← hl]
    have hdi' : (X.length : Int) ≤ (d : Int) := by omega
    clear hl hdi
    go_enter Try.func51, Try.ntmps51
    go_wp2
    go_loopw [13] (fun i wx => ∃ k : Nat, k ≤ X.length ∧ i = .int .i64 k ∧ Hid (∀ j, j < k → eqP X[j]! Y[j]! = true) ∧ Hid (Below w.heap.size w wx)) (fun i _ => X.length - (intOf i).toNat)
    case atStart => exact ⟨0, by omega, rfl, Lib.hid (fun j hj => absurd hj (by omega)), Lib.hid (Below.refl _ _)⟩
    case round =>
      obtain ⟨k, hk, rfl, T, B⟩ := hrel
      have hbs := B.out.size
      by_cases hlt : k < X.length
      · obtain ⟨b, o, rfl, hb, C⟩ := hr.at_ hlt
        obtain ⟨b2, o2, rfl, hb2, C2⟩ := hs.at_ (k := k) (by rw [← HL.out]; exact hlt)
        have C' := C.below B.out hb
        have C2' := C2.below B.out hb2
        have ex : Hid (X[k]! = X[k]) := Lib.hid (getElem!_pos X k hlt)
        have ey : Hid (Y[k]! = Y[k]'(by rw [← HL.out]; exact hlt)) := Lib.hid (getElem!_pos Y k (by rw [← HL.out]; exact hlt))
        generalize X[k] = x at *
        generalize Y[k]'(by rw [← HL.out]; exact hlt) = y at *
        have k0 := cell_regrown C'.c0
        have k1 := cell_regrown C'.c1
        have k2 := cell_regrown C'.c2
        have k3 := cell_regrown C'.c3
        have k4 := cell_regrown C'.c4
        have l0 := cell_regrown C2'.c0
        have l1 := cell_regrown C2'.c1
        have l2 := cell_regrown C2'.c2
        have l3 := cell_regrown C2'.c3
        have l4 := cell_regrown C2'.c4
        have hq := neq28 x y
        clear C C' C2 C2' hr hs
        have hji : (k : Int) < (X.length : Int) := by omega
        cases he : eqP x y with
        | true =>
          rw [he] at hq
          have HE := Lib.hid he
          clear he
          go_wp2_with fail
          refine wp_region_quiet_below (by kernel_rfl) (by kernel_rfl) ?_
          repeat (go_big_quiet_step (fail))
          refine wpQuiet_nil ?_
          rintro W ⟨p, rfl⟩
          have y1 := below_regrown wr p.d p.os
          generalize grow (redrawn wr p.d) p.os = w2 at *
          clear k0 k1 k2 k3 k4 l0 l1 l2 l3 l4 hq
          have Y1 := Lib.hid y1
          clear y1
          go_wp2
          go_roundw
          case rel => exact ⟨k + 1, by omega, by go_num, Lib.hid (fun j (hj : j < k + 1) => by
            by_cases e : j = k
            · subst e
              rw [ex.out, ey.out]; exact HE.out
            · exact T.out j (by omega)), Lib.hid (B.out.trans (Y1.out.mono hbs))⟩
          case measure => simp [intOf]; omega
        | false =>
          rw [he] at hq
          have HF := Lib.hid (sameB_false (X := X) (Y := Y) hlt (by rw [ex.out, ey.out]; exact he))
          clear he
          go_wp2_with fail
          refine wp_region_quiet_below (by kernel_rfl) (by kernel_rfl) ?_
          repeat (go_big_quiet_step (fail))
          refine wpQuiet_nil ?_
          rintro W ⟨p, rfl⟩
          have y1 := below_regrown wr p.d p.os
          generalize grow (redrawn wr p.d) p.os = w2 at *
          clear k0 k1 k2 k3 k4 l0 l1 l2 l3 l4 hq
          have Y1 := Lib.hid y1
          clear y1
          go_wp2
          go_ret
          exact ⟨by rw [HF.out]; rfl, B.out.trans (Y1.out.mono hbs)⟩
      · have hkk : k = X.length := by omega
        subst hkk
        have HF := Lib.hid (sameB_true (X := X) (Y := Y) HL.out T.out)
        go_wp2
        go_ret
        exact ⟨by rw [HF.out]; rfl, B.out⟩
  · have HF := Lib.hid (sameB_len hl)
    have hl' : ¬ (X.length : Int) = (Y.length : Int) := by omega
    go_enter Try.func51, Try.ntmps51
    go_wp2
    go_ret
    exact ⟨by rw [HF.out]; rfl, Below.refl _ _⟩

set_option maxHeartbeats 1000000 in
theorem same (A1 A2 : Option Addr) (X Y : List P5) (c d : Nat) (w : World) (hr : RowsP w w.heap.size A1 X) (hs : RowsP w w.heap.size A2 Y) (hc : X.length ≤ c) (hm : c ≤ maxLen) (hd : Y.length ≤ d) (hn : d ≤ maxLen) :
    Calls Try.prog 44 #[.slice A1 X.length c, .slice A2 Y.length d] w fun e w' => e = .returned (.bool (sameB X Y)) ∧ Below w.heap.size w w' := by
  have C := Lib.hid (equal A1 A2 X Y c d w hr hs hc hm hd hn)
  clear hr hs hc hm hd hn
  go_enter Try.func44, Try.ntmps44
  go_wp2_with fail
  refine C.out.mono ?_
  rintro e w2 ⟨rfl, b2⟩
  go_wp2
  go_ret
  exact ⟨rfl, b2⟩

end Go.Proofs.Ytfkmodmgihadkaa
