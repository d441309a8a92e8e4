/-
  slices.BinarySearchFunc at processes under CompareProcs: is the process in the list? Condition: the list lies in memory, in order.
-/
import Derived.Test.YtgmjhloednmfnaaDoorVcm
import Derived.Lib.QuietBelow
namespace Go.Proofs.YtgmjhloednmfnaaDoor
set_option linter.unusedSimpArgs false
set_option linter.unusedVariables false
open Go.RowKit

/-- one process against another. -/
def cpp (x p : P2) : Int := cp x.n x.l p.n p.l
theorem cpp_zero (p q : P2) : cpp p q = 0 ↔ p = q := cpP_zero p q
theorem cpp_lt_trans {a b p : P2} (h : cpp a b ≤ 0) (hb : cpp b p < 0) : cpp a p < 0 := by
  unfold cpp at *
  have h1 := cp_iff a.n a.l b.n b.l
  have h2 := cp_iff b.n b.l p.n p.l
  have h3 := cp_iff a.n a.l p.n p.l
  omega
/-- in order. -/
def Asc (R : List P2) : Prop := R.Pairwise fun x y => cpp x y ≤ 0
theorem asc_at {R : List P2} (h : Asc R) {i j : Nat} {x y : P2} (hij : i ≤ j) (hx : R[i]? = some x) (hy : R[j]? = some y) : cpp x y ≤ 0 := by
  by_cases e : i = j
  · subst e
    rw [hx] at hy
    cases hy
    have := (cpp_zero x x).2 rfl
    omega
  · have hi := List.getElem?_eq_some_iff.1 hx
    have hj := List.getElem?_eq_some_iff.1 hy
    have := List.pairwise_iff_getElem.1 h i j hi.1 hj.1 (by omega)
    rwa [hi.2, hj.2] at this
theorem bs_mem {R : List P2} {p : P2} (ha : Asc R) {k : Nat} (h1 : ∀ (j : Nat) (x : P2), j < k → R[j]? = some x → cpp x p < 0) (h2 : ∀ (j : Nat) (x : P2), k ≤ j → R[j]? = some x → 0 ≤ cpp x p) : p ∈ R ↔ ∃ x, R[k]? = some x ∧ cpp x p = 0 := by
  constructor
  · intro hp
    obtain ⟨j, hj⟩ := List.getElem?_of_mem hp
    have hz := (cpp_zero p p).2 rfl
    have hk : k ≤ j := by
      rcases Nat.lt_or_ge j k with h | h
      · have := h1 j p h hj
        omega
      · exact h
    have hl : k < R.length := Nat.lt_of_le_of_lt hk (List.getElem?_eq_some_iff.1 hj).1
    refine ⟨R[k], List.getElem?_eq_getElem hl, ?_⟩
    have h3 := asc_at ha hk (List.getElem?_eq_getElem hl) hj
    have h4 := h2 k _ (Nat.le_refl _) (List.getElem?_eq_getElem hl)
    omega
  · rintro ⟨x, hx, hz⟩
    rw [cpp_zero] at hz
    rw [← hz]
    exact List.mem_of_getElem? hx

set_option maxRecDepth 100000 in
set_option maxHeartbeats 1000000 in
theorem bsO (A : Option Addr) (R : List P2) (p : P2) (c : Nat) (w : World) (hr : RowsV w w.heap.size A R) (hR : R.length ≤ 1000000) (hc : R.length ≤ c) (hm : c ≤ maxLen) (ha : Asc R) :
    Calls Tryd.prog 50 #[.slice A R.length c, .agg #[.int .u8 p.n, .int .u16 p.l], .func (.func 48) #[] #[]] w fun e w' => (∃ i : Int, e = .returned (.tuple #[.int .i64 i, .bool (decide (p ∈ R))])) ∧ Below w.heap.size w w' := by
  have b0 : Hid (Below w.heap.size w (w.alloc (.cells #[.int .u8 p.n, .int .u16 p.l] 48))) := Lib.hid ((Below.refl _ _).alloc (Nat.le_refl _) _)
  have r0 : Hid ((w.alloc (.cells #[.int .u8 p.n, .int .u16 p.l] 48)).heap[w.heap.size]? = some (.cells #[.int .u8 p.n, .int .u16 p.l] 48 (0, 0))) := Lib.hid (heap_alloc_new w _)
  have HA := Lib.hid ha
  clear ha
  unfold maxLen at hm
  go_enter Tryd.func50, Tryd.ntmps50
  go_wp2
  go_loopw [9, 10] (fun i j wx => ∃ lo hi : Nat, lo ≤ hi ∧ hi ≤ R.length ∧ i = .int .i64 lo ∧ j = .int .i64 hi ∧ Hid (∀ (t : Nat) (x : P2), t < lo → R[t]? = some x → cpp x p < 0) ∧ Hid (∀ (t : Nat) (x : P2), hi ≤ t → R[t]? = some x → 0 ≤ cpp x p) ∧ Hid (Below w.heap.size w wx) ∧ Hid (wx.heap[w.heap.size]? = some (.cells #[.int .u8 p.n, .int .u16 p.l] 48 (0, 0)))) (fun i j _ => ((intOf j).toNat - (intOf i).toNat))
  case atStart => exact ⟨0, R.length, by omega, by omega, rfl, rfl, Lib.hid (fun j x hj => absurd hj (by omega)), Lib.hid (fun j x hj hx => absurd (List.getElem?_eq_some_iff.1 hx).1 (by omega)), b0, r0⟩
  case round =>
    clear b0 r0
    obtain ⟨lo, hi, hlh, hhl, rfl, rfl, T1, T2, B, RW⟩ := hrel
    by_cases hlt : lo < hi
    · obtain ⟨m, hmm⟩ : ∃ m : Nat, m = (lo + hi) / 2 := ⟨_, rfl⟩
      have hmR : m < R.length := by omega
      have hm1 : lo ≤ m := by omega
      have hm2 : m < hi := by omega
      obtain ⟨b, o, rfl, hb, C⟩ := hr.at_ hmR
      obtain ⟨c0, c1⟩ := C.below B.out hb
      have HX := Lib.hid (show R[m]? = some R[m] from List.getElem?_eq_getElem hmR)
      generalize R[m] = x at *
      clear hr C
      have hji : (m : Int) < (R.length : Int) := by omega
      have hj0 : (0 : Int) ≤ (m : Int) := by omega
      have hci : (R.length : Int) ≤ (c : Int) := by omega
      have d0 : wr.cell? ⟨w.heap.size, 0, none⟩ = some (.int .u8 p.n) := (cell_of_row _ _ 0 _ _ _ RW.out).trans rfl
      have d1 : wr.cell? ⟨w.heap.size, 1, none⟩ = some (.int .u16 p.l) := (cell_of_row _ _ 1 _ _ _ RW.out).trans rfl
      have KC := Lib.hid (fun W => compareProcsO x p W)
      have HM := Lib.hid (show ((lo : Int) + (hi : Int)) / 2 = (m : Int) by omega)
      clear hmm
      go_wp2
      rw [HM.out]
      have k0 := cell_regrown c0
      have k1 := cell_regrown c1
      have e0 := cell_regrown d0
      have e1 := cell_regrown d1
      clear c0 c1 d0 d1
      by_cases hlz : cpp x p < 0
      · have N1 : Hid (∀ (t : Nat) (y : P2), t < m + 1 → R[t]? = some y → cpp y p < 0) := Lib.hid (fun t y ht hy => cpp_lt_trans (asc_at HA.out (by omega) hy HX.out) hlz)
        change cp x.n x.l p.n p.l < 0 at hlz
        generalize cp x.n x.l p.n p.l = z at *
        refine wp_region_quiet_below (by kernel_rfl) (by kernel_rfl) ?_
        repeat (go_big_quiet_step (first | (go_at_call 48; exact Calls.regrown_of (KC.out _))))
        refine wpQuiet_nil ?_
        intro W9 hW
        obtain ⟨p9, rfl⟩ := hW
        have B9 := Lib.hid (B.out.trans ((below_regrown wr p9.d p9.os).mono B.out.size))
        have R9 := Lib.hid (((below_regrown wr p9.d p9.os).block _ (by obtain ⟨h, _⟩ := Array.getElem?_eq_some_iff.1 RW.out; exact h)).trans RW.out)
        go_wp2
        go_roundw
        case rel => exact ⟨m + 1, hi, by omega, by omega, by go_num, rfl, N1, T2, B9, R9⟩
        case measure => simp [intOf]; omega
      · have N2 : Hid (∀ (t : Nat) (y : P2), m ≤ t → R[t]? = some y → 0 ≤ cpp y p) := Lib.hid (fun t y ht hy => Int.not_lt.1 fun h => hlz (cpp_lt_trans (asc_at HA.out ht HX.out hy) h))
        have hlz' : 0 ≤ cp x.n x.l p.n p.l := Int.not_lt.1 hlz
        clear hlz
        generalize cp x.n x.l p.n p.l = z at *
        refine wp_region_quiet_below (by kernel_rfl) (by kernel_rfl) ?_
        repeat (go_big_quiet_step (first | (go_at_call 48; exact Calls.regrown_of (KC.out _))))
        refine wpQuiet_nil ?_
        intro W9 hW
        obtain ⟨p9, rfl⟩ := hW
        have B9 := Lib.hid (B.out.trans ((below_regrown wr p9.d p9.os).mono B.out.size))
        have R9 := Lib.hid (((below_regrown wr p9.d p9.os).block _ (by obtain ⟨h, _⟩ := Array.getElem?_eq_some_iff.1 RW.out; exact h)).trans RW.out)
        go_wp2
        go_roundw
        case rel => exact ⟨lo, m, by omega, by omega, rfl, rfl, T1, N2, B9, R9⟩
        case measure => simp [intOf]; omega
    · obtain rfl : hi = lo := by omega
      have HB := Lib.hid (bs_mem HA.out T1.out T2.out)
      by_cases hn : hi < R.length
      · obtain ⟨b, o, rfl, hb, C⟩ := hr.at_ hn
        obtain ⟨c0, c1⟩ := C.below B.out hb
        have HX := Lib.hid (show R[hi]? = some R[hi] from List.getElem?_eq_getElem hn)
        generalize R[hi] = x at *
        clear hr C
        have hji : (hi : Int) < (R.length : Int) := by omega
        have hj0 : (0 : Int) ≤ (hi : Int) := by omega
        have hci : (R.length : Int) ≤ (c : Int) := by omega
        have d0 : wr.cell? ⟨w.heap.size, 0, none⟩ = some (.int .u8 p.n) := (cell_of_row _ _ 0 _ _ _ RW.out).trans rfl
        have d1 : wr.cell? ⟨w.heap.size, 1, none⟩ = some (.int .u16 p.l) := (cell_of_row _ _ 1 _ _ _ RW.out).trans rfl
        have KC := Lib.hid (fun W => compareProcsO x p W)
        have k0 := cell_regrown c0
        have k1 := cell_regrown c1
        have e0 := cell_regrown d0
        have e1 := cell_regrown d1
        clear c0 c1 d0 d1
        go_wp2
        by_cases hlz : cpp x p = 0
        · have HD : Hid (decide (p ∈ R) = true) := Lib.hid (decide_eq_true (HB.out.2 ⟨x, HX.out, hlz⟩))
          change cp x.n x.l p.n p.l = 0 at hlz
          have hlb : (cp x.n x.l p.n p.l == 0) = true := by rw [beq_iff_eq]; exact hlz
          rw [hlz] at KC
          clear hlz hlb
          refine wp_region_quiet_below (by kernel_rfl) (by kernel_rfl) ?_
          repeat (go_big_quiet_step (first | (go_at_call 48; exact Calls.regrown_of (KC.out _))))
          refine wpQuiet_nil ?_
          intro W9 hW
          obtain ⟨p9, rfl⟩ := hW
          have B9 := Lib.hid (B.out.trans ((below_regrown wr p9.d p9.os).mono B.out.size))
          go_wp2
          go_ret2
          exact ⟨⟨_, by rw [HD.out]; rfl⟩, B9.out⟩
        · have HD : Hid (decide (p ∈ R) = false) := Lib.hid (decide_eq_false (fun h => by
            obtain ⟨y, hy, hz⟩ := HB.out.1 h
            rw [HX.out] at hy
            cases hy
            exact hlz hz))
          change ¬ cp x.n x.l p.n p.l = 0 at hlz
          have hlb : (cp x.n x.l p.n p.l == 0) = false := by rw [beq_eq_false_iff_ne]; exact hlz
          generalize cp x.n x.l p.n p.l = z at *
          refine wp_region_quiet_below (by kernel_rfl) (by kernel_rfl) ?_
          repeat (go_big_quiet_step (first | (go_at_call 48; exact Calls.regrown_of (KC.out _))))
          refine wpQuiet_nil ?_
          intro W9 hW
          obtain ⟨p9, rfl⟩ := hW
          have B9 := Lib.hid (B.out.trans ((below_regrown wr p9.d p9.os).mono B.out.size))
          go_wp2
          go_ret2
          exact ⟨⟨_, by rw [HD.out]; rfl⟩, B9.out⟩
      · have HD : Hid (decide (p ∈ R) = false) := Lib.hid (decide_eq_false (fun h => by
          obtain ⟨y, hy, hz⟩ := HB.out.1 h
          exact hn (List.getElem?_eq_some_iff.1 hy).1))
        have hni : ¬ (hi : Int) < (R.length : Int) := by omega
        go_wp2
        refine wp_region_quiet_below (by kernel_rfl) (by kernel_rfl) ?_
        repeat (go_big_quiet_step (first | fail))
        refine wpQuiet_nil ?_
        intro W9 hW
        obtain ⟨p9, rfl⟩ := hW
        have B9 := Lib.hid (B.out.trans ((below_regrown wr p9.d p9.os).mono B.out.size))
        go_wp2
        go_ret2
        exact ⟨⟨_, by rw [HD.out]; rfl⟩, B9.out⟩

end Go.Proofs.YtgmjhloednmfnaaDoor
