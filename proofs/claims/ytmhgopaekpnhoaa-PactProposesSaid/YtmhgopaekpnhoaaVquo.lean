/-
  Majorities: the document's Majority and Quorum, by exact answers. Condition: the lists lie in memory.
-/
import Derived.Test.YtmhgopaekpnhoaaVrnk
namespace Go.Proofs.Ytmhgopaekpnhoaa.V
set_option linter.unusedSimpArgs false
set_option linter.unusedVariables false
open Go.RowKit

/-- how many of the first ones are among L. -/
def cnt (V L : List P2) (k : Nat) : Nat := ((V.take k).filter fun p => decide (p ∈ L)).length
/-- are a majority of V among L? -/
def quo (V L : List P2) : Bool := decide (V.length / 2 + 1 ≤ (V.filter fun p => decide (p ∈ L)).length)
theorem cnt_all (V L : List P2) : cnt V L V.length = (V.filter fun p => decide (p ∈ L)).length := by simp [cnt]
theorem cnt_le (V L : List P2) (k : Nat) : cnt V L k ≤ k := by
  unfold cnt
  exact Nat.le_trans (List.length_filter_le _ _) (by simp; omega)
theorem cnt_in {V L : List P2} {k : Nat} {x : P2} (h : V[k]? = some x) (hx : x ∈ L) : cnt V L (k + 1) = cnt V L k + 1 := by
  unfold cnt
  rw [List.take_add_one, h]
  simp [hx]
theorem cnt_out {V L : List P2} {k : Nat} {x : P2} (h : V[k]? = some x) (hx : x ∉ L) : cnt V L (k + 1) = cnt V L k := by
  unfold cnt
  rw [List.take_add_one, h]
  simp [hx]

set_option maxHeartbeats 400000 in
theorem majR (g N : Int) (A : Option Addr) (n c : Nat) (w : World) (hc : n ≤ c) (hm : c ≤ maxLen) :
    Calls Try.prog 83 #[.agg #[.int .u8 g, .int .u32 N, .slice A n c]] w fun e w' => e = .returned (.int .i64 ((n / 2 + 1 : Nat) : Int)) ∧ Below w.heap.size w w' := by
  unfold maxLen at hm
  have hz : ((n : Int).tdiv 2) = ((n / 2 : Nat) : Int) := by rw [Int.tdiv_eq_ediv_of_nonneg (by omega)]; omega
  have hz1 : IntKind.i64.wrap ((n / 2 : Nat) : Int) = ((n / 2 : Nat) : Int) := IntWalk.i64_in _ (by omega)
  have hz2 : IntKind.i64.wrap (((n / 2 : Nat) : Int) + 1) = ((n / 2 : Nat) : Int) + 1 := IntWalk.i64_in _ (by omega)
  go_enter Try.func83, Try.ntmps83
  go_wp2
  go_ret
  exact ⟨rfl, (Below.refl _ _).alloc (Nat.le_refl _) _⟩

set_option maxRecDepth 100000 in
set_option maxHeartbeats 1000000 in
theorem quorumR (g N : Int) (A B : Option Addr) (V L : List P2) (c d : Nat) (w : World) (hr : RowsV w w.heap.size A V) (hs : RowsV w w.heap.size B L) (hc : V.length ≤ c) (hm : c ≤ maxLen) (hd : L.length ≤ d) (hn : d ≤ maxLen) :
    Calls Try.prog 61 #[.agg #[.int .u8 g, .int .u32 N, .slice A V.length c], .slice B L.length d] w fun e w' => e = .returned (.bool (quo V L)) ∧ Below w.heap.size w w' := by
  have K1 : Hid (∀ W x, Below w.heap.size w W → Calls Try.prog 64 #[.slice B L.length d, .agg #[.int .u8 x.n, .int .u16 x.l]] W fun e w' => e = .returned (.int .i64 (rk L x)) ∧ Below W.heap.size W w') := Lib.hid (fun W x hw => rank B L x d W (hs.below (C := w.heap.size) hw (Nat.le_refl _) hw.size) hd hn)
  have K2 : Hid (∀ W, Calls Try.prog 83 #[.agg #[.int .u8 g, .int .u32 N, .slice A V.length c]] W fun e w' => e = .returned (.int .i64 ((V.length / 2 + 1 : Nat) : Int)) ∧ Below W.heap.size W w') := Lib.hid (fun W => majR g N A V.length c W hc hm)
  have b0 : Hid (Below w.heap.size w (w.alloc (.cells #[.int .u8 g, .int .u32 N, .slice A V.length c] 58))) := Lib.hid ((Below.refl _ _).alloc (Nat.le_refl _) _)
  have r0 : Hid ((w.alloc (.cells #[.int .u8 g, .int .u32 N, .slice A V.length c] 58)).heap[w.heap.size]? = some (.cells #[.int .u8 g, .int .u32 N, .slice A V.length c] 58 (0, 0))) := Lib.hid (heap_alloc_new w _)
  unfold maxLen at hm hn
  clear hs hd
  go_enter Try.func61, Try.ntmps61
  go_wp2
  go_loopw [5, 6] (fun n i wx => ∃ k : Nat, k ≤ V.length ∧ i = .int .i64 k ∧ n = .int .i64 (cnt V L k) ∧ Hid (Below w.heap.size w wx) ∧ Hid (wx.heap[w.heap.size]? = some (.cells #[.int .u8 g, .int .u32 N, .slice A V.length c] 58 (0, 0)))) (fun _ i _ => V.length - (intOf i).toNat)
  case atStart => exact ⟨0, by omega, rfl, rfl, b0, r0⟩
  case round =>
    clear b0 r0
    obtain ⟨k, hk, rfl, rfl, B1, R⟩ := hrel
    have e2 : wr.cell? ⟨w.heap.size, 2, none⟩ = some (.slice A V.length c) := (cell_of_row _ _ 2 _ _ _ R.out).trans rfl
    by_cases hlt : k < V.length
    · obtain ⟨b, o, rfl, hb, C⟩ := hr.at_ hlt
      obtain ⟨c0, c1⟩ := C.below B1.out hb
      have hx : V[k]? = some V[k] := List.getElem?_eq_getElem hlt
      have HX := Lib.hid hx
      have hcl := cnt_le V L k
      generalize V[k] = x at *
      clear hr C hx
      have hji : (k : Int) < (V.length : Int) := by omega
      have hj0 : (0 : Int) ≤ (k : Int) := by omega
      have hci : (V.length : Int) ≤ (c : Int) := by omega
      have hmem := rk_mem L x
      have hs1 : IntKind.i64.wrap ((cnt V L k : Int) + 1) = (cnt V L k : Int) + 1 := IntWalk.i64_in _ (by omega)
      by_cases hi : x ∈ L
      · have h0 := hmem.2 hi
        have HC := Lib.hid (cnt_in HX.out hi)
        clear hmem hi
        generalize hrk : rk L x = z at *
        go_wp2_with (go_at_call 64; refine (K1.out _ x B1.out).mono ?_; rw [hrk]; rintro e w1 ⟨rfl, b1⟩
                     have B2 := Lib.hid (B1.out.trans (b1.mono B1.out.size))
                     have R2 := Lib.hid ((b1.block _ (by obtain ⟨h, _⟩ := Array.getElem?_eq_some_iff.1 R.out; exact h)).trans R.out)
                     clear b1 e2)
        go_roundw
        case rel => exact ⟨k + 1, by omega, by go_num, by rw [HC.out]; go_num, B2, R2⟩
        case measure => simp [intOf]; omega
      · have h0 : rk L x < 0 := by
          rcases Int.lt_or_le (rk L x) 0 with h2 | h2
          · exact h2
          · exact absurd (hmem.1 h2) hi
        have HC := Lib.hid (cnt_out HX.out hi)
        clear hmem hi
        generalize hrk : rk L x = z at *
        go_wp2_with (go_at_call 64; refine (K1.out _ x B1.out).mono ?_; rw [hrk]; rintro e w1 ⟨rfl, b1⟩
                     have B2 := Lib.hid (B1.out.trans (b1.mono B1.out.size))
                     have R2 := Lib.hid ((b1.block _ (by obtain ⟨h, _⟩ := Array.getElem?_eq_some_iff.1 R.out; exact h)).trans R.out)
                     clear b1 e2)
        go_roundw
        case rel => exact ⟨k + 1, by omega, by go_num, by rw [HC.out], B2, R2⟩
        case measure => simp [intOf]; omega
    · have hkk : k = V.length := by omega
      subst hkk
      have e0 : wr.cell? ⟨w.heap.size, 0, none⟩ = some (.int .u8 g) := (cell_of_row _ _ 0 _ _ _ R.out).trans rfl
      have e1 : wr.cell? ⟨w.heap.size, 1, none⟩ = some (.int .u32 N) := (cell_of_row _ _ 1 _ _ _ R.out).trans rfl
      have HQ : Hid (quo V L = decide (V.length / 2 + 1 ≤ cnt V L V.length)) := Lib.hid (by rw [cnt_all]; rfl)
      generalize cnt V L V.length = z at *
      go_wp2_with (go_at_call 83; refine (K2.out _).mono ?_; rintro e w1 ⟨rfl, b1⟩
                   have B2 := Lib.hid (B1.out.trans (b1.mono B1.out.size))
                   clear b1)
      go_ret
      exact ⟨ret_bool (by rw [HQ.out, Bool.eq_iff_iff]; simp; omega), B2.out⟩

end Go.Proofs.Ytmhgopaekpnhoaa.V
