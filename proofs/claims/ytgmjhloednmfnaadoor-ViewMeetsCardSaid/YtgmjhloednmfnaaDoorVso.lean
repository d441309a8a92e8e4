/-
  slices.SortFunc and slices.SortedFunc at processes, under CompareProcs: the list in order. Condition: the list lies in a block of the call's own; the sequence keeps its word.
-/
import Derived.Test.YtgmjhloednmfnaaDoorVbs
import Derived.Test.YtgmjhloednmfnaaDoorVas
import Derived.Test.YtgmjhloednmfnaaDoorShelf
namespace Go.Proofs.YtgmjhloednmfnaaDoor
set_option linter.unusedSimpArgs false
set_option linter.unusedVariables false
open Go.RowKit Go.Sort Go.Shelf

set_option maxRecDepth 100000 in
set_option maxHeartbeats 1000000 in
theorem insNil (q : Value) (w : World) : Calls Tryd.prog 76 #[.slice none 0 0, .int .i64 0, .int .i64 0, q] w fun e w' => e = .returned (.tuple #[]) ∧ w = w' := by
  go_enter Tryd.func76, Tryd.ntmps76
  go_wp2
  go_rounds 1
  go_end0
  exact ⟨rfl, rfl⟩

set_option maxRecDepth 100000 in
set_option maxHeartbeats 1000000 in
theorem len64Nil (w : World) : Calls Tryd.prog 72 #[.int .u64 0] w fun e w' => e = .returned (.int .i64 0) ∧ w = w' := by
  go_enter Tryd.func72, Tryd.ntmps72
  go_wp2
  go_ret
  exact ⟨by kernel_rfl, rfl⟩

set_option maxRecDepth 100000 in
set_option maxHeartbeats 1000000 in
theorem lenNil0 (w : World) : Calls Tryd.prog 68 #[.int .u64 0] w fun e w' => e = .returned (.int .i64 0) ∧ w = w' := by
  go_enter Tryd.func68, Tryd.ntmps68
  go_wp2_with (go_at_call 72; refine (len64Nil _).mono ?_; rintro e w' ⟨rfl, rfl⟩)
  go_ret
  exact ⟨rfl, rfl⟩

set_option maxRecDepth 100000 in
set_option maxHeartbeats 1000000 in
theorem pdqNil (n : Int) (q : Value) (w : World) : Calls Tryd.prog 67 #[.slice none 0 0, .int .i64 0, .int .i64 0, .int .i64 n, q] w fun e w' => e = .returned (.tuple #[]) ∧ w = w' := by
  go_enter Tryd.func67, Tryd.ntmps67
  go_wp2
  refine wp_loop_rounds 1 ?_
  rw [rounds_succ]
  go_wp2_with (go_at_call 76; refine (insNil q _).mono ?_; rintro e w' ⟨rfl, rfl⟩)
  refine bodyPost_ret (results_none rfl _ _ _) rfl ?_
  exact ⟨rfl, rfl⟩

set_option maxRecDepth 100000 in
set_option maxHeartbeats 1000000 in
theorem sortNil (q : Value) (w : World) : Calls Tryd.prog 56 #[.slice none 0 0, q] w fun e w' => e = .returned (.tuple #[]) ∧ w = w' := by
  go_enter Tryd.func56, Tryd.ntmps56
  go_wp2_with (first | (go_at_call 68; refine (lenNil0 _).mono ?_; rintro e w' ⟨rfl, rfl⟩) | (go_at_call 67; refine (pdqNil _ _ _).mono ?_; rintro e w' ⟨rfl, rfl⟩))
  go_end0
  exact ⟨rfl, rfl⟩


def encP (x : P2) : List Value := x.cells
theorem cpp_anti (x y : P2) : (cpp x y < 0 ↔ 0 < cpp y x) ∧ (cpp x y = 0 ↔ cpp y x = 0) := by
  unfold cpp
  have h1 := cp_iff x.n x.l y.n y.l
  have h2 := cp_iff y.n y.l x.n x.l
  omega
theorem cpp_trans {x y z : P2} (h1 : cpp x y ≤ 0) (h2 : cpp y z ≤ 0) : cpp x z ≤ 0 := by
  unfold cpp at *
  have a := cp_iff x.n x.l y.n y.l
  have b := cp_iff y.n y.l z.n z.l
  have c := cp_iff x.n x.l z.n z.l
  omega
theorem lt_iffP {x y : P2} : ltOf cpp x y = true ↔ cpp x y < 0 := decide_eq_true_iff
theorem nlt_iffP {x y : P2} : ltOf cpp x y = false ↔ cpp y x ≤ 0 := by
  have := cpp_anti x y
  have h : ltOf cpp x y = false ↔ ¬ cpp x y < 0 := decide_eq_false_iff_not
  rw [h]
  omega
theorem swoP : SWO (ltOf cpp) where
  irrefl x := by
    rw [nlt_iffP]
    have := (cpp_zero x x).2 rfl
    omega
  trans x y z h1 h2 := by
    rw [lt_iffP] at *
    exact cpp_lt_trans (by omega) h2
  ntrans x y z h1 h2 := by
    rw [nlt_iffP] at *
    exact cpp_trans h2 h1
theorem totalP (x y : P2) (h1 : ltOf cpp x y = false) (h2 : ltOf cpp y x = false) : x = y := by
  rw [nlt_iffP] at *
  have := cpp_anti x y
  exact (cpp_zero x y).1 (by omega)
theorem lenP (x : P2) : (encP x).length = 2 := rfl
theorem oneP (x : P2) : ∀ v ∈ encP x, v.oneCell' = true := by
  intro v h
  simp only [encP, P2.cells, List.mem_cons, List.not_mem_nil, or_false] at h
  rcases h with rfl | rfl <;> rfl
theorem laysP (blk off size : Nat) (w : World) : CmpLays Tryd.prog 48 #[] encP 2 cpp blk off size w :=
  fun _ _ _ _ x y => L.compareProcs_lays _ _ _ _ _
theorem PrAt.cell_ {W : World} {b o : Nat} {x : P2} (h : PrAt W b o x) (c : Nat) (hc : c < 2) : W.cell? ⟨b, o + c, none⟩ = some x.cells[c]! := by
  have : c = 0 ∨ c = 1 := by omega
  rcases this with rfl | rfl
  · exact h.c0
  · exact h.c1
theorem holds_of_rowsP {w : World} {b o : Nat} {d : Array P2} (hr : ∀ i, i < d.size → PrAt w b (o + i * 2) d[i]!) (hf : ∀ j, w.frozen? ⟨b, j, none⟩ = false) : HoldsK encP 2 w b o d := by
  intro j hj
  rw [size_flatK] at hj
  refine ⟨?_, hf _⟩
  rw [get_flatK _ _ _ _ hj]
  have h := (hr (j / 2) (by omega)).cell_ (j % 2) (by omega)
  rw [show o + j / 2 * 2 + j % 2 = o + j by omega] at h
  exact h
theorem rows_of_holdsP {w : World} {b o : Nat} {d : Array P2} (h : HoldsK encP 2 w b o d) (i : Nat) (hi : i < d.size) : PrAt w b (o + i * 2) d[i]! :=
  ⟨(h.cell hi (c := 0) (by decide)).1, (h.cell hi (c := 1) (by decide)).1⟩
theorem asc_sort (X : List P2) : Asc (X.mergeSort fun x y => !(ltOf cpp) y x) := by
  have h := List.pairwise_mergeSort (le := fun x y => !(ltOf cpp) y x) (fun a b c h1 h2 => by
    simp only [Bool.not_eq_true'] at *
    rw [nlt_iffP] at *
    exact cpp_trans h1 h2) (fun a b => by
    cases h : ltOf cpp b a
    · simp
    · rw [lt_iffP] at h
      have : ltOf cpp a b = false := by
        rw [nlt_iffP]
        omega
      simp [this]) X
  refine h.imp ?_
  intro a b hab
  simp only [Bool.not_eq_true'] at hab
  rwa [nlt_iffP] at hab

/-- **slices.SortFunc under CompareProcs.** -/
theorem sortO (B0 b cap : Nat) (X : List P2) (w : World) (hB : B0 ≤ b) (hb : b < w.heap.size) (hr : ∀ i x, X[i]? = some x → PrAt w b (i * 2) x) (hf : ∀ j, w.frozen? ⟨b, j, none⟩ = false) (hs : X.length < 4611686018427387904) :
    Calls Tryd.prog 56 #[.slice (some ⟨b, 0, none⟩) X.length cap, .func (.func 48) #[] #[]] w fun e w' => e = .returned (.tuple #[]) ∧ Below B0 w w' ∧
      ∃ R : List P2, Asc R ∧ R.length = X.length ∧ (∀ p, p ∈ R ↔ p ∈ X) ∧ (∀ i x, R[i]? = some x → PrAt w' b (i * 2) x) := by
  have eg : ∀ args w, (callFunc 48 args).run Tryd.prog w = .ok (.enter 48 args) w := enters_of Tryd.func48 (by kernel_rfl) rfl
  have hH : HoldsK encP 2 w b 0 X.toArray := holds_of_rowsP (fun i hi => by
    have hi' : i < X.length := by simpa using hi
    rw [Nat.zero_add, getElem!_pos X.toArray i hi]
    exact hr i _ (by simp [List.getElem?_eq_getElem hi'])) hf
  have hsz0 : X.toArray.size = X.length := by simp
  have h := AnyQ.slices_SortFunc_total Tryd.sortProc 2 (fun _ => by kernel_rfl) (fun _ => by kernel_rfl) encP lenP oneP cpp swoP 48 #[] b 0 cap X.toArray w eg (laysP b 0 X.toArray.size w) hH hb (by rw [hsz0]; exact hs) totalP
  rw [hsz0] at h
  refine h.mono ?_
  rintro e w' ⟨rfl, n, os, rfl⟩
  have hA := asc_sort X
  have hP := List.mergeSort_perm X (fun x y => !(ltOf cpp) y x)
  have hsz : (X.toArray.toList.mergeSort fun x y => !(ltOf cpp) y x).toArray.size = X.toArray.size := by simp
  rw [show X.toArray.toList = X from rfl] at hsz ⊢
  generalize (X.mergeSort fun x y => !(ltOf cpp) y x) = R at hsz hA hP ⊢
  have hlR : R.length = X.length := hP.length_eq
  refine ⟨rfl, ⟨rfl, rfl, rfl, ?_, fun k hk => ?_⟩, R, hA, hlR, fun p => hP.mem_iff, ?_⟩
  · simp [sortWorldK, grow, putRowK, putRow, mapBlock, Sort.ahead]
  · have h1 : k < w.heap.size := by omega
    have h2 : b ≠ k := by omega
    simp [sortWorldK, grow, putRowK, putRow, mapBlock, Sort.ahead, Array.getElem?_append, Array.getElem?_modify, Array.getElem_modify, h1, h2]
  · have h := holdsK_grow encP 2 (putRowK encP 2 (Sort.ahead w n) b 0 R.toArray) os b 0 R.toArray (by simp [putRowK, putRow, mapBlock, Sort.ahead]; exact hb) (holdsK_putRowK encP 2 (Sort.ahead w n) b 0 X.toArray R.toArray (holdsK_ahead encP 2 w n b 0 X.toArray hH) hsz)
    intro i x hi
    obtain ⟨hil, hie⟩ := List.getElem?_eq_some_iff.1 hi
    have := rows_of_holdsP h i (by simpa using hil)
    rw [Nat.zero_add, getElem!_pos R.toArray i (by simpa using hil)] at this
    rw [← hie]
    simp only [List.getElem_toArray] at this
    exact this

/-- a row of the call's own: its block. -/
theorem own_splitP {W : World} {base : Nat} {v : Value} {X : List P2} (h : W.ownsRow base 48 2 v X.length (cellsV X)) :
    (v = .slice none 0 0 ∧ X = []) ∨ ∃ g cap, v = .slice (some ⟨g, 0, none⟩) X.length cap ∧ base ≤ g ∧ g < W.heap.size ∧ X.length ≤ cap ∧ cap ≤ maxLen ∧ (∀ j, W.frozen? ⟨g, j, none⟩ = false) ∧ ∀ i x, X[i]? = some x → PrAt W g (i * 2) x := by
  have h0 := h
  rcases h.2 with ⟨rfl, hn⟩ | ⟨g, cap, cur, rfl, hb, hg, hnc, hcm, hcs, ht⟩
  · exact .inl ⟨rfl, List.eq_nil_of_length_eq_zero hn⟩
  · refine .inr ⟨g, cap, rfl, hb, (h.lt g rfl).2, hnc, hcm, fun j => by simp [World.frozen?, hg], ?_⟩
    by_cases hX : X = []
    · subst hX
      intro i x hx
      simp at hx
    · obtain ⟨A, c, e, hR, _⟩ := rowsV_of_own h0
      obtain ⟨b', o, rfl, hb', hc⟩ := hR hX
      cases e
      intro i x hx
      have := hc i x hx
      rwa [Nat.zero_add] at this

set_option maxRecDepth 100000 in
set_option maxHeartbeats 1000000 in
/-- **slices.SortedFunc over a list's values.** -/
theorem sortedO (g0 : Nat) (lb : Array Value) (eg : ∀ args w, (callFunc g0 args).run Tryd.prog w = .ok (.enter g0 args) w) (Sp : List P2 → Prop) (X : List P2) (hX : X.length * 4 ≤ 140737488355328) (w : World)
    (hseq : ∀ n, 1 ≤ n → SeqStopsK Fence.wide n Tryd.prog g0 lb (fun x : P2 => #[.agg #[.int .u8 x.n, .int .u16 x.l]]) (KeepG (fun k => k < w.heap.size)) (fun xs => xs = X) Sp X.length w) :
    Calls Tryd.prog 46 #[.func (.func g0) #[] lb, .func (.func 48) #[] #[]] w fun e w' => ∃ (A : Option Addr) (R : List P2) (c : Nat), e = .returned (.slice A R.length c) ∧ RowsV w' w'.heap.size A R ∧ Asc R ∧ R.length = X.length ∧ (∀ p, p ∈ R ↔ p ∈ X) ∧ R.length ≤ c ∧ c ≤ maxLen ∧ (∀ b o, A = some ⟨b, o, none⟩ → w.heap.size ≤ b) ∧ Below w.heap.size w w' := by
  have CK := Lib.hid (collectO g0 lb eg (fun xs => xs = X) Sp X.length (by unfold maxLen; omega) hX w hseq)
  clear hseq
  go_enter Tryd.func46, Tryd.ntmps46
  go_wp2_with fail
  refine CK.out.mono ?_
  rintro e w1 ⟨v, ss, rfl, rfl, hrow, hb⟩
  clear CK
  rcases own_splitP hrow with ⟨rfl, rfl⟩ | ⟨g, cap, rfl, hg0, hg, hc1, hc2, hfz, hat⟩
  · clear hrow
    go_wp2_with fail
    refine (sortNil _ _).mono ?_
    rintro e w' ⟨rfl, rfl⟩
    go_wp2
    go_ret
    exact ⟨none, [], 0, rfl, fun h => absurd rfl h, List.Pairwise.nil, rfl, fun _ => Iff.rfl, Nat.le_refl _, by unfold maxLen; omega, (fun _ _ h => nomatch h), hb⟩
  · have SC := Lib.hid (sortO w.heap.size g cap ss w1 hg0 hg hat hfz (by omega))
    clear hrow hat hfz
    have Hb := Lib.hid hb
    clear hb
    go_wp2_with fail
    refine SC.out.mono ?_
    rintro e w' ⟨rfl, hb2, R, hA, hlR, hmem, hrows⟩
    have HH := Lib.hid (⟨hA, hlR, hmem, hrows⟩ : Asc R ∧ R.length = ss.length ∧ (∀ p, p ∈ R ↔ p ∈ ss) ∧ ∀ i x, R[i]? = some x → PrAt w' g (i * 2) x)
    have HB := Lib.hid (Hb.out.trans hb2)
    have hs2 := hb2.size
    clear hA hlR hmem hrows hb2 SC
    go_wp2
    go_ret
    obtain ⟨hA, hlR, hmem, hrows⟩ := HH.out
    exact ⟨some ⟨g, 0, none⟩, R, cap, by rw [hlR]; rfl, fun _ => ⟨g, 0, rfl, by omega, fun i x hi => by rw [Nat.zero_add]; exact hrows i x hi⟩, hA, hlR, hmem, by omega, hc2, (fun b o h => by cases h; exact hg0), HB.out⟩

end Go.Proofs.YtgmjhloednmfnaaDoor
