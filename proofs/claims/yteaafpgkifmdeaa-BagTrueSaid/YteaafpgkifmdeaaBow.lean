/-
  The bag's small calls: own, made, at, find, New, Len: by exact answers. Condition: the bag lies in memory.
-/
import Derived.Test.YteaafpgkifmdeaaBba
namespace Go.Proofs.Yteaafpgkifmdeaa
set_option linter.unusedSimpArgs false
set_option linter.unusedVariables false
open Go.RowKit Go.Sort

theorem cell_of {W : World} {b : Nat} {cs : Array Value} {t : TypeId} (h : W.heap[b]? = some (.cells cs t (0, 0))) (i : Nat) (v : Value) (hv : cs[i]? = some v) : W.cell? ⟨b, i, none⟩ = some v :=
  (cell_of_row _ _ i _ _ _ h).trans hv

theorem frz_row {W : World} {b : Nat} {cs : Array Value} {t : TypeId} (i : Nat) (h : W.heap[b]? = some (.cells cs t (0, 0))) : W.frozen? ⟨b, i, none⟩ = false := by
  simp [World.frozen?, h]
theorem row_set {W : World} {b i : Nat} {cs : Array Value} {t : TypeId} {fr : Nat × Nat} (h : W.heap[b]? = some (.cells cs t fr)) (v : Value) : (W.setCell ⟨b, i, none⟩ v).heap[b]? = some (.cells (cs.setIfInBounds i v) t fr) := by
  simp [World.setCell, Array.getElem?_modify, h]
theorem other_set {W : World} {b i k : Nat} {o : Obj} (h : W.heap[k]? = some o) (hk : k ≠ b) (v : Value) : (W.setCell ⟨b, i, none⟩ v).heap[k]? = some o :=
  (Below.heap_setCell W _ v k hk).trans h
theorem OwnB.keep {W W' : World} {base : Nat} {A : Option Addr} {X : List UInt8} (h : OwnB W base A X) (hk : ∀ g cur, base ≤ g → W.heap[g]? = some (.cells cur 5 (0, 0)) → W'.heap[g]? = some (.cells cur 5 (0, 0))) : OwnB W' base A X := fun hx => by
  obtain ⟨g, cur, e, h1, h2, h3⟩ := h hx
  exact ⟨g, cur, e, h1, hk g cur h1 h2, h3⟩
theorem OwnB.nil {W : World} {base : Nat} {A : Option Addr} {X : List UInt8} (h : OwnB W base A X) (hA : A = none) : X.length = 0 := by
  rcases Classical.em (X = []) with e | e
  · rw [e]; rfl
  · obtain ⟨g, cur, e', _⟩ := h e
    rw [hA] at e'
    cases e'
theorem setRow_at {W : World} {g k : Nat} {o : Obj} (h : W.heap[k]? = some o) (hk : k ≠ g) (cs : Array Value) : (W.setRow g cs).heap[k]? = some o :=
  (setRow_other W g k cs hk).trans h
theorem below_row {B g : Nat} {W X : World} (h : Below B W X) (hg : B ≤ g) (cs : Array Value) : Below B W (X.setRow g cs) :=
  h.trans ⟨rfl, rfl, rfl, by simp [World.setRow], fun k hk => setRow_other X g k cs (by omega)⟩

set_option maxRecDepth 100000 in
set_option maxHeartbeats 1000000 in
theorem ownP (x : Lp) (W : World) (hr : BytesAt W W.heap.size x.A x.p.B) (hl : x.p.B.length ≤ 140737488351232) (hc : x.p.B.length ≤ x.c) (hm : x.c ≤ maxLen) :
    Calls Try.prog 33 #[.agg x.cs] W fun e W' => ∃ y : Lp, e = .returned (.agg y.cs) ∧ y.p = x.p ∧ y.Ok W' W.heap.size ∧ Below W.heap.size W W' := by
  obtain ⟨⟨fn, fl, tn, tl, B, bad⟩, A, c⟩ := x
  simp only at hr hl hc hm
  have HR := Lib.hid hr
  have HK := Lib.hid (fun w h => cloneB A B c w h (by omega) hc hm)
  clear hr
  obtain ⟨n, hn⟩ : ∃ n, B.length = n := ⟨_, rfl⟩
  obtain ⟨W2, hW2⟩ : ∃ W2, (W.alloc (.cells #[.int .u8 fn, .int .u16 fl, .int .u8 tn, .int .u16 tl, .slice A n c, .bool bad] 45)).alloc (.cells #[.int .u8 0, .int .u16 0, .int .u8 0, .int .u16 0, .slice none 0 0, .bool false] 45) = W2 := ⟨_, rfl⟩
  have b2 : Below W.heap.size W W2 := by rw [← hW2]; exact ((Below.refl _ _).alloc (Nat.le_refl _) _).alloc (by simp) _
  have r0 : W2.heap[W.heap.size]? = some (.cells #[.int .u8 fn, .int .u16 fl, .int .u8 tn, .int .u16 tl, .slice A n c, .bool bad] 45 (0, 0)) := by rw [← hW2, Below.heap_alloc _ _ _ (by simp)]; exact heap_alloc_new _ _
  have r1 : W2.heap[W.heap.size + 1]? = some (.cells #[.int .u8 0, .int .u16 0, .int .u8 0, .int .u16 0, .slice none 0 0, .bool false] 45 (0, 0)) := by
    rw [← hW2]
    have := heap_alloc_new (W.alloc (.cells #[.int .u8 fn, .int .u16 fl, .int .u8 tn, .int .u16 tl, .slice A n c, .bool bad] 45)) (.cells #[.int .u8 0, .int .u16 0, .int .u8 0, .int .u16 0, .slice none 0 0, .bool false] 45)
    simpa using this
  have s2 : W2.heap.size = W.heap.size + 2 := by rw [← hW2]; simp
  have K1 := Lib.hid (HK.out W2 (HR.out.below b2 (Nat.le_refl _) b2.size))
  have R0 := Lib.hid r0
  have R1 := Lib.hid r1
  have S2 := Lib.hid s2
  have B2 := Lib.hid b2
  have HW2 := Lib.hid hW2
  have HN := Lib.hid hn
  have c4 : W2.cell? ⟨W.heap.size, 4, none⟩ = some (.slice A n c) := cell_of r0 4 _ rfl
  rw [hn] at K1
  unfold Lp.cs
  simp only [hn]
  clear r0 r1 s2 b2 hW2 hn HK HR
  go_enter Try.func33, Try.ntmps33
  go_wp2_with (rw [HW2.out])
  refine K1.out.mono ?_
  rintro e w3 ⟨v, rfl, ho, b3⟩
  obtain ⟨A3, c3, rfl, hn3, own3, le3, mx3⟩ := bytes_of_own ho
  have r0 := (b3.block _ (by have := S2.out; omega)).trans R0.out
  have r1 := (b3.block _ (by have := S2.out; omega)).trans R1.out
  have l3 := b3.size
  have c4 : w3.cell? ⟨W.heap.size, 4, none⟩ = some (.slice A n c) := cell_of r0 4 _ rfl
  have z4 := frz_row 4 r0
  have R0' := Lib.hid r0
  have R1' := Lib.hid r1
  have B3 := Lib.hid (B2.out.trans (b3.mono B2.out.size))
  have OW := Lib.hid own3
  have L3 := Lib.hid l3
  have hn1 : (n : Int) ≤ (c3 : Int) := by have := HN.out; omega
  have hn2 : (n : Int) ≤ (n : Int) := Int.le_refl _
  have H3 := Lib.hid hn3
  have MX := Lib.hid mx3
  have HL := Lib.hid hl
  clear r0 r1 b3 own3 l3 ho hn3 le3 mx3 hl hc hm
  go_wp2_with (first
    | (refine wpList_load_row rfl 45 (.tmp 1) rfl W.heap.size (by rfl) 45 #[.int .u8 fn, .int .u16 fl, .int .u8 tn, .int .u16 tl, .slice A3 n n, .bool bad] (0, 0) _ (row_set R0'.out _) Try.underlying45 rfl (by kernel_rfl) ?_)
    | (refine wpList_store_row rfl 45 (.tmp 2) (.tmp 14) rfl (W.heap.size + 1) #[.int .u8 fn, .int .u16 fl, .int .u8 tn, .int .u16 tl, .slice A3 n n, .bool bad] (by rfl) (by rfl) 45 #[.int .u8 0, .int .u16 0, .int .u8 0, .int .u16 0, .slice none 0 0, .bool false] (other_set R1'.out (by omega) _) (by kernel_rfl) rfl (by simp [Value.oneCell']) ?_
       have ER := Lib.hid (setRow_heap _ (W.heap.size + 1) _ #[.int .u8 fn, .int .u16 fl, .int .u8 tn, .int .u16 tl, .slice A3 n n, .bool bad] _ _ (other_set (b := W.heap.size) (i := 4) R1'.out (by omega) (.slice A3 n n)))))
  refine bodyPost_ret (v := .agg #[.int .u8 fn, .int .u16 fl, .int .u8 tn, .int .u16 tl, .slice A3 n n, .bool bad]) (results_cell_row (p := 2) (ty := 45) rfl _ _ (W.heap.size + 1) 45 #[.int .u8 fn, .int .u16 fl, .int .u8 tn, .int .u16 tl, .slice A3 n n, .bool bad] (0, 0) _ (by rfl) ER.out Try.underlying45 rfl (by kernel_rfl)) rfl ?_
  refine ⟨⟨⟨fn, fl, tn, tl, B, bad⟩, A3, n⟩, by simp only [HN.out], rfl, ⟨?_, ?_, ?_, ?_, ?_⟩, ?_⟩
  · have h2 := S2.out
    refine (OW.out.keep fun g cur hg h => setRow_at (other_set h (by omega) _) (by omega) _).lower (by omega)
  · show B.length ≤ n
    have := HN.out
    omega
  · show n ≤ maxLen
    have h1 := HN.out
    have h2 := HL.out
    unfold maxLen
    omega
  · intro hA
    have h1 := OW.out.nil hA
    have h2 := HN.out
    exact ⟨h1, show n = 0 by omega⟩
  · exact HL.out
  · exact below_row (B3.out.setCell (p := ⟨W.heap.size, 4, none⟩) (Nat.le_refl _) _) (Nat.le_succ _) _

/-- the bag of the program. -/
structure PB (base : Nat) (W : World) (b l most : Nat) (v : Value) (L : List Lp) : Prop where
  hb : base ≤ b
  hl : base ≤ l
  bag : W.heap[b]? = some (.cells #[.pointer (some ⟨l, 0, none⟩)] 64 (0, 0))
  lst : W.heap[l]? = some (.cells #[.int .i64 most, v] 67 (0, 0))
  row : W.ownsRow base 45 6 v L.length (cellsL L)
  ok : ∀ x ∈ L, x.Ok W base
  ap : L.Pairwise Lp.Apart
  few : L.length ≤ most
  most : most ≤ 2000

set_option maxHeartbeats 400000 in
theorem made_nil (W : World) : Calls Try.prog 31 #[.pointer none] W fun e W' => e = .returned (.bool false) ∧ W = W' := by
  go_enter Try.func31, Try.ntmps31
  go_wp2
  go_ret
  exact ⟨rfl, rfl⟩
set_option maxHeartbeats 400000 in
theorem made_no (b : Nat) (W : World) (h : W.heap[b]? = some (.cells #[.pointer none] 64 (0, 0))) : Calls Try.prog 31 #[.pointer (some ⟨b, 0, none⟩)] W fun e W' => e = .returned (.bool false) ∧ W = W' := by
  have c0 := cell_of h 0 _ rfl
  clear h
  go_enter Try.func31, Try.ntmps31
  go_wp2
  go_ret
  exact ⟨rfl, rfl⟩
set_option maxHeartbeats 400000 in
theorem made_yes (b l : Nat) (W : World) (h : W.heap[b]? = some (.cells #[.pointer (some ⟨l, 0, none⟩)] 64 (0, 0))) : Calls Try.prog 31 #[.pointer (some ⟨b, 0, none⟩)] W fun e W' => e = .returned (.bool true) ∧ W = W' := by
  have c0 := cell_of h 0 _ rfl
  clear h
  go_enter Try.func31, Try.ntmps31
  go_wp2
  go_ret
  exact ⟨rfl, rfl⟩

set_option maxRecDepth 100000 in
set_option maxHeartbeats 400000 in
theorem at_no (l most n c : Nat) (A : Option Addr) (i : Int) (W : World) (h : W.heap[l]? = some (.cells #[.int .i64 most, .slice A n c] 67 (0, 0))) (hi : i < 0 ∨ (n : Int) ≤ i) :
    Calls Try.prog 38 #[.pointer (some ⟨l, 0, none⟩), .int .i64 i] W fun e W' => e = .returned (.pointer none) ∧ W = W' := by
  have c1 := cell_of h 1 _ rfl
  clear h
  by_cases h0 : i < 0
  · go_enter Try.func38, Try.ntmps38
    go_wp2
    go_ret
    exact ⟨rfl, rfl⟩
  · have h1 : (n : Int) ≤ i := by omega
    go_enter Try.func38, Try.ntmps38
    go_wp2
    go_ret
    exact ⟨rfl, rfl⟩
set_option maxRecDepth 100000 in
set_option maxHeartbeats 400000 in
theorem at_yes (l most n c g i : Nat) (W : World) (h : W.heap[l]? = some (.cells #[.int .i64 most, .slice (some ⟨g, 0, none⟩) n c] 67 (0, 0))) (hi : i < n) :
    Calls Try.prog 38 #[.pointer (some ⟨l, 0, none⟩), .int .i64 i] W fun e W' => e = .returned (.pointer (some ⟨g, i * 6, none⟩)) ∧ W = W' := by
  have c1 := cell_of h 1 _ rfl
  have h0 : ¬ (i : Int) < 0 := by omega
  have h1 : ¬ (n : Int) ≤ (i : Int) := by omega
  have h2 : (i : Int) < (n : Int) := by omega
  clear h
  go_enter Try.func38, Try.ntmps38
  go_wp2
  go_ret
  exact ⟨rfl, rfl⟩

end Go.Proofs.Yteaafpgkifmdeaa
