/-
  light: are acts few, and parcels short? Condition: the acts lie in memory.
-/
import Derived.Test.YteaafpgkifmdeaaBd0
import Derived.Test.YteaafpgkifmdeaaBar
namespace Go.Proofs.Yteaafpgkifmdeaa
set_option linter.unusedSimpArgs false
set_option linter.unusedVariables false
open Go.RowKit Go.Sort

/-- acts side by side in memory. -/
def RowsB (W : World) (b o : Nat) (L : List Ac) : Prop := b < W.heap.size ∧ ∀ i a, L[i]? = some a → (∀ j u, a.cs[j]? = some u → W.cell? ⟨b, o + i * 10 + j, none⟩ = some u) ∧ a.x.In W ∧ a.ok
theorem rowsB_of {W : World} {A : Option Addr} {L : List Ac} (h : RowsA W A L) : L = [] ∨ ∃ b o, A = some ⟨b, o, none⟩ ∧ RowsB W b o L := by
  cases L with
  | nil => exact .inl rfl
  | cons a L =>
    obtain ⟨⟨b, o, e, hl, _⟩, _⟩ := h 0 a rfl
    refine .inr ⟨b, o, e, hl, fun i c hc => ?_⟩
    obtain ⟨⟨b', o', e', _, hc'⟩, h2, h3⟩ := h i c hc
    rw [e] at e'
    cases e'
    exact ⟨hc', h2, h3⟩
theorem RowsB.below {W W' : World} {b o : Nat} {L : List Ac} (h : RowsB W b o L) (hb : Below W.heap.size W W') : RowsB W' b o L :=
  ⟨Nat.lt_of_lt_of_le h.1 hb.size, fun i a ha => ⟨fun j u hu => (hb.cell (p := ⟨b, _, none⟩) h.1).trans ((h.2 i a ha).1 j u hu), (h.2 i a ha).2.1.below hb, (h.2 i a ha).2.2⟩⟩
/-- the bytes that are spent. -/
def spent : List Ac → Nat
  | [] => 0
  | a :: L => min a.x.p.B.length 6000 + spent L
theorem spent_snoc (L : List Ac) (a : Ac) : spent (L ++ [a]) = spent L + min a.x.p.B.length 6000 := by
  induction L with
  | nil => simp [spent]
  | cons c L ih =>
    show min c.x.p.B.length 6000 + spent (L ++ [a]) = _
    rw [ih]
    simp only [spent]
    omega
theorem spent_le (L : List Ac) : spent L ≤ L.length * 6000 := by
  induction L with
  | nil => simp [spent]
  | cons c L ih =>
    simp only [spent, List.length_cons]
    omega
theorem spent_mem {L : List Ac} {a : Ac} (h : a ∈ L) : min a.x.p.B.length 6000 ≤ spent L := by
  induction L with
  | nil => cases h
  | cons c L ih =>
    simp only [spent]
    rcases List.mem_cons.1 h with rfl | h
    · omega
    · have := ih h
      omega
def lightB (L : List Ac) : Bool := decide (L.length ≤ 100) && decide (spent (L.take 200) ≤ 5000)
theorem lightB_each {L : List Ac} (h : lightB L = true) : L.length ≤ 100 ∧ ∀ a ∈ L, a.x.p.B.length ≤ 6000 := by
  unfold lightB at h
  simp only [Bool.and_eq_true, decide_eq_true_eq] at h
  refine ⟨h.1, fun a ha => ?_⟩
  rw [List.take_of_length_le (by omega)] at h
  have := spent_mem ha
  omega

set_option maxRecDepth 100000 in
set_option maxHeartbeats 2000000 in
theorem lightIs0 (A : Option Addr) (c : Nat) (W : World) : Calls Try.prog 7 #[.slice A 0 c] W fun e W' => e = .returned (.bool true) ∧ W = W' := by
  go_enter Try.func7, Try.ntmps7
  go_wp2
  go_loop [3, 4] (fun z i => z = .int .i64 5000 ∧ i = .int .i64 0) (fun _ _ => 0)
  case atStart => exact ⟨rfl, rfl⟩
  case round =>
    obtain ⟨rfl, rfl⟩ := hrel
    go_wp2
    go_ret
    exact ⟨rfl, rfl⟩

set_option maxRecDepth 100000 in
set_option maxHeartbeats 2000000 in
theorem lightIs (b o c : Nat) (L : List Ac) (W : World) (h : RowsB W b o L) (hm : c ≤ maxLen) (hc : L.length ≤ c) : Calls Try.prog 7 #[.slice (some ⟨b, o, none⟩) L.length c] W fun e W' => e = .returned (.bool (lightB L)) ∧ W = W' := by
  have HR := Lib.hid h.2
  obtain ⟨n, hn⟩ : ∃ n, L.length = n := ⟨_, rfl⟩
  rw [hn]
  have HN := Lib.hid hn
  unfold maxLen at hm
  have hnm : n ≤ 9223372036854775807 := by omega
  clear h hn
  go_enter Try.func7, Try.ntmps7
  go_wp2
  go_loop [3, 4] (fun z i => ∃ k : Nat, k ≤ n ∧ k ≤ 200 ∧ i = .int .i64 k ∧ z = .int .i64 (5000 - (spent (L.take k) : Int))) (fun _ i => n - (intOf i).toNat)
  case atStart => exact ⟨0, by omega, by omega, rfl, rfl⟩
  case round =>
    obtain ⟨k, hk, hk2, rfl, rfl⟩ := hrel
    have hs := spent_le (L.take k)
    rw [List.length_take] at hs
    obtain ⟨s, hse⟩ : ∃ s, spent (L.take k) = s := ⟨_, rfl⟩
    rw [hse] at hs ⊢
    have hs2 : s ≤ 1200000 := by have := Nat.min_le_left k L.length; omega
    have HSE := Lib.hid hse
    clear hs hse
    by_cases hkn : k < n
    · by_cases hk200 : k < 200
      · obtain ⟨a, hx⟩ : ∃ a, L[k]? = some a := ⟨_, List.getElem?_eq_getElem (by rw [HN.out]; exact hkn)⟩
        obtain ⟨hcell, hin, hok⟩ := HR.out k _ hx
        have hsn : spent (L.take (k + 1)) = s + min a.x.p.B.length 6000 := by
          rw [List.take_add_one, hx, ← HSE.out]
          exact spent_snoc _ _
        obtain ⟨q, hq⟩ : ∃ q, a.x.p.B.length = q := ⟨_, rfl⟩
        have c8 := hcell 8 (.slice a.x.A q a.x.c) (by rw [← hq]; rfl)
        have hqm : q ≤ 9223372036854775807 := by
          have h1 := hin.le
          have h2 := hin.mx
          unfold maxLen at h2
          omega
        rw [hq] at hsn
        have HSN := Lib.hid hsn
        have HKN := Lib.hid hkn
        have HK200 := Lib.hid hk200
        have h1 : (k : Int) < (n : Int) := by omega
        have h2 : (k : Int) < 200 := by omega
        have h3 : (0 : Int) ≤ (k : Int) := by omega
        clear hx hcell hin hok hsn hq
        by_cases hq6 : q ≤ 6000
        · have h4 : (q : Int) ≤ 6000 := by omega
          have HQ6 := Lib.hid hq6
          clear hq6
          go_wp2
          go_round
          case rel => exact ⟨k + 1, by have := HKN.out; omega, by have := HK200.out; omega, by go_num, by rw [HSN.out, Nat.min_eq_left HQ6.out]; congr 1; omega⟩
          case measure => have := HKN.out; simp [intOf]; omega
        · have h4 : ¬ (q : Int) ≤ 6000 := by omega
          have h5 : (6000 : Int) < (q : Int) := by omega
          have HQ6 : Hid (6000 ≤ q) := Lib.hid (by omega)
          clear hq6
          go_wp2
          go_round
          case rel => exact ⟨k + 1, by have := HKN.out; omega, by have := HK200.out; omega, by go_num, by rw [HSN.out, Nat.min_eq_right HQ6.out]; congr 1; omega⟩
          case measure => have := HKN.out; simp [intOf]; omega
      · obtain rfl : k = 200 := by omega
        have h1 : ¬ (n : Int) ≤ 100 := by omega
        have HKN := Lib.hid hkn
        go_wp2
        go_ret
        exact ⟨ret_bool (by unfold lightB; rw [HN.out]; have := HKN.out; simp; omega), rfl⟩
    · obtain rfl : n = k := by omega
      have hlb : lightB L = (decide (n ≤ 100) && decide (s ≤ 5000)) := by
        unfold lightB
        rw [HN.out, List.take_of_length_le (by rw [HN.out]; omega)]
        have h1 := HSE.out
        rw [List.take_of_length_le (by rw [HN.out]; omega)] at h1
        rw [h1]
      have HLB := Lib.hid hlb
      clear hlb
      by_cases h1 : n ≤ 100
      · have h1' : (n : Int) ≤ 100 := by omega
        by_cases h2 : s ≤ 5000
        · have h2' : (0 : Int) ≤ 5000 - (s : Int) := by omega
          have h2'' : (s : Int) ≤ 5000 := by omega
          have HB := Lib.hid (show lightB L = true by rw [HLB.out]; simp [h1, h2])
          clear h1 h2
          go_wp2
          go_ret
          exact ⟨ret_bool HB.out.symm, rfl⟩
        · have h2' : ¬ (0 : Int) ≤ 5000 - (s : Int) := by omega
          have h2'' : ¬ (s : Int) ≤ 5000 := by omega
          have HB := Lib.hid (show lightB L = false by rw [HLB.out]; simp [h2])
          clear h1 h2
          go_wp2
          go_ret
          exact ⟨ret_bool HB.out.symm, rfl⟩
      · have h1' : ¬ (n : Int) ≤ 100 := by omega
        have HB := Lib.hid (show lightB L = false by rw [HLB.out]; simp [h1])
        clear h1
        go_wp2
        go_ret
        exact ⟨ret_bool HB.out.symm, rfl⟩

end Go.Proofs.Yteaafpgkifmdeaa
