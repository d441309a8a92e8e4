/-
  light: are acts few and short? Condition: the acts lie in memory.
-/
import Derived.Test.YtgnfclikdfllnaaJaa
namespace Go.Proofs.Ytgnfclikdfllnaa
set_option linter.unusedSimpArgs false
set_option linter.unusedVariables false
open Go.RowKit Go.Maps Go.Sort

/-- acts side by side in memory. -/
def RowsB (W : World) (b o : Nat) (L : List Ac) : Prop := b < W.heap.size ∧ ∀ i a, L[i]? = some a → (∀ j u, a.cs[j]? = some u → W.cell? ⟨b, o + i * 11 + j, none⟩ = some u) ∧ a.ok ∧ a.In W
theorem rowsB_of {W : World} {A : Option Addr} {L : List Ac} (h : arg_actsR W A L) : L = [] ∨ ∃ b o, A = some ⟨b, o, none⟩ ∧ RowsB W b o L := by
  cases L with
  | nil => exact .inl rfl
  | cons a L =>
    obtain ⟨⟨b, o, e, hl, _⟩, _⟩ := h 0 a rfl
    refine .inr ⟨b, o, e, hl, fun i c hc => ?_⟩
    obtain ⟨⟨b', o', e', _, hc'⟩, h2, h3⟩ := h i c hc
    rw [e] at e'
    cases e'
    exact ⟨hc', h2, h3⟩
theorem RowsB.below {W W' : World} {b o : Nat} {L : List Ac} (h : RowsB W b o L) (hb : Below W.heap.size W W') : RowsB W' b o L :=
  ⟨Nat.lt_of_lt_of_le h.1 hb.size, fun i a ha => ⟨fun j u hu => (hb.cell (p := ⟨b, _, none⟩) h.1).trans ((h.2 i a ha).1 j u hu), (h.2 i a ha).2.1, (h.2 i a ha).2.2.below hb⟩⟩
/-- the bytes that are spent. -/
def spent : List Ac → Nat
  | [] => 0
  | a :: L => min a.B.length 6000 + min a.p.B.length 6000 + spent L
theorem spent_snoc (L : List Ac) (a : Ac) : spent (L ++ [a]) = spent L + min a.B.length 6000 + min a.p.B.length 6000 := by
  induction L with
  | nil => simp [spent]
  | cons c L ih =>
    show min c.B.length 6000 + min c.p.B.length 6000 + spent (L ++ [a]) = _
    rw [ih]
    simp only [spent]
    omega
theorem spent_le (L : List Ac) : spent L ≤ L.length * 12000 := by
  induction L with
  | nil => simp [spent]
  | cons c L ih =>
    simp only [spent, List.length_cons]
    omega
theorem spent_mem {L : List Ac} {a : Ac} (h : a ∈ L) : min a.B.length 6000 + min a.p.B.length 6000 ≤ spent L := by
  induction L with
  | nil => cases h
  | cons c L ih =>
    simp only [spent]
    rcases List.mem_cons.1 h with rfl | h
    · omega
    · have := ih h
      omega
def lightB (L : List Ac) : Bool := decide (L.length ≤ 120) && decide (spent (L.take 200) ≤ 5000)
theorem lightB_each {L : List Ac} (h : lightB L = true) : L.length ≤ 120 ∧ ∀ a ∈ L, a.B.length ≤ 5000 ∧ a.p.B.length ≤ 5000 := by
  unfold lightB at h
  simp only [Bool.and_eq_true, decide_eq_true_eq] at h
  refine ⟨h.1, fun a ha => ?_⟩
  rw [List.take_of_length_le (by omega)] at h
  have := spent_mem ha
  omega

set_option maxRecDepth 100000 in
set_option maxHeartbeats 2000000 in
theorem lightIs0 (A : Option Addr) (c : Nat) (W : World) : Calls Try.prog 7 #[.slice A 0 c] W fun e W' => e = .returned (.bool true) ∧ W = W' := by
  go_enter Try.func7, Try.ntmps7
  go_wp2
  go_loop [3, 4] (fun z i => z = .int .i64 5000 ∧ i = .int .i64 0) (fun _ _ => 0)
  case atStart => exact ⟨rfl, rfl⟩
  case round =>
    obtain ⟨rfl, rfl⟩ := hrel
    go_wp2
    go_ret
    exact ⟨rfl, rfl⟩

set_option maxRecDepth 100000 in
set_option maxHeartbeats 4000000 in
theorem lightIs (b o c : Nat) (L : List Ac) (W : World) (h : RowsB W b o L) (hm : c ≤ maxLen) (hc : L.length ≤ c) : Calls Try.prog 7 #[.slice (some ⟨b, o, none⟩) L.length c] W fun e W' => e = .returned (.bool (lightB L)) ∧ Below W.heap.size W W' := by
  have HR := Lib.hid h
  obtain ⟨n, hn⟩ : ∃ n, L.length = n := ⟨_, rfl⟩
  rw [hn]
  have HN := Lib.hid hn
  unfold maxLen at hm
  have hnm : n ≤ 9223372036854775807 := by omega
  clear h hn
  go_enter Try.func7, Try.ntmps7
  go_wp2
  go_loopw [3, 4] (fun z i wr => ∃ k : Nat, k ≤ n ∧ k ≤ 200 ∧ i = .int .i64 k ∧ z = .int .i64 (5000 - (spent (L.take k) : Int)) ∧ Hid (Below W.heap.size W wr)) (fun _ i _ => n - (intOf i).toNat)
  case atStart => exact ⟨0, by omega, by omega, rfl, rfl, Lib.hid (Below.refl _ _)⟩
  case round =>
    obtain ⟨k, hk, hk2, rfl, rfl, BJ⟩ := hrel
    have hs := spent_le (L.take k)
    rw [List.length_take] at hs
    obtain ⟨s, hse⟩ : ∃ s, spent (L.take k) = s := ⟨_, rfl⟩
    rw [hse] at hs ⊢
    have hs2 : s ≤ 2400000 := by have := Nat.min_le_left k L.length; omega
    have HSE := Lib.hid hse
    clear hs hse
    by_cases hkn : k < n
    · by_cases hk200 : k < 200
      · obtain ⟨a, hx⟩ : ∃ a, L[k]? = some a := ⟨_, List.getElem?_eq_getElem (by rw [HN.out]; exact hkn)⟩
        obtain ⟨hcell, hok, hin⟩ := (HR.out.below BJ.out).2 k _ hx
        have hsn : spent (L.take (k + 1)) = s + min a.B.length 6000 + min a.p.B.length 6000 := by
          rw [List.take_add_one, hx, ← HSE.out]
          exact spent_snoc _ _
        obtain ⟨kd, at_, aB, BA, bc, p, PA, pc⟩ := a
        obtain ⟨q, hq⟩ : ∃ q, aB.length = q := ⟨_, rfl⟩
        obtain ⟨r, hr⟩ : ∃ r, p.B.length = r := ⟨_, rfl⟩
        have c2 := hcell 2 (.slice BA q bc) (by rw [← hq]; rfl)
        have c10 := hcell 10 (.slice PA r pc) (by rw [← hr]; rfl)
        have hqm : q ≤ 9223372036854775807 := by
          have h1 := hin.bl
          have h2 := hin.bm
          simp only [hq] at h1
          unfold maxLen at h2
          simp only at h2
          omega
        have hrm : r ≤ 9223372036854775807 := by
          have h1 := hin.pl
          have h2 := hin.pm
          simp only [hr] at h1
          unfold maxLen at h2
          simp only at h2
          omega
        simp only [hq, hr] at hsn
        obtain ⟨w2, hw2⟩ : ∃ Y, wr.drew = Y := ⟨_, rfl⟩
        have b2 : Below wr.heap.size wr w2 := by rw [← hw2]; exact (Below.refl _ _).drew
        have HC2 : Hid (w2.cell? ⟨b, o + k * 11 + 2, none⟩ = some (.slice BA q bc) ∧ w2.cell? ⟨b, o + k * 11 + 10, none⟩ = some (.slice PA r pc)) := Lib.hid (by rw [← hw2]; exact ⟨c2, c10⟩)
        have B2' := Lib.hid (BJ.out.trans (b2.mono BJ.out.size))
        have HW2 := Lib.hid hw2
        have HKN := Lib.hid hkn
        have HK200 := Lib.hid hk200
        have h1 : (k : Int) < (n : Int) := by omega
        have h2 : (k : Int) < 200 := by omega
        have h3 : (0 : Int) ≤ (k : Int) := by omega
        clear hx hcell hin hok hq hr c2 c10 hw2 b2
        by_cases hq6 : q ≤ 6000
        · have h4 : (q : Int) ≤ 6000 := by omega
          by_cases hr6 : r ≤ 6000
          · have h5 : (r : Int) ≤ 6000 := by omega
            have HSN : Hid (spent (L.take (k + 1)) = s + q + r) := Lib.hid (by rw [hsn, Nat.min_eq_left hq6, Nat.min_eq_left hr6])
            clear hsn hq6 hr6
            go_wp2
            refine region_heldT (S := fun X => X.cell? ⟨b, o + k * 11 + 2, none⟩ = some (.slice BA q bc) ∧ X.cell? ⟨b, o + k * 11 + 10, none⟩ = some (.slice PA r pc)) 18 (by kernel_rfl) (by decide) (fun inv => ?_)
            change FirstH _ _ _ _ _ _ _ _ _ _ wr.drew
            rw [HW2.out]
            have HS := HC2.out
            refine FirstH.go (i := 0) (v := .int .i64 (5000 - (s : Int))) rfl rfl _ rfl _ rfl (by kernel_rfl) (fun _ _ _ h => h) inv (fun X _ => by unfold bareO; go_simp) HS (fun inv => ?_)
            try simp only [Act.put, List.setIfInBounds_toArray, List.set_cons_zero, List.set_cons_succ]
            refine FirstH.go (i := 1) (v := .slice (some ⟨b, o, none⟩) n c) rfl rfl _ rfl _ rfl (by kernel_rfl) (fun _ _ _ h => h) inv (fun X _ => by unfold bareO; go_simp) HS (fun inv => ?_)
            try simp only [Act.put, List.setIfInBounds_toArray, List.set_cons_zero, List.set_cons_succ]
            refine FirstH.go (i := 2) (v := .int .i64 k) rfl rfl _ rfl _ rfl (by kernel_rfl) (fun _ _ _ h => h) inv (fun X _ => by unfold bareO; go_simp) HS (fun inv => ?_)
            try simp only [Act.put, List.setIfInBounds_toArray, List.set_cons_zero, List.set_cons_succ]
            refine FirstH.go (i := 3) (v := .pointer (some ⟨b, o + k * 11, none⟩)) rfl rfl _ rfl _ rfl (by kernel_rfl) (fun _ _ _ h => h) inv (fun X _ => by unfold bareO; go_simp) HS (fun inv => ?_)
            try simp only [Act.put, List.setIfInBounds_toArray, List.set_cons_zero, List.set_cons_succ]
            refine FirstH.go (i := 4) (v := .pointer (some ⟨b, o + k * 11 + 2, none⟩)) rfl rfl _ rfl _ rfl (by kernel_rfl) (fun _ _ _ h => h) inv (fun X _ => by unfold bareO; go_simp) HS (fun inv => ?_)
            try simp only [Act.put, List.setIfInBounds_toArray, List.set_cons_zero, List.set_cons_succ]
            refine FirstH.go (i := 5) (v := .slice BA q bc) rfl rfl _ rfl _ rfl (by kernel_rfl) (fun _ _ _ h => h) inv (fun X hS => by have c1 := hS.1; unfold bareO; go_simp) HS (fun inv => ?_)
            try simp only [Act.put, List.setIfInBounds_toArray, List.set_cons_zero, List.set_cons_succ]
            refine FirstH.go (i := 6) (v := .int .i64 q) rfl rfl _ rfl _ rfl (by kernel_rfl) (fun _ _ _ h => h) inv (fun X _ => by unfold bareO; go_simp) HS (fun inv => ?_)
            try simp only [Act.put, List.setIfInBounds_toArray, List.set_cons_zero, List.set_cons_succ]
            refine FirstH.go (i := 7) (v := .int .i64 (q : Int)) rfl rfl _ rfl _ rfl (by kernel_rfl) (fun _ _ _ h => h) inv (fun X _ => by unfold bareO; (go_simp) <;> (intro hh; omega)) HS (fun inv => ?_)
            try simp only [Act.put, List.setIfInBounds_toArray, List.set_cons_zero, List.set_cons_succ]
            refine FirstH.go (i := 8) (v := .int .i64 (5000 - (s : Int) - (q : Int))) rfl rfl _ rfl _ rfl (by kernel_rfl) (fun _ _ _ h => h) inv (fun X _ => by unfold bareO; (go_simp) <;> exact IntWalk.i64_in _ (by omega)) HS (fun inv => ?_)
            try simp only [Act.put, List.setIfInBounds_toArray, List.set_cons_zero, List.set_cons_succ]
            refine FirstH.go (i := 9) (v := .slice (some ⟨b, o, none⟩) n c) rfl rfl _ rfl _ rfl (by kernel_rfl) (fun _ _ _ h => h) inv (fun X _ => by unfold bareO; go_simp) HS (fun inv => ?_)
            try simp only [Act.put, List.setIfInBounds_toArray, List.set_cons_zero, List.set_cons_succ]
            refine FirstH.go (i := 10) (v := .int .i64 k) rfl rfl _ rfl _ rfl (by kernel_rfl) (fun _ _ _ h => h) inv (fun X _ => by unfold bareO; go_simp) HS (fun inv => ?_)
            try simp only [Act.put, List.setIfInBounds_toArray, List.set_cons_zero, List.set_cons_succ]
            refine FirstH.go (i := 11) (v := .pointer (some ⟨b, o + k * 11, none⟩)) rfl rfl _ rfl _ rfl (by kernel_rfl) (fun _ _ _ h => h) inv (fun X _ => by unfold bareO; go_simp) HS (fun inv => ?_)
            try simp only [Act.put, List.setIfInBounds_toArray, List.set_cons_zero, List.set_cons_succ]
            refine FirstH.go (i := 12) (v := .pointer (some ⟨b, o + k * 11 + 3, none⟩)) rfl rfl _ rfl _ rfl (by kernel_rfl) (fun _ _ _ h => h) inv (fun X _ => by unfold bareO; go_simp) HS (fun inv => ?_)
            try simp only [Act.put, List.setIfInBounds_toArray, List.set_cons_zero, List.set_cons_succ]
            refine FirstH.go (i := 13) (v := .pointer (some ⟨b, o + k * 11 + 10, none⟩)) rfl rfl _ rfl _ rfl (by kernel_rfl) (fun _ _ _ h => h) inv (fun X _ => by unfold bareO; go_simp) HS (fun inv => ?_)
            try simp only [Act.put, List.setIfInBounds_toArray, List.set_cons_zero, List.set_cons_succ]
            refine FirstH.go (i := 14) (v := .slice PA r pc) rfl rfl _ rfl _ rfl (by kernel_rfl) (fun _ _ _ h => h) inv (fun X hS => by have c1 := hS.2; unfold bareO; go_simp) HS (fun inv => ?_)
            try simp only [Act.put, List.setIfInBounds_toArray, List.set_cons_zero, List.set_cons_succ]
            refine FirstH.go (i := 15) (v := .int .i64 r) rfl rfl _ rfl _ rfl (by kernel_rfl) (fun _ _ _ h => h) inv (fun X _ => by unfold bareO; go_simp) HS (fun inv => ?_)
            try simp only [Act.put, List.setIfInBounds_toArray, List.set_cons_zero, List.set_cons_succ]
            refine FirstH.go (i := 16) (v := .int .i64 (r : Int)) rfl rfl _ rfl _ rfl (by kernel_rfl) (fun _ _ _ h => h) inv (fun X _ => by unfold bareO; (go_simp) <;> (intro hh; omega)) HS (fun inv => ?_)
            try simp only [Act.put, List.setIfInBounds_toArray, List.set_cons_zero, List.set_cons_succ]
            refine FirstH.go (i := 17) (v := .int .i64 (5000 - (s : Int) - (q : Int) - (r : Int))) rfl rfl _ rfl _ rfl (by kernel_rfl) (fun _ _ _ h => h) inv (fun X _ => by unfold bareO; (go_simp) <;> exact IntWalk.i64_in _ (by omega)) HS (fun inv => ?_)
            try simp only [Act.put, List.setIfInBounds_toArray, List.set_cons_zero, List.set_cons_succ]
            clear HS
            refine ⟨by kernel_rfl, ?_⟩
            simp only [List.drop_succ_cons, List.drop_zero]
            go_wp2
            go_roundw
            case rel => exact ⟨k + 1, by have := HKN.out; omega, by have := HK200.out; omega, by go_num, by rw [HSN.out]; congr 1; omega, B2'⟩
            case measure => have := HKN.out; simp [intOf]; omega
          · have h5 : ¬ (r : Int) ≤ 6000 := by omega
            have h6 : (6000 : Int) < (r : Int) := by omega
            have HSN : Hid (spent (L.take (k + 1)) = s + q + 6000) := Lib.hid (by rw [hsn, Nat.min_eq_left hq6, Nat.min_eq_right (by omega)])
            clear hsn hq6 hr6
            go_wp2
            refine region_heldT (S := fun X => X.cell? ⟨b, o + k * 11 + 2, none⟩ = some (.slice BA q bc) ∧ X.cell? ⟨b, o + k * 11 + 10, none⟩ = some (.slice PA r pc)) 18 (by kernel_rfl) (by decide) (fun inv => ?_)
            change FirstH _ _ _ _ _ _ _ _ _ _ wr.drew
            rw [HW2.out]
            have HS := HC2.out
            refine FirstH.go (i := 0) (v := .int .i64 (5000 - (s : Int))) rfl rfl _ rfl _ rfl (by kernel_rfl) (fun _ _ _ h => h) inv (fun X _ => by unfold bareO; go_simp) HS (fun inv => ?_)
            try simp only [Act.put, List.setIfInBounds_toArray, List.set_cons_zero, List.set_cons_succ]
            refine FirstH.go (i := 1) (v := .slice (some ⟨b, o, none⟩) n c) rfl rfl _ rfl _ rfl (by kernel_rfl) (fun _ _ _ h => h) inv (fun X _ => by unfold bareO; go_simp) HS (fun inv => ?_)
            try simp only [Act.put, List.setIfInBounds_toArray, List.set_cons_zero, List.set_cons_succ]
            refine FirstH.go (i := 2) (v := .int .i64 k) rfl rfl _ rfl _ rfl (by kernel_rfl) (fun _ _ _ h => h) inv (fun X _ => by unfold bareO; go_simp) HS (fun inv => ?_)
            try simp only [Act.put, List.setIfInBounds_toArray, List.set_cons_zero, List.set_cons_succ]
            refine FirstH.go (i := 3) (v := .pointer (some ⟨b, o + k * 11, none⟩)) rfl rfl _ rfl _ rfl (by kernel_rfl) (fun _ _ _ h => h) inv (fun X _ => by unfold bareO; go_simp) HS (fun inv => ?_)
            try simp only [Act.put, List.setIfInBounds_toArray, List.set_cons_zero, List.set_cons_succ]
            refine FirstH.go (i := 4) (v := .pointer (some ⟨b, o + k * 11 + 2, none⟩)) rfl rfl _ rfl _ rfl (by kernel_rfl) (fun _ _ _ h => h) inv (fun X _ => by unfold bareO; go_simp) HS (fun inv => ?_)
            try simp only [Act.put, List.setIfInBounds_toArray, List.set_cons_zero, List.set_cons_succ]
            refine FirstH.go (i := 5) (v := .slice BA q bc) rfl rfl _ rfl _ rfl (by kernel_rfl) (fun _ _ _ h => h) inv (fun X hS => by have c1 := hS.1; unfold bareO; go_simp) HS (fun inv => ?_)
            try simp only [Act.put, List.setIfInBounds_toArray, List.set_cons_zero, List.set_cons_succ]
            refine FirstH.go (i := 6) (v := .int .i64 q) rfl rfl _ rfl _ rfl (by kernel_rfl) (fun _ _ _ h => h) inv (fun X _ => by unfold bareO; go_simp) HS (fun inv => ?_)
            try simp only [Act.put, List.setIfInBounds_toArray, List.set_cons_zero, List.set_cons_succ]
            refine FirstH.go (i := 7) (v := .int .i64 (q : Int)) rfl rfl _ rfl _ rfl (by kernel_rfl) (fun _ _ _ h => h) inv (fun X _ => by unfold bareO; (go_simp) <;> (intro hh; omega)) HS (fun inv => ?_)
            try simp only [Act.put, List.setIfInBounds_toArray, List.set_cons_zero, List.set_cons_succ]
            refine FirstH.go (i := 8) (v := .int .i64 (5000 - (s : Int) - (q : Int))) rfl rfl _ rfl _ rfl (by kernel_rfl) (fun _ _ _ h => h) inv (fun X _ => by unfold bareO; (go_simp) <;> exact IntWalk.i64_in _ (by omega)) HS (fun inv => ?_)
            try simp only [Act.put, List.setIfInBounds_toArray, List.set_cons_zero, List.set_cons_succ]
            refine FirstH.go (i := 9) (v := .slice (some ⟨b, o, none⟩) n c) rfl rfl _ rfl _ rfl (by kernel_rfl) (fun _ _ _ h => h) inv (fun X _ => by unfold bareO; go_simp) HS (fun inv => ?_)
            try simp only [Act.put, List.setIfInBounds_toArray, List.set_cons_zero, List.set_cons_succ]
            refine FirstH.go (i := 10) (v := .int .i64 k) rfl rfl _ rfl _ rfl (by kernel_rfl) (fun _ _ _ h => h) inv (fun X _ => by unfold bareO; go_simp) HS (fun inv => ?_)
            try simp only [Act.put, List.setIfInBounds_toArray, List.set_cons_zero, List.set_cons_succ]
            refine FirstH.go (i := 11) (v := .pointer (some ⟨b, o + k * 11, none⟩)) rfl rfl _ rfl _ rfl (by kernel_rfl) (fun _ _ _ h => h) inv (fun X _ => by unfold bareO; go_simp) HS (fun inv => ?_)
            try simp only [Act.put, List.setIfInBounds_toArray, List.set_cons_zero, List.set_cons_succ]
            refine FirstH.go (i := 12) (v := .pointer (some ⟨b, o + k * 11 + 3, none⟩)) rfl rfl _ rfl _ rfl (by kernel_rfl) (fun _ _ _ h => h) inv (fun X _ => by unfold bareO; go_simp) HS (fun inv => ?_)
            try simp only [Act.put, List.setIfInBounds_toArray, List.set_cons_zero, List.set_cons_succ]
            refine FirstH.go (i := 13) (v := .pointer (some ⟨b, o + k * 11 + 10, none⟩)) rfl rfl _ rfl _ rfl (by kernel_rfl) (fun _ _ _ h => h) inv (fun X _ => by unfold bareO; go_simp) HS (fun inv => ?_)
            try simp only [Act.put, List.setIfInBounds_toArray, List.set_cons_zero, List.set_cons_succ]
            refine FirstH.go (i := 14) (v := .slice PA r pc) rfl rfl _ rfl _ rfl (by kernel_rfl) (fun _ _ _ h => h) inv (fun X hS => by have c1 := hS.2; unfold bareO; go_simp) HS (fun inv => ?_)
            try simp only [Act.put, List.setIfInBounds_toArray, List.set_cons_zero, List.set_cons_succ]
            refine FirstH.go (i := 15) (v := .int .i64 r) rfl rfl _ rfl _ rfl (by kernel_rfl) (fun _ _ _ h => h) inv (fun X _ => by unfold bareO; go_simp) HS (fun inv => ?_)
            try simp only [Act.put, List.setIfInBounds_toArray, List.set_cons_zero, List.set_cons_succ]
            refine FirstH.go (i := 16) (v := .int .i64 6000) rfl rfl _ rfl _ rfl (by kernel_rfl) (fun _ _ _ h => h) inv (fun X _ => by unfold bareO; (go_simp) <;> (intro hh; omega)) HS (fun inv => ?_)
            try simp only [Act.put, List.setIfInBounds_toArray, List.set_cons_zero, List.set_cons_succ]
            refine FirstH.go (i := 17) (v := .int .i64 (5000 - (s : Int) - (q : Int) - 6000)) rfl rfl _ rfl _ rfl (by kernel_rfl) (fun _ _ _ h => h) inv (fun X _ => by unfold bareO; (go_simp) <;> exact IntWalk.i64_in _ (by omega)) HS (fun inv => ?_)
            try simp only [Act.put, List.setIfInBounds_toArray, List.set_cons_zero, List.set_cons_succ]
            clear HS
            refine ⟨by kernel_rfl, ?_⟩
            simp only [List.drop_succ_cons, List.drop_zero]
            go_wp2
            go_roundw
            case rel => exact ⟨k + 1, by have := HKN.out; omega, by have := HK200.out; omega, by go_num, by rw [HSN.out]; congr 1; omega, B2'⟩
            case measure => have := HKN.out; simp [intOf]; omega
        · have h4 : ¬ (q : Int) ≤ 6000 := by omega
          have h7 : (6000 : Int) < (q : Int) := by omega
          by_cases hr6 : r ≤ 6000
          · have h5 : (r : Int) ≤ 6000 := by omega
            have HSN : Hid (spent (L.take (k + 1)) = s + 6000 + r) := Lib.hid (by rw [hsn, Nat.min_eq_right (by omega), Nat.min_eq_left hr6])
            clear hsn hq6 hr6
            go_wp2
            refine region_heldT (S := fun X => X.cell? ⟨b, o + k * 11 + 2, none⟩ = some (.slice BA q bc) ∧ X.cell? ⟨b, o + k * 11 + 10, none⟩ = some (.slice PA r pc)) 18 (by kernel_rfl) (by decide) (fun inv => ?_)
            change FirstH _ _ _ _ _ _ _ _ _ _ wr.drew
            rw [HW2.out]
            have HS := HC2.out
            refine FirstH.go (i := 0) (v := .int .i64 (5000 - (s : Int))) rfl rfl _ rfl _ rfl (by kernel_rfl) (fun _ _ _ h => h) inv (fun X _ => by unfold bareO; go_simp) HS (fun inv => ?_)
            try simp only [Act.put, List.setIfInBounds_toArray, List.set_cons_zero, List.set_cons_succ]
            refine FirstH.go (i := 1) (v := .slice (some ⟨b, o, none⟩) n c) rfl rfl _ rfl _ rfl (by kernel_rfl) (fun _ _ _ h => h) inv (fun X _ => by unfold bareO; go_simp) HS (fun inv => ?_)
            try simp only [Act.put, List.setIfInBounds_toArray, List.set_cons_zero, List.set_cons_succ]
            refine FirstH.go (i := 2) (v := .int .i64 k) rfl rfl _ rfl _ rfl (by kernel_rfl) (fun _ _ _ h => h) inv (fun X _ => by unfold bareO; go_simp) HS (fun inv => ?_)
            try simp only [Act.put, List.setIfInBounds_toArray, List.set_cons_zero, List.set_cons_succ]
            refine FirstH.go (i := 3) (v := .pointer (some ⟨b, o + k * 11, none⟩)) rfl rfl _ rfl _ rfl (by kernel_rfl) (fun _ _ _ h => h) inv (fun X _ => by unfold bareO; go_simp) HS (fun inv => ?_)
            try simp only [Act.put, List.setIfInBounds_toArray, List.set_cons_zero, List.set_cons_succ]
            refine FirstH.go (i := 4) (v := .pointer (some ⟨b, o + k * 11 + 2, none⟩)) rfl rfl _ rfl _ rfl (by kernel_rfl) (fun _ _ _ h => h) inv (fun X _ => by unfold bareO; go_simp) HS (fun inv => ?_)
            try simp only [Act.put, List.setIfInBounds_toArray, List.set_cons_zero, List.set_cons_succ]
            refine FirstH.go (i := 5) (v := .slice BA q bc) rfl rfl _ rfl _ rfl (by kernel_rfl) (fun _ _ _ h => h) inv (fun X hS => by have c1 := hS.1; unfold bareO; go_simp) HS (fun inv => ?_)
            try simp only [Act.put, List.setIfInBounds_toArray, List.set_cons_zero, List.set_cons_succ]
            refine FirstH.go (i := 6) (v := .int .i64 q) rfl rfl _ rfl _ rfl (by kernel_rfl) (fun _ _ _ h => h) inv (fun X _ => by unfold bareO; go_simp) HS (fun inv => ?_)
            try simp only [Act.put, List.setIfInBounds_toArray, List.set_cons_zero, List.set_cons_succ]
            refine FirstH.go (i := 7) (v := .int .i64 6000) rfl rfl _ rfl _ rfl (by kernel_rfl) (fun _ _ _ h => h) inv (fun X _ => by unfold bareO; (go_simp) <;> (intro hh; omega)) HS (fun inv => ?_)
            try simp only [Act.put, List.setIfInBounds_toArray, List.set_cons_zero, List.set_cons_succ]
            refine FirstH.go (i := 8) (v := .int .i64 (5000 - (s : Int) - 6000)) rfl rfl _ rfl _ rfl (by kernel_rfl) (fun _ _ _ h => h) inv (fun X _ => by unfold bareO; (go_simp) <;> exact IntWalk.i64_in _ (by omega)) HS (fun inv => ?_)
            try simp only [Act.put, List.setIfInBounds_toArray, List.set_cons_zero, List.set_cons_succ]
            refine FirstH.go (i := 9) (v := .slice (some ⟨b, o, none⟩) n c) rfl rfl _ rfl _ rfl (by kernel_rfl) (fun _ _ _ h => h) inv (fun X _ => by unfold bareO; go_simp) HS (fun inv => ?_)
            try simp only [Act.put, List.setIfInBounds_toArray, List.set_cons_zero, List.set_cons_succ]
            refine FirstH.go (i := 10) (v := .int .i64 k) rfl rfl _ rfl _ rfl (by kernel_rfl) (fun _ _ _ h => h) inv (fun X _ => by unfold bareO; go_simp) HS (fun inv => ?_)
            try simp only [Act.put, List.setIfInBounds_toArray, List.set_cons_zero, List.set_cons_succ]
            refine FirstH.go (i := 11) (v := .pointer (some ⟨b, o + k * 11, none⟩)) rfl rfl _ rfl _ rfl (by kernel_rfl) (fun _ _ _ h => h) inv (fun X _ => by unfold bareO; go_simp) HS (fun inv => ?_)
            try simp only [Act.put, List.setIfInBounds_toArray, List.set_cons_zero, List.set_cons_succ]
            refine FirstH.go (i := 12) (v := .pointer (some ⟨b, o + k * 11 + 3, none⟩)) rfl rfl _ rfl _ rfl (by kernel_rfl) (fun _ _ _ h => h) inv (fun X _ => by unfold bareO; go_simp) HS (fun inv => ?_)
            try simp only [Act.put, List.setIfInBounds_toArray, List.set_cons_zero, List.set_cons_succ]
            refine FirstH.go (i := 13) (v := .pointer (some ⟨b, o + k * 11 + 10, none⟩)) rfl rfl _ rfl _ rfl (by kernel_rfl) (fun _ _ _ h => h) inv (fun X _ => by unfold bareO; go_simp) HS (fun inv => ?_)
            try simp only [Act.put, List.setIfInBounds_toArray, List.set_cons_zero, List.set_cons_succ]
            refine FirstH.go (i := 14) (v := .slice PA r pc) rfl rfl _ rfl _ rfl (by kernel_rfl) (fun _ _ _ h => h) inv (fun X hS => by have c1 := hS.2; unfold bareO; go_simp) HS (fun inv => ?_)
            try simp only [Act.put, List.setIfInBounds_toArray, List.set_cons_zero, List.set_cons_succ]
            refine FirstH.go (i := 15) (v := .int .i64 r) rfl rfl _ rfl _ rfl (by kernel_rfl) (fun _ _ _ h => h) inv (fun X _ => by unfold bareO; go_simp) HS (fun inv => ?_)
            try simp only [Act.put, List.setIfInBounds_toArray, List.set_cons_zero, List.set_cons_succ]
            refine FirstH.go (i := 16) (v := .int .i64 (r : Int)) rfl rfl _ rfl _ rfl (by kernel_rfl) (fun _ _ _ h => h) inv (fun X _ => by unfold bareO; (go_simp) <;> (intro hh; omega)) HS (fun inv => ?_)
            try simp only [Act.put, List.setIfInBounds_toArray, List.set_cons_zero, List.set_cons_succ]
            refine FirstH.go (i := 17) (v := .int .i64 (5000 - (s : Int) - 6000 - (r : Int))) rfl rfl _ rfl _ rfl (by kernel_rfl) (fun _ _ _ h => h) inv (fun X _ => by unfold bareO; (go_simp) <;> exact IntWalk.i64_in _ (by omega)) HS (fun inv => ?_)
            try simp only [Act.put, List.setIfInBounds_toArray, List.set_cons_zero, List.set_cons_succ]
            clear HS
            refine ⟨by kernel_rfl, ?_⟩
            simp only [List.drop_succ_cons, List.drop_zero]
            go_wp2
            go_roundw
            case rel => exact ⟨k + 1, by have := HKN.out; omega, by have := HK200.out; omega, by go_num, by rw [HSN.out]; congr 1; omega, B2'⟩
            case measure => have := HKN.out; simp [intOf]; omega
          · have h5 : ¬ (r : Int) ≤ 6000 := by omega
            have h6 : (6000 : Int) < (r : Int) := by omega
            have HSN : Hid (spent (L.take (k + 1)) = s + 6000 + 6000) := Lib.hid (by rw [hsn, Nat.min_eq_right (by omega), Nat.min_eq_right (by omega)])
            clear hsn hq6 hr6
            go_wp2
            refine region_heldT (S := fun X => X.cell? ⟨b, o + k * 11 + 2, none⟩ = some (.slice BA q bc) ∧ X.cell? ⟨b, o + k * 11 + 10, none⟩ = some (.slice PA r pc)) 18 (by kernel_rfl) (by decide) (fun inv => ?_)
            change FirstH _ _ _ _ _ _ _ _ _ _ wr.drew
            rw [HW2.out]
            have HS := HC2.out
            refine FirstH.go (i := 0) (v := .int .i64 (5000 - (s : Int))) rfl rfl _ rfl _ rfl (by kernel_rfl) (fun _ _ _ h => h) inv (fun X _ => by unfold bareO; go_simp) HS (fun inv => ?_)
            try simp only [Act.put, List.setIfInBounds_toArray, List.set_cons_zero, List.set_cons_succ]
            refine FirstH.go (i := 1) (v := .slice (some ⟨b, o, none⟩) n c) rfl rfl _ rfl _ rfl (by kernel_rfl) (fun _ _ _ h => h) inv (fun X _ => by unfold bareO; go_simp) HS (fun inv => ?_)
            try simp only [Act.put, List.setIfInBounds_toArray, List.set_cons_zero, List.set_cons_succ]
            refine FirstH.go (i := 2) (v := .int .i64 k) rfl rfl _ rfl _ rfl (by kernel_rfl) (fun _ _ _ h => h) inv (fun X _ => by unfold bareO; go_simp) HS (fun inv => ?_)
            try simp only [Act.put, List.setIfInBounds_toArray, List.set_cons_zero, List.set_cons_succ]
            refine FirstH.go (i := 3) (v := .pointer (some ⟨b, o + k * 11, none⟩)) rfl rfl _ rfl _ rfl (by kernel_rfl) (fun _ _ _ h => h) inv (fun X _ => by unfold bareO; go_simp) HS (fun inv => ?_)
            try simp only [Act.put, List.setIfInBounds_toArray, List.set_cons_zero, List.set_cons_succ]
            refine FirstH.go (i := 4) (v := .pointer (some ⟨b, o + k * 11 + 2, none⟩)) rfl rfl _ rfl _ rfl (by kernel_rfl) (fun _ _ _ h => h) inv (fun X _ => by unfold bareO; go_simp) HS (fun inv => ?_)
            try simp only [Act.put, List.setIfInBounds_toArray, List.set_cons_zero, List.set_cons_succ]
            refine FirstH.go (i := 5) (v := .slice BA q bc) rfl rfl _ rfl _ rfl (by kernel_rfl) (fun _ _ _ h => h) inv (fun X hS => by have c1 := hS.1; unfold bareO; go_simp) HS (fun inv => ?_)
            try simp only [Act.put, List.setIfInBounds_toArray, List.set_cons_zero, List.set_cons_succ]
            refine FirstH.go (i := 6) (v := .int .i64 q) rfl rfl _ rfl _ rfl (by kernel_rfl) (fun _ _ _ h => h) inv (fun X _ => by unfold bareO; go_simp) HS (fun inv => ?_)
            try simp only [Act.put, List.setIfInBounds_toArray, List.set_cons_zero, List.set_cons_succ]
            refine FirstH.go (i := 7) (v := .int .i64 6000) rfl rfl _ rfl _ rfl (by kernel_rfl) (fun _ _ _ h => h) inv (fun X _ => by unfold bareO; (go_simp) <;> (intro hh; omega)) HS (fun inv => ?_)
            try simp only [Act.put, List.setIfInBounds_toArray, List.set_cons_zero, List.set_cons_succ]
            refine FirstH.go (i := 8) (v := .int .i64 (5000 - (s : Int) - 6000)) rfl rfl _ rfl _ rfl (by kernel_rfl) (fun _ _ _ h => h) inv (fun X _ => by unfold bareO; (go_simp) <;> exact IntWalk.i64_in _ (by omega)) HS (fun inv => ?_)
            try simp only [Act.put, List.setIfInBounds_toArray, List.set_cons_zero, List.set_cons_succ]
            refine FirstH.go (i := 9) (v := .slice (some ⟨b, o, none⟩) n c) rfl rfl _ rfl _ rfl (by kernel_rfl) (fun _ _ _ h => h) inv (fun X _ => by unfold bareO; go_simp) HS (fun inv => ?_)
            try simp only [Act.put, List.setIfInBounds_toArray, List.set_cons_zero, List.set_cons_succ]
            refine FirstH.go (i := 10) (v := .int .i64 k) rfl rfl _ rfl _ rfl (by kernel_rfl) (fun _ _ _ h => h) inv (fun X _ => by unfold bareO; go_simp) HS (fun inv => ?_)
            try simp only [Act.put, List.setIfInBounds_toArray, List.set_cons_zero, List.set_cons_succ]
            refine FirstH.go (i := 11) (v := .pointer (some ⟨b, o + k * 11, none⟩)) rfl rfl _ rfl _ rfl (by kernel_rfl) (fun _ _ _ h => h) inv (fun X _ => by unfold bareO; go_simp) HS (fun inv => ?_)
            try simp only [Act.put, List.setIfInBounds_toArray, List.set_cons_zero, List.set_cons_succ]
            refine FirstH.go (i := 12) (v := .pointer (some ⟨b, o + k * 11 + 3, none⟩)) rfl rfl _ rfl _ rfl (by kernel_rfl) (fun _ _ _ h => h) inv (fun X _ => by unfold bareO; go_simp) HS (fun inv => ?_)
            try simp only [Act.put, List.setIfInBounds_toArray, List.set_cons_zero, List.set_cons_succ]
            refine FirstH.go (i := 13) (v := .pointer (some ⟨b, o + k * 11 + 10, none⟩)) rfl rfl _ rfl _ rfl (by kernel_rfl) (fun _ _ _ h => h) inv (fun X _ => by unfold bareO; go_simp) HS (fun inv => ?_)
            try simp only [Act.put, List.setIfInBounds_toArray, List.set_cons_zero, List.set_cons_succ]
            refine FirstH.go (i := 14) (v := .slice PA r pc) rfl rfl _ rfl _ rfl (by kernel_rfl) (fun _ _ _ h => h) inv (fun X hS => by have c1 := hS.2; unfold bareO; go_simp) HS (fun inv => ?_)
            try simp only [Act.put, List.setIfInBounds_toArray, List.set_cons_zero, List.set_cons_succ]
            refine FirstH.go (i := 15) (v := .int .i64 r) rfl rfl _ rfl _ rfl (by kernel_rfl) (fun _ _ _ h => h) inv (fun X _ => by unfold bareO; go_simp) HS (fun inv => ?_)
            try simp only [Act.put, List.setIfInBounds_toArray, List.set_cons_zero, List.set_cons_succ]
            refine FirstH.go (i := 16) (v := .int .i64 6000) rfl rfl _ rfl _ rfl (by kernel_rfl) (fun _ _ _ h => h) inv (fun X _ => by unfold bareO; (go_simp) <;> (intro hh; omega)) HS (fun inv => ?_)
            try simp only [Act.put, List.setIfInBounds_toArray, List.set_cons_zero, List.set_cons_succ]
            refine FirstH.go (i := 17) (v := .int .i64 (5000 - (s : Int) - 6000 - 6000)) rfl rfl _ rfl _ rfl (by kernel_rfl) (fun _ _ _ h => h) inv (fun X _ => by unfold bareO; (go_simp) <;> exact IntWalk.i64_in _ (by omega)) HS (fun inv => ?_)
            try simp only [Act.put, List.setIfInBounds_toArray, List.set_cons_zero, List.set_cons_succ]
            clear HS
            refine ⟨by kernel_rfl, ?_⟩
            simp only [List.drop_succ_cons, List.drop_zero]
            go_wp2
            go_roundw
            case rel => exact ⟨k + 1, by have := HKN.out; omega, by have := HK200.out; omega, by go_num, by rw [HSN.out]; congr 1; omega, B2'⟩
            case measure => have := HKN.out; simp [intOf]; omega
      · obtain rfl : k = 200 := by omega
        have h1 : ¬ (n : Int) ≤ 120 := by omega
        have HKN := Lib.hid hkn
        go_wp2
        go_ret
        exact ⟨ret_bool (by unfold lightB; rw [HN.out]; have := HKN.out; simp; omega), BJ.out⟩
    · obtain rfl : n = k := by omega
      have hlb : lightB L = (decide (n ≤ 120) && decide (s ≤ 5000)) := by
        unfold lightB
        rw [HN.out, List.take_of_length_le (by rw [HN.out]; omega)]
        have h1 := HSE.out
        rw [List.take_of_length_le (by rw [HN.out]; omega)] at h1
        rw [h1]
      have HLB := Lib.hid hlb
      clear hlb
      by_cases h1 : n ≤ 120
      · have h1' : (n : Int) ≤ 120 := by omega
        by_cases h2 : s ≤ 5000
        · have h2' : (0 : Int) ≤ 5000 - (s : Int) := by omega
          have h2'' : (s : Int) ≤ 5000 := by omega
          have HB := Lib.hid (show lightB L = true by rw [HLB.out]; simp [h1, h2])
          clear h1 h2
          go_wp2
          go_ret
          exact ⟨ret_bool HB.out.symm, BJ.out⟩
        · have h2' : ¬ (0 : Int) ≤ 5000 - (s : Int) := by omega
          have h2'' : ¬ (s : Int) ≤ 5000 := by omega
          have HB := Lib.hid (show lightB L = false by rw [HLB.out]; simp [h2])
          clear h1 h2
          go_wp2
          go_ret
          exact ⟨ret_bool HB.out.symm, BJ.out⟩
      · have h1' : ¬ (n : Int) ≤ 120 := by omega
        have HB := Lib.hid (show lightB L = false by rw [HLB.out]; simp [h1])
        clear h1
        go_wp2
        go_ret
        exact ⟨ret_bool HB.out.symm, BJ.out⟩

end Go.Proofs.Ytgnfclikdfllnaa
