/-
  Right parts of letters are shown alike only if they are the same: lists of bytes alone. No condition.
-/
import Derived.Test.YtggaakjimkfliaaDoorPdig
import Derived.Lib.ItoaMem
namespace Go.Proofs.YtggaakjimkfliaaDoor
set_option linter.unusedSimpArgs false
set_option linter.unusedVariables false
open Go.RowKit

/-- the number that digits tell. -/
def dval (l : List UInt8) : Nat := l.foldl (fun a d => a * 10 + (d.toNat - 48)) 0
theorem dval_snoc (l : List UInt8) (d : UInt8) : dval (l ++ [d]) = dval l * 10 + (d.toNat - 48) := by simp [dval]
theorem dval_dec (n : Nat) : dval (Lib.decDigits n) = n := by
  induction n using Nat.strongRecOn with
  | _ n ih =>
    by_cases h : n < 10
    · rw [Lib.decDigits, dif_pos h]
      have : (UInt8.ofNat (48 + n)).toNat = 48 + n := by rw [UInt8.toNat_ofNat']; omega
      simp only [dval, List.foldl_cons, List.foldl_nil, this]
      omega
    · rw [Lib.decDigits, dif_neg h, dval_snoc, ih _ (by omega)]
      have : (UInt8.ofNat (48 + n % 10)).toNat = 48 + n % 10 := by rw [UInt8.toNat_ofNat']; omega
      rw [this]
      omega
theorem dec_inj {n m : Nat} (h : Lib.decDigits n = Lib.decDigits m) : n = m := by rw [← dval_dec n, h, dval_dec]
/-- is it a small letter? -/
def letB (c : UInt8) : Bool := decide (97 ≤ c.toNat) && decide (c.toNat ≤ 122)
theorem letters_split : ∀ (a b : List UInt8) (c d : UInt8) (r s : List UInt8), a.all letB = true → b.all letB = true → letB c = false → letB d = false → a ++ c :: r = b ++ d :: s → a = b ∧ c = d ∧ r = s
  | [], [], c, d, r, s, _, _, _, _, h => by simp at h; exact ⟨rfl, h.1, h.2⟩
  | [], y :: b, c, d, r, s, _, hb, hc, _, h => by
    simp at h
    rw [h.1] at hc
    simp at hb
    rw [hb.1] at hc
    cases hc
  | x :: a, [], c, d, r, s, ha, _, _, hd, h => by
    simp at h
    rw [← h.1] at hd
    simp at ha
    rw [ha.1] at hd
    cases hd
  | x :: a, y :: b, c, d, r, s, ha, hb, hc, hd, h => by
    simp at h ha hb
    obtain ⟨h1, h2, h3⟩ := letters_split a b c d r s (by simpa using ha.2) (by simpa using hb.2) hc hd h.2
    exact ⟨by rw [h.1, h1], h2, h3⟩
/-- what is done, as bytes. -/
def deedL (k : Int) (key val dig : List UInt8) : List UInt8 :=
  if k = 0 then [82, 101, 97, 100, 40] ++ (key ++ [41])
  else if k = 1 then [87, 114, 105, 116, 101, 40] ++ (key ++ ([61] ++ (val ++ [41])))
  else if k = 2 then [65, 100, 100, 40] ++ (key ++ ([43] ++ (dig ++ [41])))
  else if k = 3 then [84, 97, 107, 101, 40] ++ (key ++ ([45] ++ (dig ++ [41])))
  else if k = 4 then [69, 114, 97, 115, 101, 40] ++ (key ++ [41])
  else [63]
theorem deedL_inj {k j : Int} {key val dig key' val' dig' : List UInt8} (hk : 0 ≤ k ∧ k ≤ 4) (hj : 0 ≤ j ∧ j ≤ 4) (h1 : key.all letB = true) (h2 : key'.all letB = true) (h3 : val.all letB = true) (h4 : val'.all letB = true)
    (h : deedL k key val dig = deedL j key' val' dig') : k = j ∧ key = key' ∧ (k = 1 → val = val') ∧ (k = 2 ∨ k = 3 → dig = dig') := by
  have ek : k = 0 ∨ k = 1 ∨ k = 2 ∨ k = 3 ∨ k = 4 := by omega
  have ej : j = 0 ∨ j = 1 ∨ j = 2 ∨ j = 3 ∨ j = 4 := by omega
  rcases ek with rfl | rfl | rfl | rfl | rfl <;> rcases ej with rfl | rfl | rfl | rfl | rfl <;> simp [deedL] at h
  · obtain ⟨a, _, _⟩ := letters_split key key' 41 41 [] [] h1 h2 (by decide) (by decide) (by rw [h])
    exact ⟨rfl, a, by omega, by omega⟩
  · obtain ⟨a, _, b⟩ := letters_split key key' 61 61 _ _ h1 h2 (by decide) (by decide) h
    obtain ⟨c, _, _⟩ := letters_split val val' 41 41 [] [] h3 h4 (by decide) (by decide) b
    exact ⟨rfl, a, fun _ => c, by omega⟩
  · obtain ⟨a, _, b⟩ := letters_split key key' 43 43 _ _ h1 h2 (by decide) (by decide) h
    exact ⟨rfl, a, by omega, fun _ => List.append_cancel_right b⟩
  · obtain ⟨a, _, b⟩ := letters_split key key' 45 45 _ _ h1 h2 (by decide) (by decide) h
    exact ⟨rfl, a, by omega, fun _ => List.append_cancel_right b⟩
  · obtain ⟨a, _, _⟩ := letters_split key key' 41 41 [] [] h1 h2 (by decide) (by decide) (by rw [h])
    exact ⟨rfl, a, by omega, by omega⟩

theorem showB_list (g k n : Int) (key val : ByteArray) : (showB g k n key val).data.toList = (digB g).data.toList ++ (58 :: deedL k key.data.toList val.data.toList (digB n).data.toList) := by
  unfold showB deedB deedL
  repeat' split
  all_goals simp
theorem rP_parts {g k n : Int} {key val : ByteArray} (h : rP g k n key val = true) : g < 4 ∧ k ≤ 4 ∧ (k = 1 ∨ val.size = 0) ∧ 0 ≤ n ∧ (k = 2 ∨ k = 3 ∨ n = 0) := by
  simp [rP, -ByteArray.size_eq_zero_iff] at h
  omega
theorem digB_list {n : Int} (h : 0 ≤ n) : (digB n).data.toList = Lib.decDigits n.toNat := by
  obtain ⟨m, rfl⟩ : ∃ m : Nat, n = m := ⟨n.toNat, by omega⟩
  simp [digB, Lib.itoa_nonneg]
theorem ba_eq {a b : ByteArray} (h : a.data.toList = b.data.toList) : a = b := ByteArray.ext (Array.ext' h)
theorem shown_inj (x y : P5) (hx : x.r = true) (hy : y.r = true) (Rx : x.Rng) (Ry : y.Rng) (lx : (x.key ++ x.val).data.toList.all letB = true) (ly : (y.key ++ y.val).data.toList.all letB = true)
    (h : showB x.g x.k x.n x.key x.val = showB y.g y.k y.n y.key y.val) : x = y := by
  obtain ⟨a1, a2, a3, a4, a5⟩ := rP_parts hx
  obtain ⟨b1, b2, b3, b4, b5⟩ := rP_parts hy
  have hl := congrArg (fun b => b.data.toList) h
  simp only [showB_list] at hl
  rw [digB_small x.g Rx.g.1 (by omega), digB_small y.g Ry.g.1 (by omega)] at hl
  simp at hl
  obtain ⟨hg, hd⟩ := hl
  have eg : x.g = y.g := by
    have h1 := Rx.g.1
    have h2 := Ry.g.1
    have := congrArg UInt8.toNat hg
    simp at this
    omega
  rw [show (x.key ++ x.val).data.toList = x.key.data.toList ++ x.val.data.toList by simp, List.all_append, Bool.and_eq_true] at lx
  rw [show (y.key ++ y.val).data.toList = y.key.data.toList ++ y.val.data.toList by simp, List.all_append, Bool.and_eq_true] at ly
  obtain ⟨ek, ekey, ev, ed⟩ := deedL_inj ⟨Rx.k.1, a2⟩ ⟨Ry.k.1, b2⟩ lx.1 ly.1 lx.2 ly.2 hd
  have ekey' := ba_eq ekey
  have ev' : x.val = y.val := by
    by_cases hk : x.k = 1
    · exact ba_eq (ev hk)
    · have s1 : x.val.size = 0 := by omega
      have s2 : y.val.size = 0 := by omega
      rw [ByteArray.size_eq_zero_iff] at s1 s2
      rw [s1, s2]
  have en : x.n = y.n := by
    by_cases hk : x.k = 2 ∨ x.k = 3
    · have := ed hk
      rw [digB_list a4, digB_list b4] at this
      have := dec_inj this
      omega
    · omega
  cases x; cases y
  simp at eg ek ekey' ev' en ⊢
  exact ⟨eg, ek, ekey', ev', en⟩

end Go.Proofs.YtggaakjimkfliaaDoor
