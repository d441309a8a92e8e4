/-
  The plain mathematics of the order of identifiers: signs, the first that is not zero. No condition.
-/
namespace Go.Proofs.Ytldbmmganicliaa

/-- which of two numbers is the lesser: -1, 0, 1. -/
def sgn (a b : Int) : Int := if a < b then -1 else if b < a then 1 else 0
/-- the first that is not zero. -/
def or2 (a b : Int) : Int := if a = 0 then b else a

theorem sgn_lt {a b : Int} (h : a < b) : sgn a b = -1 := by simp [sgn, h]
theorem sgn_gt {a b : Int} (h : b < a) : sgn a b = 1 := by
  have h1 : ¬ a < b := by omega
  simp [sgn, h, h1]
theorem sgn_self (a : Int) : sgn a a = 0 := by simp [sgn]
theorem sgn_zero {a b : Int} : sgn a b = 0 ↔ a = b := by
  unfold sgn
  split
  · constructor
    · intro h; omega
    · intro h; omega
  · split
    · constructor
      · intro h; omega
      · intro h; omega
    · constructor
      · intro h; omega
      · intro h; rfl
theorem sgn_ne {a b : Int} (h : ¬ a = b) : ¬ sgn a b = 0 := fun e => h (sgn_zero.1 e)
theorem or2_zero (b : Int) : or2 0 b = b := by simp [or2]
theorem or2_ne {a : Int} (b : Int) (h : ¬ a = 0) : or2 a b = a := by simp [or2, h]
theorem or2_self (a : Int) : or2 a 0 = a := by
  unfold or2
  split <;> simp_all

/-- two steps. -/
def cs (g i x y : Int) : Int := or2 (sgn g x) (sgn i y)
/-- two processes. -/
def cp (n l x y : Int) : Int := or2 (sgn n x) (sgn l y)
/-- the first k of three. -/
def cf (k : Nat) (a b c : Int) : Int := if k = 0 then 0 else if k = 1 then a else if k = 2 then or2 a b else or2 a (or2 b c)
/-- how many steps both have. -/
def mn (d e : Int) : Nat := (min (min d e) 3).toNat
/-- two identifiers. -/
def ci (n l s d a0 a1 b0 b1 c0 c1 n' l' s' d' x0 x1 y0 y1 z0 z1 : Int) : Int :=
  or2 (cp n l n' l') (or2 (sgn s s') (or2 (cf (mn d d') (cs a0 a1 x0 x1) (cs b0 b1 y0 y1) (cs c0 c1 z0 z1)) (or2 (sgn d d') (cf 3 (cs a0 a1 x0 x1) (cs b0 b1 y0 y1) (cs c0 c1 z0 z1)))))

theorem cs_zero {g i x y : Int} : cs g i x y = 0 ↔ g = x ∧ i = y := by
  unfold cs or2
  split
  · rename_i h
    rw [sgn_zero] at h
    rw [sgn_zero]
    exact ⟨fun e => ⟨h, e⟩, fun e => e.2⟩
  · rename_i h
    constructor
    · intro e; exact absurd e h
    · intro e; exact absurd (sgn_zero.2 e.1) h
theorem cp_zero {g i x y : Int} : cp g i x y = 0 ↔ g = x ∧ i = y := cs_zero
theorem mn_le (d e : Int) : mn d e ≤ 3 := by unfold mn; omega

/-- the first j steps are the same. -/
structure Pre (j : Nat) (A B C : Int) : Prop where
  p0 : 0 < j → A = 0
  p1 : 1 < j → B = 0
  p2 : 2 < j → C = 0
theorem pre_0 (A B C : Int) : Pre 0 A B C := ⟨fun h => absurd h (by omega), fun h => absurd h (by omega), fun h => absurd h (by omega)⟩
theorem pre_1 {A B C : Int} (h : A = 0) : Pre 1 A B C := ⟨fun _ => h, fun h => absurd h (by omega), fun h => absurd h (by omega)⟩
theorem pre_2 {A B C : Int} (h : Pre 1 A B C) (k : B = 0) : Pre 2 A B C := ⟨fun _ => h.p0 (by omega), fun _ => k, fun h => absurd h (by omega)⟩
theorem pre_3 {A B C : Int} (h : Pre 2 A B C) (k : C = 0) : Pre 3 A B C := ⟨fun _ => h.p0 (by omega), fun _ => h.p1 (by omega), fun _ => k⟩
theorem cf_pre {j : Nat} {A B C : Int} (h : Pre j A B C) (hj : j ≤ 3) : cf j A B C = 0 := by
  obtain ⟨h0, h1, h2⟩ := h
  have e : j = 0 ∨ j = 1 ∨ j = 2 ∨ j = 3 := by omega
  rcases e with rfl | rfl | rfl | rfl
  · rfl
  · simp [cf, h0]
  · simp [cf, or2, h0, h1]
  · simp [cf, or2, h0, h1, h2]
theorem cf_at0 {k : Nat} {A B C : Int} (hk : 0 < k) (h : ¬ A = 0) : cf k A B C = A := by
  unfold cf
  rw [if_neg (by omega)]
  split
  · rfl
  · split <;> simp [or2, h]
theorem cf_at1 {k : Nat} {A B C : Int} (hk : 1 < k) (h0 : A = 0) (h : ¬ B = 0) : cf k A B C = B := by
  unfold cf
  rw [if_neg (by omega), if_neg (by omega)]
  split <;> simp [or2, h0, h]
theorem cf_at2 {k : Nat} {A B C : Int} (hk : 2 < k) (h0 : A = 0) (h1 : B = 0) : cf k A B C = C := by
  unfold cf
  rw [if_neg (by omega), if_neg (by omega), if_neg (by omega)]
  simp [or2, h0, h1]
theorem cs_g {g i x y : Int} (h : ¬ g = x) : cs g i x y = sgn g x := by
  unfold cs
  rw [or2_ne _ (sgn_ne h)]
theorem cs_i (g : Int) {i y : Int} : cs g i g y = sgn i y := by
  unfold cs
  rw [sgn_self, or2_zero]
theorem cs_self (g i : Int) : cs g i g i = 0 := by rw [cs_i, sgn_self]
section
variable {n l s d a0 a1 b0 b1 c0 c1 n' l' s' d' x0 x1 y0 y1 z0 z1 : Int}
theorem ci_cp (h : ¬ cp n l n' l' = 0) : ci n l s d a0 a1 b0 b1 c0 c1 n' l' s' d' x0 x1 y0 y1 z0 z1 = cp n l n' l' := by
  unfold ci
  rw [or2_ne _ h]
theorem ci_s (h : cp n l n' l' = 0) (hs : ¬ s = s') : ci n l s d a0 a1 b0 b1 c0 c1 n' l' s' d' x0 x1 y0 y1 z0 z1 = sgn s s' := by
  unfold ci
  rw [h, or2_zero, or2_ne _ (sgn_ne hs)]
theorem ci_m (h : cp n l n' l' = 0) {v : Int} (hm : cf (mn d d') (cs a0 a1 x0 x1) (cs b0 b1 y0 y1) (cs c0 c1 z0 z1) = v) (hv : ¬ v = 0) : ci n l s d a0 a1 b0 b1 c0 c1 n' l' s d' x0 x1 y0 y1 z0 z1 = v := by
  unfold ci
  rw [h, or2_zero, sgn_self, or2_zero, hm, or2_ne _ hv]
theorem ci_d (h : cp n l n' l' = 0) (hm : cf (mn d d') (cs a0 a1 x0 x1) (cs b0 b1 y0 y1) (cs c0 c1 z0 z1) = 0) (hd : ¬ d = d') : ci n l s d a0 a1 b0 b1 c0 c1 n' l' s d' x0 x1 y0 y1 z0 z1 = sgn d d' := by
  unfold ci
  rw [h, or2_zero, sgn_self, or2_zero, hm, or2_zero, or2_ne _ (sgn_ne hd)]
theorem ci_3 (h : cp n l n' l' = 0) (hm : cf (mn d d) (cs a0 a1 x0 x1) (cs b0 b1 y0 y1) (cs c0 c1 z0 z1) = 0) {v : Int} (hv : cf 3 (cs a0 a1 x0 x1) (cs b0 b1 y0 y1) (cs c0 c1 z0 z1) = v) : ci n l s d a0 a1 b0 b1 c0 c1 n' l' s d x0 x1 y0 y1 z0 z1 = v := by
  unfold ci
  rw [h, or2_zero, sgn_self, or2_zero, hm, or2_zero, sgn_self, or2_zero, hv]
end

end Go.Proofs.Ytldbmmganicliaa
