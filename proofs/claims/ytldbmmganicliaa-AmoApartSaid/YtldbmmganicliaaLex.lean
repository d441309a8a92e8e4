/-
  The plain mathematics of the order of right identifiers: it is the order of lists of numbers, where a beginning stands ahead. Condition: the identifiers are right.
-/
import Derived.Test.YtldbmmganicliaaStp
import Derived.Test.YtldbmmganicliaaMath
namespace Go.Proofs.Ytldbmmganicliaa
set_option linter.unusedSimpArgs false
set_option linter.unusedVariables false

/-- lists of numbers, a beginning ahead. -/
def lc : List Int → List Int → Int
  | [], [] => 0
  | [], _ :: _ => -1
  | _ :: _, [] => 1
  | a :: r, b :: t => or2 (sgn a b) (lc r t)

theorem sgn_cases (a b : Int) : (a < b ∧ sgn a b = -1) ∨ (a = b ∧ sgn a b = 0) ∨ (b < a ∧ sgn a b = 1) := by
  rcases Int.lt_trichotomy a b with h | h | h
  · exact .inl ⟨h, sgn_lt h⟩
  · exact .inr (.inl ⟨h, sgn_zero.2 h⟩)
  · exact .inr (.inr ⟨h, sgn_gt h⟩)

theorem lc_cons (a b : Int) (r t : List Int) : (a < b ∧ lc (a :: r) (b :: t) = -1) ∨ (a = b ∧ lc (a :: r) (b :: t) = lc r t) ∨ (b < a ∧ lc (a :: r) (b :: t) = 1) := by
  rcases sgn_cases a b with ⟨h, e⟩ | ⟨h, e⟩ | ⟨h, e⟩
  · exact .inl ⟨h, by rw [lc, e]; rfl⟩
  · exact .inr (.inl ⟨h, by rw [lc, e, or2_zero]⟩)
  · exact .inr (.inr ⟨h, by rw [lc, e]; rfl⟩)

theorem lc_zero : ∀ (u v : List Int), lc u v = 0 ↔ u = v
  | [], [] => by simp [lc]
  | [], _ :: _ => by simp [lc]
  | _ :: _, [] => by simp [lc]
  | a :: r, b :: t => by
    have ih := lc_zero r t
    rcases lc_cons a b r t with ⟨h, e⟩ | ⟨h, e⟩ | ⟨h, e⟩
    · rw [e]
      constructor
      · intro k; omega
      · intro k; injection k with k1 k2; omega
    · rw [e, ih, h]
      constructor
      · intro k; rw [k]
      · intro k; injection k
    · rw [e]
      constructor
      · intro k; omega
      · intro k; injection k with k1 k2; omega

theorem lc_anti : ∀ (u v : List Int), lc v u = - lc u v
  | [], [] => by simp [lc]
  | [], _ :: _ => by simp [lc]
  | _ :: _, [] => by simp [lc]
  | a :: r, b :: t => by
    have ih := lc_anti r t
    rcases lc_cons a b r t with ⟨h, e⟩ | ⟨h, e⟩ | ⟨h, e⟩ <;> rcases lc_cons b a t r with ⟨k, f⟩ | ⟨k, f⟩ | ⟨k, f⟩ <;> rw [e, f] <;> omega

theorem lc_range : ∀ (u v : List Int), lc u v = -1 ∨ lc u v = 0 ∨ lc u v = 1
  | [], [] => by simp [lc]
  | [], _ :: _ => by simp [lc]
  | _ :: _, [] => by simp [lc]
  | a :: r, b :: t => by
    have ih := lc_range r t
    rcases lc_cons a b r t with ⟨_, e⟩ | ⟨_, e⟩ | ⟨_, e⟩ <;> rw [e] <;> omega

theorem lc_trans : ∀ (u v w : List Int), lc u v ≤ 0 → lc v w ≤ 0 → lc u w ≤ 0
  | [], _, [] => by simp [lc]
  | [], _, _ :: _ => by simp [lc]
  | _ :: _, [], _ => by simp [lc]
  | _ :: _, _ :: _, [] => by simp [lc]
  | a :: r, b :: t, c :: q => by
    have ih := lc_trans r t q
    intro h1 h2
    rcases lc_cons a b r t with ⟨h, e⟩ | ⟨h, e⟩ | ⟨h, e⟩ <;> rcases lc_cons b c t q with ⟨k, f⟩ | ⟨k, f⟩ | ⟨k, f⟩ <;> rcases lc_cons a c r q with ⟨m, g⟩ | ⟨m, g⟩ | ⟨m, g⟩ <;> rw [e] at h1 <;> rw [f] at h2 <;> rw [g] <;> omega

/-- What is under z stands ahead of all others behind z. -/
theorem lc_under : ∀ (z r y : List Int), (∃ t, y = z ++ t) ∨ 0 < lc z y ∨ lc (z ++ r) y < 0
  | [], _, y => .inl ⟨y, rfl⟩
  | _ :: _, _, [] => .inr (.inl (by simp [lc]))
  | a :: z, r, b :: y => by
    have ih := lc_under z r y
    rcases lc_cons a b z y with ⟨h, e⟩ | ⟨h, e⟩ | ⟨h, e⟩
    · rcases lc_cons a b (z ++ r) y with ⟨k, f⟩ | ⟨k, f⟩ | ⟨k, f⟩
      · exact .inr (.inr (by rw [List.cons_append, f]; omega))
      · omega
      · omega
    · rcases lc_cons a b (z ++ r) y with ⟨k, f⟩ | ⟨k, f⟩ | ⟨k, f⟩
      · omega
      · rcases ih with ⟨t, ht⟩ | ih | ih
        · exact .inl ⟨t, by rw [h, ht]; rfl⟩
        · exact .inr (.inl (by rw [e]; exact ih))
        · exact .inr (.inr (by rw [List.cons_append, f]; exact ih))
      · omega
    · exact .inr (.inl (by rw [e]; omega))

theorem or2_assoc (a b c : Int) : or2 (or2 a b) c = or2 a (or2 b c) := by
  by_cases h : a = 0 <;> simp [or2, h]
theorem or2_idem (a : Int) : or2 a a = a := by
  unfold or2
  split <;> simp_all

/-- the numbers by which a right identifier is ordered. -/
def I10.key (x : I10) : List Int :=
  x.n :: x.l :: x.s :: ((if 0 < x.d then [x.a0, x.a1] else []) ++ ((if 1 < x.d then [x.b0, x.b1] else []) ++ (if 2 < x.d then [x.c0, x.c1] else [])))

/-- two identifiers held against each other. -/
def I10.cmp (x y : I10) : Int := ci x.n x.l x.s x.d x.a0 x.a1 x.b0 x.b1 x.c0 x.c1 y.n y.l y.s y.d y.a0 y.a1 y.b0 y.b1 y.c0 y.c1

/-- What is behind the steps is zero, and there are at most three. -/
structure I10.Fit (x : I10) : Prop where
  d0 : 0 ≤ x.d
  d3 : x.d ≤ 3
  a : x.d ≤ 0 → x.a0 = 0 ∧ x.a1 = 0
  b : x.d ≤ 1 → x.b0 = 0 ∧ x.b1 = 0
  c : x.d ≤ 2 → x.c0 = 0 ∧ x.c1 = 0

theorem fit_of_ok {x : I10} (h0 : 0 ≤ x.d) (h : x.ok = true) : x.Fit := by
  unfold I10.ok rI at h
  simp only [Bool.and_eq_true, decide_eq_true_eq] at h
  obtain ⟨⟨⟨⟨_, hd⟩, ha⟩, hb⟩, hc⟩ := h
  refine ⟨h0, hd, fun k => ?_, fun k => ?_, fun k => ?_⟩
  · rw [if_neg (by omega)] at ha
    simpa using ha
  · rw [if_neg (by omega)] at hb
    simpa using hb
  · rw [if_neg (by omega)] at hc
    simpa using hc

theorem cs_zeros : cs 0 0 0 0 = 0 := by decide

theorem cmp_key {x y : I10} (hx : x.Fit) (hy : y.Fit) : x.cmp y = lc x.key y.key := by
  obtain ⟨n, l, s, d, a0, a1, b0, b1, c0, c1⟩ := x
  obtain ⟨n', l', s', d', x0, x1, y0, y1, z0, z1⟩ := y
  obtain ⟨h0, h3, ha, hb, hc⟩ := hx
  obtain ⟨k0, k3, ka, kb, kc⟩ := hy
  dsimp only at *
  have hd : d = 0 ∨ d = 1 ∨ d = 2 ∨ d = 3 := by omega
  have kd : d' = 0 ∨ d' = 1 ∨ d' = 2 ∨ d' = 3 := by omega
  have m00 : mn 0 0 = 0 := rfl
  have m01 : mn 0 1 = 0 := rfl
  have m02 : mn 0 2 = 0 := rfl
  have m03 : mn 0 3 = 0 := rfl
  have m10 : mn 1 0 = 0 := rfl
  have m11 : mn 1 1 = 1 := rfl
  have m12 : mn 1 2 = 1 := rfl
  have m13 : mn 1 3 = 1 := rfl
  have m20 : mn 2 0 = 0 := rfl
  have m21 : mn 2 1 = 1 := rfl
  have m22 : mn 2 2 = 2 := rfl
  have m23 : mn 2 3 = 2 := rfl
  have m30 : mn 3 0 = 0 := rfl
  have m31 : mn 3 1 = 1 := rfl
  have m32 : mn 3 2 = 2 := rfl
  have m33 : mn 3 3 = 3 := rfl
  have q1 : ∀ b, or2 1 b = 1 := fun _ => rfl
  have q2 : ∀ b, or2 (-1) b = -1 := fun _ => rfl
  have s01 : sgn 0 1 = -1 := rfl
  have s02 : sgn 0 2 = -1 := rfl
  have s03 : sgn 0 3 = -1 := rfl
  have s12 : sgn 1 2 = -1 := rfl
  have s13 : sgn 1 3 = -1 := rfl
  have s23 : sgn 2 3 = -1 := rfl
  have s10 : sgn 1 0 = 1 := rfl
  have s20 : sgn 2 0 = 1 := rfl
  have s30 : sgn 3 0 = 1 := rfl
  have s21 : sgn 2 1 = 1 := rfl
  have s31 : sgn 3 1 = 1 := rfl
  have s32 : sgn 3 2 = 1 := rfl
  have f0 : ∀ A B C, cf 0 A B C = 0 := fun _ _ _ => rfl
  have f1 : ∀ A B C, cf 1 A B C = A := fun _ _ _ => rfl
  have f2 : ∀ A B C, cf 2 A B C = or2 A B := fun _ _ _ => rfl
  have f3 : ∀ A B C, cf 3 A B C = or2 A (or2 B C) := fun _ _ _ => rfl
  rcases hd with rfl | rfl | rfl | rfl <;> rcases kd with rfl | rfl | rfl | rfl
  all_goals
    simp only [Int.reduceLE, forall_const, false_implies, Int.le_refl] at ha hb hc ka kb kc
  all_goals
    simp only [I10.cmp, I10.key, ci, m00, m01, m02, m03, m10, m11, m12, m13, m20, m21, m22, m23, m30, m31, m32, m33, f0, f1, f2, f3, sgn_self, s01, s02, s03, s12, s13, s23, s10, s20, s30, s21, s31, s32, or2_zero, q1, q2, Int.reduceLT, if_true, if_false, List.nil_append, List.cons_append, List.append_nil, lc, *, cs_zeros, or2_self, or2_idem]
  all_goals simp only [cp, cs, or2_assoc, or2_self]

/-- all ten numbers are the same. -/
def eqI (x z : I10) : Bool := decide (x.n = z.n ∧ x.l = z.l ∧ x.s = z.s ∧ x.d = z.d ∧ x.a0 = z.a0 ∧ x.a1 = z.a1 ∧ x.b0 = z.b0 ∧ x.b1 = z.b1 ∧ x.c0 = z.c0 ∧ x.c1 = z.c1)
theorem eqI_iff {x z : I10} : eqI x z = true ↔ x = z := by
  obtain ⟨n, l, s, d, a0, a1, b0, b1, c0, c1⟩ := x
  obtain ⟨n', l', s', d', x0, x1, y0, y1, z0, z1⟩ := z
  simp [eqI]
/-- with k steps at most. -/
def I10.cut (x : I10) (k : Int) : I10 :=
  if x.d ≤ k then x else
  if k = 0 then ⟨x.n, x.l, x.s, 0, 0, 0, 0, 0, 0, 0⟩ else
  if k = 1 then ⟨x.n, x.l, x.s, 1, x.a0, x.a1, 0, 0, 0, 0⟩ else
  ⟨x.n, x.l, x.s, 2, x.a0, x.a1, x.b0, x.b1, 0, 0⟩
/-- is x z, or under it? -/
def und (x z : I10) : Bool := eqI (x.cut z.d) z

theorem und_key {x z : I10} (hx : x.Fit) (hz : z.Fit) : und x z = true ↔ ∃ t, x.key = z.key ++ t := by
  obtain ⟨n, l, s, d, a0, a1, b0, b1, c0, c1⟩ := x
  obtain ⟨n', l', s', d', x0, x1, y0, y1, z0, z1⟩ := z
  obtain ⟨h0, h3, ha, hb, hc⟩ := hx
  obtain ⟨k0, k3, ka, kb, kc⟩ := hz
  dsimp only at *
  have hd : d = 0 ∨ d = 1 ∨ d = 2 ∨ d = 3 := by omega
  have kd : d' = 0 ∨ d' = 1 ∨ d' = 2 ∨ d' = 3 := by omega
  rcases hd with rfl | rfl | rfl | rfl <;> rcases kd with rfl | rfl | rfl | rfl
  all_goals
    simp only [Int.reduceLE, forall_const, false_implies, Int.le_refl] at ha hb hc ka kb kc
  all_goals simp [und, eqI, I10.cut, I10.key, *]

theorem key_inj {x z : I10} (hx : x.Fit) (hz : z.Fit) (h : x.key = z.key) : x = z := by
  obtain ⟨n, l, s, d, a0, a1, b0, b1, c0, c1⟩ := x
  obtain ⟨n', l', s', d', x0, x1, y0, y1, z0, z1⟩ := z
  obtain ⟨h0, h3, ha, hb, hc⟩ := hx
  obtain ⟨k0, k3, ka, kb, kc⟩ := hz
  dsimp only at *
  have hd : d = 0 ∨ d = 1 ∨ d = 2 ∨ d = 3 := by omega
  have kd : d' = 0 ∨ d' = 1 ∨ d' = 2 ∨ d' = 3 := by omega
  rcases hd with rfl | rfl | rfl | rfl <;> rcases kd with rfl | rfl | rfl | rfl
  all_goals
    simp only [Int.reduceLE, forall_const, false_implies, Int.le_refl] at ha hb hc ka kb kc
  all_goals simp_all [I10.key]

theorem cmp_zero {x y : I10} (hx : x.Fit) (hy : y.Fit) : x.cmp y = 0 ↔ x = y := by
  rw [cmp_key hx hy, lc_zero]
  exact ⟨key_inj hx hy, fun h => by rw [h]⟩
theorem cmp_anti {x y : I10} (hx : x.Fit) (hy : y.Fit) : y.cmp x = - x.cmp y := by
  rw [cmp_key hx hy, cmp_key hy hx, lc_anti]
theorem cmp_trans {x y z : I10} (hx : x.Fit) (hy : y.Fit) (hz : z.Fit) (h1 : x.cmp y ≤ 0) (h2 : y.cmp z ≤ 0) : x.cmp z ≤ 0 := by
  rw [cmp_key hx hy] at h1
  rw [cmp_key hy hz] at h2
  rw [cmp_key hx hz]
  exact lc_trans _ _ _ h1 h2
theorem cmp_range {x y : I10} (hx : x.Fit) (hy : y.Fit) : x.cmp y = -1 ∨ x.cmp y = 0 ∨ x.cmp y = 1 := by
  rw [cmp_key hx hy]
  exact lc_range _ _
theorem cmp_under {x y z : I10} (hx : x.Fit) (hy : y.Fit) (hz : z.Fit) (h : und x z = true) : und y z = true ∨ 0 < z.cmp y ∨ x.cmp y < 0 := by
  obtain ⟨r, hr⟩ := (und_key hx hz).1 h
  rw [und_key hy hz, cmp_key hz hy, cmp_key hx hy, hr]
  exact lc_under z.key r y.key

end Go.Proofs.Ytldbmmganicliaa
