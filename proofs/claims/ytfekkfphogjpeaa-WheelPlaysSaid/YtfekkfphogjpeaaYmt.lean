/-
  The plain mathematics of keys and timers: their order is the order of lists of numbers. Condition: each number fits its kind.
-/
import Derived.Test.YtfekkfphogjpeaaMath
import Derived.Test.YtfekkfphogjpeaaStp
namespace Go.Proofs.Ytfekkfphogjpeaa
set_option linter.unusedSimpArgs false
set_option linter.unusedVariables false
open Go.RowKit

/-- lists of numbers, a beginning ahead. -/
def lc : List Int → List Int → Int
  | [], [] => 0
  | [], _ :: _ => -1
  | _ :: _, [] => 1
  | a :: r, b :: t => or2 (sgn a b) (lc r t)

theorem sgn_cases (a b : Int) : (a < b ∧ sgn a b = -1) ∨ (a = b ∧ sgn a b = 0) ∨ (b < a ∧ sgn a b = 1) := by
  rcases Int.lt_trichotomy a b with h | h | h
  · exact .inl ⟨h, sgn_lt h⟩
  · exact .inr (.inl ⟨h, sgn_zero.2 h⟩)
  · exact .inr (.inr ⟨h, sgn_gt h⟩)

theorem lc_cons (a b : Int) (r t : List Int) : (a < b ∧ lc (a :: r) (b :: t) = -1) ∨ (a = b ∧ lc (a :: r) (b :: t) = lc r t) ∨ (b < a ∧ lc (a :: r) (b :: t) = 1) := by
  rcases sgn_cases a b with ⟨h, e⟩ | ⟨h, e⟩ | ⟨h, e⟩
  · exact .inl ⟨h, by rw [lc, e]; rfl⟩
  · exact .inr (.inl ⟨h, by rw [lc, e, or2_zero]⟩)
  · exact .inr (.inr ⟨h, by rw [lc, e]; rfl⟩)

theorem lc_anti : ∀ (u v : List Int), lc v u = - lc u v
  | [], [] => by simp [lc]
  | [], _ :: _ => by simp [lc]
  | _ :: _, [] => by simp [lc]
  | a :: r, b :: t => by
    have ih := lc_anti r t
    rcases lc_cons a b r t with ⟨h, e⟩ | ⟨h, e⟩ | ⟨h, e⟩ <;> rcases lc_cons b a t r with ⟨k, f⟩ | ⟨k, f⟩ | ⟨k, f⟩ <;> rw [e, f] <;> omega

theorem lc_range : ∀ (u v : List Int), lc u v = -1 ∨ lc u v = 0 ∨ lc u v = 1
  | [], [] => by simp [lc]
  | [], _ :: _ => by simp [lc]
  | _ :: _, [] => by simp [lc]
  | a :: r, b :: t => by
    have ih := lc_range r t
    rcases lc_cons a b r t with ⟨_, e⟩ | ⟨_, e⟩ | ⟨_, e⟩ <;> rw [e] <;> omega

theorem lc_trans : ∀ (u v w : List Int), lc u v ≤ 0 → lc v w ≤ 0 → lc u w ≤ 0
  | [], _, [] => by simp [lc]
  | [], _, _ :: _ => by simp [lc]
  | _ :: _, [], _ => by simp [lc]
  | _ :: _, _ :: _, [] => by simp [lc]
  | a :: r, b :: t, c :: q => by
    have ih := lc_trans r t q
    intro h1 h2
    rcases lc_cons a b r t with ⟨h, e⟩ | ⟨h, e⟩ | ⟨h, e⟩ <;> rcases lc_cons b c t q with ⟨k, f⟩ | ⟨k, f⟩ | ⟨k, f⟩ <;> rcases lc_cons a c r q with ⟨m, g⟩ | ⟨m, g⟩ | ⟨m, g⟩ <;> rw [e] at h1 <;> rw [f] at h2 <;> rw [g] <;> omega

theorem or2_assoc (a b c : Int) : or2 (or2 a b) c = or2 a (or2 b c) := by
  by_cases h : a = 0 <;> simp [or2, h]
theorem or2_eq0 {a b : Int} : or2 a b = 0 ↔ a = 0 ∧ b = 0 := by
  unfold or2
  split
  · rename_i h; simp [h]
  · rename_i h; simp [h]
theorem or2_neg (b : Int) : or2 (-1) b = -1 := by simp [or2]
theorem or2_pos (b : Int) : or2 1 b = 1 := by simp [or2]

/-- each number of an identifier fits its kind. -/
structure I10.Rng (x : I10) : Prop where
  n : 0 ≤ x.n ∧ x.n ≤ 255
  l : 0 ≤ x.l ∧ x.l ≤ 65535
  s : 0 ≤ x.s ∧ x.s ≤ 4294967295
  d : 0 ≤ x.d ∧ x.d ≤ 255
  a0 : 0 ≤ x.a0 ∧ x.a0 ≤ 255
  a1 : 0 ≤ x.a1 ∧ x.a1 ≤ 255
  b0 : 0 ≤ x.b0 ∧ x.b0 ≤ 255
  b1 : 0 ≤ x.b1 ∧ x.b1 ≤ 255
  c0 : 0 ≤ x.c0 ∧ x.c0 ≤ 255
  c1 : 0 ≤ x.c1 ∧ x.c1 ≤ 255

/-- two identifiers held against each other. -/
def I10.cmp (x y : I10) : Int := ci x.n x.l x.s x.d x.a0 x.a1 x.b0 x.b1 x.c0 x.c1 y.n y.l y.s y.d y.a0 y.a1 y.b0 y.b1 y.c0 y.c1
/-- the steps that count. -/
def I10.pre (x : I10) : List Int := if x.d ≤ 0 then [] else if x.d ≤ 1 then [x.a0 + 1, x.a1] else if x.d ≤ 2 then [x.a0 + 1, x.a1, x.b0 + 1, x.b1] else [x.a0 + 1, x.a1, x.b0 + 1, x.b1, x.c0 + 1, x.c1]
/-- the numbers by which any identifier is ordered. -/
def I10.num (x : I10) : List Int := x.n :: x.l :: x.s :: (x.pre ++ [0, x.d, x.a0, x.a1, x.b0, x.b1, x.c0, x.c1])

theorem sgn_succ (a b : Int) : sgn (a + 1) (b + 1) = sgn a b := by
  rcases sgn_cases a b with ⟨h, e⟩ | ⟨h, e⟩ | ⟨h, e⟩
  · rw [e]; exact sgn_lt (by omega)
  · rw [e, h]; exact sgn_self _
  · rw [e]; exact sgn_gt (by omega)
theorem sgn_zs {b : Int} (h : 0 ≤ b) : sgn 0 (b + 1) = -1 := sgn_lt (by omega)
theorem sgn_sz {a : Int} (h : 0 ≤ a) : sgn (a + 1) 0 = 1 := sgn_gt (by omega)
theorem pre0 {x : I10} (h : x.d ≤ 0) : x.pre = [] := by simp [I10.pre, h]
theorem pre1 {x : I10} (h : x.d = 1) : x.pre = [x.a0 + 1, x.a1] := by simp [I10.pre, h]
theorem pre2 {x : I10} (h : x.d = 2) : x.pre = [x.a0 + 1, x.a1, x.b0 + 1, x.b1] := by simp [I10.pre, h]
theorem pre3 {x : I10} (h : 3 ≤ x.d) : x.pre = [x.a0 + 1, x.a1, x.b0 + 1, x.b1, x.c0 + 1, x.c1] := by
  unfold I10.pre
  rw [if_neg (by omega), if_neg (by omega), if_neg (by omega)]
theorem cls {d : Int} (h : 0 ≤ d) : d = 0 ∨ d = 1 ∨ d = 2 ∨ 3 ≤ d := by omega

theorem cmp_num {x y : I10} (hx : x.Rng) (hy : y.Rng) : x.cmp y = lc x.num y.num := by
  have e : ∀ m, mn x.d y.d = m → x.cmp y = or2 (sgn x.n y.n) (or2 (sgn x.l y.l) (or2 (sgn x.s y.s) (or2 (cf m (cs x.a0 x.a1 y.a0 y.a1) (cs x.b0 x.b1 y.b0 y.b1) (cs x.c0 x.c1 y.c0 y.c1)) (or2 (sgn x.d y.d) (cf 3 (cs x.a0 x.a1 y.a0 y.a1) (cs x.b0 x.b1 y.b0 y.b1) (cs x.c0 x.c1 y.c0 y.c1)))))) := by
    rintro m rfl
    unfold I10.cmp ci cp
    rw [or2_assoc]
  have f : lc x.num y.num = or2 (sgn x.n y.n) (or2 (sgn x.l y.l) (or2 (sgn x.s y.s) (lc (x.pre ++ [0, x.d, x.a0, x.a1, x.b0, x.b1, x.c0, x.c1]) (y.pre ++ [0, y.d, y.a0, y.a1, y.b0, y.b1, y.c0, y.c1])))) := rfl
  rw [f]
  have hx0 := hx.a0.1
  have hx1 := hx.b0.1
  have hx2 := hx.c0.1
  have hy0 := hy.a0.1
  have hy1 := hy.b0.1
  have hy2 := hy.c0.1
  have s0 : sgn 0 0 = 0 := sgn_self 0
  rcases cls hx.d.1 with h | h | h | h <;> rcases cls hy.d.1 with k | k | k | k
  · rw [e 0 (by unfold mn; omega), pre0 (by omega), pre0 (by omega), h, k]
    simp [lc, cf, cs, s0, or2_zero, or2_assoc, or2_self]
  · rw [e 0 (by unfold mn; omega), pre0 (by omega), pre1 k, sgn_lt (show x.d < y.d by omega)]
    simp [lc, cf, cs, s0, or2_zero, or2_assoc, sgn_zs hy0, or2_neg]
  · rw [e 0 (by unfold mn; omega), pre0 (by omega), pre2 k, sgn_lt (show x.d < y.d by omega)]
    simp [lc, cf, cs, s0, or2_zero, or2_assoc, sgn_zs hy0, or2_neg]
  · rw [e 0 (by unfold mn; omega), pre0 (by omega), pre3 k, sgn_lt (show x.d < y.d by omega)]
    simp [lc, cf, cs, s0, or2_zero, or2_assoc, sgn_zs hy0, or2_neg]
  · rw [e 0 (by unfold mn; omega), pre1 h, pre0 (by omega), sgn_gt (show y.d < x.d by omega)]
    simp [lc, cf, cs, s0, or2_zero, or2_assoc, sgn_sz hx0, or2_pos]
  · rw [e 1 (by unfold mn; omega), pre1 h, pre1 k, h, k]
    simp [lc, cf, cs, s0, or2_zero, or2_assoc, sgn_succ, sgn_self, or2_self]
  · rw [e 1 (by unfold mn; omega), pre1 h, pre2 k, sgn_lt (show x.d < y.d by omega)]
    simp [lc, cf, cs, s0, or2_zero, or2_assoc, sgn_succ, sgn_zs hy1, or2_neg]
  · rw [e 1 (by unfold mn; omega), pre1 h, pre3 k, sgn_lt (show x.d < y.d by omega)]
    simp [lc, cf, cs, s0, or2_zero, or2_assoc, sgn_succ, sgn_zs hy1, or2_neg]
  · rw [e 0 (by unfold mn; omega), pre2 h, pre0 (by omega), sgn_gt (show y.d < x.d by omega)]
    simp [lc, cf, cs, s0, or2_zero, or2_assoc, sgn_sz hx0, or2_pos]
  · rw [e 1 (by unfold mn; omega), pre2 h, pre1 k, sgn_gt (show y.d < x.d by omega)]
    simp [lc, cf, cs, s0, or2_zero, or2_assoc, sgn_succ, sgn_sz hx1, or2_pos]
  · rw [e 2 (by unfold mn; omega), pre2 h, pre2 k, h, k]
    simp [lc, cf, cs, s0, or2_zero, or2_assoc, sgn_succ, sgn_self, or2_self]
  · rw [e 2 (by unfold mn; omega), pre2 h, pre3 k, sgn_lt (show x.d < y.d by omega)]
    simp [lc, cf, cs, s0, or2_zero, or2_assoc, sgn_succ, sgn_zs hy2, or2_neg]
  · rw [e 0 (by unfold mn; omega), pre3 h, pre0 (by omega), sgn_gt (show y.d < x.d by omega)]
    simp [lc, cf, cs, s0, or2_zero, or2_assoc, sgn_sz hx0, or2_pos]
  · rw [e 1 (by unfold mn; omega), pre3 h, pre1 k, sgn_gt (show y.d < x.d by omega)]
    simp [lc, cf, cs, s0, or2_zero, or2_assoc, sgn_succ, sgn_sz hx1, or2_pos]
  · rw [e 2 (by unfold mn; omega), pre3 h, pre2 k, sgn_gt (show y.d < x.d by omega)]
    simp [lc, cf, cs, s0, or2_zero, or2_assoc, sgn_succ, sgn_sz hx2, or2_pos]
  · rw [e 3 (by unfold mn; omega), pre3 h, pre3 k]
    simp [lc, cf, cs, s0, or2_zero, or2_assoc, sgn_succ, sgn_self, or2_self]

theorem cmp_zero {x y : I10} : x.cmp y = 0 ↔ x = y := by
  constructor
  · intro h
    unfold I10.cmp ci at h
    rw [or2_eq0, or2_eq0, or2_eq0, or2_eq0, sgn_zero, sgn_zero, cp_zero] at h
    obtain ⟨⟨h1, h2⟩, h3, _, h4, h5⟩ := h
    have h6 : or2 (cs x.a0 x.a1 y.a0 y.a1) (or2 (cs x.b0 x.b1 y.b0 y.b1) (cs x.c0 x.c1 y.c0 y.c1)) = 0 := h5
    rw [or2_eq0, or2_eq0, cs_zero, cs_zero, cs_zero] at h6
    obtain ⟨⟨a, b⟩, ⟨c, d⟩, e, f⟩ := h6
    cases x
    cases y
    simp_all
  · rintro rfl
    unfold I10.cmp ci
    have c0 : ∀ a b, cs a b a b = 0 := fun a b => cs_self a b
    have c1 : cp x.n x.l x.n x.l = 0 := cp_zero.2 ⟨rfl, rfl⟩
    have h3 : ∀ k, k ≤ 3 → cf k 0 0 0 = 0 := fun k hk => cf_pre ⟨fun _ => rfl, fun _ => rfl, fun _ => rfl⟩ hk
    rw [c0, c0, c0, c1, h3 _ (mn_le _ _), h3 3 (Nat.le_refl _), sgn_self, sgn_self]
    simp [or2]

/-- a key. -/
structure K13 where
  k : Int
  pn : Int
  pl : Int
  x : I10
  deriving DecidableEq, Inhabited
/-- a key's cells. -/
def K13.cs (a : K13) : Array Value := #[.int .u8 a.k, .int .u8 a.pn, .int .u16 a.pl, .int .u8 a.x.n, .int .u16 a.x.l, .int .u32 a.x.s, .int .u8 a.x.d, .int .u8 a.x.a0, .int .u8 a.x.a1, .int .u8 a.x.b0, .int .u8 a.x.b1, .int .u8 a.x.c0, .int .u8 a.x.c1]
/-- each number of a key fits its kind. -/
structure K13.Rng (a : K13) : Prop where
  k : 0 ≤ a.k ∧ a.k ≤ 255
  pn : 0 ≤ a.pn ∧ a.pn ≤ 255
  pl : 0 ≤ a.pl ∧ a.pl ≤ 65535
  x : a.x.Rng
def K13.num (a : K13) : List Int := a.k :: a.pn :: a.pl :: a.x.num
/-- two keys held against each other. -/
def K13.cmp (a b : K13) : Int := or2 (sgn a.k b.k) (or2 (cp a.pn a.pl b.pn b.pl) (a.x.cmp b.x))
theorem kcmp_num {a b : K13} (ha : a.Rng) (hb : b.Rng) : a.cmp b = lc a.num b.num := by
  unfold K13.cmp K13.num cp
  rw [cmp_num ha.x hb.x, or2_assoc]
  rfl
theorem kcmp_zero {a b : K13} : a.cmp b = 0 ↔ a = b := by
  unfold K13.cmp
  rw [or2_eq0, or2_eq0, sgn_zero, cp_zero, cmp_zero]
  cases a
  cases b
  simp [and_assoc]
theorem kcmp_anti {a b : K13} (ha : a.Rng) (hb : b.Rng) : b.cmp a = - a.cmp b := by rw [kcmp_num ha hb, kcmp_num hb ha, lc_anti]

/-- a timer. -/
structure Tm where
  at_ : Int
  k : K13
  deriving DecidableEq, Inhabited
def Tm.num (t : Tm) : List Int := t.at_ :: t.k.num
/-- two timers held against each other: by their times, then by their keys. -/
def Tm.cmp (a b : Tm) : Int := or2 (sgn a.at_ b.at_) (a.k.cmp b.k)
theorem tcmp_num {a b : Tm} (ha : a.k.Rng) (hb : b.k.Rng) : a.cmp b = lc a.num b.num := by
  unfold Tm.cmp Tm.num
  rw [kcmp_num ha hb]
  rfl
theorem tcmp_zero {a b : Tm} : a.cmp b = 0 ↔ a = b := by
  unfold Tm.cmp
  rw [or2_eq0, sgn_zero, kcmp_zero]
  cases a
  cases b
  simp
theorem tcmp_anti {a b : Tm} (ha : a.k.Rng) (hb : b.k.Rng) : b.cmp a = - a.cmp b := by rw [tcmp_num ha hb, tcmp_num hb ha, lc_anti]
theorem tcmp_range {a b : Tm} (ha : a.k.Rng) (hb : b.k.Rng) : a.cmp b = -1 ∨ a.cmp b = 0 ∨ a.cmp b = 1 := by rw [tcmp_num ha hb]; exact lc_range _ _
theorem tcmp_trans {a b c : Tm} (ha : a.k.Rng) (hb : b.k.Rng) (hc : c.k.Rng) (h : a.cmp b ≤ 0) (k : b.cmp c ≤ 0) : a.cmp c ≤ 0 := by
  rw [tcmp_num ha hb] at h
  rw [tcmp_num hb hc] at k
  rw [tcmp_num ha hc]
  exact lc_trans _ _ _ h k
theorem tcmp_lt {a b c : Tm} (ha : a.k.Rng) (hb : b.k.Rng) (hc : c.k.Rng) (h : a.cmp b < 0) (k : b.cmp c < 0) : a.cmp c < 0 := by
  have h1 := tcmp_trans ha hb hc (by omega) (by omega)
  rcases Int.lt_or_eq_of_le h1 with h2 | h2
  · exact h2
  · have e := tcmp_zero.1 h2
    subst e
    have := tcmp_anti ha hb
    omega
theorem tcmp_at {a b : Tm} (h : a.cmp b ≤ 0) : a.at_ ≤ b.at_ := by
  unfold Tm.cmp at h
  rcases sgn_cases a.at_ b.at_ with ⟨h1, e⟩ | ⟨h1, e⟩ | ⟨h1, e⟩
  · omega
  · omega
  · rw [e, or2_pos] at h
    omega

end Go.Proofs.Ytfekkfphogjpeaa
