/-
  A view's orders side by side as plain states: what holds whatever is told, lost, doubled and late. No condition on any program.
-/
import Derived.Test.YtjdmjiikpnlkjaaRom
namespace Go.Proofs.Ytjdmjiikpnlkjaa
set_option linter.unusedSimpArgs false
set_option linter.unusedVariables false
open Go.RowKit Go.Maps Go.Sort
open V (P2)

/-- what is told, plainly. -/
structure Tp where
  to : Nat
  fr : Nat
  co : Nat
  X : List EV
/-- one of a row set anew. -/
def up {α : Type} (R : Nat → α) (x : Nat) (d : α) : Nat → α := fun i => if i = x then d else R i
theorem up_same {α : Type} (R : Nat → α) (x : Nat) (d : α) : up R x d x = d := by simp [up]
theorem up_ne {α : Type} (R : Nat → α) {x i : Nat} (d : α) (h : i ≠ x) : up R x d i = R i := by simp [up, h]
/-- how many of n have some. -/
def many (n : Nat) (p : Nat → Bool) : Nat := ((List.range n).filter p).length
theorem many_mono {n : Nat} {p q : Nat → Bool} (h : ∀ i, i < n → p i = true → q i = true) : many n p ≤ many n q := by
  unfold many
  have : ∀ L : List Nat, (∀ i ∈ L, i < n) → (L.filter p).length ≤ (L.filter q).length := by
    intro L
    induction L with
    | nil => intro _; exact Nat.le_refl _
    | cons a L ih =>
      intro hL
      have ih := ih fun i hi => hL i (List.mem_cons_of_mem _ hi)
      have ha := hL a (List.mem_cons_self ..)
      by_cases hp : p a = true
      · rw [List.filter_cons_of_pos hp, List.filter_cons_of_pos (h a ha hp)]
        simp
        exact ih
      · rw [List.filter_cons_of_neg hp]
        by_cases hq : q a = true
        · rw [List.filter_cons_of_pos hq, List.length_cons]
          omega
        · rw [List.filter_cons_of_neg hq]
          exact ih
  exact this _ fun i hi => List.mem_range.1 hi
theorem many_meet {n : Nat} {p q : Nat → Bool} (h : n < many n p + many n q) : ∃ i, i < n ∧ p i = true ∧ q i = true := by
  refine Classical.byContradiction fun hc => ?_
  have hno : ∀ i, i < n → p i = true → q i = true → False := fun i hi hp hq => hc ⟨i, hi, hp, hq⟩
  unfold many at h
  have : ∀ L : List Nat, (∀ i ∈ L, i < n) → (L.filter p).length + (L.filter q).length ≤ L.length := by
    intro L
    induction L with
    | nil => intro _; exact Nat.le_refl _
    | cons a L ih =>
      intro hL
      have ih := ih fun i hi => hL i (List.mem_cons_of_mem _ hi)
      have ha := hL a (List.mem_cons_self ..)
      by_cases hp : p a = true
      · have hq : ¬ q a = true := fun hq => hno a ha hp hq
        rw [List.filter_cons_of_pos hp, List.filter_cons_of_neg hq]
        simp
        omega
      · rw [List.filter_cons_of_neg hp]
        by_cases hq : q a = true
        · rw [List.filter_cons_of_pos hq]
          simp
          omega
        · rw [List.filter_cons_of_neg hq]
          simp
          omega
  have := this _ fun i hi => List.mem_range.1 hi
  rw [List.length_range] at this
  omega
/-- all have beginnings of the head's order, and none has more committed than it. -/
structure Inv (n : Nat) (R : Nat → Rd) (F : List Tp) : Prop where
  pos : 0 < n
  five : n ≤ 5
  M : ∀ i, i < n → (R i).M = mem n ∧ (R i).me = pr i ∧ (R i).base = 0
  pre : ∀ i, i < n → (R i).L = (R 0).L.take (R i).L.length
  com : ∀ i, i < n → (R i).commit ≤ (R i).L.length
  top : ∀ i, i < n → (R i).commit ≤ (R 0).commit
  told : ∀ i, i < n → 1 ≤ i → (R 0).T (pr i) ≤ (R i).L.length
  maj : (R 0).commit = 0 ∨ n / 2 + 1 ≤ many n fun i => decide ((R 0).commit ≤ (R i).L.length)
  fly : ∀ t ∈ F, (t.to = 0 → 1 ≤ t.co ∧ t.co < n ∧ t.fr ≤ (R t.co).L.length) ∧ (t.to ≠ 0 → t.to < n ∧ t.co ≤ (R 0).commit ∧ t.fr ≤ (R 0).L.length ∧ t.X = ((R 0).L.drop t.fr).take t.X.length)
theorem Inv.le {n : Nat} {R : Nat → Rd} {F : List Tp} (h : Inv n R F) {i : Nat} (hi : i < n) : (R i).L.length ≤ (R 0).L.length := by
  have := congrArg List.length (h.pre i hi)
  rw [List.length_take] at this
  omega
theorem Inv.head {n : Nat} {R : Nat → Rd} {F : List Tp} (h : Inv n R F) (d : Rd) (Y : List EV) (hM : d.M = (R 0).M) (hme : d.me = (R 0).me) (hb : d.base = (R 0).base) (hL : d.L = (R 0).L ++ Y) (hT : ∀ i, i < n → 1 ≤ i → d.T (pr i) ≤ (R i).L.length)
    (hc : (R 0).commit ≤ d.commit) (hc2 : d.commit ≤ d.L.length) (hmaj : d.commit = 0 ∨ n / 2 + 1 ≤ many n fun i => decide (d.commit ≤ (up R 0 d i).L.length)) : Inv n (up R 0 d) F := by
  have hlen : (R 0).L.length ≤ d.L.length := by rw [hL, List.length_append]; omega
  refine ⟨h.pos, h.five, fun i hi => ?_, fun i hi => ?_, fun i hi => ?_, fun i hi => ?_, fun i hi h1 => ?_, ?_, fun t ht => ⟨fun h0 => ?_, fun h0 => ?_⟩⟩
  · by_cases e : i = 0
    · subst e
      rw [up_same, hM, hme, hb]
      exact h.M 0 h.pos
    · rw [up_ne _ _ e]
      exact h.M i hi
  · rw [up_same]
    by_cases e : i = 0
    · subst e
      rw [up_same, List.take_length]
    · rw [up_ne _ _ e, hL, List.take_append_of_le_length (h.le hi)]
      exact h.pre i hi
  · by_cases e : i = 0
    · subst e
      rw [up_same]
      exact hc2
    · rw [up_ne _ _ e]
      exact h.com i hi
  · rw [up_same]
    by_cases e : i = 0
    · subst e
      rw [up_same]
      exact Nat.le_refl _
    · rw [up_ne _ _ e]
      exact Nat.le_trans (h.top i hi) hc
  · rw [up_same, up_ne _ _ (by omega)]
    exact hT i hi h1
  · rw [up_same]
    exact hmaj
  · obtain ⟨h1, h2, h3⟩ := (h.fly t ht).1 h0
    refine ⟨h1, h2, ?_⟩
    rw [up_ne _ _ (by omega)]
    exact h3
  · obtain ⟨h1, h2, h3, h4⟩ := (h.fly t ht).2 h0
    rw [up_same]
    refine ⟨h1, Nat.le_trans h2 hc, Nat.le_trans h3 hlen, ?_⟩
    have hl : t.X.length ≤ (R 0).L.length - t.fr := by
      have := congrArg List.length h4
      rw [List.length_take, List.length_drop] at this
      omega
    rw [hL, List.drop_append_of_le_length h3, List.take_append_of_le_length (by rw [List.length_drop]; exact hl)]
    exact h4
theorem Inv.member {n : Nat} {R : Nat → Rd} {F : List Tp} (h : Inv n R F) (x : Nat) (hx : x < n) (hx0 : x ≠ 0) (d : Rd) (hM : d.M = (R x).M) (hme : d.me = (R x).me) (hb : d.base = (R x).base) (hL : d.L = (R 0).L.take d.L.length) (hlen : (R x).L.length ≤ d.L.length)
    (hc : d.commit ≤ d.L.length) (hc2 : d.commit ≤ (R 0).commit) : Inv n (up R x d) F := by
  have h0 : up R x d 0 = R 0 := up_ne _ _ (Ne.symm hx0)
  refine ⟨h.pos, h.five, fun i hi => ?_, fun i hi => ?_, fun i hi => ?_, fun i hi => ?_, fun i hi h1 => ?_, ?_, fun t ht => ⟨fun h0' => ?_, fun h0' => ?_⟩⟩
  · by_cases e : i = x
    · subst e
      rw [up_same, hM, hme, hb]
      exact h.M i hi
    · rw [up_ne _ _ e]
      exact h.M i hi
  · rw [h0]
    by_cases e : i = x
    · subst e
      rw [up_same]
      exact hL
    · rw [up_ne _ _ e]
      exact h.pre i hi
  · by_cases e : i = x
    · subst e
      rw [up_same]
      exact hc
    · rw [up_ne _ _ e]
      exact h.com i hi
  · rw [h0]
    by_cases e : i = x
    · subst e
      rw [up_same]
      exact hc2
    · rw [up_ne _ _ e]
      exact h.top i hi
  · rw [h0]
    by_cases e : i = x
    · subst e
      rw [up_same]
      exact Nat.le_trans (h.told i hi h1) hlen
    · rw [up_ne _ _ e]
      exact h.told i hi h1
  · rw [h0]
    rcases h.maj with e | e
    · exact .inl e
    · refine .inr (Nat.le_trans e (many_mono fun i hi hp => ?_))
      simp only [decide_eq_true_eq] at hp ⊢
      by_cases e : i = x
      · subst e
        rw [up_same]
        omega
      · rw [up_ne _ _ e]
        exact hp
  · obtain ⟨h1, h2, h3⟩ := (h.fly t ht).1 h0'
    refine ⟨h1, h2, ?_⟩
    by_cases e : t.co = x
    · rw [e, up_same]
      rw [e] at h3
      omega
    · rw [up_ne _ _ e]
      exact h3
  · rw [h0]
    exact (h.fly t ht).2 h0'
theorem Inv.shut {n : Nat} {R : Nat → Rd} {F : List Tp} (h : Inv n R F) (x : Nat) (hx : x < n) : Inv n (up R x (R x).closed) F := by
  by_cases e : x = 0
  · subst e
    refine h.head _ [] rfl rfl rfl (by simp [Rd.closed]) (fun i hi h1 => h.told i hi h1) (Nat.le_refl _) (h.com 0 hx) ?_
    rcases h.maj with e | e
    · exact .inl e
    · refine .inr (Nat.le_trans e (many_mono fun i hi hp => ?_))
      simp only [decide_eq_true_eq] at hp ⊢
      show (R 0).commit ≤ _
      by_cases e : i = 0
      · subst e
        rw [up_same]
        exact hp
      · rw [up_ne _ _ e]
        exact hp
  · exact h.member x hx e _ rfl rfl rfl (h.pre x hx) (Nat.le_refl _) (h.com x hx) (h.top x hx)
theorem Inv.sub {n : Nat} {R : Nat → Rd} {F G : List Tp} (h : Inv n R F) (hs : ∀ t ∈ G, t ∈ F) : Inv n R G := ⟨h.pos, h.five, h.M, h.pre, h.com, h.top, h.told, h.maj, fun t ht => h.fly t (hs t ht)⟩
theorem Inv.lead0 {n : Nat} {R : Nat → Rd} {F : List Tp} (h : Inv n R F) : (R 0).lead = true := by
  obtain ⟨h1, h2, _⟩ := h.M 0 h.pos
  unfold Rd.lead
  rw [h1, h2]
  have : (mem n).head? = some (pr 0) := by
    cases n with
    | zero => exact absurd h.pos (by omega)
    | succ n => simp [mem, List.range_succ_eq_map]
  rw [this]
  simp
theorem Inv.leadx {n : Nat} {R : Nat → Rd} {F : List Tp} (h : Inv n R F) {x : Nat} (hx : x < n) (hx0 : x ≠ 0) : (R x).lead = false := by
  obtain ⟨h1, h2, _⟩ := h.M x hx
  unfold Rd.lead
  rw [h1, h2]
  have : (mem n).head? = some (pr 0) := by
    cases n with
    | zero => omega
    | succ n => simp [mem, List.range_succ_eq_map]
  rw [this]
  have : ¬ pr 0 = pr x := fun e => hx0 (pr_inj e).symm
  simp [this]
/-- counted anew, at the head. -/
theorem Inv.counted {n : Nat} {R : Nat → Rd} {F : List Tp} (h : Inv n R F) (d : Rd) (Y : List EV) (hM : d.M = (R 0).M) (hme : d.me = (R 0).me) (hb : d.base = (R 0).base) (hL : d.L = (R 0).L ++ Y) (hT : ∀ i, i < n → 1 ≤ i → d.T (pr i) ≤ (R i).L.length)
    (hcm : d.commit = (R 0).commit) (hl : d.L.length ≤ 400) (htl : d.top ≤ d.L.length) : Inv n (up R 0 d.counted) F := by
  obtain ⟨e1, e2, e3⟩ := h.M 0 h.pos
  have hlen : (R 0).L.length ≤ d.L.length := by rw [hL, List.length_append]; omega
  refine h.head d.counted Y hM hme hb hL hT (by show (R 0).commit ≤ max d.commit d.top; omega) (by show max d.commit d.top ≤ d.L.length; have := h.com 0 h.pos; omega) ?_
  show max d.commit d.top = 0 ∨ _
  have hgrow : ∀ i, i < n → (R i).L.length ≤ (up R 0 d.counted i).L.length := fun i hi => by
    by_cases e : i = 0
    · subst e
      rw [up_same]
      exact hlen
    · rw [up_ne _ _ e]
      exact Nat.le_refl _
  by_cases hm : d.top ≤ d.commit
  · have : max d.commit d.top = (R 0).commit := by omega
    rcases h.maj with e | e
    · exact .inl (by rw [this]; exact e)
    · refine .inr (Nat.le_trans e (many_mono fun i hi hp => ?_))
      simp only [decide_eq_true_eq] at hp ⊢
      show max d.commit d.top ≤ _
      rw [this]
      exact Nat.le_trans hp (hgrow i hi)
  · have hmx : max d.commit d.top = d.top := by omega
    right
    have ht : d.maj ≤ d.cnt d.top := by
      have := topN_is (fun y => decide (d.maj ≤ d.cnt y)) 400
      rcases this with e | e
      · exact absurd (show d.top = 0 from e) (by omega)
      · exact of_decide_eq_true e
    have hmaj : d.maj = n / 2 + 1 := by unfold Rd.maj; rw [hM, e1, mem_len]
    have hcnt : d.cnt d.top ≤ many n fun i => decide (d.top ≤ (up R 0 d.counted i).L.length) := by
      unfold Rd.cnt
      rw [hM, e1]
      unfold mem
      rw [List.filter_map, List.length_map]
      refine many_mono (p := fun i => decide (d.top ≤ d.has (pr i))) fun i hi hp => ?_
      simp only [decide_eq_true_eq] at hp ⊢
      refine Nat.le_trans hp ?_
      unfold Rd.has
      rw [hme, e2, hb, e3]
      by_cases e : i = 0
      · subst e
        rw [if_pos rfl, up_same]
        exact Nat.le_refl _
      · rw [if_neg (fun h => e (pr_inj h)), up_ne _ _ e, Nat.zero_max]
        exact hT i hi (by omega)
    show n / 2 + 1 ≤ many n fun i => decide (max d.commit d.top ≤ (up R 0 d.counted i).L.length)
    rw [hmx]
    omega
/-- what is taken is a beginning still. -/
theorem Inv.take {n : Nat} {R : Nat → Rd} {F : List Tp} (h : Inv n R F) (x : Nat) (hx : x < n) (hx0 : x ≠ 0) (fr co : Nat) (X : List EV) (hco : co ≤ (R 0).commit) (hfr : fr ≤ (R 0).L.length) (hX : X = ((R 0).L.drop fr).take X.length) : Inv n (up R x ((R x).take fr X co)) F := by
  unfold Rd.take
  by_cases hok : (R x).takeOk fr X.length = true
  · rw [if_pos hok]
    have hok2 : fr ≤ (R x).L.length := by
      unfold Rd.takeOk at hok
      simp only [Bool.and_eq_true, decide_eq_true_eq] at hok
      omega
    have hle := h.le hx
    have hXl : X.length ≤ (R 0).L.length - fr := by
      have := congrArg List.length hX
      rw [List.length_take, List.length_drop] at this
      omega
    unfold Rd.takeY
    have hfc : ((fr : Nat) : Int).toNat = fr := by omega
    rw [hfc]
    by_cases hc : (!(R x).shut && decide ((R x).L.length - fr < X.length)) = true
    · rw [if_pos hc]
      have hlt : (R x).L.length - fr < X.length := by
        simp only [Bool.and_eq_true, decide_eq_true_eq] at hc
        exact hc.2
      have hnew : (R x).L ++ X.drop ((R x).L.length - fr) = (R 0).L.take (fr + X.length) := by
        have e1 : X.drop ((R x).L.length - fr) = ((R 0).L.drop (R x).L.length).take (fr + X.length - (R x).L.length) := by
          rw [hX, List.drop_take, List.drop_drop]
          rw [← hX]
          congr 1
          · omega
          · congr 1
            omega
        rw [e1, h.pre x hx, List.length_take, Nat.min_eq_left hle]
        have : fr + X.length = (R x).L.length + (fr + X.length - (R x).L.length) := by omega
        rw [this, List.take_add]
        congr 2
        omega
      have hl : ((R x).L ++ X.drop ((R x).L.length - fr)).length = fr + X.length := by rw [hnew, List.length_take]; omega
      refine h.member x hx hx0 _ rfl rfl rfl ?_ ?_ ?_ ?_
      · show (R x).L ++ X.drop ((R x).L.length - fr) = (R 0).L.take ((R x).L ++ X.drop ((R x).L.length - fr)).length
        rw [hl]
        exact hnew
      · show (R x).L.length ≤ ((R x).L ++ X.drop ((R x).L.length - fr)).length
        rw [hl]
        omega
      · show max (R x).commit (min ((co : Nat) : Int).toNat ((R x).L ++ X.drop ((R x).L.length - fr)).length) ≤ ((R x).L ++ X.drop ((R x).L.length - fr)).length
        rw [hl]
        have := h.com x hx
        omega
      · show max (R x).commit (min ((co : Nat) : Int).toNat ((R x).L ++ X.drop ((R x).L.length - fr)).length) ≤ (R 0).commit
        rw [hl]
        have := h.top x hx
        omega
    · rw [if_neg hc]
      refine h.member x hx hx0 _ rfl rfl rfl (h.pre x hx) (Nat.le_refl _) ?_ ?_
      · show max (R x).commit (min ((co : Nat) : Int).toNat (R x).L.length) ≤ (R x).L.length
        have := h.com x hx
        omega
      · show max (R x).commit (min ((co : Nat) : Int).toNat (R x).L.length) ≤ (R 0).commit
        have := h.top x hx
        omega
  · rw [if_neg hok]
    exact h.member x hx hx0 _ rfl rfl rfl (h.pre x hx) (Nat.le_refl _) (h.com x hx) (h.top x hx)
/-- what a step leaves as it was. -/
def Held (n : Nat) (R R' : Nat → Rd) : Prop := ∀ i, i < n → ((R i).shut = true → (R' i).shut = true ∧ (R' i).L.length = (R i).L.length) ∧ (R' i).k ≤ (R i).k + 1
theorem Held.refl (n : Nat) (R : Nat → Rd) : Held n R R := fun i _ => ⟨fun h => ⟨h, rfl⟩, Nat.le_succ _⟩
theorem Held.up {n : Nat} {R : Nat → Rd} {x : Nat} {d : Rd} (h : (R x).shut = true → d.shut = true ∧ d.L.length = (R x).L.length) (hk : d.k ≤ (R x).k + 1) : Held n R (up R x d) := fun i hi => by
  by_cases e : i = x
  · subst e
    rw [up_same]
    exact ⟨h, hk⟩
  · rw [up_ne _ _ e]
    exact ⟨fun h => ⟨h, rfl⟩, Nat.le_succ _⟩
theorem addD_held (d : Rd) (rb : Bool) (v : EV) : (d.shut = true → (d.addD rb v).shut = true ∧ (d.addD rb v).L.length = d.L.length) ∧ (d.addD rb v).k ≤ d.k + 1 := by
  unfold Rd.addD
  split
  · rename_i h
    refine ⟨fun hs => ?_, Nat.le_succ _⟩
    rw [hs] at h
    simp at h
  · exact ⟨fun h => ⟨h, rfl⟩, Nat.le_succ _⟩
theorem acked_held (d : Rd) (p : P2) (u : Int) : (d.shut = true → (d.acked p u).shut = true ∧ (d.acked p u).L.length = d.L.length) ∧ (d.acked p u).k ≤ d.k + 1 := by
  unfold Rd.acked
  split
  · exact ⟨fun h => ⟨h, rfl⟩, Nat.le_refl _⟩
  · exact ⟨fun h => ⟨h, rfl⟩, Nat.le_succ _⟩
theorem take_held (d : Rd) (fr : Int) (X : List EV) (co : Int) : (d.shut = true → (d.take fr X co).shut = true ∧ (d.take fr X co).L.length = d.L.length) ∧ (d.take fr X co).k ≤ d.k + 1 := by
  unfold Rd.take
  split
  · refine ⟨fun h => ?_, ?_⟩
    · unfold Rd.takeY
      rw [if_neg (by rw [h]; simp)]
      exact ⟨h, rfl⟩
    · unfold Rd.takeY
      split
      · exact Nat.le_succ _
      · exact Nat.le_succ _
  · exact ⟨fun h => ⟨h, rfl⟩, Nat.le_succ _⟩
/-- of any majority that are shut, the longest has all that the head has committed. -/
theorem Inv.keeps {n : Nat} {R : Nat → Rd} {F : List Tp} (h : Inv n R F) (S : Nat → Bool) (lg : Nat) (hS : n < 2 * many n S) (hl : ∀ i, i < n → S i = true → (R i).L.length ≤ lg) : ∀ i, i < n → (R i).commit ≤ lg := by
  intro i hi
  refine Nat.le_trans (h.top i hi) ?_
  rcases h.maj with e | e
  · omega
  · obtain ⟨j, hj, h1, h2⟩ := many_meet (p := S) (q := fun i => decide ((R 0).commit ≤ (R i).L.length)) (show n < many n S + _ by omega)
    have h3 := hl j hj h1
    simp only [decide_eq_true_eq] at h2
    omega

end Go.Proofs.Ytjdmjiikpnlkjaa
