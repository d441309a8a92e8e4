/-
  Both wheels' calls in one form; lists of keys. Condition: each number of a key fits its kind.
-/
import Derived.Test.YtfekkfphogjpeaaYar
import Derived.Test.YtfekkfphogjpeaaYdt
import Derived.Test.YtfekkfphogjpeaaYdv
import Derived.Test.YtfekkfphogjpeaaYdd
namespace Go.Proofs.Ytfekkfphogjpeaa
set_option linter.unusedSimpArgs false
set_option linter.unusedVariables false
open Go.RowKit Go.Maps Go.Sort

/-- is there room. -/
def setOk (most : Nat) (T : List Tm) (x : K13) : Bool := (T.any fun t => decide (t.k = x)) || decide (T.length < most)
def setE (most : Nat) (T : List Tm) (x : K13) : Int := if setOk most T x then 0 else 11
def setT (most : Nat) (T : List Tm) (t : Tm) : List Tm := if setOk most T t.k then t :: outK T t.k else T
theorem setOk_yes {most : Nat} {T : List Tm} {x : K13} (h : ∃ t ∈ T, t.k = x) : setOk most T x = true := by
  obtain ⟨t, ht, e⟩ := h
  have : (T.any fun t => decide (t.k = x)) = true := List.any_eq_true.2 ⟨t, ht, by simpa using e⟩
  simp [setOk, this]
theorem setOk_new {most : Nat} {T : List Tm} {x : K13} (h : T.length < most) : setOk most T x = true := by simp [setOk, h]
theorem setOk_no {most : Nat} {T : List Tm} {x : K13} (h : ∀ t ∈ T, t.k ≠ x) (hl : most ≤ T.length) : setOk most T x = false := by
  have h1 : (T.any fun t => decide (t.k = x)) = false := List.any_eq_false.2 fun t ht => by simpa using h t ht
  have h2 : ¬ T.length < most := by omega
  simp [setOk, h1, h2]
theorem setW (W : World) (b m c most : Nat) (T : List Tm) (x : K13) (at_ : Int) (rx : x.Rng) (h : PW W b m c most T) (hc : c < 1000000000) :
    Calls Try.prog 11 #[.pointer (some ⟨b, 0, none⟩), .agg x.cs, .int .i64 at_] W fun e W' => e = .returned (.int .i64 (setE most T x)) ∧ PW W' b m (c + 1) most (setT most T ⟨at_, x⟩) ∧ W.grownBy W' (some m) := by
  by_cases hx : ∃ t ∈ T, t.k = x
  · have e := setOk_yes (most := most) hx
    simp only [setE, setT, e, if_true]
    exact set_there W b m c most T x at_ rx h hc hx
  · have hx' : ∀ t ∈ T, t.k ≠ x := fun t ht e => hx ⟨t, ht, e⟩
    rcases Nat.lt_or_ge T.length most with hl | hl
    · have e := setOk_new (x := x) hl
      simp only [setE, setT, e, if_true]
      exact set_new W b m c most T x at_ rx h hc hx' hl
    · have e := setOk_no hx' hl
      simp only [setE, setT, e, if_false, Bool.false_eq_true]
      exact (set_full W b m c most T x at_ rx h hc hx' hl).mono fun e W' ⟨he, hb⟩ => ⟨he, (h.below hb).mono (by omega), grown_of_below hb _⟩
theorem setDW (W : World) (r most : Nat) (A : Option Addr) (c : Nat) (T : List Tm) (x : K13) (at_ : Int) (rx : x.Rng) (h : DW W r most A c T) :
    Calls Try.prog 13 #[.pointer (some ⟨r, 0, none⟩), .agg x.cs, .int .i64 at_] W fun e W' => e = .returned (.int .i64 (setE most T x)) ∧ ∃ A' c' T', DW W' r most A' c' T' ∧ T'.Perm (setT most T ⟨at_, x⟩) ∧ W.grownBy W' (some r) := by
  by_cases hx : ∃ t ∈ T, t.k = x
  · have e := setOk_yes (most := most) hx
    simp only [setE, setT, e, if_true]
    obtain ⟨t, ht, hk⟩ := hx
    obtain ⟨j, hj⟩ := List.getElem?_of_mem ht
    exact (setD_yes W r most A c T x at_ rx h j t hj hk).mono fun e W' ⟨he, A', c', i, hd, hg⟩ => ⟨he, A', c', _, hd, ins_perm _ _ _, hg⟩
  · have hx' : ∀ t ∈ T, t.k ≠ x := fun t ht e => hx ⟨t, ht, e⟩
    rcases Nat.lt_or_ge T.length most with hl | hl
    · have e := setOk_new (x := x) hl
      simp only [setE, setT, e, if_true]
      exact (setD_no W r most A c T x at_ rx h hx' hl).mono fun e W' ⟨he, A', c', i, hd, hg⟩ => ⟨he, A', c', _, hd, ins_perm _ _ _, hg⟩
    · have e := setOk_no hx' hl
      simp only [setE, setT, e, if_false, Bool.false_eq_true]
      exact (setD_full W r most A c T x at_ h hx' hl).mono fun e W' ⟨he, hb⟩ => ⟨he, A, c, T, h.below hb, List.Perm.refl _, grown_of_below hb _⟩
theorem cancelW (W : World) (b m c most : Nat) (T : List Tm) (x : K13) (rx : x.Rng) (h : PW W b m c most T) :
    Calls Try.prog 14 #[.pointer (some ⟨b, 0, none⟩), .agg x.cs] W fun e W' => e = .returned (.bool (fAt T x).2) ∧ PW W' b m c most (outK T x) ∧ W.grownBy W' (some m) := by
  by_cases hx : ∃ t ∈ T, t.k = x
  · have K := cancel_yes W b m c most T x rx h hx
    obtain ⟨t, ht, rfl⟩ := hx
    rw [fAt_yes h.apart ht]
    exact K
  · have hx' : ∀ t ∈ T, t.k ≠ x := fun t ht e => hx ⟨t, ht, e⟩
    rw [fAt_no hx', outK_none hx']
    exact (cancel_no W b m c most T x rx h hx').mono fun e W' ⟨he, hb⟩ => ⟨he, h.below hb, grown_of_below hb _⟩
theorem PW.noCells {W : World} {b m c most : Nat} {T : List Tm} (h : PW W b m c most T) (cs : Array Value) (t : TypeId) (fr : Nat × Nat) : W.heap[m]? ≠ some (.cells cs t fr) := by
  obtain ⟨nn, D, _, ⟨es, cl, hm, _⟩, _⟩ := h.map
  rw [hm]
  simp
theorem DW.turn {W W' : World} {b m c0 most0 r most : Nat} {A : Option Addr} {c : Nat} {T T0 : List Tm} (h : DW W r most A c T) (hp : PW W b m c0 most0 T0) (hg : W.grownBy W' (some m)) : DW W' r most A c T :=
  h.grown hg fun k cs t fr e => by cases e; exact hp.noCells cs t fr
theorem due_uniq {T S : List Tm} {now : Int} (rng : ∀ t ∈ T, t.k.Rng) (srt : T.Pairwise fun a b => a.cmp b < 0) (hp : S.Perm (due now T)) (hs : S.Pairwise fun a b => a.cmp b ≤ 0) : S = due now T := by
  have rd : ∀ t ∈ due now T, t.k.Rng := fun t ht => rng t (List.mem_filter.1 ht).1
  refine List.Perm.eq_of_pairwise (le := fun a b => a.cmp b ≤ 0) (fun a b ha hb h1 h2 => ?_) hs ((srt.sublist List.filter_sublist).imp fun h => Int.le_of_lt h) hp
  rw [tcmp_anti (rd a (hp.mem_iff.1 ha)) (rd b hb)] at h2
  exact tcmp_zero.1 (by omega)

end Go.Proofs.Ytfekkfphogjpeaa
