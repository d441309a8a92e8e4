/-
  SortedFunc over the map's keys, and the program's Set.All: the list in order. Condition: the map's keys are just the identifiers of a sorted list.
-/
import Derived.Test.YtehkofeokccdeaaKap
import Derived.Test.YtehkofeokccdeaaSrt
import Derived.Test.YtehkofeokccdeaaNil
namespace Go.Proofs.Ytehkofeokccdeaa
set_option linter.unusedSimpArgs false
set_option linter.unusedVariables false
open Go.RowKit Go.Maps Go.Sort Go.Shelf

/-- a list in order. -/
def Ord (X : List I10) : Prop := X.Pairwise fun x y => x.cmp y ≤ 0

theorem liftFx : ∀ (X : List I10), (∀ x ∈ X, x.Fit) → ∃ d : List Fx, d.map Subtype.val = X
  | [], _ => ⟨[], rfl⟩
  | x :: X, h => by
    obtain ⟨d, hd⟩ := liftFx X fun y hy => h y (List.mem_cons_of_mem _ hy)
    exact ⟨⟨x, h x (List.mem_cons_self ..)⟩ :: d, by rw [List.map_cons, hd]⟩

theorem map_val_inj {d e : List Fx} (h : d.map Subtype.val = e.map Subtype.val) : d = e := by
  induction d generalizing e with
  | nil => cases e with
    | nil => rfl
    | cons _ _ => cases h
  | cons a d ih => cases e with
    | nil => cases h
    | cons b e =>
      rw [List.map_cons, List.map_cons] at h
      injection h with h1 h2
      rw [Subtype.ext h1, ih h2]

theorem perm_lift' {Y Z : List I10} (h : Y.Perm Z) : ∀ d : List Fx, d.map Subtype.val = Z → ∃ e : List Fx, e.map Subtype.val = Y ∧ e.Perm d := by
  induction h with
  | nil => intro d hd; exact ⟨d, hd, .refl _⟩
  | cons x _ ih =>
    intro d hd
    cases d with
    | nil => cases hd
    | cons a d =>
      rw [List.map_cons] at hd
      injection hd with h1 h2
      obtain ⟨e, he, hp⟩ := ih d h2
      exact ⟨a :: e, by rw [List.map_cons, h1, he], hp.cons a⟩
  | swap x y l =>
    intro d hd
    match d, hd with
    | a :: b :: d, hd =>
      rw [List.map_cons, List.map_cons] at hd
      injection hd with h1 h2
      injection h2 with h2 h3
      exact ⟨b :: a :: d, by rw [List.map_cons, List.map_cons, h1, h2, h3], .swap a b d⟩
  | trans _ _ ih1 ih2 =>
    intro d hd
    obtain ⟨e2, he2, hp2⟩ := ih2 d hd
    obtain ⟨e1, he1, hp1⟩ := ih1 e2 he2
    exact ⟨e1, he1, hp1.trans hp2⟩
theorem perm_lift {d : List Fx} {Y : List I10} (h : Y.Perm (d.map Subtype.val)) : ∃ e : List Fx, e.map Subtype.val = Y ∧ e.Perm d := perm_lift' h d rfl

/-- the sorted list is the one list in order. -/
theorem sorted_is {d dX : List Fx} (hp : d.Perm dX) (ho : Ord (dX.map Subtype.val)) : (d.toArray.toList.mergeSort fun x y => !(ltOf Fx.cf) y x) = dX := by
  have hl := hp.length_eq
  refine (Go.Sort.sorted_unique_holds Fx.swo Fx.total d.toArray dX.toArray ⟨by simp [hl], fun i hi => ?_, ?_⟩ ?_).symm.trans (by simp)
  · have hi' : d.length ≤ i := by
      rcases hi with h | h
      · omega
      · simpa using h
    rw [getElem!_neg dX.toArray i (by simp; omega), getElem!_neg d.toArray i (by simp; omega)]
  · have e1 : dX.toArray.extract 0 d.toArray.size = dX.toArray := by rw [show d.toArray.size = dX.toArray.size by simp [hl]]; simp
    have e2 : d.toArray.extract 0 d.toArray.size = d.toArray := by simp
    rw [e1, e2]
    simpa using hp.symm
  · intro i j _ hij hj
    have hj' : j < dX.length := by simp at hj; omega
    rw [Fx.nlt_iff, getElem!_pos dX.toArray j (by simp; omega), getElem!_pos dX.toArray i (by simp; omega)]
    have := (List.pairwise_iff_getElem.1 ho) i j (by simp; omega) (by simp; omega) hij
    simpa using this

theorem collectKeys {H : Type} (Bm b nn : Nat) (D0 : DataW H) (X : List I10) (hX : KeysX D0 X) {R : Value → Option (DataW H × List MemPlace)} (w : World) (hBm : Bm < w.heap.size) (hm : w.cell? ⟨Bm, 0, none⟩ = some (.map (some b))) (hown : w.ownsMap Try.prog 48 R b nn D0) (hl : X.length * 16 ≤ 140737488355328) :
    Calls Try.prog 37 #[.func (.func 39) #[] #[.pointer (some ⟨Bm, 0, none⟩)]] w fun e w' => ∃ (v : Value) (ss : List I10), e = .returned v ∧ ss.Perm X ∧ w'.ownsRow w.heap.size 48 10 v ss.length (cellsI ss) ∧ Below w.heap.size w w' :=
  (callsIn_wide (n := 6)).1 (kCollect Fence.wide 6 trivial trivial rfl (by omega) 39 #[.pointer (some ⟨Bm, 0, none⟩)] trivial (enters_of Try.func39 (by kernel_rfl) rfl)
    (fun ss => ss.Perm X) X.length (by unfold maxLen; omega) hl w (keysGives Fence.wide (6 - 1 - 1) trivial rfl (by omega) Bm b nn D0 X hX w hBm hm hown))

/-- a list of identifiers in a row of one's own. -/
def OwnI (W : World) (base : Nat) (v : Value) (X : List I10) : Prop :=
  (v = .slice none 0 0 ∧ X = []) ∨ ∃ g cap, v = .slice (some ⟨g, 0, none⟩) X.length cap ∧ base ≤ g ∧ g < W.heap.size ∧ X.length ≤ cap ∧ cap ≤ maxLen ∧ (∀ j, W.frozen? ⟨g, j, none⟩ = false) ∧ ∀ i x, X[i]? = some x → IdAt W g (i * 10) x
theorem OwnI.rows {W : World} {base : Nat} {v : Value} {X : List I10} (h : OwnI W base v X) : ∃ A c, v = .slice A X.length c ∧ RowsI W W.heap.size A X ∧ X.length ≤ c ∧ c ≤ maxLen := by
  rcases h with ⟨rfl, rfl⟩ | ⟨g, cap, rfl, h1, h2, h3, h4, _, h6⟩
  · exact ⟨none, 0, rfl, fun h => absurd rfl h, Nat.le_refl _, by unfold maxLen; omega⟩
  · exact ⟨_, cap, rfl, fun _ => ⟨g, 0, rfl, h2, fun i x hi => by rw [Nat.zero_add]; exact h6 i x hi⟩, h3, h4⟩
theorem OwnI.lower {W : World} {base base' : Nat} {v : Value} {X : List I10} (h : OwnI W base v X) (hb : base' ≤ base) : OwnI W base' v X := by
  rcases h with h | ⟨g, cap, h0, h1, h2⟩
  · exact .inl h
  · exact .inr ⟨g, cap, h0, Nat.le_trans hb h1, h2⟩
/-- a row of the call's own: its block. -/
theorem own_split {W : World} {base : Nat} {v : Value} {X : List I10} (h : W.ownsRow base 48 10 v X.length (cellsI X)) :
    (v = .slice none 0 0 ∧ X = []) ∨ ∃ g cap, v = .slice (some ⟨g, 0, none⟩) X.length cap ∧ base ≤ g ∧ g < W.heap.size ∧ X.length ≤ cap ∧ cap ≤ maxLen ∧ (∀ j, W.frozen? ⟨g, j, none⟩ = false) ∧ ∀ i x, X[i]? = some x → IdAt W g (0 + i * 10) x := by
  have h0 := h
  rcases h.2 with ⟨rfl, hn⟩ | ⟨g, cap, cur, rfl, hb, hg, hnc, hcm, hcs, ht⟩
  · exact .inl ⟨rfl, List.eq_nil_of_length_eq_zero hn⟩
  · refine .inr ⟨g, cap, rfl, hb, (h.lt g rfl).2, hnc, hcm, fun j => by simp [World.frozen?, hg], ?_⟩
    by_cases hX : X = []
    · subst hX
      intro i x hx
      simp at hx
    · obtain ⟨A, c, e, hR, _⟩ := rowsI_of_own h0
      obtain ⟨b', o, rfl, hb', hc⟩ := hR hX
      cases e
      exact hc

set_option maxRecDepth 100000 in
set_option maxHeartbeats 1000000 in
theorem sortedKeys {H : Type} (Bm b nn : Nat) (D0 : DataW H) (X : List I10) (hX : KeysX D0 X) (hF : ∀ x ∈ X, x.Fit) (hO : Ord X) {R : Value → Option (DataW H × List MemPlace)} (w : World) (hBm : Bm < w.heap.size) (hm : w.cell? ⟨Bm, 0, none⟩ = some (.map (some b))) (hown : w.ownsMap Try.prog 48 R b nn D0) (hl : X.length * 16 ≤ 140737488355328) :
    Calls Try.prog 28 #[.func (.func 39) #[] #[.pointer (some ⟨Bm, 0, none⟩)], .func (.func 30) #[] #[]] w fun e w' => ∃ v, e = .returned v ∧ OwnI w' w.heap.size v X ∧ Below w.heap.size w w' := by
  have CK := Lib.hid (fun w' => collectKeys Bm b nn D0 X hX (R := R) w')
  go_enter Try.func28, Try.ntmps28
  go_wp2_with fail
  refine (CK.out _ hBm hm hown hl).mono ?_
  rintro e w1 ⟨v, ss, rfl, hS, hrow, hb⟩
  clear CK hm hown
  have hlen := hS.length_eq
  rcases own_split hrow with ⟨rfl, rfl⟩ | ⟨g, cap, rfl, hg0, hg, hc1, hc2, hfz, hat⟩
  · obtain rfl : X = [] := hS.symm.eq_nil
    clear hrow
    go_wp2_with fail
    refine (sortNil _ _).mono ?_
    rintro e w' ⟨rfl, rfl⟩
    go_wp2
    go_ret
    exact ⟨_, rfl, .inl ⟨rfl, rfl⟩, hb⟩
  · obtain ⟨dX, rfl⟩ := liftFx X hF
    obtain ⟨d, rfl, hp⟩ := perm_lift hS
    have hd : (d.map Subtype.val).length = d.toArray.size := by simp
    have hat' : ∀ i, i < d.toArray.size → IdAt w1 g (0 + i * 10) d.toArray[i]!.1 := fun i hi => hat i _ (by
      rw [getElem!_pos d.toArray i hi]
      simp at hi
      simp [List.getElem?_map, List.getElem?_eq_getElem hi])
    have SC := Lib.hid (sortIDs w.heap.size g 0 cap d.toArray w1 hg0 hg hat' hfz (by rw [← hd, hlen]; omega))
    have hso := sorted_is hp hO
    rw [hd] at hc1 ⊢
    clear hrow hat hat' hS
    have Hso := Lib.hid hso
    have Hb := Lib.hid hb
    clear hso hb hX hF hO
    go_wp2_with fail
    refine SC.out.mono ?_
    rintro e w' ⟨rfl, hb2, d', hd', hsz, hrows, hfr⟩
    rw [Hso.out] at hd'
    subst hd'
    go_wp2
    go_ret
    have hs2 := hb2.size
    refine ⟨_, rfl, .inr ⟨g, cap, by rw [← hlen, List.length_map]; rfl, hg0, by omega, by rw [← hlen, hd]; exact hc1, hc2, hfr, fun i x hi => ?_⟩, Hb.out.trans hb2⟩
    rw [List.getElem?_map] at hi
    obtain ⟨y, hy, rfl⟩ := Option.map_eq_some_iff.1 hi
    have hil : i < dX.length := (List.getElem?_eq_some_iff.1 hy).1
    have := hrows i (by simpa using hil)
    rw [getElem!_pos dX.toArray i (by simpa using hil)] at this
    rw [List.getElem?_eq_getElem hil] at hy
    cases hy
    simpa using this

set_option maxRecDepth 100000 in
set_option maxHeartbeats 1000000 in
/-- **Set.All of the program: the list in order.** -/
theorem allSet {H : Type} (b bm nn : Nat) (D0 : DataW H) (X : List I10) (hX : KeysX D0 X) (hF : ∀ x ∈ X, x.Fit) (hO : Ord X) (w : World) (hc1 : w.cell? ⟨b, 1, none⟩ = some (.map (some bm))) (hown : w.ownsMap Try.prog 48 unitElem bm nn D0) (hl : X.length * 16 ≤ 140737488355328) :
    Calls Try.prog 20 #[.pointer (some ⟨b, 0, none⟩)] w fun e w' => ∃ v, e = .returned v ∧ OwnI w' w.heap.size v X ∧ Below w.heap.size w w' := by
  have SK := Lib.hid (fun w' => sortedKeys (R := unitElem) w.heap.size bm nn D0 X hX hF hO w')
  have hl0 := World.block_lt_of_cell? w _ hc1
  have OW := Lib.hid hown
  clear hX hF hO hown
  go_enter Try.func20, Try.ntmps20
  go_wp2_with fail
  refine (keysOf _ _).mono ?_
  rintro e w1 ⟨rfl, rfl⟩
  go_wp2_with fail
  have hown' : (w.alloc (.cells #[.map (some bm)] 66)).ownsMap Try.prog 48 unitElem bm nn D0 := by
    have hbl := OW.out.lt
    obtain ⟨es, clock, hb, Ft, hs, hD⟩ := OW.out
    exact ⟨es, clock, (Below.heap_alloc _ _ bm hbl).trans hb, Ft, hs, hD⟩
  refine (SK.out _ (by simp) (by simp) hown' hl).mono ?_
  rintro e w2 ⟨v, rfl, hR, hb⟩
  clear SK OW hown'
  have HR := Lib.hid hR
  have HB := Lib.hid hb
  clear hR hb
  go_wp2
  go_ret
  exact ⟨v, rfl, HR.out.lower (by simp), ((Below.refl _ _).alloc (Nat.le_refl _) _).trans (HB.out.mono (by simp))⟩

end Go.Proofs.Ytehkofeokccdeaa
