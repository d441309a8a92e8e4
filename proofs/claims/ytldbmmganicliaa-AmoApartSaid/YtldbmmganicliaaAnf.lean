/-
  The table's All: its rows by the order of their calls. Condition: the table lies in memory, numbers fit their kinds.
-/
import Derived.Test.YtldbmmganicliaaAnc
import Derived.Handy
namespace Go.Proofs.Ytldbmmganicliaa
set_option linter.unusedSimpArgs false
set_option linter.unusedVariables false
open Go.RowKit Go.Maps Go.Sort Go.Shelf

set_option maxRecDepth 100000 in
set_option maxHeartbeats 1000000 in
theorem insNil (q : Value) (w : World) : Calls Try.prog 75 #[.slice none 0 0, .int .i64 0, .int .i64 0, q] w fun e w' => e = .returned (.tuple #[]) ∧ w = w' := by
  go_enter Try.func75, Try.ntmps75
  go_wp2
  go_rounds 1
  go_end0
  exact ⟨rfl, rfl⟩

set_option maxRecDepth 100000 in
set_option maxHeartbeats 1000000 in
theorem len64Nil (w : World) : Calls Try.prog 84 #[.int .u64 0] w fun e w' => e = .returned (.int .i64 0) ∧ w = w' := by
  go_enter Try.func84, Try.ntmps84
  go_wp2
  go_ret
  exact ⟨by kernel_rfl, rfl⟩

set_option maxRecDepth 100000 in
set_option maxHeartbeats 1000000 in
theorem lenNil0 (w : World) : Calls Try.prog 71 #[.int .u64 0] w fun e w' => e = .returned (.int .i64 0) ∧ w = w' := by
  go_enter Try.func71, Try.ntmps71
  go_wp2_with (go_at_call 84; refine (len64Nil _).mono ?_; rintro e w' ⟨rfl, rfl⟩)
  go_ret
  exact ⟨rfl, rfl⟩

set_option maxRecDepth 100000 in
set_option maxHeartbeats 1000000 in
theorem pdqNil (n : Int) (q : Value) (w : World) : Calls Try.prog 70 #[.slice none 0 0, .int .i64 0, .int .i64 0, .int .i64 n, q] w fun e w' => e = .returned (.tuple #[]) ∧ w = w' := by
  go_enter Try.func70, Try.ntmps70
  go_wp2
  refine wp_loop_rounds 1 ?_
  rw [rounds_succ]
  go_wp2_with (go_at_call 75; refine (insNil q _).mono ?_; rintro e w' ⟨rfl, rfl⟩)
  refine bodyPost_ret (results_none rfl _ _ _) rfl ?_
  exact ⟨rfl, rfl⟩

set_option maxRecDepth 100000 in
set_option maxHeartbeats 1000000 in
theorem sortNil (q : Value) (w : World) : Calls Try.prog 59 #[.slice none 0 0, q] w fun e w' => e = .returned (.tuple #[]) ∧ w = w' := by
  go_enter Try.func59, Try.ntmps59
  go_wp2_with (first | (go_at_call 71; refine (lenNil0 _).mono ?_; rintro e w' ⟨rfl, rfl⟩) | (go_at_call 70; refine (pdqNil _ _ _).mono ?_; rintro e w' ⟨rfl, rfl⟩))
  go_end0
  exact ⟨rfl, rfl⟩

/-- a list by rising calls. -/
def OrdW (L : List Rw) : Prop := L.Pairwise fun x y => x.cmp y < 0
theorem liftEw {L : List Rw} : ∀ (X : List Rw), (∀ x ∈ X, x ∈ L) → ∃ d : List (Ew L), d.map Subtype.val = X
  | [], _ => ⟨[], rfl⟩
  | x :: X, h => by
    obtain ⟨d, hd⟩ := liftEw X fun y hy => h y (List.mem_cons_of_mem _ hy)
    exact ⟨⟨x, h x (List.mem_cons_self ..)⟩ :: d, by rw [List.map_cons, hd]⟩
theorem mapEw_inj {L : List Rw} {d e : List (Ew L)} (h : d.map Subtype.val = e.map Subtype.val) : d = e := by
  induction d generalizing e with
  | nil => cases e with
    | nil => rfl
    | cons _ _ => cases h
  | cons a d ih => cases e with
    | nil => cases h
    | cons b e =>
      rw [List.map_cons, List.map_cons] at h
      injection h with h1 h2
      rw [Subtype.ext h1, ih h2]
theorem permEw {L : List Rw} {d e : List (Ew L)} (h : (d.map Subtype.val).Perm (e.map Subtype.val)) (hn : (d.map Subtype.val).Nodup) : d.Perm e := by
  have inj : ∀ a b : Ew L, a ≠ b → a.1 ≠ b.1 := fun a b hab e => hab (Subtype.ext e)
  have hd : d.Nodup := by
    have := List.pairwise_map.1 hn
    exact this.imp fun hab e => hab (by rw [e])
  have he : e.Nodup := by
    have := List.pairwise_map.1 (h.nodup_iff.1 hn)
    exact this.imp fun hab e => hab (by rw [e])
  refine (List.perm_ext_iff_of_nodup hd he).2 fun x => ?_
  have m : ∀ l : List (Ew L), x.1 ∈ l.map Subtype.val ↔ x ∈ l := fun l => ⟨fun h => by
    obtain ⟨a, ha, e⟩ := List.mem_map.1 h
    rwa [← Subtype.ext e], fun h => List.mem_map.2 ⟨x, h, rfl⟩⟩
  rw [← m d, ← m e]
  exact h.mem_iff
/-- the sorted list is the one list by rising keys. -/
theorem sortedW {L : List Rw} [Inhabited (Ew L)] (hL : FitL L) {d dX : List (Ew L)} (hpd : d.Perm dX) (ho : OrdW (dX.map Subtype.val)) : (d.toArray.toList.mergeSort fun x y => !(ltOf Ew.cf) y x) = dX := by
  have hl := hpd.length_eq
  refine (Go.Sort.sorted_unique_holds (Ew.swo hL) (Ew.total hL) d.toArray dX.toArray ⟨by simp [hl], fun i hi => ?_, ?_⟩ ?_).symm.trans (by simp)
  · have hi' : d.length ≤ i := by
      rcases hi with h | h
      · omega
      · simpa using h
    rw [getElem!_neg dX.toArray i (by simp; omega), getElem!_neg d.toArray i (by simp; omega)]
  · have e1 : dX.toArray.extract 0 d.toArray.size = dX.toArray := by rw [show d.toArray.size = dX.toArray.size by simp [hl]]; simp
    have e2 : d.toArray.extract 0 d.toArray.size = d.toArray := by simp
    rw [e1, e2]
    simpa using hpd.symm
  · intro i j _ hij hj
    have hj' : j < dX.length := by simp at hj; omega
    rw [Ew.nlt_iff hL, getElem!_pos dX.toArray j (by simp; omega), getElem!_pos dX.toArray i (by simp; omega)]
    have := (List.pairwise_iff_getElem.1 ho) i j (by simp; omega) (by simp; omega) hij
    have h2 : (dX[i]'(by omega)).1.cmp (dX[j]'(by omega)).1 < 0 := by simpa using this
    simpa using (show (dX[i]'(by omega)).1.cmp (dX[j]'(by omega)).1 ≤ 0 by omega)

theorem collectVals (Bm b nn : Nat) (D0 : DataW Unit) (X : List Rw) (hX : MapG Rw.key Rw.dat D0 X) (hKL : ∀ x ∈ X, WideAt.IsKeyLit x.key) (w : World) (hBm : Bm < w.heap.size) (hm : w.cell? ⟨Bm, 0, none⟩ = some (.map (some b))) (hown : w.ownsMap Try.prog 37 rwElem b nn D0) (hl : X.length * 48 ≤ 140737488355328) :
    Calls Try.prog 58 #[.func (.func 60) #[] #[.pointer (some ⟨Bm, 0, none⟩)]] w fun e w' => ∃ (v : Value) (ss : List Rw), e = .returned v ∧ ss.Perm X ∧ w'.ownsRow w.heap.size 88 13 v ss.length (flat Rw.cs ss) ∧ Below w.heap.size w w' :=
  (callsIn_wide (n := 6)).1 (kCollect Fence.wide 6 trivial trivial rfl (by omega) 60 #[.pointer (some ⟨Bm, 0, none⟩)] trivial (enters_of Try.func60 (by kernel_rfl) rfl)
    (fun ss => ss.Perm X) X.length (by unfold maxLen; omega) hl w (valuesGives Fence.wide (6 - 1 - 1) trivial rfl (by omega) Bm b nn D0 X hX hKL w hBm hm hown))

theorem ownW_split {W : World} {base : Nat} {v : Value} {X : List Rw} (h : W.ownsRow base 88 13 v X.length (flat Rw.cs X)) :
    (v = .slice none 0 0 ∧ X = []) ∨ ∃ g cap, v = .slice (some ⟨g, 0, none⟩) X.length cap ∧ base ≤ g ∧ g < W.heap.size ∧ X.length ≤ cap ∧ cap ≤ maxLen ∧ (∀ j, W.frozen? ⟨g, j, none⟩ = false) ∧ ∀ i x, X[i]? = some x → RwAt W g (0 + i * 13) x := by
  have h0 := RowO.of_owns h
  rcases h.2 with ⟨rfl, hn⟩ | ⟨g, cap, cur, rfl, hb, hg, hnc, hcm, hcs, ht⟩
  · exact .inl ⟨rfl, List.eq_nil_of_length_eq_zero hn⟩
  · refine .inr ⟨g, cap, rfl, hb, (h.lt g rfl).2, hnc, hcm, fun j => by simp [World.frozen?, hg], fun i x hx c hc => ?_⟩
    have e := RowO.elem Rw.sz h0 hx hc
    rw [e]
    have h13 : c < x.cs.size := hc
    rw [Array.getElem?_eq_getElem h13]
    congr 1
    rw [getElem!_pos x.cs.toList c (by simpa using h13)]
    simp
/-- the rows side by side. -/
def RowsP (W : World) (B : Nat) (A : Option Addr) (X : List Rw) : Prop := X ≠ [] → ∃ g o, A = some ⟨g, o, none⟩ ∧ g < B ∧ ∀ i x, X[i]? = some x → RwAt W g (o + i * 13) x
set_option maxRecDepth 100000 in
set_option maxHeartbeats 1000000 in
theorem sortedVals (Bm b nn : Nat) (D0 : DataW Unit) (X : List Rw) (hX : MapG Rw.key Rw.dat D0 X) (hKL : ∀ x ∈ X, WideAt.IsKeyLit x.key) (hO : OrdW X) (hFL : FitL X) (w : World) (hBm : Bm < w.heap.size) (hm : w.cell? ⟨Bm, 0, none⟩ = some (.map (some b))) (hown : w.ownsMap Try.prog 37 rwElem b nn D0) (hl : X.length * 48 ≤ 140737488355328) :
    Calls Try.prog 49 #[.func (.func 60) #[] #[.pointer (some ⟨Bm, 0, none⟩)], .func (.func 51) #[] #[]] w fun e w' => ∃ A c, e = .returned (.slice A X.length c) ∧ RowsP w' w'.heap.size A X ∧ X.length ≤ c ∧ c ≤ maxLen ∧ Below w.heap.size w w' := by
  have CK := Lib.hid (fun w' => collectVals Bm b nn D0 X hX hKL w')
  go_enter Try.func49, Try.ntmps49
  go_wp2_with fail
  refine (CK.out _ hBm hm hown hl).mono ?_
  rintro e w1 ⟨v, ss, rfl, hS, hrow, hb⟩
  clear CK hm hown
  have hlen := hS.length_eq
  rcases ownW_split hrow with ⟨rfl, rfl⟩ | ⟨g, cap, rfl, hg0, hg, hc1, hc2, hfz, hat⟩
  · obtain rfl : X = [] := hS.symm.eq_nil
    clear hrow
    go_wp2_with fail
    refine (sortNil _ _).mono ?_
    rintro e w' ⟨rfl, rfl⟩
    go_wp2
    go_ret
    exact ⟨none, 0, rfl, fun h => absurd rfl h, Nat.le_refl _, by unfold maxLen; omega, hb⟩
  · by_cases hXe : X = []
    · subst hXe
      obtain rfl : ss = [] := hS.eq_nil
      haveI : Inhabited (Ew [zrow]) := ⟨⟨zrow, List.mem_cons_self ..⟩⟩
      have SC := Lib.hid (sortRs (L := [zrow]) ⟨fun x h => by obtain rfl := List.mem_singleton.1 h; exact ⟨by decide, by decide, fun _ => ⟨rfl, rfl⟩, fun _ => ⟨rfl, rfl⟩, fun _ => ⟨rfl, rfl⟩⟩, fun x h y h' _ => by rw [List.mem_singleton.1 h, List.mem_singleton.1 h']⟩ w.heap.size g 0 cap #[] w1 hg0 hg (fun i hi => absurd hi (by simp)) hfz (by simp))
      have Hb := Lib.hid hb
      clear hrow hat hS hb hX hO
      go_wp2_with fail
      refine SC.out.mono ?_
      rintro e w' ⟨rfl, hb2, _⟩
      go_wp2
      go_ret
      exact ⟨some ⟨g, 0, none⟩, cap, rfl, fun h => absurd rfl h, Nat.zero_le _, hc2, Hb.out.trans hb2⟩
    haveI : Inhabited (Ew X) := by
      cases X with
      | nil => exact absurd rfl hXe
      | cons x X => exact ⟨⟨x, List.mem_cons_self ..⟩⟩
    have hpX := hX.apart
    obtain ⟨dX, hdX⟩ := liftEw (L := X) X fun _ h => h
    obtain ⟨d, rfl⟩ := liftEw (L := X) ss fun y hy => hS.mem_iff.1 hy
    have hp : d.Perm dX := permEw (by rw [hdX]; exact hS) (hS.nodup_iff.2 (nodup_of_apart hpX))
    have hd : (d.map Subtype.val).length = d.toArray.size := by simp
    have hat' : ∀ i, i < d.toArray.size → RwAt w1 g (0 + i * 13) d.toArray[i]!.1 := fun i hi => hat i _ (by
      rw [getElem!_pos d.toArray i hi]
      simp at hi
      simp [List.getElem?_map, List.getElem?_eq_getElem hi])
    have SC := Lib.hid (sortRs hFL w.heap.size g 0 cap d.toArray w1 hg0 hg hat' hfz (by rw [← hd, hlen]; omega))
    have hso := sortedW hFL hp (by rw [hdX]; exact hO)
    rw [hd] at hc1 ⊢
    clear hrow hat hat' hS
    have Hso := Lib.hid hso
    have Hb := Lib.hid hb
    have HdX := Lib.hid hdX
    clear hso hb hX hO hdX
    go_wp2_with fail
    refine SC.out.mono ?_
    rintro e w' ⟨rfl, hb2, d', hd', hsz, hrows, hfr⟩
    rw [Hso.out] at hd'
    subst hd'
    go_wp2
    go_ret
    have hs2 := hb2.size
    have hXl : X.length = d.toArray.size := by rw [← hlen, hd]
    refine ⟨some ⟨g, 0, none⟩, cap, by rw [hXl]; rfl, fun _ => ⟨g, 0, rfl, by omega, fun i x hi => ?_⟩, by rw [hXl]; exact hc1, hc2, Hb.out.trans hb2⟩
    rw [← HdX.out, List.getElem?_map] at hi
    obtain ⟨y, hy, rfl⟩ := Option.map_eq_some_iff.1 hi
    have hil : i < dX.length := (List.getElem?_eq_some_iff.1 hy).1
    have := hrows i (by simpa using hil)
    rw [getElem!_pos dX.toArray i (by simpa using hil)] at this
    rw [List.getElem?_eq_getElem hil] at hy
    cases hy
    simpa using this

theorem Tt.Ok.fitL {t : Tt} (h : t.Ok) : FitL t.L := ⟨fun x hx => h.fit hx, fun x hx y hy e => by
  have h1 := h.row_in hx
  have h2 := h.row_in hy
  rw [e] at h1
  exact h1.symm.trans h2⟩
theorem Tt.Ok.keys {t : Tt} (h : t.Ok) : ∀ x ∈ t.L, WideAt.IsKeyLit x.key := fun x hx => idKeyed.key (idKey x.id (h.rng x hx).1)
set_option maxRecDepth 100000 in
set_option maxHeartbeats 4000000 in
theorem aAll (W : World) (b m k c : Nat) (t : Tt) (h : PT W b m k c t) (hl : t.L.length ≤ 1000000) :
    Calls Try.prog 29 #[.pointer (some ⟨b, 0, none⟩)] W fun e W' => ∃ A cp, e = .returned (.slice A t.L.length cp) ∧ RowsP W' W'.heap.size A t.L ∧ t.L.length ≤ cp ∧ cp ≤ maxLen ∧ Below W.heap.size W W' := by
  have KM := Lib.hid (aMade W b m k c t h)
  have c1 := cell_of h.blk 1 (.map (some m)) rfl
  obtain ⟨nn, D, hk, O, M⟩ := h.rows
  have SV := Lib.hid (fun (Bm : Nat) (w : World) hBm hm hw => sortedVals Bm m nn D t.L M h.ok.keys h.ok.rise h.ok.fitL w hBm hm (O.kept (grown_of_below hw none) (by simp)) (by omega))
  clear O M h
  go_enter Try.func29, Try.ntmps29
  go_wp2_with (first | (go_at_call 35; refine KM.out.mono ?_; rintro e w1 ⟨rfl, rfl⟩) | fail)
  refine (valuesOf _ _).mono ?_
  rintro e w2 ⟨rfl, rfl⟩
  go_wp2_with fail
  have B2 : Below W.heap.size W (W.alloc (.cells #[.map (some m)] 82)) := (Below.refl _ _).alloc (Nat.le_refl _) _
  refine (SV.out W.heap.size _ (by simp) (by simp) B2).mono ?_
  rintro e w3 ⟨A, cp, rfl, hR, h1, h2, b3⟩
  have HR := Lib.hid hR
  have B3 := Lib.hid (B2.trans (b3.mono B2.size))
  clear hR b3 B2
  go_wp2
  go_ret
  exact ⟨A, cp, rfl, HR.out, h1, h2, B3.out⟩

end Go.Proofs.Ytldbmmganicliaa
