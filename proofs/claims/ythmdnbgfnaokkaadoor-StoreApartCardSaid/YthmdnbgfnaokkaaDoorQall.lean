/-
  The store's All: its writes by rising keys, by a contract. Condition: the map holds just the writes of a list by rising keys.
-/
import Derived.Test.YthmdnbgfnaokkaaDoorQsrt
import Derived.Handy
namespace Go.Proofs.YthmdnbgfnaokkaaDoor
set_option linter.unusedSimpArgs false
set_option linter.unusedVariables false
open Go.RowKit Go.Maps Go.Sort Go.Shelf

set_option maxRecDepth 100000 in
set_option maxHeartbeats 1000000 in
theorem insNil (q : Value) (w : World) : Calls Tryd.prog 100 #[.slice none 0 0, .int .i64 0, .int .i64 0, q] w fun e w' => e = .returned (.tuple #[]) ∧ w = w' := by
  go_enter Tryd.func100, Tryd.ntmps100
  go_wp2
  go_rounds 1
  go_end0
  exact ⟨rfl, rfl⟩

set_option maxRecDepth 100000 in
set_option maxHeartbeats 1000000 in
theorem len64Nil (w : World) : Calls Tryd.prog 109 #[.int .u64 0] w fun e w' => e = .returned (.int .i64 0) ∧ w = w' := by
  go_enter Tryd.func109, Tryd.ntmps109
  go_wp2
  go_ret
  exact ⟨by kernel_rfl, rfl⟩

set_option maxRecDepth 100000 in
set_option maxHeartbeats 1000000 in
theorem lenNil0 (w : World) : Calls Tryd.prog 88 #[.int .u64 0] w fun e w' => e = .returned (.int .i64 0) ∧ w = w' := by
  go_enter Tryd.func88, Tryd.ntmps88
  go_wp2_with (go_at_call 109; refine (len64Nil _).mono ?_; rintro e w' ⟨rfl, rfl⟩)
  go_ret
  exact ⟨rfl, rfl⟩

set_option maxRecDepth 100000 in
set_option maxHeartbeats 1000000 in
theorem pdqNil (n : Int) (q : Value) (w : World) : Calls Tryd.prog 87 #[.slice none 0 0, .int .i64 0, .int .i64 0, .int .i64 n, q] w fun e w' => e = .returned (.tuple #[]) ∧ w = w' := by
  go_enter Tryd.func87, Tryd.ntmps87
  go_wp2
  refine wp_loop_rounds 1 ?_
  rw [rounds_succ]
  go_wp2_with (go_at_call 100; refine (insNil q _).mono ?_; rintro e w' ⟨rfl, rfl⟩)
  refine bodyPost_ret (results_none rfl _ _ _) rfl ?_
  exact ⟨rfl, rfl⟩

set_option maxRecDepth 100000 in
set_option maxHeartbeats 1000000 in
theorem sortNil (q : Value) (w : World) : Calls Tryd.prog 73 #[.slice none 0 0, q] w fun e w' => e = .returned (.tuple #[]) ∧ w = w' := by
  go_enter Tryd.func73, Tryd.ntmps73
  go_wp2_with (first | (go_at_call 88; refine (lenNil0 _).mono ?_; rintro e w' ⟨rfl, rfl⟩) | (go_at_call 87; refine (pdqNil _ _ _).mono ?_; rintro e w' ⟨rfl, rfl⟩))
  go_end0
  exact ⟨rfl, rfl⟩

/-- a list by rising keys. -/
def OrdW (L : List W3) : Prop := L.Pairwise fun x y => x.cmp y < 0
theorem OrdW.apart {L : List W3} (h : OrdW L) : L.Pairwise fun x y => x.key ≠ y.key := h.imp fun hlt e => by
  have := (cmpW_zero _ _).2 e
  omega
theorem liftFw {L : List W3} : ∀ (X : List W3), (∀ x ∈ X, x ∈ L) → ∃ d : List (Fw L), d.map Subtype.val = X
  | [], _ => ⟨[], rfl⟩
  | x :: X, h => by
    obtain ⟨d, hd⟩ := liftFw X fun y hy => h y (List.mem_cons_of_mem _ hy)
    exact ⟨⟨x, h x (List.mem_cons_self ..)⟩ :: d, by rw [List.map_cons, hd]⟩
theorem mapFw_inj {L : List W3} {d e : List (Fw L)} (h : d.map Subtype.val = e.map Subtype.val) : d = e := by
  induction d generalizing e with
  | nil => cases e with
    | nil => rfl
    | cons _ _ => cases h
  | cons a d ih => cases e with
    | nil => cases h
    | cons b e =>
      rw [List.map_cons, List.map_cons] at h
      injection h with h1 h2
      rw [Subtype.ext h1, ih h2]
theorem permFw {L : List W3} {d e : List (Fw L)} (h : (d.map Subtype.val).Perm (e.map Subtype.val)) (hn : (d.map Subtype.val).Nodup) : d.Perm e := by
  have inj : ∀ a b : Fw L, a ≠ b → a.1 ≠ b.1 := fun a b hab e => hab (Subtype.ext e)
  have hd : d.Nodup := by
    have := List.pairwise_map.1 hn
    exact this.imp fun hab e => hab (by rw [e])
  have he : e.Nodup := by
    have := List.pairwise_map.1 (h.nodup_iff.1 hn)
    exact this.imp fun hab e => hab (by rw [e])
  refine (List.perm_ext_iff_of_nodup hd he).2 fun x => ?_
  have m : ∀ l : List (Fw L), x.1 ∈ l.map Subtype.val ↔ x ∈ l := fun l => ⟨fun h => by
    obtain ⟨a, ha, e⟩ := List.mem_map.1 h
    rwa [← Subtype.ext e], fun h => List.mem_map.2 ⟨x, h, rfl⟩⟩
  rw [← m d, ← m e]
  exact h.mem_iff
/-- the sorted list is the one list by rising keys. -/
theorem sortedW {L : List W3} [Inhabited (Fw L)] (hp : L.Pairwise fun x y => x.key ≠ y.key) {d dX : List (Fw L)} (hpd : d.Perm dX) (ho : OrdW (dX.map Subtype.val)) : (d.toArray.toList.mergeSort fun x y => !(ltOf Fw.cf) y x) = dX := by
  have hl := hpd.length_eq
  refine (Go.Sort.sorted_unique_holds (Fw.swo L) (Fw.total hp) d.toArray dX.toArray ⟨by simp [hl], fun i hi => ?_, ?_⟩ ?_).symm.trans (by simp)
  · have hi' : d.length ≤ i := by
      rcases hi with h | h
      · omega
      · simpa using h
    rw [getElem!_neg dX.toArray i (by simp; omega), getElem!_neg d.toArray i (by simp; omega)]
  · have e1 : dX.toArray.extract 0 d.toArray.size = dX.toArray := by rw [show d.toArray.size = dX.toArray.size by simp [hl]]; simp
    have e2 : d.toArray.extract 0 d.toArray.size = d.toArray := by simp
    rw [e1, e2]
    simpa using hpd.symm
  · intro i j _ hij hj
    have hj' : j < dX.length := by simp at hj; omega
    rw [Fw.nlt_iff, getElem!_pos dX.toArray j (by simp; omega), getElem!_pos dX.toArray i (by simp; omega)]
    have := (List.pairwise_iff_getElem.1 ho) i j (by simp; omega) (by simp; omega) hij
    have h2 : (dX[i]'(by omega)).1.cmp (dX[j]'(by omega)).1 < 0 := by simpa using this
    simpa using (show (dX[i]'(by omega)).1.cmp (dX[j]'(by omega)).1 ≤ 0 by omega)

theorem collectVals (Bm b nn : Nat) (D0 : DataW Unit) (X : List W3) (hX : KeysW D0 X) (w : World) (hBm : Bm < w.heap.size) (hm : w.cell? ⟨Bm, 0, none⟩ = some (.map (some b))) (hown : w.ownsMap Tryd.prog 9 wrElem b nn D0) (hl : X.length * 40 ≤ 140737488355328) :
    Calls Tryd.prog 72 #[.func (.func 74) #[] #[.pointer (some ⟨Bm, 0, none⟩)]] w fun e w' => ∃ (v : Value) (ss : List W3), e = .returned v ∧ ss.Perm X ∧ w'.ownsRow w.heap.size 75 3 v ss.length (cellsW ss) ∧ Below w.heap.size w w' :=
  (callsIn_wide (n := 6)).1 (kCollect Fence.wide 6 trivial trivial rfl (by omega) 74 #[.pointer (some ⟨Bm, 0, none⟩)] trivial (enters_of Tryd.func74 (by kernel_rfl) rfl)
    (fun ss => ss.Perm X) X.length (by unfold maxLen; omega) hl w (valuesGives Fence.wide (6 - 1 - 1) trivial rfl (by omega) Bm b nn D0 X hX w hBm hm hown))

theorem ownW_split {W : World} {base : Nat} {v : Value} {X : List W3} (h : W.ownsRow base 75 3 v X.length (cellsW X)) :
    (v = .slice none 0 0 ∧ X = []) ∨ ∃ g cap, v = .slice (some ⟨g, 0, none⟩) X.length cap ∧ base ≤ g ∧ g < W.heap.size ∧ X.length ≤ cap ∧ cap ≤ maxLen ∧ (∀ j, W.frozen? ⟨g, j, none⟩ = false) ∧ ∀ i x, X[i]? = some x → WrAt W g (0 + i * 3) x := by
  have h0 := h
  rcases h.2 with ⟨rfl, hn⟩ | ⟨g, cap, cur, rfl, hb, hg, hnc, hcm, hcs, ht⟩
  · exact .inl ⟨rfl, List.eq_nil_of_length_eq_zero hn⟩
  · refine .inr ⟨g, cap, rfl, hb, (h.lt g rfl).2, hnc, hcm, fun j => by simp [World.frozen?, hg], ?_⟩
    by_cases hX : X = []
    · subst hX
      intro i x hx
      simp at hx
    · obtain ⟨A, c, e, hR, _⟩ := rowsW_of_own h0
      obtain ⟨b', o, rfl, hb', hc⟩ := hR hX
      cases e
      exact hc

set_option maxRecDepth 100000 in
set_option maxHeartbeats 1000000 in
theorem sortedVals (Bm b nn : Nat) (D0 : DataW Unit) (X : List W3) (hX : KeysW D0 X) (hO : OrdW X) (w : World) (hBm : Bm < w.heap.size) (hm : w.cell? ⟨Bm, 0, none⟩ = some (.map (some b))) (hown : w.ownsMap Tryd.prog 9 wrElem b nn D0) (hl : X.length * 40 ≤ 140737488355328) :
    Calls Tryd.prog 36 #[.func (.func 74) #[] #[.pointer (some ⟨Bm, 0, none⟩)], .func (.func 38) #[] #[]] w fun e w' => ∃ A c, e = .returned (.slice A X.length c) ∧ RowsW w' w'.heap.size A X ∧ X.length ≤ c ∧ c ≤ maxLen ∧ Below w.heap.size w w' := by
  have CK := Lib.hid (fun w' => collectVals Bm b nn D0 X hX w')
  go_enter Tryd.func36, Tryd.ntmps36
  go_wp2_with fail
  refine (CK.out _ hBm hm hown hl).mono ?_
  rintro e w1 ⟨v, ss, rfl, hS, hrow, hb⟩
  clear CK hm hown
  have hlen := hS.length_eq
  rcases ownW_split hrow with ⟨rfl, rfl⟩ | ⟨g, cap, rfl, hg0, hg, hc1, hc2, hfz, hat⟩
  · obtain rfl : X = [] := hS.symm.eq_nil
    clear hrow
    go_wp2_with fail
    refine (sortNil _ _).mono ?_
    rintro e w' ⟨rfl, rfl⟩
    go_wp2
    go_ret
    exact ⟨none, 0, rfl, fun h => absurd rfl h, Nat.le_refl _, by unfold maxLen; omega, hb⟩
  · by_cases hXe : X = []
    · subst hXe
      obtain rfl : ss = [] := hS.eq_nil
      haveI : Inhabited (Fw [default]) := ⟨⟨default, List.mem_cons_self ..⟩⟩
      have SC := Lib.hid (sortWs (L := [default]) (List.pairwise_singleton _ _) w.heap.size g 0 cap #[] w1 hg0 hg (fun i hi => absurd hi (by simp)) hfz (by simp))
      have Hb := Lib.hid hb
      clear hrow hat hS hb hX hO
      go_wp2_with fail
      refine SC.out.mono ?_
      rintro e w' ⟨rfl, hb2, _⟩
      go_wp2
      go_ret
      exact ⟨some ⟨g, 0, none⟩, cap, rfl, fun h => absurd rfl h, Nat.zero_le _, hc2, Hb.out.trans hb2⟩
    haveI : Inhabited (Fw X) := by
      cases X with
      | nil => exact absurd rfl hXe
      | cons x X => exact ⟨⟨x, List.mem_cons_self ..⟩⟩
    have hpX := hO.apart
    obtain ⟨dX, hdX⟩ := liftFw (L := X) X fun _ h => h
    obtain ⟨d, rfl⟩ := liftFw (L := X) ss fun y hy => hS.mem_iff.1 hy
    have hp : d.Perm dX := permFw (by rw [hdX]; exact hS) (hS.nodup_iff.2 (nodup_of_apart hpX))
    have hd : (d.map Subtype.val).length = d.toArray.size := by simp
    have hat' : ∀ i, i < d.toArray.size → WrAt w1 g (0 + i * 3) d.toArray[i]!.1 := fun i hi => hat i _ (by
      rw [getElem!_pos d.toArray i hi]
      simp at hi
      simp [List.getElem?_map, List.getElem?_eq_getElem hi])
    have SC := Lib.hid (sortWs hpX w.heap.size g 0 cap d.toArray w1 hg0 hg hat' hfz (by rw [← hd, hlen]; omega))
    have hso := sortedW hpX hp (by rw [hdX]; exact hO)
    rw [hd] at hc1 ⊢
    clear hrow hat hat' hS
    have Hso := Lib.hid hso
    have Hb := Lib.hid hb
    have HdX := Lib.hid hdX
    clear hso hb hX hO hdX
    go_wp2_with fail
    refine SC.out.mono ?_
    rintro e w' ⟨rfl, hb2, d', hd', hsz, hrows, hfr⟩
    rw [Hso.out] at hd'
    subst hd'
    go_wp2
    go_ret
    have hs2 := hb2.size
    have hXl : X.length = d.toArray.size := by rw [← hlen, hd]
    refine ⟨some ⟨g, 0, none⟩, cap, by rw [hXl]; rfl, fun _ => ⟨g, 0, rfl, by omega, fun i x hi => ?_⟩, by rw [hXl]; exact hc1, hc2, Hb.out.trans hb2⟩
    rw [← HdX.out, List.getElem?_map] at hi
    obtain ⟨y, hy, rfl⟩ := Option.map_eq_some_iff.1 hi
    have hil : i < dX.length := (List.getElem?_eq_some_iff.1 hy).1
    have := hrows i (by simpa using hil)
    rw [getElem!_pos dX.toArray i (by simpa using hil)] at this
    rw [List.getElem?_eq_getElem hil] at hy
    cases hy
    simpa using this

set_option maxHeartbeats 1000000 in
/-- **the store's All.** -/
theorem allS (b bm k : Nat) (L : List W3) (W : World) (h : PSt b bm k L W) (hO : OrdW L) (hl : L.length * 40 ≤ 140737488355328) :
    Calls Tryd.prog 14 #[.pointer (some ⟨b, 0, none⟩)] W fun e W' => ∃ A c, e = .returned (.slice A L.length c) ∧ RowsW W' W'.heap.size A L ∧ L.length ≤ c ∧ c ≤ maxLen ∧ Below W.heap.size W W' := by
  obtain ⟨c0, nn, D, hk, O, K⟩ := h
  have hl0 := World.block_lt_of_cell? W _ c0
  have SV := Lib.hid (fun (Bm : Nat) (w : World) hBm hm hw => sortedVals Bm bm nn D L K hO w hBm hm (O.kept (grown_of_belowW hw none) (by simp)) hl)
  clear O K hO
  go_enter Tryd.func14, Tryd.ntmps14
  go_wp2_with (go_at_call 30; refine (madeS b bm _ c0).mono ?_; rintro e W1 ⟨rfl, b1⟩; have c1 := (b1.cell (p := ⟨b, 0, none⟩) hl0).trans c0; have B1 := Lib.hid b1; clear b1)
  refine (valuesOf _ _).mono ?_
  rintro e w2 ⟨rfl, rfl⟩
  go_wp2_with fail
  have B2 : Below W.heap.size W (W1.alloc (.cells #[.map (some bm)] 84)) := B1.out.alloc B1.out.size _
  refine (SV.out W1.heap.size _ (by simp) (by simp) B2).mono ?_
  rintro e w3 ⟨A, c, rfl, hR, h1, h2, b3⟩
  have HR := Lib.hid hR
  have B3 := Lib.hid (B2.trans (b3.mono B2.size))
  clear hR b3 B2
  go_wp2
  go_ret
  exact ⟨A, c, rfl, HR.out, h1, h2, B3.out⟩

end Go.Proofs.YthmdnbgfnaokkaaDoor
