/-
  The program's with: members that are added to a list of its own, by an exact answer. Condition: the list is the call's own, its nodes are unlike; what is added lies in older memory.
-/
import Derived.Test.YtgmjhloednmfnaaDoorVpl
import Derived.Test.YtgmjhloednmfnaaDoorVmat
import Derived.Test.YtgmjhloednmfnaaDoorVapp
import Derived.RangeFuncBox
namespace Go.Proofs.YtgmjhloednmfnaaDoor
set_option linter.unusedSimpArgs false
set_option linter.unusedVariables false
open Go.RowKit

theorem fi_la {W : List P2} (h : okV W = true) (n : Int) : fi W n = la W n W.length := by
  rw [okV_iff] at h
  have hp := List.pairwise_iff_getElem.1 h.2
  have hl := la_lt W n W.length
  rcases Int.lt_or_le (la W n W.length) 0 with h0 | h0
  · have := la_none W.length h0
    rw [fi_none fun j x hj => this j x (List.getElem?_eq_some_iff.1 hj).1 hj]
    omega
  · obtain ⟨y, hy, hn⟩ := la_some W.length h0
    have := fi_some hy hn (fun j x hj hx hxn => by
      have h1 := List.getElem?_eq_some_iff.1 hy
      have h2 := List.getElem?_eq_some_iff.1 hx
      have h3 := hp j _ h2.1 h1.1 hj
      rw [h1.2, h2.2] at h3
      exact h3 (by rw [hxn, hn]))
    rw [this]
    omega
theorem own_put {W : World} {base g n cap : Nat} {X : List P2} (h : W.ownsRow base 48 2 (.slice (some ⟨g, 0, none⟩) n cap) n (cellsV X)) (i : Nat) (p : P2) (hi : i < X.length) :
    ((W.setCell ⟨g, i * 2, none⟩ (.int .u8 p.n)).setCell ⟨g, i * 2 + 1, none⟩ (.int .u16 p.l)).ownsRow base 48 2 (.slice (some ⟨g, 0, none⟩) n cap) n (cellsV (X.set i p)) := by
  rw [← cellsV_set X i p hi]
  exact own_setAt (own_setAt h _ _) _ _
theorem own_len {W : World} {base : Nat} {e : TypeId} {A : Option Addr} {n c : Nat} {xs : List Value} (h : W.ownsRow base e 2 (.slice A n c) n xs) (hn : 0 < n) : ∃ g, A = some ⟨g, 0, none⟩ ∧ base ≤ g ∧ g < W.heap.size := by
  rcases h.2 with ⟨hv, h0⟩ | ⟨g, cap, cur, hv, hb, r⟩
  · omega
  · cases hv
    exact ⟨g, rfl, hb, (h.lt g rfl).2⟩

set_option maxRecDepth 100000 in
set_option maxHeartbeats 2000000 in
theorem withO (base : Nat) (A D : Option Addr) (M add : List P2) (c d : Nat) (w : World) (hO : w.ownsRow base 48 2 (.slice A M.length c) M.length (cellsV M)) (hb : base ≤ w.heap.size) (ht : RowsV w base D add) (hd : add.length ≤ d) (hn : d ≤ maxLen) (hM : M.length ≤ 1000) (hA : add.length ≤ 1000) (hok : okV M = true) :
    Calls Tryd.prog 21 #[.slice A M.length c, .slice D add.length d] w fun e w' => ∃ (A2 : Option Addr) (c2 : Nat), e = .returned (.slice A2 (addAll M add).length c2) ∧ w'.ownsRow base 48 2 (.slice A2 (addAll M add).length c2) (addAll M add).length (cellsV (addAll M add)) ∧ Below base w w' := by
  obtain ⟨i0, hi0, hz0, hz1, hz2⟩ := info_parts pr_info
  have K1 : Hid (∀ W (x : P2), Calls Tryd.prog 29 #[.agg #[.int .u8 x.n, .int .u16 x.l]] W fun e w' => e = .returned (.bool x.r) ∧ Below W.heap.size W w') := Lib.hid (fun W x => (opRight x W).mono fun e w' h => ⟨h.1, by rw [← h.2]; exact (Below.refl _ _).alloc (Nat.le_refl _) _⟩)
  have HO : Hid (w.ownsRow base 48 2 (.slice A (addAll M (add.take 0)).length c) (addAll M (add.take 0)).length (cellsV (addAll M (add.take 0)))) := Lib.hid hO
  have HK := Lib.hid (fun j => addAll_ok hok (add.take j))
  unfold maxLen at hn
  clear hO hok
  go_enter Tryd.func21, Tryd.ntmps21
  go_wp2
  go_loopw [0, 10] (fun l i wx => ∃ (j : Nat) (A2 : Option Addr) (c2 : Nat), j ≤ add.length ∧ l = .slice A2 (addAll M (add.take j)).length c2 ∧ i = .int .i64 j ∧ Hid (wx.ownsRow base 48 2 (.slice A2 (addAll M (add.take j)).length c2) (addAll M (add.take j)).length (cellsV (addAll M (add.take j)))) ∧ Hid (Below base w wx)) (fun _ i _ => add.length - (intOf i).toNat)
  case atStart => exact ⟨0, A, c, by omega, rfl, rfl, HO, Lib.hid (Below.refl _ _)⟩
  case round =>
    clear HO
    obtain ⟨j, A2, c2, hj, rfl, rfl, O, B⟩ := hrel
    by_cases hlt : j < add.length
    · obtain ⟨b, o, rfl, hb3, C⟩ := ht.at_ hlt
      obtain ⟨c0, c1⟩ := C.below B.out hb3
      have HX := Lib.hid (show add[j]? = some add[j] from List.getElem?_eq_getElem hlt)
      have HStep := Lib.hid (addAll_take (W := M) HX.out)
      have HKL := Lib.hid (HK.out j)
      have hML : (addAll M (add.take j)).length ≤ 2000 := by
        have h1 := addAll_len M (add.take j)
        have h3 : (add.take j).length ≤ j := by simp; omega
        omega
      generalize addAll M (add.take j) = L at *
      generalize add[j] = x at *
      clear C ht
      have hji : (j : Int) < (add.length : Int) := by omega
      have hj0 : (0 : Int) ≤ (j : Int) := by omega
      have hci : (add.length : Int) ≤ (d : Int) := by omega
      have hBs := B.out.size
      have O0 := Lib.hid (O.out.alloc (.cells #[.int .u8 x.n, .int .u16 x.l] 48))
      have B0 := Lib.hid (B.out.alloc (by omega) (.cells #[.int .u8 x.n, .int .u16 x.l] 48))
      cases hxr : x.r with
      | false =>
        have HA1 : Hid (addOne L x = L) := Lib.hid (by simp [addOne, hxr])
        have K5 := Lib.hid (fun W => (hxr ▸ K1.out W x : Calls Tryd.prog 29 #[.agg #[.int .u8 x.n, .int .u16 x.l]] W fun e w' => e = .returned (.bool false) ∧ Below W.heap.size W w'))
        clear hxr
        go_wp2_with (go_at_call 29; refine (K5.out _).mono ?_; rintro e1 w1 ⟨rfl, b1⟩
                     have O1 := Lib.hid (own_kept O0.out b1)
                     have B1 := Lib.hid (B0.out.trans (b1.mono (by simp; omega)))
                     clear b1 c0 c1)
        go_roundw
        case rel => exact ⟨j + 1, A2, c2, by omega, by rw [HStep.out, HA1.out], by go_num, by rw [HStep.out, HA1.out]; exact O1, B1⟩
        case measure => simp [intOf]; omega
      | true =>
        have K5 := Lib.hid (fun W => (hxr ▸ K1.out W x : Calls Tryd.prog 29 #[.agg #[.int .u8 x.n, .int .u16 x.l]] W fun e w' => e = .returned (.bool true) ∧ Below W.heap.size W w'))
        have K6 : Hid (∀ W, W.ownsRow base 48 2 (.slice A2 L.length c2) L.length (cellsV L) → Calls Tryd.prog 30 #[.slice A2 L.length c2, .int .u8 x.n] W fun e w' => e = .returned (.int .i64 (la L x.n L.length)) ∧ Below W.heap.size W w') := Lib.hid (fun W hO => by
          obtain ⟨A3, c3, ev, RM, lm, cm⟩ := rowsV_of_own hO
          cases ev
          have := placeO A2 L c2 x.n W RM lm cm
          rwa [fi_la HKL.out] at this)
        by_cases h0 : 0 ≤ la L x.n L.length
        · have HA1 : Hid (addOne L x = L.set (la L x.n L.length).toNat x) := Lib.hid (by simp [addOne, hxr, h0])
          have hlt9 := (la_lt L x.n L.length).2
          clear hxr
          obtain ⟨z, hz⟩ : ∃ z : Nat, la L x.n L.length = (z : Int) := ⟨(la L x.n L.length).toNat, by omega⟩
          rw [hz] at h0 hlt9 HA1 K6
          have hzM : z < L.length := by omega
          have HA2 : Hid (addOne L x = L.set z x) := Lib.hid (by have := HA1.out; rwa [Int.toNat_natCast] at this)
          clear HA1 hz
          obtain ⟨gb, rfl, hgb, hgb2⟩ := own_len O.out (by omega)
          obtain ⟨cap, hlc, hcm⟩ : ∃ cap : Nat, L.length ≤ c2 ∧ c2 ≤ maxLen := by
            obtain ⟨A3, c3, ev, RM, lm, cm⟩ := rowsV_of_own O.out
            cases ev
            exact ⟨0, lm, cm⟩
          unfold maxLen at hcm
          have hzi : (z : Int) < (L.length : Int) := by omega
          have hc2i : (L.length : Int) ≤ (c2 : Int) := by omega
          go_wp2_with (first
            | (go_at_call 29; refine (K5.out _).mono ?_; rintro e1 w1 ⟨rfl, b1⟩
               have O1 := Lib.hid (own_kept O0.out b1)
               have B1 := Lib.hid (B0.out.trans (b1.mono (by simp; omega)))
               have d0 : w1.cell? ⟨wr.heap.size, 0, none⟩ = some (.int .u8 x.n) := (b1.cell (p := ⟨wr.heap.size, 0, none⟩) (by simp)).trans (by simp)
               have d1 : w1.cell? ⟨wr.heap.size, 1, none⟩ = some (.int .u16 x.l) := (b1.cell (p := ⟨wr.heap.size, 1, none⟩) (by simp)).trans (by simp)
               have s1 : wr.heap.size < w1.heap.size := Nat.lt_of_lt_of_le (by simp) b1.size
               clear b1 c0 c1)
            | (go_at_call 30; refine (K6.out _ O1.out).mono ?_; rintro e2 w2 ⟨rfl, b2⟩
               have O2 := Lib.hid (own_kept O1.out b2)
               have B2 := Lib.hid (B1.out.trans (b2.mono (by omega)))
               have p0 := (b2.cell (p := ⟨wr.heap.size, 0, none⟩) s1).trans d0
               have p1 := (b2.cell (p := ⟨wr.heap.size, 1, none⟩) s1).trans d1
               have OP := Lib.hid (own_put O2.out z x hzM)
               obtain ⟨m0, m1⟩ : PrAt w2 gb (z * 2) L[z] := by
                 obtain ⟨A3, c3, ev, RM, lm, cm⟩ := rowsV_of_own O2.out
                 cases ev
                 obtain ⟨gb', og, eg, -, CM⟩ := RM.at_ hzM
                 cases eg
                 rwa [Nat.zero_add] at CM
               generalize L[z] = y at m0 m1
               have f0 := frz_own O2.out (z * 2)
               have f1 := frz_own O2.out (z * 2 + 1)
               clear b2 d0 d1))
          go_roundw
          case rel => exact ⟨j + 1, some ⟨gb, 0, none⟩, c2, by omega, by rw [HStep.out, HA2.out, List.length_set], by go_num, by rw [HStep.out, HA2.out, List.length_set]; exact OP, Lib.hid ((B2.out.setCell (p := ⟨gb, z * 2, none⟩) hgb _).setCell (p := ⟨gb, z * 2 + 1, none⟩) hgb _)⟩
          case measure => simp [intOf]; omega
        · have HA1 : Hid (addOne L x = L ++ [x]) := Lib.hid (by simp [addOne, hxr, h0])
          have h0' : la L x.n L.length < 0 := by omega
          clear hxr h0
          generalize la L x.n L.length = z at *
          have hlx : Hid (x.cells.length = 1 * 2) := Lib.hid rfl
          have HS := Lib.hid (cellsV_snoc L x)
          go_wp2_with (first
            | (go_at_call 29; refine (K5.out _).mono ?_; rintro e1 w1 ⟨rfl, b1⟩
               have O1 := Lib.hid (own_kept O0.out b1)
               have B1 := Lib.hid (B0.out.trans (b1.mono (by simp; omega)))
               have d0 : w1.cell? ⟨wr.heap.size, 0, none⟩ = some (.int .u8 x.n) := (b1.cell (p := ⟨wr.heap.size, 0, none⟩) (by simp)).trans (by simp)
               have d1 : w1.cell? ⟨wr.heap.size, 1, none⟩ = some (.int .u16 x.l) := (b1.cell (p := ⟨wr.heap.size, 1, none⟩) (by simp)).trans (by simp)
               have s1 : wr.heap.size < w1.heap.size := Nat.lt_of_lt_of_le (by simp) b1.size
               clear b1 c0 c1)
            | (go_at_call 30; refine (K6.out _ O1.out).mono ?_; rintro e2 w2 ⟨rfl, b2⟩
               have O2 := Lib.hid ((own_kept O1.out b2).alloc (.cells #[.int .u8 x.n, .int .u16 x.l] 48))
               have hs2 := b2.size
               have B2 := Lib.hid ((B1.out.trans (b2.mono (by omega))).alloc (by omega) (.cells #[.int .u8 x.n, .int .u16 x.l] 48))
               have N2 := Lib.hid (cells_new w2 #[.int .u8 x.n, .int .u16 x.l] 48)
               have p0 := (b2.cell (p := ⟨wr.heap.size, 0, none⟩) s1).trans d0
               have p1 := (b2.cell (p := ⟨wr.heap.size, 1, none⟩) s1).trans d1
               clear b2 d0 d1)
            | (at_builtin
               refine wpList_append_own _ rfl (.tmp 27) (.tmp 29) 28 rfl base 48 i0 _ 2 4 Tryd.underlying28 hi0 hz0 hz1 hz2 rfl (by decide) _ L.length _ rfl O2.out ⟨w2.heap.size, 0, none⟩ 1 1 x.cells rfl rfl N2.out (fun u hu => cellsV_one [x] u (by simpa [cellsV] using hu)) (by unfold maxLen; omega) (by omega) (Nat.le_trans hb B2.out.size) ?_
               intro v' w3 hown' hgrow' hnil'
               have B3 := Lib.hid (B2.out.grown hgrow' (Nat.le_trans hb B2.out.size) fun k hk => (O2.out.lt k hk).1)
               obtain ⟨g', cap', rfl⟩ := ownsRow_succ hown'
               rw [← HS.out] at hown'
               have O3 := Lib.hid hown'
               clear hown' hgrow' hnil'))
          go_roundw
          case rel => exact ⟨j + 1, some ⟨g', 0, none⟩, cap', by omega, by rw [HStep.out, HA1.out]; simp, by go_num, by rw [HStep.out, HA1.out, List.length_append]; exact O3, B3⟩
          case measure => simp [intOf]; omega
    · have hkk : j = add.length := by omega
      subst hkk
      rw [List.take_length] at O ⊢
      go_wp2
      go_ret
      exact ⟨A2, c2, rfl, O.out, B.out⟩

end Go.Proofs.YtgmjhloednmfnaaDoor
