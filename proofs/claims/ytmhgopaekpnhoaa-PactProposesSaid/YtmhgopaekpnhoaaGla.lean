/-
  Light of a list of acts. Condition: the list lies in memory.
-/
import Derived.Test.YtmhgopaekpnhoaaGlt
import Derived.LoopN
namespace Go.Proofs.Ytmhgopaekpnhoaa
set_option linter.unusedSimpArgs false
set_option linter.unusedVariables false
open Go.RowKit Go.Maps Go.Sort
open V (P2)

/-- acts side by side. -/
def RowsA (W : World) (B : Nat) (A : Option Addr) (L : List Ax) : Prop := L ≠ [] → ∃ b o, A = some ⟨b, o, none⟩ ∧ b < B ∧ ∀ i a, L[i]? = some a → (∀ j u, a.cs[j]? = some u → W.cell? ⟨b, o + i * 8 + j, none⟩ = some u) ∧ a.In W B
theorem RowsA.below {W W' : World} {B B' C : Nat} {A : Option Addr} {L : List Ax} (h : RowsA W B A L) (hb : Below C W W') (hC : B ≤ C) (hB : B ≤ B') : RowsA W' B' A L := fun hne => by
  obtain ⟨b, o, e, hlt, hc⟩ := h hne
  exact ⟨b, o, e, Nat.lt_of_lt_of_le hlt hB, fun i e he => ⟨fun j u hj => (hb.cell (p := ⟨b, _, none⟩) (Nat.lt_of_lt_of_le hlt hC)).trans ((hc i e he).1 j u hj), (hc i e he).2.below hb hC hB⟩⟩
theorem RowsA.plc {W : World} {B : Nat} {A : Option Addr} {L : List Ax} (h : RowsA W B A L) {k : Nat} (hk : k < L.length) : ∃ b o, A = some ⟨b, o, none⟩ := by
  obtain ⟨b', o', e', _, _⟩ := h (by rintro rfl; simp at hk)
  exact ⟨b', o', e'⟩
theorem RowsA.at_ {W : World} {B b o : Nat} {L : List Ax} (h : RowsA W B (some ⟨b, o, none⟩) L) {k : Nat} {a : Ax} (hk : L[k]? = some a) : (∀ j u, a.cs[j]? = some u → W.cell? ⟨b, o + k * 8 + j, none⟩ = some u) ∧ a.In W B := by
  obtain ⟨b', o', e', _, hc⟩ := h (by rintro rfl; simp at hk)
  cases e'
  exact hc k a hk
/-- few and short. -/
def Ax.fine (a : Ax) : Prop := a.x.X.length ≤ 20 ∧ a.T.length ≤ 10 ∧ a.x.L.length ≤ 10
def LiR (L : List Ax) (e : Ending) : Prop := ∃ bo, e = .returned (.bool bo) ∧ (bo = true → L.length ≤ 50 ∧ ∀ a ∈ L, a.fine)
theorem LiR.no (L : List Ax) : LiR L (.returned (.bool false)) := ⟨false, rfl, fun h => by cases h⟩
theorem LiR.all {L : List Ax} (h : ∀ (j : Nat) (a : Ax), L[j]? = some a → j < 60 → a.fine) : LiR L (.returned (.bool (decide (L.length ≤ 50)))) := ⟨_, rfl, fun hb => by
  have hl : L.length ≤ 50 := of_decide_eq_true hb
  refine ⟨hl, fun a ha => ?_⟩
  obtain ⟨j, hj⟩ := List.getElem?_of_mem ha
  exact h j a hj (by have := (List.getElem?_eq_some_iff.1 hj).1; omega)⟩
set_option maxRecDepth 100000 in
set_option maxHeartbeats 2000000 in
theorem lightA (A : Option Addr) (L : List Ax) (c : Nat) (W : World) (hr : RowsA W W.heap.size A L) (hc : L.length ≤ c) (hm : c ≤ maxLen) :
    Calls Try.prog 8 #[.slice A L.length c] W fun e W' => LiR L e ∧ Below W.heap.size W W' := by
  obtain ⟨n, hn⟩ : ∃ n, L.length = n := ⟨_, rfl⟩
  rw [hn] at hc ⊢
  have HN := Lib.hid hn
  have HR := Lib.hid hr
  obtain ⟨base, hbase⟩ : ∃ x, W.heap.size = x := ⟨_, rfl⟩
  have HSZ : Hid (base = W.heap.size) := Lib.hid hbase.symm
  have hn2 : n ≤ 9223372036854775807 := by unfold maxLen at hm; omega
  rw [hbase]
  clear hr hn hbase hc hm
  go_enter Try.func8, Try.ntmps8
  go_wp2_with fail
  go_loopw [3] (fun i wx => ∃ (k : Nat), k ≤ n ∧ i = .int .i64 k ∧ Hid (∀ (j : Nat) (a : Ax), j < k → L[j]? = some a → a.fine) ∧ Hid (Below base W wx)) (fun i _ => n - (intOf i).toNat)
  case atStart => exact ⟨0, by omega, rfl, Lib.hid (fun j a hj => by omega), Lib.hid (by rw [HSZ.out]; exact Below.refl _ _)⟩
  case round =>
    obtain ⟨k, hk, rfl, HF, BB⟩ := hrel
    obtain ⟨u, hu⟩ : ∃ z : World, z = wr := ⟨_, rfl⟩
    subst hu
    by_cases hkn : k < n
    · have hk1 : (k : Int) < (n : Int) := by omega
      by_cases h200 : k < 60
      · have h201 : (k : Int) < 60 := by omega
        have HKN := Lib.hid hkn
        have hk0 : (0 : Int) ≤ (k : Int) := by omega
        have hkL : k < L.length := by rw [HN.out]; exact hkn
        obtain ⟨g, o, rfl⟩ := HR.out.plc hkL
        obtain ⟨a, hx⟩ : ∃ e, L[k]? = some e := ⟨_, List.getElem?_eq_getElem hkL⟩
        have hub : base ≤ u.heap.size := by rw [HSZ.out]; exact BB.out.size
        have bW : Below W.heap.size W u := by rw [← HSZ.out]; exact BB.out
        have hrr := (HR.out.below bW (Nat.le_refl _) bW.size).at_ hx
        obtain ⟨kd, ab, ap, TA, T, tc, ⟨xm, X, xt, VL⟩, ahas⟩ := a
        obtain ⟨MA, mc, e1, mr, ml, mm⟩ := hrr.2.v.m
        obtain ⟨LA, lc, e2, lr, ll, lm⟩ := hrr.2.v.t
        have tr := hrr.2.t
        have tl := hrr.2.tl
        have tm := hrr.2.tm
        dsimp only at e1 e2 mr ml lr ll tr tl tm
        subst e1 e2
        have K1 := Lib.hid (lightL TA T tc u tr tl tm)
        have K2 : Hid (∀ v, Below u.heap.size u v → Calls Try.prog 46 #[.slice LA VL.length lc] v fun e W' => IsB e ∧ Below v.heap.size v W') := Lib.hid (fun v hv => lightL LA VL lc v (lr.below hv (Nat.le_refl _) hv.size) ll lm)
        obtain ⟨nT, hnT⟩ : ∃ z, T.length = z := ⟨_, rfl⟩
        obtain ⟨nX, hnX⟩ : ∃ z, X.length = z := ⟨_, rfl⟩
        obtain ⟨nL, hnL⟩ : ∃ z, VL.length = z := ⟨_, rfl⟩
        have t4 : u.cell? ⟨g, o + k * 8 + 4, none⟩ = some (.slice TA nT tc) := by rw [← hnT]; exact hrr.1 4 _ rfl
        have t5 : u.cell? ⟨g, o + k * 8 + 5, none⟩ = some (.slice MA nX mc) := by rw [← hnX]; exact hrr.1 5 _ rfl
        have t6 : u.cell? ⟨g, o + k * 8 + 6, none⟩ = some (.slice LA nL lc) := by rw [← hnL]; exact hrr.1 6 _ rfl
        have T4 := Lib.hid t4
        have T6 := Lib.hid t6
        rw [hnT] at K1
        rw [hnL] at K2
        have HX := Lib.hid hx
        have HNT := Lib.hid hnT
        have HNX := Lib.hid hnX
        have HNL := Lib.hid hnL
        have HUB := Lib.hid hub
        have hrr0 := Lib.hid hrr
        clear hx hkn hkL bW hrr mr ml mm lr ll lm tr tl tm hnT hnX hnL hub
        by_cases h20 : nX ≤ 20
        · have h20i : ¬ (20 : Int) < (nX : Int) := by omega
          by_cases h10 : nT ≤ 10
          · have h10i : ¬ (10 : Int) < (nT : Int) := by omega
            by_cases h11 : nL ≤ 10
            · have h11i : ¬ (10 : Int) < (nL : Int) := by omega
              have FINE : Hid (∀ a, L[k]? = some a → a.fine) := Lib.hid fun a ha => by
                rw [HX.out] at ha
                cases ha
                refine ⟨?_, ?_, ?_⟩
                · show X.length ≤ 20
                  rw [HNX.out]; exact h20
                · show T.length ≤ 10
                  rw [HNT.out]; exact h10
                · show VL.length ≤ 10
                  rw [HNL.out]; exact h11
              clear h20 h10 h11
              go_wp2_with fail
              refine K1.out.mono ?_
              rintro r w2 ⟨⟨bo, rfl⟩, b2⟩
              have B2 := Lib.hid (BB.out.trans (b2.mono HUB.out))
              have K22 := Lib.hid (K2.out w2 b2)
              have HUB2 := Lib.hid (Nat.le_trans HUB.out b2.size)
              have t6 : w2.cell? ⟨g, o + k * 8 + 6, none⟩ = some (.slice LA nL lc) := (b2.cell (p := ⟨g, _, none⟩) (World.block_lt_of_cell? _ _ T6.out)).trans T6.out
              clear b2 K2 K1 t4 t5 hrr0
              cases bo with
              | false =>
                go_wp2_with fail
                go_ret
                exact ⟨LiR.no _, B2.out⟩
              | true =>
                go_wp2_with fail
                refine K22.out.mono ?_
                rintro r w3 ⟨⟨bo, rfl⟩, b3⟩
                have B3 := Lib.hid (B2.out.trans (b3.mono HUB2.out))
                clear b3 K22
                cases bo with
                | false =>
                  go_wp2_with fail
                  go_ret
                  exact ⟨LiR.no _, B3.out⟩
                | true =>
                  go_wp2_with fail
                  go_roundw
                  case rel => exact ⟨k + 1, by have := HKN.out; omega, by go_num, Lib.hid (fun j a hj ha => by
                    rcases Nat.lt_or_ge j k with h | h
                    · exact HF.out j a h ha
                    · obtain rfl : j = k := by omega
                      exact FINE.out a ha), B3⟩
                  case measure => have := HKN.out; simp [intOf]; omega
            · have h11i : (10 : Int) < (nL : Int) := by omega
              go_wp2_with fail
              go_ret
              exact ⟨LiR.no _, BB.out⟩
          · have h10i : (10 : Int) < (nT : Int) := by omega
            go_wp2_with fail
            go_ret
            exact ⟨LiR.no _, BB.out⟩
        · have h20i : (20 : Int) < (nX : Int) := by omega
          go_wp2_with fail
          go_ret
          exact ⟨LiR.no _, BB.out⟩
      · have h201 : ¬ (k : Int) < 60 := by omega
        have HEND : Hid (LiR L (.returned (.bool false))) := Lib.hid (LiR.no L)
        have h50 : ¬ (n : Int) ≤ 50 := by omega
        go_wp2_with fail
        go_ret
        exact ⟨HEND.out, BB.out⟩
    · have hk1 : ¬ (k : Int) < (n : Int) := by omega
      obtain rfl : n = k := by omega
      have HEND : Hid (LiR L (.returned (.bool (decide (n ≤ 50))))) := Lib.hid (by
        have := LiR.all (L := L) fun j a ha _ => HF.out j a (by have := (List.getElem?_eq_some_iff.1 ha).1; rw [HN.out] at this; exact this) ha
        rwa [HN.out] at this)
      have hdi : decide ((n : Int) ≤ 50) = decide (n ≤ 50) := by
        rw [Bool.eq_iff_iff]
        simp
        omega
      go_wp2_with fail
      go_ret
      refine ⟨?_, BB.out⟩
      first
        | exact HEND.out
        | (have := HEND.out; rw [← hdi] at this; exact this)

end Go.Proofs.Ytmhgopaekpnhoaa
