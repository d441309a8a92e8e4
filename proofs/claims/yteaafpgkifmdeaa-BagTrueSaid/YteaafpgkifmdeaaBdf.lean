/-
  differs: where bytes differ, and what that says of bytes that are the same, or spoilt. Condition: the bytes lie in memory.
-/
import Derived.Test.YteaafpgkifmdeaaBj1
namespace Go.Proofs.Yteaafpgkifmdeaa
set_option linter.unusedSimpArgs false
set_option linter.unusedVariables false
open Go.RowKit Go.Sort

/-- what the span says. -/
def DifOk (X Y : List UInt8) (d : Int) : Prop := -1 ≤ d ∧ d ≤ 7000 ∧ (X = Y → d = 0) ∧ (∀ a m, Y = xorAt X a (maskB m) 4 → a + 4 ≤ X.length → 0 < m → m < 4294967296 → 1 ≤ d ∧ d ≤ 4)
theorem maskB_some {m : Nat} (h0 : 0 < m) (h1 : m < 4294967296) : ∃ k, k < 4 ∧ maskB m k ≠ 0 := by
  refine Classical.byContradiction fun hn => ?_
  have h : ∀ k, k < 4 → m / 256 ^ k % 256 = 0 := fun k hk => by
    have h2 : maskB m k = 0 := Classical.byContradiction fun h => hn ⟨k, hk, h⟩
    have h3 := congrArg UInt8.toNat h2
    unfold maskB at h3
    rw [toNat_of (Nat.mod_lt _ (by omega))] at h3
    exact h3
  have a0 : m / 1 % 256 = 0 := h 0 (by omega)
  have a1 : m / 256 % 256 = 0 := h 1 (by omega)
  have a2 : m / 65536 % 256 = 0 := h 2 (by omega)
  have a3 : m / 16777216 % 256 = 0 := h 3 (by omega)
  omega
theorem xor_ne {b m : UInt8} (h : m ≠ 0) : b ^^^ m ≠ b := fun e => h (by
  have h1 : b ^^^ (b ^^^ m) = b ^^^ b := by rw [e]
  rw [← UInt8.xor_assoc, UInt8.xor_self, UInt8.zero_xor] at h1
  exact h1)
theorem spoilt_ne {X : List UInt8} {a m : Nat} (ha : a + 4 ≤ X.length) (h0 : 0 < m) (h1 : m < 4294967296) : xorAt X a (maskB m) 4 ≠ X := fun e => by
  obtain ⟨k, hk, hm⟩ := maskB_some h0 h1
  have h2 := xorAt_get X a (maskB m) 4 ha (a + k)
  rw [e, List.getElem?_eq_getElem (by omega)] at h2
  simp only [Option.map_some] at h2
  rw [if_pos ⟨by omega, by omega⟩, Nat.add_sub_cancel_left] at h2
  exact xor_ne hm (Option.some.inj h2).symm
theorem spoilt_in {X : List UInt8} {a m t : Nat} (ha : a + 4 ≤ X.length) (h : X[t]? ≠ (xorAt X a (maskB m) 4)[t]?) : a ≤ t ∧ t < a + 4 := Classical.byContradiction fun hn => h (by
  rw [xorAt_get X a (maskB m) 4 ha t]
  cases X[t]? with
  | none => rfl
  | some b => simp only [Option.map_some]; rw [if_neg hn])
theorem dif_len {X Y : List UInt8} (h : X.length ≠ Y.length) : DifOk X Y (-1) := ⟨by omega, by omega, fun e => absurd (congrArg List.length e) h, fun a m e => by
  have := congrArg List.length e
  rw [xorAt_length] at this
  exact absurd this.symm h⟩
theorem dif_same {X Y : List UInt8} (h : X = Y) : DifOk X Y 0 := ⟨by omega, by omega, fun _ => rfl, fun a m e ha h0 h1 => absurd (h.trans e).symm (spoilt_ne ha h0 h1)⟩
theorem dif_span {X Y : List UInt8} {f l : Nat} (hl : f ≤ l) (hn : l < X.length) (hm : X.length ≤ 6000) (h1 : X[f]? ≠ Y[f]?) (h2 : X[l]? ≠ Y[l]?) : DifOk X Y ((l : Int) - f + 1) := ⟨by omega, by omega, fun e => absurd (by rw [e]) h1, fun a m e ha _ _ => by
  rw [e] at h1 h2
  have h3 := spoilt_in ha h1
  have h4 := spoilt_in ha h2
  omega⟩

set_option maxRecDepth 100000 in
set_option maxHeartbeats 4000000 in
theorem differsB (A B : Option Addr) (X Y : List UInt8) (ca cb : Nat) (W : World) (hx : BytesAt W W.heap.size A X) (hy : BytesAt W W.heap.size B Y) (hl : X.length ≤ 6000) (hl2 : Y.length ≤ 140737488351232) :
    Calls Try.prog 22 #[.slice A X.length ca, .slice B Y.length cb] W fun e W' => ∃ d : Int, e = .returned (.int .i64 d) ∧ DifOk X Y d ∧ Below W.heap.size W W' := by
  by_cases hne : X.length = Y.length
  · have HX := Lib.hid hx
    have HY := Lib.hid hy
    have HNE := Lib.hid hne
    obtain ⟨n, hn⟩ : ∃ n, X.length = n := ⟨_, rfl⟩
    rw [← hne, hn]
    have HN := Lib.hid hn
    have hn6 : n ≤ 6000 := by omega
    clear hx hy hne hn hl hl2
    go_enter Try.func22, Try.ntmps22
    go_wp2
    go_loopw [5, 6, 7] (fun f l i wx => ∃ k : Nat, i = .int .i64 k ∧ k ≤ n ∧ Hid (Below W.heap.size W wx) ∧ ((f = .int .i64 (-1) ∧ l = .int .i64 (-1) ∧ Hid (∀ j, j < k → X[j]? = Y[j]?)) ∨ ∃ fn ln : Nat, f = .int .i64 fn ∧ l = .int .i64 ln ∧ fn ≤ 6000 ∧ ln ≤ 6000 ∧ Hid (fn ≤ ln ∧ ln < k ∧ X[fn]? ≠ Y[fn]? ∧ X[ln]? ≠ Y[ln]?))) (fun _ _ i _ => n - (intOf i).toNat)
    case atStart => exact ⟨0, rfl, by omega, Lib.hid (Below.refl _ _), .inl ⟨rfl, rfl, Lib.hid fun j hj => by omega⟩⟩
    case round =>
      obtain ⟨k, rfl, hk, BB, hinv⟩ := hrel
      by_cases hkn : k < n
      · have HKN := Lib.hid hkn
        have hk1 : (k : Int) < (n : Int) := by omega
        have hk0 : (0 : Int) ≤ (k : Int) := by omega
        obtain ⟨w4, hw4⟩ : ∃ X, wr.drew = X := ⟨_, rfl⟩
        have b4 : Below wr.heap.size wr w4 := by rw [← hw4]; exact (Below.refl _ _).drew
        have c4 := BB.out.trans (b4.mono BB.out.size)
        have hXk : k < X.length := by rw [HN.out]; exact hkn
        have hYk : k < Y.length := by rw [← HNE.out]; exact hXk
        obtain ⟨ab, ao, eA, hab, hA⟩ := HX.out (by rintro rfl; simp at hXk)
        obtain ⟨bb, bo, eB, hbb, hB⟩ := HY.out (by rintro rfl; simp at hYk)
        have gX := List.getElem?_eq_getElem hXk
        have gY := List.getElem?_eq_getElem hYk
        obtain ⟨xv, hxv⟩ : ∃ v, X[k] = v := ⟨_, rfl⟩
        obtain ⟨yv, hyv⟩ : ∃ v, Y[k] = v := ⟨_, rfl⟩
        rw [hxv] at gX
        rw [hyv] at gY
        have sA := (c4.cell (p := ⟨ab, _, none⟩) hab).trans (hA k xv gX)
        have sB := (c4.cell (p := ⟨bb, _, none⟩) hbb).trans (hB k yv gY)
        obtain ⟨p, hp⟩ : ∃ p, xv.toNat = p := ⟨_, rfl⟩
        obtain ⟨q, hq⟩ : ∃ q, yv.toNat = q := ⟨_, rfl⟩
        rw [hp] at sA
        rw [hq] at sB
        have HS : w4.cell? ⟨ab, ao + k, none⟩ = some (.int .u8 p) ∧ w4.cell? ⟨bb, bo + k, none⟩ = some (.int .u8 q) := ⟨sA, sB⟩
        have C4 := Lib.hid c4
        have HW4 := Lib.hid hw4
        subst eA eB
        by_cases hpq : p = q
        · have hxy : X[k]? = Y[k]? := by rw [gX, gY, UInt8.toNat_inj.1 (hp.trans (hpq.trans hq.symm))]
          have HXY := Lib.hid hxy
          subst hpq
          clear hxy sA sB gX gY hxv hyv hp hq hXk hYk hA hB hab hbb b4 c4 hw4 hkn
          rcases hinv with ⟨rfl, rfl, hall⟩ | ⟨fn, ln, rfl, rfl, hf6, hl6, hfl⟩
          · go_wp2_with fail
            refine region_heldT (S := fun X => X.cell? ⟨ab, ao + k, none⟩ = some (.int .u8 p) ∧ X.cell? ⟨bb, bo + k, none⟩ = some (.int .u8 p)) 8 (by kernel_rfl) (by decide) (fun inv => ?_)
            change FirstH _ _ _ _ _ _ _ _ _ _ wr.drew
            rw [HW4.out]
            refine FirstH.go (i := 0) (v := .slice (some ⟨ab, ao, none⟩) n ca) rfl rfl _ rfl _ rfl (by kernel_rfl) (fun _ _ _ h => h) inv (fun X _ => by unfold bareO; go_simp) HS (fun inv => ?_)
            try simp only [Act.put, List.setIfInBounds_toArray, List.set_cons_zero, List.set_cons_succ]
            refine FirstH.go (i := 1) (v := .int .i64 k) rfl rfl _ rfl _ rfl (by kernel_rfl) (fun _ _ _ h => h) inv (fun X _ => by unfold bareO; go_simp) HS (fun inv => ?_)
            try simp only [Act.put, List.setIfInBounds_toArray, List.set_cons_zero, List.set_cons_succ]
            refine FirstH.go (i := 2) (v := .pointer (some ⟨ab, ao + k, none⟩)) rfl rfl _ rfl _ rfl (by kernel_rfl) (fun _ _ _ h => h) inv (fun X _ => by unfold bareO; go_simp) HS (fun inv => ?_)
            try simp only [Act.put, List.setIfInBounds_toArray, List.set_cons_zero, List.set_cons_succ]
            refine FirstH.go (i := 3) (v := .int .u8 p) rfl rfl _ rfl _ rfl (by kernel_rfl) (fun _ _ _ h => h) inv (fun X hS => by obtain ⟨s1, s2⟩ := hS; unfold bareO; go_simp) HS (fun inv => ?_)
            try simp only [Act.put, List.setIfInBounds_toArray, List.set_cons_zero, List.set_cons_succ]
            refine FirstH.go (i := 4) (v := .slice (some ⟨bb, bo, none⟩) n cb) rfl rfl _ rfl _ rfl (by kernel_rfl) (fun _ _ _ h => h) inv (fun X _ => by unfold bareO; go_simp) HS (fun inv => ?_)
            try simp only [Act.put, List.setIfInBounds_toArray, List.set_cons_zero, List.set_cons_succ]
            refine FirstH.go (i := 5) (v := .int .i64 k) rfl rfl _ rfl _ rfl (by kernel_rfl) (fun _ _ _ h => h) inv (fun X _ => by unfold bareO; go_simp) HS (fun inv => ?_)
            try simp only [Act.put, List.setIfInBounds_toArray, List.set_cons_zero, List.set_cons_succ]
            refine FirstH.go (i := 6) (v := .pointer (some ⟨bb, bo + k, none⟩)) rfl rfl _ rfl _ rfl (by kernel_rfl) (fun _ _ _ h => h) inv (fun X _ => by unfold bareO; go_simp) HS (fun inv => ?_)
            try simp only [Act.put, List.setIfInBounds_toArray, List.set_cons_zero, List.set_cons_succ]
            refine FirstH.go (i := 7) (v := .int .u8 p) rfl rfl _ rfl _ rfl (by kernel_rfl) (fun _ _ _ h => h) inv (fun X hS => by obtain ⟨s1, s2⟩ := hS; unfold bareO; go_simp) HS (fun inv => ?_)
            try simp only [Act.put, List.setIfInBounds_toArray, List.set_cons_zero, List.set_cons_succ]
            clear HS
            refine ⟨by kernel_rfl, ?_⟩
            simp only [List.drop_succ_cons, List.drop_zero]
            go_wp2
            go_roundw
            case rel => exact ⟨k + 1, by go_num, by have := HKN.out; omega, C4, .inl ⟨rfl, rfl, Lib.hid fun j hj => by
              rcases Nat.lt_or_ge j k with h | h
              · exact hall.out j h
              · obtain rfl : j = k := by omega
                exact HXY.out⟩⟩
            case measure => have := HKN.out; simp [intOf]; omega
          · go_wp2_with fail
            refine region_heldT (S := fun X => X.cell? ⟨ab, ao + k, none⟩ = some (.int .u8 p) ∧ X.cell? ⟨bb, bo + k, none⟩ = some (.int .u8 p)) 8 (by kernel_rfl) (by decide) (fun inv => ?_)
            change FirstH _ _ _ _ _ _ _ _ _ _ wr.drew
            rw [HW4.out]
            refine FirstH.go (i := 0) (v := .slice (some ⟨ab, ao, none⟩) n ca) rfl rfl _ rfl _ rfl (by kernel_rfl) (fun _ _ _ h => h) inv (fun X _ => by unfold bareO; go_simp) HS (fun inv => ?_)
            try simp only [Act.put, List.setIfInBounds_toArray, List.set_cons_zero, List.set_cons_succ]
            refine FirstH.go (i := 1) (v := .int .i64 k) rfl rfl _ rfl _ rfl (by kernel_rfl) (fun _ _ _ h => h) inv (fun X _ => by unfold bareO; go_simp) HS (fun inv => ?_)
            try simp only [Act.put, List.setIfInBounds_toArray, List.set_cons_zero, List.set_cons_succ]
            refine FirstH.go (i := 2) (v := .pointer (some ⟨ab, ao + k, none⟩)) rfl rfl _ rfl _ rfl (by kernel_rfl) (fun _ _ _ h => h) inv (fun X _ => by unfold bareO; go_simp) HS (fun inv => ?_)
            try simp only [Act.put, List.setIfInBounds_toArray, List.set_cons_zero, List.set_cons_succ]
            refine FirstH.go (i := 3) (v := .int .u8 p) rfl rfl _ rfl _ rfl (by kernel_rfl) (fun _ _ _ h => h) inv (fun X hS => by obtain ⟨s1, s2⟩ := hS; unfold bareO; go_simp) HS (fun inv => ?_)
            try simp only [Act.put, List.setIfInBounds_toArray, List.set_cons_zero, List.set_cons_succ]
            refine FirstH.go (i := 4) (v := .slice (some ⟨bb, bo, none⟩) n cb) rfl rfl _ rfl _ rfl (by kernel_rfl) (fun _ _ _ h => h) inv (fun X _ => by unfold bareO; go_simp) HS (fun inv => ?_)
            try simp only [Act.put, List.setIfInBounds_toArray, List.set_cons_zero, List.set_cons_succ]
            refine FirstH.go (i := 5) (v := .int .i64 k) rfl rfl _ rfl _ rfl (by kernel_rfl) (fun _ _ _ h => h) inv (fun X _ => by unfold bareO; go_simp) HS (fun inv => ?_)
            try simp only [Act.put, List.setIfInBounds_toArray, List.set_cons_zero, List.set_cons_succ]
            refine FirstH.go (i := 6) (v := .pointer (some ⟨bb, bo + k, none⟩)) rfl rfl _ rfl _ rfl (by kernel_rfl) (fun _ _ _ h => h) inv (fun X _ => by unfold bareO; go_simp) HS (fun inv => ?_)
            try simp only [Act.put, List.setIfInBounds_toArray, List.set_cons_zero, List.set_cons_succ]
            refine FirstH.go (i := 7) (v := .int .u8 p) rfl rfl _ rfl _ rfl (by kernel_rfl) (fun _ _ _ h => h) inv (fun X hS => by obtain ⟨s1, s2⟩ := hS; unfold bareO; go_simp) HS (fun inv => ?_)
            try simp only [Act.put, List.setIfInBounds_toArray, List.set_cons_zero, List.set_cons_succ]
            clear HS
            refine ⟨by kernel_rfl, ?_⟩
            simp only [List.drop_succ_cons, List.drop_zero]
            go_wp2
            go_roundw
            case rel => exact ⟨k + 1, by go_num, by have := HKN.out; omega, C4, .inr ⟨fn, ln, rfl, rfl, hf6, hl6, Lib.hid ⟨hfl.out.1, by have := hfl.out.2.1; omega, hfl.out.2.2⟩⟩⟩
            case measure => have := HKN.out; simp [intOf]; omega
        · have hxy : X[k]? ≠ Y[k]? := by rw [gX, gY]; exact fun e => hpq (by rw [← hp, ← hq, Option.some.inj e])
          have HXY := Lib.hid hxy
          have hpq' : ¬ (p : Int) = q := by omega
          clear hxy sA sB gX gY hxv hyv hp hq hXk hYk hA hB hab hbb b4 c4 hw4 hkn
          rcases hinv with ⟨rfl, rfl, hall⟩ | ⟨fn, ln, rfl, rfl, hf6, hl6, hfl⟩
          · go_wp2_with fail
            refine region_heldT (S := fun X => X.cell? ⟨ab, ao + k, none⟩ = some (.int .u8 p) ∧ X.cell? ⟨bb, bo + k, none⟩ = some (.int .u8 q)) 8 (by kernel_rfl) (by decide) (fun inv => ?_)
            change FirstH _ _ _ _ _ _ _ _ _ _ wr.drew
            rw [HW4.out]
            refine FirstH.go (i := 0) (v := .slice (some ⟨ab, ao, none⟩) n ca) rfl rfl _ rfl _ rfl (by kernel_rfl) (fun _ _ _ h => h) inv (fun X _ => by unfold bareO; go_simp) HS (fun inv => ?_)
            try simp only [Act.put, List.setIfInBounds_toArray, List.set_cons_zero, List.set_cons_succ]
            refine FirstH.go (i := 1) (v := .int .i64 k) rfl rfl _ rfl _ rfl (by kernel_rfl) (fun _ _ _ h => h) inv (fun X _ => by unfold bareO; go_simp) HS (fun inv => ?_)
            try simp only [Act.put, List.setIfInBounds_toArray, List.set_cons_zero, List.set_cons_succ]
            refine FirstH.go (i := 2) (v := .pointer (some ⟨ab, ao + k, none⟩)) rfl rfl _ rfl _ rfl (by kernel_rfl) (fun _ _ _ h => h) inv (fun X _ => by unfold bareO; go_simp) HS (fun inv => ?_)
            try simp only [Act.put, List.setIfInBounds_toArray, List.set_cons_zero, List.set_cons_succ]
            refine FirstH.go (i := 3) (v := .int .u8 p) rfl rfl _ rfl _ rfl (by kernel_rfl) (fun _ _ _ h => h) inv (fun X hS => by obtain ⟨s1, s2⟩ := hS; unfold bareO; go_simp) HS (fun inv => ?_)
            try simp only [Act.put, List.setIfInBounds_toArray, List.set_cons_zero, List.set_cons_succ]
            refine FirstH.go (i := 4) (v := .slice (some ⟨bb, bo, none⟩) n cb) rfl rfl _ rfl _ rfl (by kernel_rfl) (fun _ _ _ h => h) inv (fun X _ => by unfold bareO; go_simp) HS (fun inv => ?_)
            try simp only [Act.put, List.setIfInBounds_toArray, List.set_cons_zero, List.set_cons_succ]
            refine FirstH.go (i := 5) (v := .int .i64 k) rfl rfl _ rfl _ rfl (by kernel_rfl) (fun _ _ _ h => h) inv (fun X _ => by unfold bareO; go_simp) HS (fun inv => ?_)
            try simp only [Act.put, List.setIfInBounds_toArray, List.set_cons_zero, List.set_cons_succ]
            refine FirstH.go (i := 6) (v := .pointer (some ⟨bb, bo + k, none⟩)) rfl rfl _ rfl _ rfl (by kernel_rfl) (fun _ _ _ h => h) inv (fun X _ => by unfold bareO; go_simp) HS (fun inv => ?_)
            try simp only [Act.put, List.setIfInBounds_toArray, List.set_cons_zero, List.set_cons_succ]
            refine FirstH.go (i := 7) (v := .int .u8 q) rfl rfl _ rfl _ rfl (by kernel_rfl) (fun _ _ _ h => h) inv (fun X hS => by obtain ⟨s1, s2⟩ := hS; unfold bareO; go_simp) HS (fun inv => ?_)
            try simp only [Act.put, List.setIfInBounds_toArray, List.set_cons_zero, List.set_cons_succ]
            clear HS
            refine ⟨by kernel_rfl, ?_⟩
            simp only [List.drop_succ_cons, List.drop_zero]
            go_wp2
            go_roundw
            case rel => exact ⟨k + 1, by go_num, by have := HKN.out; omega, C4, .inr ⟨k, k, rfl, rfl, by omega, by omega, Lib.hid ⟨Nat.le_refl _, by omega, HXY.out, HXY.out⟩⟩⟩
            case measure => have := HKN.out; simp [intOf]; omega
          · have hfn0 : ¬ (fn : Int) < 0 := by omega
            go_wp2_with fail
            refine region_heldT (S := fun X => X.cell? ⟨ab, ao + k, none⟩ = some (.int .u8 p) ∧ X.cell? ⟨bb, bo + k, none⟩ = some (.int .u8 q)) 8 (by kernel_rfl) (by decide) (fun inv => ?_)
            change FirstH _ _ _ _ _ _ _ _ _ _ wr.drew
            rw [HW4.out]
            refine FirstH.go (i := 0) (v := .slice (some ⟨ab, ao, none⟩) n ca) rfl rfl _ rfl _ rfl (by kernel_rfl) (fun _ _ _ h => h) inv (fun X _ => by unfold bareO; go_simp) HS (fun inv => ?_)
            try simp only [Act.put, List.setIfInBounds_toArray, List.set_cons_zero, List.set_cons_succ]
            refine FirstH.go (i := 1) (v := .int .i64 k) rfl rfl _ rfl _ rfl (by kernel_rfl) (fun _ _ _ h => h) inv (fun X _ => by unfold bareO; go_simp) HS (fun inv => ?_)
            try simp only [Act.put, List.setIfInBounds_toArray, List.set_cons_zero, List.set_cons_succ]
            refine FirstH.go (i := 2) (v := .pointer (some ⟨ab, ao + k, none⟩)) rfl rfl _ rfl _ rfl (by kernel_rfl) (fun _ _ _ h => h) inv (fun X _ => by unfold bareO; go_simp) HS (fun inv => ?_)
            try simp only [Act.put, List.setIfInBounds_toArray, List.set_cons_zero, List.set_cons_succ]
            refine FirstH.go (i := 3) (v := .int .u8 p) rfl rfl _ rfl _ rfl (by kernel_rfl) (fun _ _ _ h => h) inv (fun X hS => by obtain ⟨s1, s2⟩ := hS; unfold bareO; go_simp) HS (fun inv => ?_)
            try simp only [Act.put, List.setIfInBounds_toArray, List.set_cons_zero, List.set_cons_succ]
            refine FirstH.go (i := 4) (v := .slice (some ⟨bb, bo, none⟩) n cb) rfl rfl _ rfl _ rfl (by kernel_rfl) (fun _ _ _ h => h) inv (fun X _ => by unfold bareO; go_simp) HS (fun inv => ?_)
            try simp only [Act.put, List.setIfInBounds_toArray, List.set_cons_zero, List.set_cons_succ]
            refine FirstH.go (i := 5) (v := .int .i64 k) rfl rfl _ rfl _ rfl (by kernel_rfl) (fun _ _ _ h => h) inv (fun X _ => by unfold bareO; go_simp) HS (fun inv => ?_)
            try simp only [Act.put, List.setIfInBounds_toArray, List.set_cons_zero, List.set_cons_succ]
            refine FirstH.go (i := 6) (v := .pointer (some ⟨bb, bo + k, none⟩)) rfl rfl _ rfl _ rfl (by kernel_rfl) (fun _ _ _ h => h) inv (fun X _ => by unfold bareO; go_simp) HS (fun inv => ?_)
            try simp only [Act.put, List.setIfInBounds_toArray, List.set_cons_zero, List.set_cons_succ]
            refine FirstH.go (i := 7) (v := .int .u8 q) rfl rfl _ rfl _ rfl (by kernel_rfl) (fun _ _ _ h => h) inv (fun X hS => by obtain ⟨s1, s2⟩ := hS; unfold bareO; go_simp) HS (fun inv => ?_)
            try simp only [Act.put, List.setIfInBounds_toArray, List.set_cons_zero, List.set_cons_succ]
            clear HS
            refine ⟨by kernel_rfl, ?_⟩
            simp only [List.drop_succ_cons, List.drop_zero]
            go_wp2
            go_roundw
            case rel => exact ⟨k + 1, by go_num, by have := HKN.out; omega, C4, .inr ⟨fn, k, rfl, rfl, by omega, by omega, Lib.hid ⟨by have := hfl.out; omega, by omega, hfl.out.2.2.1, HXY.out⟩⟩⟩
            case measure => have := HKN.out; simp [intOf]; omega
      · obtain rfl : n = k := by omega
        have hk1 : ¬ (n : Int) < (n : Int) := by omega
        rcases hinv with ⟨rfl, rfl, hall⟩ | ⟨fn, ln, rfl, rfl, hf6, hl6, hfl⟩
        · have he : DifOk X Y 0 := dif_same (List.ext_getElem? fun j => by
            by_cases hj : j < n
            · exact hall.out j hj
            · rw [List.getElem?_eq_none (by rw [HN.out]; omega), List.getElem?_eq_none (by rw [← HNE.out, HN.out]; omega)])
          have HE := Lib.hid he
          clear he
          go_wp2
          go_ret
          exact ⟨0, rfl, HE.out, BB.out⟩
        · have hfn0 : ¬ (fn : Int) < 0 := by omega
          have he : DifOk X Y ((ln : Int) - fn + 1) := dif_span hfl.out.1 (by rw [HN.out]; exact hfl.out.2.1) (by rw [HN.out]; exact hn6) hfl.out.2.2.1 hfl.out.2.2.2
          have HE := Lib.hid he
          have hll := hfl.out.1
          clear he
          go_wp2
          go_ret
          exact ⟨(ln : Int) - fn + 1, rfl, HE.out, BB.out⟩
  · have HD := Lib.hid (dif_len hne)
    have hn1 : ¬ (X.length : Int) = (Y.length : Int) := by omega
    obtain ⟨n, hn⟩ : ∃ n, X.length = n := ⟨_, rfl⟩
    obtain ⟨m, hm⟩ : ∃ n, Y.length = n := ⟨_, rfl⟩
    rw [hn, hm] at hn1 ⊢
    rw [hn] at hl
    rw [hm] at hl2
    clear hx hy hne hn hm
    go_enter Try.func22, Try.ntmps22
    go_wp2
    go_ret
    exact ⟨-1, rfl, HD.out, Below.refl _ _⟩

end Go.Proofs.Yteaafpgkifmdeaa
