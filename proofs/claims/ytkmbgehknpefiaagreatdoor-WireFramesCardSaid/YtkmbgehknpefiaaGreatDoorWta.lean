/-
  The table of sums lies in memory below a bound; a sum's four bytes: by exact answers. No condition.
-/
import Derived.Test.YtkmbgehknpefiaaGreatDoorOfn
import Derived.Test.YtkmbgehknpefiaaGreatDoorOsm
import Derived.Test.YtkmbgehknpefiaaGreatDoorOsd
import Derived.Test.YtkmbgehknpefiaaGreatDoorOpp
namespace Go.Proofs.YtkmbgehknpefiaaGreatDoor
set_option linter.unusedSimpArgs false
set_option linter.unusedVariables false
open Go.RowKit

/-- the table of sums, below a bound. -/
def TabAt (B : Nat) (W : World) : Prop := 1 < B ∧ ∀ j, j < 16 → W.cell? ⟨1, j, none⟩ = some (.int .u32 (Crc.tab j))
theorem TabAt.below {B C : Nat} {W W' : World} (h : TabAt B W) (hb : Below C W W') (hC : B ≤ C) : TabAt B W' := ⟨h.1, fun j hj => (hb.cell (p := ⟨1, j, none⟩) (Nat.lt_of_lt_of_le h.1 hC)).trans (h.2 j hj)⟩
theorem TabAt.up {B B' : Nat} {W : World} (h : TabAt B W) (hB : B ≤ B') : TabAt B' W := ⟨Nat.lt_of_lt_of_le h.1 hB, h.2⟩

set_option maxRecDepth 100000 in
set_option maxHeartbeats 1000000 in
theorem sumByteO (s i : Nat) (x : UInt8) (w : World) (hs : s < 4294967296) (hx : (be4 s)[i]? = some x) :
    Calls Tryz.prog 128 #[.int .u32 s, .int .i64 i] w fun e w' => e = .returned (.int .u8 x.toNat) ∧ w' = w := by
  have hi : i < 4 := by
    have := (List.getElem?_eq_some_iff.1 hx).1
    rwa [be4_length] at this
  rcases (show i = 0 ∨ i = 1 ∨ i = 2 ∨ i = 3 by omega) with rfl | rfl | rfl | rfl
  · have hv : (x.toNat : Int) = (s : Int) / 16777216 := by
      have e : UInt8.ofNat (s / 16777216) = x := Option.some.inj hx
      rw [← e, toNat_of (by omega)]
      omega
    go_enter Tryz.func128, Tryz.ntmps128
    go_wp2
    go_ret
    exact ⟨by rw [hv]; rfl, rfl⟩
  · have hv : (x.toNat : Int) = (s : Int) / 65536 % 256 := by
      have e : UInt8.ofNat (s / 65536 % 256) = x := Option.some.inj hx
      rw [← e, toNat_of (by omega)]
      omega
    go_enter Tryz.func128, Tryz.ntmps128
    go_wp2
    go_ret
    exact ⟨by rw [hv]; rfl, rfl⟩
  · have hv : (x.toNat : Int) = (s : Int) / 256 % 256 := by
      have e : UInt8.ofNat (s / 256 % 256) = x := Option.some.inj hx
      rw [← e, toNat_of (by omega)]
      omega
    go_enter Tryz.func128, Tryz.ntmps128
    go_wp2
    go_ret
    exact ⟨by rw [hv]; rfl, rfl⟩
  · have hv : (x.toNat : Int) = (s : Int) % 256 := by
      have e : UInt8.ofNat (s % 256) = x := Option.some.inj hx
      rw [← e, toNat_of (by omega)]
      omega
    go_enter Tryz.func128, Tryz.ntmps128
    go_wp2
    go_ret
    exact ⟨by rw [hv]; rfl, rfl⟩

set_option maxRecDepth 100000 in
set_option maxHeartbeats 1000000 in
theorem hasO (base b : Nat) (L : List UInt8) (has : Bool) (W : World) (h : WrAt base b L W) (hB : base ≤ W.heap.size) (hl : L.length + 1 ≤ 140737488355328) :
    Calls Tryz.prog 85 #[.pointer (some ⟨b, 0, none⟩), .bool has] W fun e W' => e = .returned (.tuple #[]) ∧ WrAt base b (L ++ [flagB has]) W' ∧ Below base W W' ∧ KeepW b W W' := by
  cases has with
  | true =>
    have K := Lib.hid (wB base b L 1 W h hB hl (by omega) (by omega))
    clear h
    go_enter Tryz.func85, Tryz.ntmps85
    go_wp2_with fail
    refine K.out.mono ?_
    rintro e w1 ⟨rfl, h1, b1, q1⟩
    go_wp2
    go_end0
    exact ⟨rfl, h1, b1, q1⟩
  | false =>
    have K := Lib.hid (wB base b L 0 W h hB hl (by omega) (by omega))
    clear h
    go_enter Tryz.func85, Tryz.ntmps85
    go_wp2_with fail
    refine K.out.mono ?_
    rintro e w1 ⟨rfl, h1, b1, q1⟩
    go_wp2
    go_end0
    exact ⟨rfl, h1, b1, q1⟩

/-- a Writer lies as it lay where nothing but new blocks is turned. -/
theorem WrAt.below {base b : Nat} {L : List UInt8} {W W' : World} (h : WrAt base b L W) (hb : Below W.heap.size W W') : WrAt base b L W' := by
  obtain ⟨h1, v, h2, h3⟩ := h
  exact ⟨h1, v, (hb.block b h2.lt).trans h2, own_kept' h3 hb⟩

end Go.Proofs.YtkmbgehknpefiaaGreatDoor
