/-
  The law's knows, by contract.
-/
import Derived.Test.YthmdnbgfnaokkaaDoorQdo
namespace Go.Proofs.YthmdnbgfnaokkaaDoor
set_option linter.unusedSimpArgs false
set_option linter.unusedVariables false
open Go.RowKit Go.Sort


theorem dig5 : digN 5 = ⟨#[53]⟩ := by first | kernel_rfl | (unfold digN; simp [Lib.itoa]; first | kernel_rfl | (rw [Lib.decDigits]; simp; done) | (unfold Lib.decDigits; simp; done))
theorem par5 : parN ⟨#[53]⟩ = (5, true) := by first | rfl | decide
theorem do5 : doN 0 2 5 ⟨#[97]⟩ ⟨#[]⟩ [] = (0, ⟨#[53]⟩, some ⟨⟨#[97]⟩, ⟨#[53]⟩, true⟩) := by
  have e : (plusN ⟨⟨#[97]⟩, ByteArray.empty, false⟩ 5) = (5, true) := by simp [plusN, numN, wrap64]
  have g : getW [] ⟨#[97]⟩ = ⟨⟨#[97]⟩, ByteArray.empty, false⟩ := rfl
  have r : rP 0 2 5 ⟨#[97]⟩ ⟨#[]⟩ = true := by first | rfl | decide
  have o : outN 2 5 ⟨#[97]⟩ ⟨#[]⟩ ⟨⟨#[97]⟩, ByteArray.empty, false⟩ = (0, ⟨#[53]⟩, ⟨⟨#[97]⟩, ⟨#[53]⟩, true⟩) := by
    simp [outN, e, dig5]
  simp [doN, r, g, o]
theorem do9 : doN 0 3 9 ⟨#[97]⟩ ⟨#[]⟩ [⟨⟨#[97]⟩, ⟨#[53]⟩, true⟩] = (1, ⟨#[]⟩, none) := by
  have n : numN ⟨⟨#[97]⟩, ⟨#[53]⟩, true⟩ = (5, true) := by simp [numN, par5, dig5]
  have e : (plusN ⟨⟨#[97]⟩, ⟨#[53]⟩, true⟩ (-9)) = (-4, true) := by
    unfold plusN
    rw [n]
    simp [wrap64]
  have g : getW [⟨⟨#[97]⟩, ⟨#[53]⟩, true⟩] ⟨#[97]⟩ = ⟨⟨#[97]⟩, ⟨#[53]⟩, true⟩ := by simp [getW]
  have r : rP 0 3 9 ⟨#[97]⟩ ⟨#[]⟩ = true := by first | rfl | decide
  have o : outN 3 9 ⟨#[97]⟩ ⟨#[]⟩ ⟨⟨#[97]⟩, ⟨#[53]⟩, true⟩ = (1, ⟨#[]⟩, ⟨⟨#[97]⟩, ⟨#[53]⟩, true⟩) := by
    simp [outN, e]
  simp [doN, r, g, o]

theorem appOne (t : W3) (h : t.has = true) : appW [] t = [t] := by simp [appW, wout, h]
set_option maxRecDepth 100000 in
set_option maxHeartbeats 1000000 in
theorem knowsS (w : World) (B : Nat) (ht : Env B w) (n : Nat) (hn : w.heap.size = n) :
    Calls Tryd.prog 7 #[] w fun e w' => e = .returned (.bool true) ∧ Below n w w' := by
  have P0 := newS_st w
  rw [hn] at P0
  have HP0 := Lib.hid P0
  have B0 : Below n w ((w.alloc (.map #[] 0)).alloc (.cells #[.map (some n)] 87)) := ((Below.refl _ _).alloc (by omega) _).alloc (by simp; omega) _
  have HB0 := Lib.hid B0
  have ET := Lib.hid (fun (W : World) (hW : Below n w W) => ht.on (by rw [hn]; exact hW))
  have HN := Lib.hid hn
  clear P0 B0 ht
  go_enter Tryd.func7, Tryd.ntmps7
  go_wp2_with (go_at_call 25; refine (newS _).mono ?_; rintro e w1 ⟨rfl, rfl⟩; rw [hn])
  refine (doS (n + 1) n 0 0 2 5 ⟨#[97]⟩ ⟨#[]⟩ [] _ B HP0.out (by omega) (by unfold maxLen; omega) (by simp) (by omega) (by omega) (ET.out _ HB0.out)).mono ?_
  rintro e w2 ⟨sl, rfl, hsl, P2, g2⟩
  rw [do5] at hsl P2 ⊢
  obtain ⟨A, rfl⟩ := hsl
  dsimp only [doL] at P2
  rw [appOne _ rfl] at P2
  have B2 := Lib.hid (HB0.out.grown g2 (szOf HN.out HB0.out) (fun j e => by injection e with e; omega))
  have ba : Below w2.heap.size w2 (w2.alloc (.cells #[.int .u8 0, .string ⟨#[53]⟩] 33)) := (Below.refl _ _).alloc (Nat.le_refl _) _
  have P3 := Lib.hid (P2.below ba)
  have B3 := Lib.hid (B2.out.trans (ba.mono (szOf HN.out B2.out)))
  have a1 : (w2.alloc (.cells #[.int .u8 0, .string ⟨#[53]⟩] 33)).cell? ⟨w2.heap.size, 1, none⟩ = some (.string ⟨#[53]⟩) := new_cellW w2 _ _ 1 _ rfl
  have hs2 := szOf HN.out B2.out
  have hne2 : n + 1 < w2.heap.size := World.block_lt_of_cell? w2 _ P2.1
  clear ba P2 g2 HP0 HB0
  go_wp2_with fail
  refine (doS (n + 1) n 1 0 3 9 ⟨#[97]⟩ ⟨#[]⟩ [⟨⟨#[97]⟩, ⟨#[53]⟩, true⟩] _ B P3.out (by omega) (by unfold maxLen; omega) (by intro y hy; obtain rfl := List.mem_singleton.1 hy; decide) (by omega) (by omega) (ET.out _ B3.out)).mono ?_
  rintro e w4 ⟨sl, rfl, hsl, P4, g4⟩
  rw [do9] at hsl P4 ⊢
  obtain rfl : sl = .slice none 0 0 := hsl
  dsimp only [doL] at P4
  have B4 := Lib.hid (B3.out.grown g4 (szOf HN.out B3.out) (fun j e => by injection e with e; omega))
  have hw : w2.heap.size < (w2.alloc (.cells #[.int .u8 0, .string ⟨#[53]⟩] 33)).heap.size := by simp
  have a2 := (g4.cell_far ⟨w2.heap.size, 1, none⟩ hw (by intro e; have e2 : some w2.heap.size = some n := e; injection e2 with e2; have := B2.out.size; have := hne2; omega)).trans a1
  have bb : Below w4.heap.size w4 (w4.alloc (.cells #[.int .u8 1, .string ⟨#[]⟩] 33)) := (Below.refl _ _).alloc (Nat.le_refl _) _
  have P5 := Lib.hid (P4.below bb)
  have B5 := Lib.hid (B4.out.trans (bb.mono (szOf HN.out B4.out)))
  have h24 : w2.heap.size < w4.heap.size := Nat.lt_of_lt_of_le hw g4.size
  have a3 := (bb.cell (p := ⟨w2.heap.size, 1, none⟩) h24).trans a2
  have b0 : (w4.alloc (.cells #[.int .u8 1, .string ⟨#[]⟩] 33)).cell? ⟨w4.heap.size, 0, none⟩ = some (.int .u8 1) := new_cellW w4 _ _ 0 _ rfl
  clear bb P4 g4 a1 a2 P3 B2 B3 B4
  go_wp2_with (go_at_call 26; refine (lenS (n + 1) n 2 _ _ P5.out).mono ?_; rintro e w6 ⟨rfl, b6⟩; have B6 := Lib.hid (B5.out.trans (b6.mono (szOf HN.out B5.out))); clear b6)
  go_ret
  exact ⟨rfl, B6.out⟩

end Go.Proofs.YthmdnbgfnaokkaaDoor
