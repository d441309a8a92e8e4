/-
  The whole text of one known call, by a contract. Condition: the table of the powers of ten is as its text lays it.
-/
import Derived.Test.YtnkimbmnnhnanaaDoorEsh
namespace Go.Proofs.YtnkimbmnnhnanaaDoor
set_option linter.unusedSimpArgs false
set_option linter.unusedVariables false
open Go.RowKit Go.Sort

def kQ : P5 := ⟨0, 3, { data := #[97] }, { data := #[] }, 5⟩
theorem digK (z : Int) (h0 : 0 ≤ z) (h1 : z < 10) : digB z = ⟨#[UInt8.ofNat (48 + z.toNat)]⟩ := by
  obtain ⟨m, rfl⟩ : ∃ m : Nat, z = m := ⟨z.toNat, by omega⟩
  unfold digB
  rw [Lib.itoa_nonneg, Lib.decDigits, dif_pos (by omega)]
  simp
theorem showB_k : showB 0 3 5 { data := #[97] } { data := #[] } = { data := #[48, 58, 84, 97, 107, 101, 40, 97, 45, 53, 41] } := by
  unfold showB deedB
  rw [digK 0 (by omega) (by omega), digK 5 (by omega) (by omega)]
  rfl
theorem str_info : (Tryd.prog.info? 9).map (fun i => (i.zero, i.size, i.bytes)) = some (some (.string ByteArray.empty), 1, 16) := by kernel_rfl

set_option maxRecDepth 100000 in
set_option maxHeartbeats 1000000 in
theorem showK (bp : Nat) (w : World) (B0 : Nat) (ht : Okw B0 w) (hb : bp < w.heap.size) (hp : PartAt w bp 0 kQ) :
    Calls Tryd.prog 15 #[.agg #[.int .u8 0, .int .u8 1, .int .u16 1, .int .u32 5, .int .u8 0, .int .u8 0, .int .u8 0, .int .u8 0, .int .u8 0, .int .u8 0, .int .u8 0, .int .u32 0, .slice (some ⟨bp, 0, none⟩) 1 1, .int .u8 0, .string ByteArray.empty, .slice none 0 0, .int .u8 0, .int .u16 0]] w fun e w' => e = .returned (.string { data := #[67, 97, 108, 108, 32, 49, 46, 49, 47, 53, 32, 48, 58, 84, 97, 107, 101, 40, 97, 45, 53, 41] }) ∧ Below w.heap.size w w' := by
  obtain ⟨i0, hi0, hz0, hz1, hz2⟩ := info_parts str_info
  have S1 : Hid (∀ W : World, Okw B0 W → Calls Tryd.prog 47 #[.agg #[.int .u8 0, .int .u8 3, .string { data := #[97] }, .string { data := #[] }, .int .i64 5]] W fun e w' => e = .returned (.string { data := #[48, 58, 84, 97, 107, 101, 40, 97, 45, 53, 41] }) ∧ Below W.heap.size W w') :=
    Lib.hid (fun W hW => by rw [← showB_k]; exact show_any 0 3 5 _ _ W B0 (by omega) (by omega) (by omega) (by omega) (by omega) (by decide) hW)
  have HT := Lib.hid ht
  have HP := Lib.hid hp
  clear ht hp
  go_enter Tryd.func15, Tryd.ntmps15
  go_wp2_with (first
    | (go_at_call 44; refine (word0 _).mono ?_; rintro e w1 ⟨rfl, rfl⟩)
    | (go_at_call 46; refine (id115 _).mono ?_; rintro e w2 ⟨rfl, b2⟩
       have e12 : w2.cell? ⟨w.heap.size, 12, none⟩ = some (.slice (some ⟨bp, 0, none⟩) 1 1) := (b2.cell (p := ⟨w.heap.size, 12, none⟩) (by simp)).trans (by simp)
       have H2 := Lib.hid (((Below.refl w.heap.size w).alloc (Nat.le_refl _) (.cells #[.int .u8 0, .int .u8 1, .int .u16 1, .int .u32 5, .int .u8 0, .int .u8 0, .int .u8 0, .int .u8 0, .int .u8 0, .int .u8 0, .int .u8 0, .int .u32 0, .slice (some ⟨bp, 0, none⟩) 1 1, .int .u8 0, .string ByteArray.empty, .slice none 0 0, .int .u8 0, .int .u16 0] 49)).trans (b2.mono (by simp)))
       have lt2 : w.heap.size < w2.heap.size := World.block_lt_of_cell? _ _ e12
       clear b2))
  have e12' : (w2.alloc (.cells #[.string { data := #[67, 97, 108, 108] }, .string { data := #[49, 46, 49, 47, 53] }] 9)).cell? ⟨w.heap.size, 12, none⟩ = some (.slice (some ⟨bp, 0, none⟩) 1 1) := (World.cell?_alloc_lt _ _ _ (by exact lt2)).trans e12
  have OL := Lib.hid (show (w2.alloc (.cells #[.string { data := #[67, 97, 108, 108] }, .string { data := #[49, 46, 49, 47, 53] }] 9)).ownsRow w.heap.size 9 1 (.slice (some ⟨w2.heap.size, 0, none⟩) 2 2) 2 [.string { data := #[67, 97, 108, 108] }, .string { data := #[49, 46, 49, 47, 53] }] from ⟨rfl, .inr ⟨w2.heap.size, 2, _, rfl, Nat.le_of_lt lt2, heap_alloc_new w2 _, Nat.le_refl _, by unfold maxLen; omega, rfl, rfl⟩⟩)
  have H3 := Lib.hid (H2.out.alloc (Nat.le_of_lt lt2) (.cells #[.string { data := #[67, 97, 108, 108] }, .string { data := #[49, 46, 49, 47, 53] }] 9))
  have lt3 : w.heap.size < (w2.alloc (.cells #[.string { data := #[67, 97, 108, 108] }, .string { data := #[49, 46, 49, 47, 53] }] 9)).heap.size := by simp; omega
  clear e12 H2
  generalize hw3 : w2.alloc (.cells #[.string { data := #[67, 97, 108, 108] }, .string { data := #[49, 46, 49, 47, 53] }] 9) = w3 at *
  clear hw3
  refine wp_loop_rounds 2 ?_
  rw [rounds_succ]
  obtain ⟨c0, c1, c2, c3, c4⟩ := HP.out.below H3.out hb
  simp only [kQ, Nat.zero_add] at c0 c1 c2 c3 c4
  have HK := Lib.hid ((HT.out.on H3.out).alloc (.cells #[.int .u8 0, .int .u8 3, .string { data := #[97] }, .string { data := #[] }, .int .i64 5] 56))
  have H4 := Lib.hid (H3.out.alloc (Nat.le_of_lt lt3) (.cells #[.int .u8 0, .int .u8 3, .string { data := #[97] }, .string { data := #[] }, .int .i64 5] 56))
  have O4 := Lib.hid (OL.out.alloc (.cells #[.int .u8 0, .int .u8 3, .string { data := #[97] }, .string { data := #[] }, .int .i64 5] 56))
  go_wp2_with (first
    | (go_at_call 47; refine (S1.out _ HK.out).mono ?_; rintro e w5 ⟨rfl, b5⟩
       have H5 := Lib.hid (H4.out.trans (b5.mono H4.out.size))
       have O5 := Lib.hid ((own_kept O4.out b5).alloc (.cells #[.string { data := #[48, 58, 84, 97, 107, 101, 40, 97, 45, 53, 41] }] 9))
       have H6 := Lib.hid (H5.out.alloc H5.out.size (.cells #[.string { data := #[48, 58, 84, 97, 107, 101, 40, 97, 45, 53, 41] }] 9))
       clear b5)
    | (at_builtin
       refine wpList_append_own _ rfl (.tmp 33) (.tmp 36) 90 rfl w.heap.size 9 i0 _ 1 16 Tryd.underlying90 hi0 hz0 hz1 hz2 rfl (by decide) _ 2 _ rfl O5.out ⟨w5.heap.size, 0, none⟩ 1 1 [.string { data := #[48, 58, 84, 97, 107, 101, 40, 97, 45, 53, 41] }] rfl rfl ?_ (by intro u hu; simp at hu; subst hu; rfl) (by unfold maxLen; omega) (by omega) H6.out.size ?_
       · intro j u hj
         have := cells_new w5 #[.string { data := #[48, 58, 84, 97, 107, 101, 40, 97, 45, 53, 41] }] 9 j u (by simpa using hj)
         exact this
       intro v7 w7 O7 g7 n7
       have H7 := Lib.hid (H6.out.grown g7 H6.out.size (fun k hk => (O5.out.lt k hk).1))
       have OO7 := Lib.hid O7
       clear O7 g7 n7))
  rw [rounds_succ]
  obtain ⟨_, ⟨_, h0⟩ | ⟨g, cap, cur, rfl, hb0, hg, hnc, hcm, hcs, ht⟩⟩ := OO7.out
  · exact absurd h0 (by omega)
  have HC := Lib.hid (OO7.out.cells (g := g) rfl)
  have HG := Lib.hid (Array.getElem?_eq_some_iff.1 hg).1
  have HCM := Lib.hid (show 3 ≤ cap from hnc)
  clear hg ht hcs
  go_wp2_with (go_at_call 48; refine (Tryd.strings_Join g 0 cap [{ data := #[67, 97, 108, 108] }, { data := #[49, 46, 49, 47, 53] }, { data := #[48, 58, 84, 97, 107, 101, 40, 97, 45, 53, 41] }] { data := #[32] } w7 ?_ HG.out (by simp) HCM.out (by decide)).mono ?_
               · intro j x hj
                 have := HC.out j (.string x) (by
                   rcases j with _ | _ | _ | j
                   · simp at hj; subst hj; rfl
                   · simp at hj; subst hj; rfl
                   · simp at hj; subst hj; rfl
                   · simp at hj)
                 rw [Nat.zero_add]
                 by_cases h0 : j = 0
                 · subst h0; exact this
                 · simpa [Addr.add, h0] using this
               rintro e w8 ⟨rfl, b8⟩
               have H8 := Lib.hid (H7.out.trans (b8.mono H7.out.size))
               clear b8)
  go_ret
  exact ⟨rfl, H8.out⟩

end Go.Proofs.YtnkimbmnnhnanaaDoor
