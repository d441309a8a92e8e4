/-
  The law's RefParts: parts of the program as the document's, by a contract. Condition: the list takes at most 2^47 bytes.
-/
import Derived.Test.YtmhgopaekpnhoaaEbas
namespace Go.Proofs.Ytmhgopaekpnhoaa
set_option linter.unusedSimpArgs false
set_option linter.unusedVariables false
open Go.RowKit

theorem rpart_info : (Try.prog.info? 166).map (fun i => (i.zero, i.size, i.bytes)) = some (some (.agg #[.int .u8 0, .int .u8 0, .string ByteArray.empty, .string ByteArray.empty, .int .i64 0]), 5, 48) := by kernel_rfl

set_option maxHeartbeats 400000 in
theorem refPart (g k n : Int) (key val : ByteArray) (w : World) :
    Calls Try.prog 100 #[.agg #[.int .u8 g, .int .u8 k, .string key, .string val, .int .i64 n]] w fun e w' => e = .returned (.agg #[.int .u8 g, .int .u8 k, .string key, .string val, .int .i64 n]) ∧ ((w.alloc (.cells #[.int .u8 g, .int .u8 k, .string key, .string val, .int .i64 n] 176)).alloc (.cells #[.int .u8 g, .int .u8 k, .string key, .string val, .int .i64 n] 166)) = w' := by
  go_enter Try.func100, Try.ntmps100
  go_wp2
  exact bodyPost_ret (v := .agg #[.int .u8 g, .int .u8 k, .string key, .string val, .int .i64 n]) (by simp [results, Try.results100, go_sem]) rfl ⟨rfl, by simp⟩

set_option maxRecDepth 100000 in
set_option maxHeartbeats 2000000 in
theorem refParts (A : Option Addr) (X : List P5) (c : Nat) (w : World) (hr : RowsP w w.heap.size A X) (hX : X.length * 48 ≤ 140737488355328) (hc : X.length ≤ c) (hm : c ≤ maxLen) :
    Calls Try.prog 89 #[.slice A X.length c] w fun e w' => ∃ v, e = .returned v ∧ w'.ownsRow w.heap.size 166 5 v X.length (cellsP X) ∧ Below w.heap.size w w' := by
  obtain ⟨i0, hi0, hz0, hz1, hz2⟩ := info_parts rpart_info
  unfold maxLen at hm
  go_enter Try.func89, Try.ntmps89
  go_wp2
  go_loopw [3, 4] (fun v i wx => ∃ k : Nat, k ≤ X.length ∧ i = .int .i64 k ∧ Hid (wx.ownsRow w.heap.size 166 5 v k (cellsP (X.take k))) ∧ Hid (Below w.heap.size w wx)) (fun _ i _ => X.length - (intOf i).toNat)
  case atStart => exact ⟨0, by omega, rfl, Lib.hid ⟨rfl, .inl ⟨rfl, rfl⟩⟩, Lib.hid (Below.refl _ _)⟩
  case round =>
    obtain ⟨k, hk, rfl, O, B⟩ := hrel
    by_cases hlt : k < X.length
    · obtain ⟨b, o, rfl, hb, C⟩ := hr.at_ hlt
      have C' := C.below B.out hb
      have hx : X[k]? = some X[k] := List.getElem?_eq_getElem hlt
      have htk : cellsP (X.take (k + 1)) = cellsP (X.take k) ++ (X[k]).cells := by
        rw [List.take_add_one, hx]; exact cellsP_snoc _ _
      have HT := Lib.hid htk
      generalize X[k] = x at *
      obtain ⟨c0, c1, c2, c3, c4⟩ := C'
      clear hr C hx htk
      have hji : (k : Int) < (X.length : Int) := by omega
      have hci : (X.length : Int) ≤ (c : Int) := by omega
      have O1 := ((O.out.alloc (.cells #[.int .u8 x.g, .int .u8 x.k, .string x.key, .string x.val, .int .i64 x.n] 176)).alloc (.cells #[.int .u8 x.g, .int .u8 x.k, .string x.key, .string x.val, .int .i64 x.n] 166)).alloc (.cells #[.int .u8 x.g, .int .u8 x.k, .string x.key, .string x.val, .int .i64 x.n] 166)
      have B1 := ((B.out.alloc B.out.size (.cells #[.int .u8 x.g, .int .u8 x.k, .string x.key, .string x.val, .int .i64 x.n] 176)).alloc (by have := B.out.size; simp; omega) (.cells #[.int .u8 x.g, .int .u8 x.k, .string x.key, .string x.val, .int .i64 x.n] 166)).alloc (by have := B.out.size; simp; omega) (.cells #[.int .u8 x.g, .int .u8 x.k, .string x.key, .string x.val, .int .i64 x.n] 166)
      have N1 := cells_new ((wr.alloc (.cells #[.int .u8 x.g, .int .u8 x.k, .string x.key, .string x.val, .int .i64 x.n] 176)).alloc (.cells #[.int .u8 x.g, .int .u8 x.k, .string x.key, .string x.val, .int .i64 x.n] 166)) #[.int .u8 x.g, .int .u8 x.k, .string x.key, .string x.val, .int .i64 x.n] 166
      have HO := Lib.hid O1
      have HB := Lib.hid B1
      have HN := Lib.hid N1
      have hlx : Hid (x.cells.length = 1 * 5) := Lib.hid rfl
      clear O1 B1 N1
      go_wp2_with (first
        | (go_at_call 100; refine (refPart _ _ _ _ _ _).mono ?_; rintro e w' ⟨rfl, rfl⟩)
        | (at_builtin
           refine wpList_append_own _ rfl (.tmp 11) (.tmp 17) 134 rfl w.heap.size 166 i0 _ 5 48 Try.underlying134 hi0 hz0 hz1 hz2 rfl (by decide) _ k _ rfl HO.out ⟨wr.heap.size + 1 + 1, 0, none⟩ 1 1 x.cells rfl rfl ?_ ?_ (by unfold maxLen; omega) (by omega) HB.out.size ?_
           · intro j u hj; have := HN.out j u hj; simpa using this
           · intro u hu; exact cellsP_one [x] u (by simpa [cellsP] using hu)
           intro v' w' hown' hgrow' hnil'
           have BB := Lib.hid (own_snoc HB.out HO.out hgrow')
           rw [← HT.out] at hown'
           have OO := Lib.hid hown'
           clear hown' hgrow' hnil'))
      go_roundw
      case rel => exact ⟨k + 1, by omega, by go_num, OO, BB⟩
      case measure => simp [intOf]; omega
    · have hkk : k = X.length := by omega
      subst hkk
      rw [List.take_length] at O
      go_wp2
      go_ret
      exact ⟨_, rfl, O.out, B.out⟩

end Go.Proofs.Ytmhgopaekpnhoaa
