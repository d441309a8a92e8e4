/-
  The law's tail of a member, and a ballot. Condition: small numbers.
-/
import Derived.Test.YtfkmodmgihadkaaGzf
import Derived.Test.YtfkmodmgihadkaaGkw
import Derived.Test.YtfkmodmgihadkaaWel
import Derived.Test.YtfkmodmgihadkaaGnl
import Derived.Deep.MidRow
import Derived.LoopN
import Derived.Great.BuildSlice
import Derived.Deep.WholeRow
namespace Go.Proofs.Ytfkmodmgihadkaa
set_option linter.unusedSimpArgs false
set_option linter.unusedVariables false
open Go.RowKit Go.Maps Go.Sort
open V (P2)

theorem own_belowR {W W' : World} {base size n : Nat} {e : TypeId} {v : Value} {xs : List Value} (O : W.ownsRow base e size v n xs) (hb : Below W.heap.size W W') : W'.ownsRow base e size v n xs := by
  refine ⟨O.1, ?_⟩
  rcases O.2 with h | ⟨g, cap, cur, h1, h2, h3, h4⟩
  · exact .inl h
  · exact .inr ⟨g, cap, cur, h1, h2, (hb.block g (heap_lt h3)).trans h3, h4⟩
theorem wp_bsE {o : Oper} {a : Act} {w : World} {K : Act → World → Prop} {Q : Exit → Act → World → Prop} (x : Operand) (ho : o.op = .buildSlice 30 1 #[(0, x)]) (e : Le) (hx : a.eval x = .agg e.cs) (h : K (a.put o.dst (.slice (some ⟨w.heap.size, 0, none⟩) 1 1)) (w.alloc (.cells e.cs 93))) : o.wp Try.prog a w K Q := by
  obtain ⟨i0, hi0, hz0, hz1, hz2⟩ := info_parts entI
  refine wp_buildSlice 30 93 1 #[(0, x)] ho e.cs i0 _ Try.underlying30 hi0 hz0 (by rw [hz1]; decide) (by rw [hz1]; decide) ?_ h
  have := fillE e
  rw [hz1]
  simpa [hx] using this
theorem bits_or256 (a b : Nat) (ha : a ≤ 4294967295) (hb : b ≤ 255) : bits .or .u64 ((a : Int) * 256) (b : Int) = (a : Int) * 256 + (b : Int) := by
  have h := Nat.shiftLeft_add_eq_or_of_lt (a := a) (b := b) (i := 8) (by omega)
  have e1 : (a : Int) * 256 = ((a * 256 : Nat) : Int) := by omega
  rw [e1]
  have h0 : a <<< 8 = a * 256 := by rw [Nat.shiftLeft_eq]
  rw [h0] at h
  rw [bits_or_u64_nat (a * 256) b (by omega) (by omega), ← h]
  omega
set_option maxRecDepth 100000 in
theorem ballotC (r n : Int) (hr : 0 ≤ r ∧ r ≤ 4294967295) (hn : 0 ≤ n ∧ n ≤ 255) (W : World) : Calls Try.prog 15 #[.int .u32 r, .int .u8 n] W fun e W' => e = .returned (.int .u64 (r * 256 + n)) ∧ W = W' := by
  have h1 : IntKind.u64.wrap r = r := by
    unfold IntKind.wrap
    simp [IntKind.signed, IntKind.bits]
    omega
  have h2 : IntKind.u64.wrap n = n := by
    unfold IntKind.wrap
    simp [IntKind.signed, IntKind.bits]
    omega
  have h3 : bits .or .u64 (r * 256) n = r * 256 + n := by
    obtain ⟨a, rfl⟩ : ∃ a : Nat, r = (a : Int) := ⟨r.toNat, by omega⟩
    obtain ⟨b, rfl⟩ : ∃ b : Nat, n = (b : Int) := ⟨n.toNat, by omega⟩
    exact bits_or256 a b (by omega) (by omega)
  go_enter Try.func15, Try.ntmps15
  go_wp2
  go_ret
  exact ⟨rfl, rfl⟩
def kiE (n : Nat) : Le := ⟨{ k := 2, n := 0, l := 0, s := 0, d := 0, a0 := 0, a1 := 0, b0 := 0, b1 := 0, c0 := 0, c1 := 0, fl := 0, rc := 0, rv := ByteArray.empty, vn := n, vl := 1 }, none, [], 0, none, [], 0⟩
theorem wpList_bsT {ops : Array Oper} {rest : List Oper} {o : Oper} {a : Act} {w : World} {Q : Exit → Act → World → Prop} (hg : o.guard = none) (x : Operand) (ho : o.op = .buildSlice 30 1 #[(0, x)]) (e : Le) (hx : a.eval x = .agg e.cs)
    (h : wpList Try.prog ops Q rest (a.put o.dst (.slice (some ⟨w.heap.size, 0, none⟩) 1 1)) (w.alloc (.cells e.cs 93))) : wpList Try.prog ops Q (o :: rest) a w :=
  wpList_plain hg fun _ hK => wp_bsE x ho e hx (hK _ _ h)
theorem kiE_ok (n : Nat) (W : World) : LeO (kiE n) W := ⟨RowO.nil W _ _, RowO.nil W _ _, by simp [kiE], by simp [kiE]⟩
def TailR (n : Nat) (w : World) (base : Nat) (e : Ending) (w' : World) : Prop := ∃ v L, e = .returned v ∧ EnO w' v L ∧ L.length = n ∧ Below base w w'
set_option maxRecDepth 100000 in
set_option maxHeartbeats 2000000 in
theorem tailC (n : Nat) (hn : n ≤ 5) (w : World) : Calls Try.prog 22 #[.int .i64 n] w fun e w' => TailR n w w.heap.size e w' := by
  have KP0 := Lib.hid (fun i hi u => procC i hi u)
  obtain ⟨base2, hb2⟩ : ∃ z, w.heap.size = z := ⟨_, rfl⟩
  have HB2 := Lib.hid hb2
  have HN := Lib.hid hn
  rw [hb2]
  clear hb2
  go_enter Try.func22, Try.ntmps22
  go_wp2_with fail
  go_loopw [3, 4] (fun v i wx => ∃ (j : Nat), i = .int .i64 j ∧ j ≤ n ∧ Hid (wx.ownsRow base2 93 18 v j (cellsE ((List.range j).map kiE))) ∧ Hid (Below base2 w wx)) (fun _ i _ => n - (intOf i).toNat)
  case atStart => exact ⟨0, rfl, Nat.zero_le _, Lib.hid ⟨rfl, .inl ⟨rfl, rfl⟩⟩, Lib.hid (HB2.out ▸ Below.refl _ _)⟩
  case round =>
    obtain ⟨j, rfl, hj, O, B2'⟩ := hrel
    obtain ⟨x0, hx0⟩ : ∃ z : World, z = wr := ⟨_, rfl⟩
    subst hx0
    by_cases hjn : j < n
    · as_aux_lemma =>
      skip
      have hji : (j : Int) < (n : Int) := by omega
      have HJ := Lib.hid (And.intro hj hjn)
      have hjb : j < 5 := by omega
      have SX : Hid (base2 ≤ x0.heap.size) := Lib.hid (by have := B2'.out.size; have := HB2.out; omega)
      obtain ⟨i0, hi0, hz0, hz1, hz2⟩ := info_parts entI
      clear hj hjn
      go_wp2_with fail
      refine (KP0.out (j : Int) (by omega) x0).mono ?_
      rintro e x1 ⟨rfl, bx1⟩
      have BX1 := Lib.hid (B2'.out.trans (bx1.mono SX.out))
      have OX1 := Lib.hid (own_belowR O.out bx1)
      obtain ⟨ka, hka⟩ : ∃ z, x1.heap.size = z := ⟨_, rfl⟩
      have hsz : base2 ≤ ka := by have := bx1.size; have := SX.out; omega
      obtain ⟨x2, hx2⟩ : ∃ z, x1.alloc (.cells (kiE j).cs 93) = z := ⟨_, rfl⟩
      have bx2 : Below x1.heap.size x1 x2 := by rw [← hx2]; exact (Below.refl _ _).alloc (Nat.le_refl _) _
      have rx2 : x2.heap[ka]? = some (.cells (kiE j).cs 93 (0, 0)) := by rw [← hx2, ← hka]; exact heap_alloc_new _ _
      have BX2 := Lib.hid (BX1.out.trans (bx2.mono (by omega)))
      have OX2 := Lib.hid (own_belowR OX1.out bx2)
      have RX2 := Lib.hid rx2
      have HX2 := Lib.hid hx2
      have HKA := Lib.hid hka
      have SX2 : Hid (base2 ≤ x2.heap.size) := Lib.hid (Nat.le_trans (by omega) bx2.size)
      clear bx1 bx2 rx2 hx2 hka hsz
      go_wp2_with (first
        | (refine wpList_bsT rfl (.tmp 13) rfl (kiE j) (by rfl) ?_; rw [HX2.out, HKA.out])
        | (at_builtin
           refine wpList_append_own _ rfl (.tmp 10) (.tmp 14) 30 rfl base2 93 i0 _ 18 104 Try.underlying30 hi0 hz0 hz1 hz2 rfl (by decide) _ j _ rfl OX2.out ⟨ka, 0, none⟩ 1 1 (kiE j).cs.toList rfl rfl (fun q y hq => ?qc) (cellsE_one (kiE j)) (by have := HJ.out; have := HN.out; unfold maxLen; omega) (by have := HJ.out; have := HN.out; omega) SX2.out ?_
           case qc =>
             rw [addr_add, Nat.zero_add, cell_of_row _ _ q _ _ _ RX2.out]
             simpa using hq
           rintro v4 x4 o4 g4 -
           have O4 := Lib.hid o4
           have B4 : Hid (Below base2 w x4) := Lib.hid (BX2.out.grown g4 SX2.out fun q hq => (OX2.out.lt q hq).1)
           clear o4 g4)
        | fail)
      go_roundw
      case rel => exact ⟨j + 1, by have := HJ.out; have := HN.out; go_num, by have := HJ.out; omega, Lib.hid (by
        have e : cellsE ((List.range (j + 1)).map kiE) = cellsE ((List.range j).map kiE) ++ (kiE j).cs.toList := by
          rw [List.range_succ, List.map_append, cellsE_append]
          simp [cellsE]
        rw [e]
        exact O4.out), B4⟩
      case measure => have := HJ.out; simp [intOf]; omega
    · obtain rfl : n = j := by omega
      have hk1 : ¬ (n : Int) < (n : Int) := by omega
      clear hj hjn
      go_wp2_with fail
      go_ret
      refine ⟨_, (List.range n).map kiE, rfl, ⟨?_, fun e he => ?_⟩, by simp, B2'.out⟩
      · have h := RowO.of_owns O.out
        rw [show ((List.range n).map kiE).length = n by simp]
        exact h
      · obtain ⟨i, _, rfl⟩ := List.mem_map.1 he
        exact kiE_ok i _

end Go.Proofs.Ytfkmodmgihadkaa
