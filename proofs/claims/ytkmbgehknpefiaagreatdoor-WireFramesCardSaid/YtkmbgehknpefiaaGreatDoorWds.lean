/-
  The document's flag, its RightProc, its Summed: by exact answers. Condition: the bytes lie in memory and are at most 2^40, more than none.
-/
import Derived.Test.YtkmbgehknpefiaaGreatDoorWpc
import Derived.Test.YtkmbgehknpefiaaGreatDoorOsd
namespace Go.Proofs.YtkmbgehknpefiaaGreatDoor
set_option linter.unusedSimpArgs false
set_option linter.unusedVariables false
open Go.RowKit Go.Sort

set_option maxHeartbeats 400000 in
theorem dRight (n l : Nat) (w : World) :
    Calls Tryz.prog 64 #[.agg #[.int .u8 n, .int .u16 l]] w fun e w' => e = .returned (.bool (rp n l)) ∧ Below w.heap.size w w' := by
  by_cases h1 : n < 16
  · have h1' : (n : Int) < 16 := by omega
    by_cases h2 : 1 ≤ l
    · have h2' : (1 : Int) ≤ (l : Int) := by omega
      go_enter Tryz.func64, Tryz.ntmps64
      go_wp2
      go_ret
      exact ⟨by simp [rp, h1, h2], (Below.refl _ _).alloc (Nat.le_refl _) _⟩
    · have h2' : ¬ (1 : Int) ≤ (l : Int) := by omega
      go_enter Tryz.func64, Tryz.ntmps64
      go_wp2
      go_ret
      exact ⟨by simp [rp, h1, h2], (Below.refl _ _).alloc (Nat.le_refl _) _⟩
  · have h1' : ¬ (n : Int) < 16 := by omega
    go_enter Tryz.func64, Tryz.ntmps64
    go_wp2
    go_ret
    exact ⟨by simp [rp, h1], (Below.refl _ _).alloc (Nat.le_refl _) _⟩

set_option maxHeartbeats 400000 in
theorem flagO (b : Bool) (w : World) : Calls Tryz.prog 67 #[.bool b] w fun e w' => e = .returned (.int .u8 (flagB b).toNat) ∧ w' = w := by
  cases b with
  | true =>
    go_enter Tryz.func67, Tryz.ntmps67
    go_wp2
    go_ret
    exact ⟨rfl, rfl⟩
  | false =>
    go_enter Tryz.func67, Tryz.ntmps67
    go_wp2
    go_ret
    exact ⟨rfl, rfl⟩

theorem wpList_app {w : World} {ops : Array Oper} {rest : List Oper} {o : Oper} {a : Act} {Q : Exit → Act → World → Prop} (hgd : o.guard = none) (d : Tmp) (hd : o.dst = some d) (s xo : Operand)
    (ho : o.op = .call { callee := .builtin .append, args := #[s, xo], argTypes := #[41, 41] })
    (base : Nat) (v : Value) (n : Nat) (xs : List Value) (hs : a.eval s = v) (hown : w.ownsRow base 5 1 v n xs)
    (ad : Addr) (X : List UInt8) (m c B : Nat) (hx : a.eval xo = .slice (some ad) m c) (hmm : m = X.length) (hr : BytesAt w B (some ad) X)
    (hlen : n + X.length ≤ 140737488355328) (hbase : base ≤ w.heap.size)
    (h : ∀ v' w', w'.ownsRow base 5 1 v' (n + X.length) (xs ++ Lib.byteCells X) → w.grownBy w' v.ownBlock → wpList Tryz.prog ops Q rest (a.put (some d) v') w') : wpList Tryz.prog ops Q (o :: rest) a w := by
  subst hmm
  rw [← hd] at h
  obtain ⟨i0, hi0, hz0, hz1, hz2⟩ := info_parts byteI
  refine wpList_plain hgd fun K hK => ?_
  exact wp_append_own w s xo 41 ho base 5 i0 _ 1 1 Tryz.underlying41 hi0 hz0 hz1 hz2 rfl (by decide) v n xs hs hown ad X.length c (Lib.byteCells X) hx (by rw [Lib.byteCells_length, Nat.mul_one]) hr.cells (byteCells_one X)
    (by unfold maxLen; omega) (by omega) hbase fun v' w' h2 h3 _ => hK _ _ (h v' w' h2 h3)
/-- the four bytes of a number, newly laid. -/
theorem be4_new (w : World) (s : Nat) (hs : s < 4294967296) : BytesAt (w.alloc (.cells #[.int .u8 ((s : Int) / 16777216), .int .u8 ((s : Int) / 65536 % 256), .int .u8 ((s : Int) / 256 % 256), .int .u8 ((s : Int) % 256)] 5)) (w.heap.size + 1) (some ⟨w.heap.size, 0, none⟩) (be4 s) := fun _ => by
  refine ⟨w.heap.size, 0, rfl, Nat.lt_succ_self _, fun j x hx => ?_⟩
  rw [Nat.zero_add, cell_of_row _ _ j _ _ _ (heap_alloc_new w _)]
  have hj : j < 4 := by
    have := (List.getElem?_eq_some_iff.1 hx).1
    rwa [be4_length] at this
  rcases (show j = 0 ∨ j = 1 ∨ j = 2 ∨ j = 3 by omega) with rfl | rfl | rfl | rfl
  · have e : UInt8.ofNat (s / 16777216) = x := Option.some.inj hx
    rw [← e, toNat_of (by omega)]
    rfl
  · have e : UInt8.ofNat (s / 65536 % 256) = x := Option.some.inj hx
    rw [← e, toNat_of (by omega)]
    rfl
  · have e : UInt8.ofNat (s / 256 % 256) = x := Option.some.inj hx
    rw [← e, toNat_of (by omega)]
    rfl
  · have e : UInt8.ofNat (s % 256) = x := Option.some.inj hx
    rw [← e, toNat_of (by omega)]
    rfl

set_option maxRecDepth 100000 in
set_option maxHeartbeats 2000000 in
theorem dSummed (A : Option Addr) (L : List UInt8) (c : Nat) (W : World) (h : BytesAt W W.heap.size A L) (hne : L ≠ []) (hl : L.length ≤ 1099511627776) :
    Calls Tryz.prog 69 #[.slice A L.length c] W fun e W' => ∃ v, e = .returned v ∧ W'.ownsRow W.heap.size 5 1 v (summed L).length (Lib.byteCells (summed L)) ∧ Below W.heap.size W W' := by
  obtain ⟨g, o, rfl, -, -⟩ := h hne
  have K1 := dSum (some ⟨g, o, none⟩) L c W h (by omega)
  have hs := Crc.sumN_lt L
  have HSM := Lib.hid (summed_length L)
  have HB : Hid (Lib.byteCells (summed L) = Lib.byteCells L ++ Lib.byteCells (be4 (Crc.sumN L))) := Lib.hid (Lib.byteCells_append _ _)
  obtain ⟨s, hsq⟩ : ∃ s, Crc.sumN L = s := ⟨_, rfl⟩
  rw [hsq] at K1 hs HB
  have HLN := Lib.hid hl
  obtain ⟨q, hq⟩ : ∃ q, L.length = q := ⟨_, rfl⟩
  rw [hq] at K1 HSM HLN ⊢
  have HQ := Lib.hid hq
  have HK := Lib.hid K1
  have HS := Lib.hid hs
  have HR := Lib.hid h
  obtain ⟨W1, hW1⟩ : ∃ W1, W.alloc (.cells #[] 5) = W1 := ⟨_, rfl⟩
  have O1 : Hid (W1.ownsRow W.heap.size 5 1 (.slice (some ⟨W.heap.size, 0, none⟩) 0 0) 0 []) := Lib.hid (by rw [← hW1]; exact ⟨rfl, .inr ⟨W.heap.size, 0, #[], rfl, Nat.le_refl _, heap_alloc_new W _, Nat.le_refl _, by unfold maxLen; omega, rfl, rfl⟩⟩)
  have B1 : Hid (Below W.heap.size W W1) := Lib.hid (by rw [← hW1]; exact (Below.refl W.heap.size W).alloc (Nat.le_refl _) _)
  have HW1 := Lib.hid hW1
  clear h hsq hl hne hq K1 hW1
  go_enter Tryz.func69, Tryz.ntmps69
  go_wp2_with fail
  refine HK.out.mono ?_
  rintro e w1 ⟨rfl, rfl⟩
  go_wp2_with (first
    | (rw [HW1.out]
       refine wpList_app rfl 8 rfl (.tmp 6) (.tmp 7) rfl w1.heap.size _ 0 [] rfl O1.out ⟨g, o, none⟩ L q c w1.heap.size rfl HQ.out.symm (HR.out.below B1.out (Nat.le_refl _) (Nat.le_refl _)) (by have := HLN.out; rw [HQ.out]; omega) B1.out.size ?_
       intro v3 W3 hown3 hgrow3
       have B3 := Lib.hid (B1.out.grown hgrow3 B1.out.size fun k hk => (O1.out.lt k hk).1)
       rw [Nat.zero_add, List.nil_append, HQ.out] at hown3
       have O3 := Lib.hid hown3
       clear hown3 hgrow3)
    | (refine wpList_app rfl 21 rfl (.tmp 8) (.tmp 20) rfl w1.heap.size _ q _ rfl (O3.out.alloc _) ⟨W3.heap.size, 0, none⟩ (be4 s) 4 4 (W3.heap.size + 1) rfl rfl (be4_new W3 s HS.out) (by have := HLN.out; rw [be4_length]; omega) (by have := B3.out.size; simp; omega) ?_
       intro v4 W4 hown4 hgrow4
       have O4 := Lib.hid hown4
       have B4 := Lib.hid ((B3.out.alloc B3.out.size _).grown hgrow4 (by have := B3.out.size; simp; omega) fun k hk => (O3.out.lt k hk).1)
       clear hown4 hgrow4))
  go_ret
  refine ⟨_, rfl, ?_, B4.out⟩
  rw [HB.out, HSM.out]
  exact O4.out

end Go.Proofs.YtkmbgehknpefiaaGreatDoor
