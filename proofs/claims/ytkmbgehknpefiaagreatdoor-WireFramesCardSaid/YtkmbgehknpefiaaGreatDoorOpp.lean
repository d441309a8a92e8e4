/-
  Bytes appended as one step of a region whose order is open; the document's PutProc: by exact answers. No condition.
-/
import Derived.Test.YtkmbgehknpefiaaGreatDoorOpr
import Derived.Deep.RegionLaw
namespace Go.Proofs.YtkmbgehknpefiaaGreatDoor
set_option linter.unusedSimpArgs false
set_option linter.unusedVariables false
open Go.RowKit

theorem stepAppB {w : World} {ops : Array Oper} {o : Oper} {a : Act} {K : Act → World → Prop} {Q : Exit → Act → World → Prop} {E : Prop} (hgd : o.guard = none) (s xo : Operand)
    (ho : o.op = .call { callee := .builtin .append, args := #[s, xo], argTypes := #[41, 41] })
    (base : Nat) (v : Value) (n : Nat) (xs : List Value) (hs : a.eval s = v) (hown : w.ownsRow base 5 1 v n xs)
    (ad : Addr) (X : List UInt8) (m c B : Nat) (hx : a.eval xo = .slice (some ad) m c) (hmm : m = X.length) (hr : BytesAt w B (some ad) X)
    (hlen : n + X.length ≤ 140737488355328) (hbase : base ≤ w.heap.size)
    (h : ∀ v' w', w'.ownsRow base 5 1 v' (n + X.length) (xs ++ Lib.byteCells X) → w.grownBy w' v.ownBlock → K (a.put o.dst v') w') :
    if Region.wanted o (yielded ops a.tmps) = true then Oper.wp Tryz.prog o a w K Q else E := by
  subst hmm
  obtain ⟨i0, hi0, hz0, hz1, hz2⟩ := info_parts byteI
  have hw : Region.wanted o (yielded ops a.tmps) = true := by simp [Region.wanted, hgd]
  rw [if_pos hw]
  exact wp_append_own w s xo 41 ho base 5 i0 _ 1 1 Tryz.underlying41 hi0 hz0 hz1 hz2 rfl (by decide) v n xs hs hown ad X.length c (Lib.byteCells X) hx (by rw [Lib.byteCells_length, Nat.mul_one]) hr.cells (byteCells_one X)
    (by unfold maxLen; omega) (by omega) hbase fun v' w' h2 h3 _ => h v' w' h2 h3
theorem own_lit (w : World) (x : Value) : (w.alloc (.cells #[x] 5)).ownsRow w.heap.size 5 1 (.slice (some ⟨w.heap.size, 0, none⟩) 1 1) 1 [x] :=
  ⟨rfl, .inr ⟨w.heap.size, 1, #[x], rfl, Nat.le_refl _, heap_alloc_new w _, Nat.le_refl _, by unfold maxLen; omega, rfl, rfl⟩⟩
theorem own_at {w : World} {g base : Nat} {x : Value} (h : w.heap[g]? = some (.cells #[x] 5 (0, 0))) (hb : base ≤ g) : w.ownsRow base 5 1 (.slice (some ⟨g, 0, none⟩) 1 1) 1 [x] :=
  ⟨rfl, .inr ⟨g, 1, #[x], rfl, hb, h, Nat.le_refl _, by unfold maxLen; omega, rfl, rfl⟩⟩
theorem own_kept' {w w' : World} {base : Nat} {e : TypeId} {size : Nat} {v : Value} {n : Nat} {xs : List Value} (h : w.ownsRow base e size v n xs) (hb : Below w.heap.size w w') : w'.ownsRow base e size v n xs := by
  rcases h.2 with ⟨rfl, rfl⟩ | ⟨g, cap, cur, rfl, hbg, hg, hnc, hcm, hcs, htake⟩
  · exact ⟨h.1, .inl ⟨rfl, rfl⟩⟩
  · exact ⟨h.1, .inr ⟨g, cap, cur, rfl, hbg, (hb.block g (Array.getElem?_eq_some_iff.1 hg).1).trans hg, hnc, hcm, hcs, htake⟩⟩
theorem own_up {W : World} {base base' : Nat} {e : TypeId} {size : Nat} {v : Value} {n : Nat} {xs : List Value} (h : W.ownsRow base e size v n xs) (hb : base' ≤ base) : W.ownsRow base' e size v n xs := by
  refine ⟨h.1, ?_⟩
  rcases h.2 with h2 | ⟨g, cap, cur, h1, hbg, h2⟩
  · exact .inl h2
  · exact .inr ⟨g, cap, cur, h1, Nat.le_trans hb hbg, h2⟩

set_option maxRecDepth 100000 in
set_option maxHeartbeats 1000000 in
theorem dPutProc (n l : Nat) (W : World) (hn : n < 256) (hl : l < 65536) :
    Calls Tryz.prog 65 #[.agg #[.int .u8 n, .int .u16 l]] W fun e W' => ∃ v, e = .returned v ∧ W'.ownsRow W.heap.size 5 1 v (putP n l).length (Lib.byteCells (putP n l)) ∧ Below W.heap.size W W' := by
  have K := Lib.hid (fun w => dPut l w (by omega))
  have hp := putU_pos l
  have hq := putU_length l (by omega)
  go_enter Tryz.func65, Tryz.ntmps65
  go_wp2
  have hwr : IntKind.u64.wrap (l : Int) = (l : Int) := by rw [IntKind.wrap_u64]; omega
  have hz1 : W.heap.size + 1 ≤ (W.alloc (.cells #[.int .u8 n, .int .u16 l] 26)).drew.heap.size := by show W.heap.size + 1 ≤ (W.alloc (.cells #[.int .u8 n, .int .u16 l] 26)).heap.size; simp
  have hz2 : W.heap.size + 1 ≤ ((W.alloc (.cells #[.int .u8 n, .int .u16 l] 26)).alloc (.cells #[.int .u8 n] 5)).drew.heap.size := by show W.heap.size + 1 ≤ ((W.alloc (.cells #[.int .u8 n, .int .u16 l] 26)).alloc (.cells #[.int .u8 n] 5)).heap.size; simp
  have hrow : ((W.alloc (.cells #[.int .u8 n, .int .u16 l] 26)).alloc (.cells #[.int .u8 n] 5)).drew.heap[W.heap.size + 1]? = some (.cells #[.int .u8 n] 5) := by
    have q := heap_alloc_new (W.alloc (.cells #[.int .u8 n, .int .u16 l] 26)) (.cells #[.int .u8 n] 5)
    rw [show (W.alloc (.cells #[.int .u8 n, .int .u16 l] 26)).heap.size = W.heap.size + 1 by simp] at q
    exact q
  have hlt2 : W.heap.size + 1 < ((W.alloc (.cells #[.int .u8 n, .int .u16 l] 26)).alloc (.cells #[.int .u8 n] 5)).drew.heap.size := by show W.heap.size + 1 < ((W.alloc (.cells #[.int .u8 n, .int .u16 l] 26)).alloc (.cells #[.int .u8 n] 5)).heap.size; simp
  have HC1 : Hid ((W.alloc (.cells #[.int .u8 n, .int .u16 l] 26)).drew.cell? ⟨W.heap.size, 0, none⟩ = some (.int .u8 n)) := Lib.hid (cell_of_row (W.alloc (.cells #[.int .u8 n, .int .u16 l] 26)).drew _ 0 _ _ _ (heap_alloc_new W (.cells #[.int .u8 n, .int .u16 l] 26)))
  have HC2 : Hid (((W.alloc (.cells #[.int .u8 n, .int .u16 l] 26)).alloc (.cells #[.int .u8 n] 5)).drew.cell? ⟨W.heap.size, 0, none⟩ = some (.int .u8 n)) := Lib.hid (cell_of_row ((W.alloc (.cells #[.int .u8 n, .int .u16 l] 26)).alloc (.cells #[.int .u8 n] 5)).drew _ 0 _ _ _ ((Below.heap_alloc (W.alloc (.cells #[.int .u8 n, .int .u16 l] 26)) (.cells #[.int .u8 n] 5) W.heap.size (by simp)).trans (heap_alloc_new W (.cells #[.int .u8 n, .int .u16 l] 26))))
  have HD1 : Hid (Below W.heap.size W (W.alloc (.cells #[.int .u8 n, .int .u16 l] 26)).drew) := Lib.hid (((Below.refl W.heap.size W).alloc (Nat.le_refl _) _).drew)
  have HD2 : Hid (Below W.heap.size W ((W.alloc (.cells #[.int .u8 n, .int .u16 l] 26)).alloc (.cells #[.int .u8 n] 5)).drew) := Lib.hid ((((Below.refl W.heap.size W).alloc (Nat.le_refl _) _).alloc (by simp) _).drew)
  have HZ1 := Lib.hid hz1
  have HZ2 := Lib.hid hz2
  have HROW := Lib.hid hrow
  have HLT2 := Lib.hid hlt2
  clear hz1 hz2 hrow hlt2
  go_region_law (first
    | (refine stepAppB rfl (.tmp 5) (.tmp 9) rfl W.heap.size _ 1 [.int .u8 n] rfl (by first | exact own_at ((HB1.out.block (W.heap.size + 1) HLT2.out).trans HROW.out) (by omega) | exact own_at (heap_alloc_new _ _) (by have := HS1.out; omega)) ⟨g1, 0, none⟩ (putU l) _ c1 _ rfl rfl (by first | exact (HAT.out) | exact (HAT.out).below (B' := w1.heap.size) ((Below.refl w1.heap.size w1).alloc (Nat.le_refl _) _) (Nat.le_refl _) (Nat.le_refl _)) (by omega) (by have := HS1.out; simp; omega) ?_
       intro v9 w9 O9 g9
       have HO9 := Lib.hid O9
       have HB9 : Hid (Below W.heap.size W w9) := Lib.hid (by first
         | exact (HD2.out.trans (HB1.out.mono (by have := HZ2.out; omega))).grown g9 (by have := HS1.out; omega) (fun j hj => by cases hj; simp)
         | exact ((HD1.out.trans (HB1.out.mono (by have := HZ1.out; omega))).alloc (by have := HS1.out; omega) (.cells #[.int .u8 n] 5)).grown g9 (by have := HS1.out; simp; omega) (fun j hj => by cases hj; have := HS1.out; show W.heap.size ≤ w1.heap.size; omega))
       obtain ⟨A9, c9, rfl, -, -, -, -⟩ := bytes_of_own (L := UInt8.ofNat n :: putU l) (by
         have e : Lib.byteCells (UInt8.ofNat n :: putU l) = [.int .u8 (n : Int)] ++ Lib.byteCells (putU l) := by simp only [Lib.byteCells, List.map_cons]; rw [toNat_of hn]; rfl
         rw [e]
         exact HO9.out)
       clear O9 g9)
    | (go_simp
       go_at_call 66
       try rw [hwr]
       refine (K.out _).mono ?_
       rintro e w1 ⟨v1, rfl, ho1, b1⟩
       obtain ⟨g1, c1, rfl⟩ := ownsRow_pos ho1 hp
       have HO1 := Lib.hid ho1
       have HB1 := Lib.hid b1
       have hcn : w1.cell? ⟨W.heap.size, 0, none⟩ = some (.int .u8 n) := by first | exact (b1.cell (p := ⟨W.heap.size, 0, none⟩) HZ1.out).trans HC1.out | exact (b1.cell (p := ⟨W.heap.size, 0, none⟩) HZ2.out).trans HC2.out
       have HS1 : Hid (W.heap.size + 1 ≤ w1.heap.size) := Lib.hid (by first | exact Nat.le_trans HZ1.out b1.size | exact Nat.le_trans HZ2.out b1.size)
       have HAT : Hid (BytesAt w1 w1.heap.size (some ⟨g1, 0, none⟩) (putU l)) := Lib.hid (by
         obtain ⟨A, c, e, -, hat, -⟩ := bytes_of_own ho1
         cases e
         exact hat)
       clear ho1 b1
       dsimp only))
  all_goals go_wp2
  all_goals go_ret
  all_goals
    refine ⟨_, rfl, ?_, HB9.out⟩
    unfold putP
    have e : Lib.byteCells (UInt8.ofNat n :: putU l) = [.int .u8 (n : Int)] ++ Lib.byteCells (putU l) := by simp only [Lib.byteCells, List.map_cons]; rw [toNat_of hn]; rfl
    rw [e, List.length_cons, Nat.add_comm (putU l).length 1]
    exact HO9.out

end Go.Proofs.YtkmbgehknpefiaaGreatDoor
