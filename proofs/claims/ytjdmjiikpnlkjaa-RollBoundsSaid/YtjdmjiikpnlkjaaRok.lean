/-
  What the law makes: processes, kills, views; a kill may be in any group. Condition: numbers are small.
-/
import Derived.Test.YtjdmjiikpnlkjaaRoj
import Derived.Test.YtjdmjiikpnlkjaaGsm
import Derived.Deep.MidRow
import Derived.LoopN
namespace Go.Proofs.Ytjdmjiikpnlkjaa
set_option linter.unusedSimpArgs false
set_option linter.unusedVariables false
open Go.RowKit Go.Maps Go.Sort
open V (P2)

theorem wpList_load_rowG {P : Program} {ops : Array Oper} {rest : List Oper} {o : Oper} {a : Act} {w : World} {Q : Exit → Act → World → Prop} (ty : TypeId) (x : Operand) (ho : o.op = .load ty x) (hw : Region.wanted o (yielded ops a.tmps) = true)
    (g : Nat) (hx : a.eval x = .pointer (some ⟨g, 0, none⟩)) (t : TypeId) (cs : Array Value) (fr : Nat × Nat) (d : TypeDesc) (hg : w.heap[g]? = some (.cells cs t fr))
    (hu : P.underlying ty = some d) (hd : (match d with | .struct _ | .array _ _ => true | _ => false) = true) (hi : (P.info? ty).map (·.size) = some cs.size)
    (h : wpList P ops Q rest (a.put o.dst (.agg cs)) w) : wpList P ops Q (o :: rest) a w :=
  wpList_step fun K hK => by
    rw [if_pos hw]
    exact wp_load_row ty x ho g hx t cs fr d hg hu hd hi (hK _ _ h)
theorem wpList_buildG {P : Program} {ops : Array Oper} {rest : List Oper} {o : Oper} {a : Act} {w : World} {Q : Exit → Act → World → Prop} (t : TypeId) (parts : Array (Nat × Operand)) (ho : o.op = .build t parts) (hw : Region.wanted o (yielded ops a.tmps) = true) (cs : Array Value)
    (hf : P.built t (parts.map fun (i, x) => (i, a.eval x)).toList = some cs)
    (h : wpList P ops Q rest (a.put o.dst (.agg cs)) w) : wpList P ops Q (o :: rest) a w :=
  wpList_step fun K hK => by
    rw [if_pos hw]
    refine wp_build t parts ho (by rw [hf]; rfl) ?_
    rw [hf]
    exact hK _ _ h
def pr (n : Nat) : P2 := ⟨n, 1⟩
theorem pr_rg {n : Nat} (h : n ≤ 15) : Rg2 (pr n) := ⟨⟨by show (0:Int) ≤ n; omega, by show (n:Int) ≤ 255; omega⟩, by show (0:Int) ≤ 1; omega, by show (1:Int) ≤ 65535; omega⟩
theorem pr_r {n : Nat} (h : n ≤ 15) : (pr n).r = true := by
  have : decide ((n : Int) < 16) = true := decide_eq_true (by omega)
  simp [pr, V.P2.r]
  first | exact this | (exact decide_eq_true (by omega)) | omega
/-- a kill. -/
def killE (n : Nat) : Le := ⟨{ k := 2, n := 0, l := 0, s := 0, d := 0, a0 := 0, a1 := 0, b0 := 0, b1 := 0, c0 := 0, c1 := 0, fl := 0, rc := 0, rv := ByteArray.empty, vn := n, vl := 1 }, none, [], 0, none, [], 0⟩
def killV (n : Nat) : EV := (killE n).v
theorem killE_ok (n : Nat) (W : World) : LeO (killE n) W := ⟨RowO.nil W _ _, RowO.nil W _ _, by simp [killE], by simp [killE]⟩
set_option maxRecDepth 100000 in
set_option maxHeartbeats 2000000 in
theorem procC (n : Nat) (hn : n ≤ 15) (w : World) : Calls Try.prog 16 #[.int .i64 n] w fun e w' => e = .returned (.agg #[.int .u8 (pr n).n, .int .u16 (pr n).l]) ∧ Below w.heap.size w w' := by
  have hw : IntKind.u8.wrap (n : Int) = n := by
    unfold IntKind.wrap
    simp [IntKind.signed, IntKind.bits]
    omega
  go_enter Try.func16, Try.ntmps16
  go_wp2
  refine bodyPost_ret (v := .agg #[.int .u8 (pr n).n, .int .u16 (pr n).l]) (by
    simp [results, Try.results16, go_sem, pr]
    try go_simp) rfl ⟨rfl, ?_⟩
  exact (by repeat (first | (with_reducible exact Below.refl _ _) | (with_reducible refine Below.setCell ?_ (by first | omega | (simp; done) | (simp; omega)) _) | (with_reducible refine Below.drew ?_) | (with_reducible refine Below.alloc ?_ (by first | omega | (simp; done) | (simp; omega)) _)))
set_option maxRecDepth 100000 in
set_option maxHeartbeats 2000000 in
theorem killC (n : Nat) (hn : n ≤ 15) (w : World) : Calls Try.prog 18 #[.int .i64 n] w fun e w' => e = .returned (.agg (killE n).cs) ∧ Below w.heap.size w w' := by
  have KP0 := Lib.hid (fun u => procC n hn u)
  obtain ⟨k, hk⟩ : ∃ k, w.heap.size = k := ⟨_, rfl⟩
  obtain ⟨w1, hw1⟩ : ∃ z, w.alloc (.cells #[.int .u8 0, .int .u8 0, .int .u16 0, .int .u32 0, .int .u8 0, .int .u8 0, .int .u8 0, .int .u8 0, .int .u8 0, .int .u8 0, .int .u8 0, .int .u32 0, .slice none 0 0, .int .u8 0, .string ByteArray.empty, .slice none 0 0, .int .u8 0, .int .u16 0] 63) = z := ⟨_, rfl⟩
  have b1 : Below w.heap.size w w1 := by rw [← hw1]; exact (Below.refl _ _).alloc (Nat.le_refl _) _
  have r1 : w1.heap[k]? = some (.cells #[.int .u8 0, .int .u8 0, .int .u16 0, .int .u32 0, .int .u8 0, .int .u8 0, .int .u8 0, .int .u8 0, .int .u8 0, .int .u8 0, .int .u8 0, .int .u32 0, .slice none 0 0, .int .u8 0, .string ByteArray.empty, .slice none 0 0, .int .u8 0, .int .u16 0] 63 (0, 0)) := by rw [← hw1, ← hk]; exact heap_alloc_new _ _
  have B1 := Lib.hid b1
  have R1 := Lib.hid r1
  have HW1 := Lib.hid hw1
  have HW1' := Lib.hid (show w.alloc (.cells #[.int .u8 0, .int .u8 0, .int .u16 0, .int .u32 0, .int .u8 0, .int .u8 0, .int .u8 0, .int .u8 0, .int .u8 0, .int .u8 0, .int .u8 0, .int .u32 0, .slice none 0 0, .int .u8 0, .string ⟨#[]⟩, .slice none 0 0, .int .u8 0, .int .u16 0] 63) = w1 from hw1)
  have HK := Lib.hid hk
  clear hw1 b1 r1 hk
  go_enter Try.func18, Try.ntmps18
  go_wp2_with (first
    | (rw [HW1.out, HK.out])
    | (rw [HW1'.out, HK.out])
    | fail)
  refine (KP0.out w1).mono ?_
  rintro e w2 ⟨rfl, b2⟩
  have R2 := Lib.hid ((b2.block k (heap_lt R1.out)).trans R1.out)
  have B2 := Lib.hid (B1.out.trans (b2.mono B1.out.size))
  clear b2
  obtain ⟨w3, hw3⟩ : ∃ z, w2.setRow k (killE n).cs = z := ⟨_, rfl⟩
  have R3 : Hid (w3.heap[k]? = some (.cells (killE n).cs 63 (0, 0))) := Lib.hid (by rw [← hw3]; exact setRow_heapG _ _ _ _ _ _ R2.out)
  have B3 : Hid (Below w.heap.size w w3) := Lib.hid (B2.out.trans (by rw [← hw3, HK.out]; exact (KP.setRow (S := fun j => j = k) w2 k _ rfl).below (Nat.le_of_lt (heap_lt R2.out)) fun j hj => Nat.le_of_eq hj.symm))
  have HW3 := Lib.hid hw3
  clear hw3
  go_wp2_with (first
    | (refine wpList_bd rfl 63 _ rfl (killE n).cs (by kernel_rfl) ?_)
    | (refine wpList_store_row rfl 63 (.tmp 2) (.tmp 5) rfl k (killE n).cs (by rfl) (by rfl) 63 _ R2.out (by kernel_rfl) rfl (Le.oneB (killE n)) ?_; rw [HW3.out])
    | fail)
  exact bodyPost_ret (v := .agg (killE n).cs) (results_cell_row (p := 2) (ty := 63) rfl _ _ k 63 (killE n).cs (0, 0) _ (by rfl) R3.out Try.underlying63 rfl (by kernel_rfl)) rfl ⟨rfl, B3.out⟩
set_option maxRecDepth 100000 in
set_option maxHeartbeats 2000000 in
theorem rightK (n : Nat) (hn : n ≤ 15) (g : Int) (w : World) : Calls Try.prog 39 #[.agg (killE n).cs, .int .u8 g] w fun e w' => e = .returned (.bool true) ∧ Below w.heap.size w w' := by
  have KRI : Hid (∀ u, Calls Try.prog 47 #[.agg #[.int .u8 (pr n).n, .int .u16 (pr n).l]] u fun e w' => e = .returned (.bool true) ∧ Below u.heap.size u w') := Lib.hid fun u => (V.opRight (pr n) u).mono fun e w' h => ⟨by rw [h.1, pr_r hn], by rw [← h.2]; exact (Below.refl _ _).alloc (Nat.le_refl _) _⟩
  have KSM : Hid (∀ u, Calls Try.prog 46 #[.agg (killE n).cs, .agg (killE n).cs] u fun e w' => e = .returned (.bool true) ∧ Below u.heap.size u w') := Lib.hid fun u => sameLL (killE n) (killE n) u (killE_ok n u).at_ (killE_ok n u).at_ rfl
  obtain ⟨k0, hk0⟩ : ∃ k, w.heap.size = k := ⟨_, rfl⟩
  obtain ⟨w1, hw1⟩ : ∃ z, w.alloc (.cells (killE n).cs 63) = z := ⟨_, rfl⟩
  have b1 : Below w.heap.size w w1 := by rw [← hw1]; exact (Below.refl _ _).alloc (Nat.le_refl _) _
  have r1 : w1.heap[k0]? = some (.cells (killE n).cs 63 (0, 0)) := by rw [← hw1, ← hk0]; exact heap_alloc_new _ _
  have B1 := Lib.hid b1
  have R1 := Lib.hid r1
  have HW1 := Lib.hid hw1
  have HK := Lib.hid hk0
  have c0 := cell_of r1 0 (.int .u8 2) rfl
  have c16 := cell_of r1 16 (.int .u8 n) rfl
  have c17 := cell_of r1 17 (.int .u16 1) rfl
  clear hw1 b1 r1 hk0
  go_enter Try.func39, Try.ntmps39
  go_wp2_with (first
    | (rw [HW1.out, HK.out])
    | fail)
  refine (KRI.out w1).mono ?_
  rintro e w2 ⟨rfl, b2⟩
  have r2 := (b2.block k0 (heap_lt R1.out)).trans R1.out
  have B2 := Lib.hid (B1.out.trans (b2.mono B1.out.size))
  have R2 := Lib.hid r2
  clear c0 c16 c17 b2
  have c0 := cell_of r2 0 (.int .u8 2) rfl
  have c16 := cell_of r2 16 (.int .u8 n) rfl
  have c17 := cell_of r2 17 (.int .u16 1) rfl
  clear r2
  go_wp2_with (first
    | (refine wpList_load_rowG 63 (.tmp 2) rfl (by rfl) k0 (by rfl) 63 (killE n).cs (0, 0) _ R2.out Try.underlying63 rfl (by kernel_rfl) ?_)
    | (refine wpList_buildG 63 _ rfl (by rfl) (killE n).cs (by kernel_rfl) ?_)
    | fail)
  refine (KSM.out w2).mono ?_
  rintro e w3 ⟨rfl, b3⟩
  have B3 := Lib.hid (B2.out.trans (b3.mono B2.out.size))
  clear b3
  go_wp2_with fail
  go_ret
  exact ⟨rfl, B3.out⟩

end Go.Proofs.Ytjdmjiikpnlkjaa
