/-
  What the laws of this layer begin with: a known call is shown, is right in its group and in no other, and is the same as its clone. Condition: the table of the powers of ten is as its text lays it.
-/
import Derived.Test.YthmdnbgfnaokkaaDoorEsw
import Derived.Test.YthmdnbgfnaokkaaDoorEeq
import Derived.Test.YthmdnbgfnaokkaaDoorIRgt
namespace Go.Proofs.YthmdnbgfnaokkaaDoor
set_option linter.unusedSimpArgs false
set_option linter.unusedVariables false
open Go.RowKit Go.Sort

def kE : E18 := ⟨0, 1, 1, 5, 0, 0, 0, 0, 0, 0, 0, 0, 0, ByteArray.empty, 0, 0⟩
theorem rows_k {W : World} {bp B : Nat} (hb : bp < B) (h : PartAt W bp 0 kQ) : RowsP W B (some ⟨bp, 0, none⟩) [kQ] := fun _ =>
  ⟨bp, 0, rfl, hb, fun i x hi => by
    rcases i with _ | i
    · simp at hi; subst hi; simpa using h
    · simp at hi⟩
theorem wpList_load_rowG {P : Program} {ops : Array Oper} {rest : List Oper} {o : Oper} {a : Act} {w : World} {Q : Exit → Act → World → Prop} (ty : TypeId) (x : Operand) (ho : o.op = .load ty x) (hw : Region.wanted o (yielded ops a.tmps) = true)
    (g : Nat) (hx : a.eval x = .pointer (some ⟨g, 0, none⟩)) (t : TypeId) (cs : Array Value) (fr : Nat × Nat) (d : TypeDesc) (hg : w.heap[g]? = some (.cells cs t fr))
    (hu : P.underlying ty = some d) (hd : (match d with | .struct _ | .array _ _ => true | _ => false) = true) (hi : (P.info? ty).map (·.size) = some cs.size)
    (h : wpList P ops Q rest (a.put o.dst (.agg cs)) w) : wpList P ops Q (o :: rest) a w :=
  wpList_step fun K hK => by
    rw [if_pos hw]
    exact wp_load_row ty x ho g hx t cs fr d hg hu hd hi (hK _ _ h)
theorem wpList_skipG {P : Program} {ops : Array Oper} {rest : List Oper} {o : Oper} {a : Act} {w : World} {Q : Exit → Act → World → Prop} (gd : Nat × Bool) (hg : o.guard = some gd) (hw : Region.wanted o (yielded ops a.tmps) = false)
    (h : wpList P ops Q rest (a.put o.dst undef) w) : wpList P ops Q (o :: rest) a w :=
  wpList_step fun K hK => by
    rw [if_neg (by rw [hw]; simp)]
    exact hK _ _ h
theorem wpList_skip {P : Program} {ops : Array Oper} {rest : List Oper} {o : Oper} {a : Act} {w : World} {Q : Exit → Act → World → Prop} (hw : Region.wanted o (yielded ops a.tmps) = false)
    (h : wpList P ops Q rest (a.put o.dst undef) w) : wpList P ops Q (o :: rest) a w :=
  wpList_step fun K hK => by
    rw [if_neg (by rw [hw]; simp)]
    exact hK _ _ h
theorem wpList_buildG {P : Program} {ops : Array Oper} {rest : List Oper} {o : Oper} {a : Act} {w : World} {Q : Exit → Act → World → Prop} (t : TypeId) (parts : Array (Nat × Operand)) (ho : o.op = .build t parts) (hw : Region.wanted o (yielded ops a.tmps) = true) (cs : Array Value)
    (hf : P.built t (parts.map fun (i, x) => (i, a.eval x)).toList = some cs)
    (h : wpList P ops Q rest (a.put o.dst (.agg cs)) w) : wpList P ops Q (o :: rest) a w :=
  wpList_step fun K hK => by
    rw [if_pos hw]
    refine wp_build t parts ho (by rw [hf]; rfl) ?_
    rw [hf]
    exact hK _ _ h
theorem rowsW_nil {W : World} {B : Nat} {A : Option Addr} : RowsW W B A [] := fun h => absurd rfl h
theorem kQ_rng : kQ.Rng := ⟨by decide, by decide, by decide, by decide, by decide⟩
theorem kQ_all : rAll [kQ] = true := by decide

set_option maxRecDepth 100000 in
set_option maxHeartbeats 1000000 in
theorem asked0 (bp : Nat) (w : World) (hb : bp < w.heap.size) (hp : PartAt w bp 0 kQ) :
    Calls Tryd.prog 49 #[.agg #[.int .u8 0, .int .u8 1, .int .u16 1, .int .u32 5, .int .u8 0, .int .u8 0, .int .u8 0, .int .u8 0, .int .u8 0, .int .u8 0, .int .u8 0, .int .u32 0, .slice (some ⟨bp, 0, none⟩) 1 1, .int .u8 0, .string ByteArray.empty, .slice none 0 0, .int .u8 0, .int .u16 0], .int .u8 0] w fun e w' => e = .returned (.bool true) ∧ Below w.heap.size w w' := by
  have H0 : Hid (Below w.heap.size w (w.alloc (.cells #[.int .u8 0, .int .u8 1, .int .u16 1, .int .u32 5, .int .u8 0, .int .u8 0, .int .u8 0, .int .u8 0, .int .u8 0, .int .u8 0, .int .u8 0, .int .u32 0, .slice (some ⟨bp, 0, none⟩) 1 1, .int .u8 0, .string ByteArray.empty, .slice none 0 0, .int .u8 0, .int .u16 0] 68))) := Lib.hid ((Below.refl _ _).alloc (Nat.le_refl _) _)
  have E0 : Hid (Ent (w.alloc (.cells #[.int .u8 0, .int .u8 1, .int .u16 1, .int .u32 5, .int .u8 0, .int .u8 0, .int .u8 0, .int .u8 0, .int .u8 0, .int .u8 0, .int .u8 0, .int .u32 0, .slice (some ⟨bp, 0, none⟩) 1 1, .int .u8 0, .string ByteArray.empty, .slice none 0 0, .int .u8 0, .int .u16 0] 68)) w.heap.size kE (.slice (some ⟨bp, 0, none⟩) 1 1) (.slice none 0 0)) := Lib.hid (ent_new w kE (.slice (some ⟨bp, 0, none⟩) 1 1) (.slice none 0 0) 68)
  have HP := Lib.hid hp
  have K1 : Hid (∀ W, Calls Tryd.prog 50 #[.agg #[.int .u8 1, .int .u16 1, .int .u32 5, .int .u8 0, .int .u8 0, .int .u8 0, .int .u8 0, .int .u8 0, .int .u8 0, .int .u8 0]] W fun e w' => e = .returned (.bool true) ∧ Below W.heap.size W w') := Lib.hid (fun W => by
    have := I.rightID 1 1 5 0 0 0 0 0 0 0 W (by omega)
    rw [show I.rI 1 1 5 0 0 0 0 0 0 0 = true by decide] at this
    exact this)
  have K2 : Hid (∀ W, Below w.heap.size w W → w.heap.size ≤ W.heap.size → Calls Tryd.prog 47 #[.slice (some ⟨bp, 0, none⟩) 1 1] W fun e w' => e = .returned (.bool true) ∧ Below W.heap.size W w') := Lib.hid (fun W hw h1 => by
    have := rightAll (some ⟨bp, 0, none⟩) [kQ] 1 W (rows_k (Nat.lt_of_lt_of_le hb h1) (hp.below hw hb)) (fun x hx => by
      have : x = kQ := by simpa using hx
      subst this
      exact kQ_rng) (Nat.le_refl _) (by unfold maxLen; omega)
    rw [kQ_all] at this
    exact this)
  have hbl := Lib.hid hb
  clear hp
  go_enter Tryd.func49, Tryd.ntmps49
  go_wp2_with (first
    | (go_at_call 50; refine (K1.out _).mono ?_; rintro e w1 ⟨rfl, b1⟩
       have H1 := Lib.hid (H0.out.trans (b1.mono H0.out.size))
       have E1 := Lib.hid (E0.out.kept b1 E0.out.lt)
       have e12 : w1.cell? ⟨w.heap.size, 12, none⟩ = some (.slice (some ⟨bp, 0, none⟩) 1 1) := E1.out.e12
       clear b1)
    | (go_at_call 47; refine (K2.out _ H1.out H1.out.size).mono ?_; rintro e w2 ⟨rfl, b2⟩
       have H2 := Lib.hid (H1.out.trans (b2.mono H1.out.size))
       have E2 := Lib.hid (E1.out.kept b2 E1.out.lt)
       have f3 : w2.cell? ⟨w.heap.size, 3, none⟩ = some (.int .u32 5) := E2.out.e3
       have f4 : w2.cell? ⟨w.heap.size, 4, none⟩ = some (.int .u8 0) := E2.out.e4
       have f11 : w2.cell? ⟨w.heap.size, 11, none⟩ = some (.int .u32 0) := E2.out.e11
       have f12 : w2.cell? ⟨w.heap.size, 12, none⟩ = some (.slice (some ⟨bp, 0, none⟩) 1 1) := E2.out.e12
       have c0 : w2.cell? ⟨bp, 0, none⟩ = some (.int .u8 0) := (HP.out.below H2.out hbl.out).c0
       clear b2 e12))
  go_ret
  exact ⟨rfl, H2.out⟩

set_option maxRecDepth 100000 in
set_option maxHeartbeats 1000000 in
theorem asked1 (bp : Nat) (w : World) (hb : bp < w.heap.size) (hp : PartAt w bp 0 kQ) :
    Calls Tryd.prog 49 #[.agg #[.int .u8 0, .int .u8 1, .int .u16 1, .int .u32 5, .int .u8 0, .int .u8 0, .int .u8 0, .int .u8 0, .int .u8 0, .int .u8 0, .int .u8 0, .int .u32 0, .slice (some ⟨bp, 0, none⟩) 1 1, .int .u8 0, .string ByteArray.empty, .slice none 0 0, .int .u8 0, .int .u16 0], .int .u8 1] w fun e w' => e = .returned (.bool false) ∧ Below w.heap.size w w' := by
  have H0 : Hid (Below w.heap.size w (w.alloc (.cells #[.int .u8 0, .int .u8 1, .int .u16 1, .int .u32 5, .int .u8 0, .int .u8 0, .int .u8 0, .int .u8 0, .int .u8 0, .int .u8 0, .int .u8 0, .int .u32 0, .slice (some ⟨bp, 0, none⟩) 1 1, .int .u8 0, .string ByteArray.empty, .slice none 0 0, .int .u8 0, .int .u16 0] 68))) := Lib.hid ((Below.refl _ _).alloc (Nat.le_refl _) _)
  have E0 : Hid (Ent (w.alloc (.cells #[.int .u8 0, .int .u8 1, .int .u16 1, .int .u32 5, .int .u8 0, .int .u8 0, .int .u8 0, .int .u8 0, .int .u8 0, .int .u8 0, .int .u8 0, .int .u32 0, .slice (some ⟨bp, 0, none⟩) 1 1, .int .u8 0, .string ByteArray.empty, .slice none 0 0, .int .u8 0, .int .u16 0] 68)) w.heap.size kE (.slice (some ⟨bp, 0, none⟩) 1 1) (.slice none 0 0)) := Lib.hid (ent_new w kE (.slice (some ⟨bp, 0, none⟩) 1 1) (.slice none 0 0) 68)
  have HP := Lib.hid hp
  have K1 : Hid (∀ W, Calls Tryd.prog 50 #[.agg #[.int .u8 1, .int .u16 1, .int .u32 5, .int .u8 0, .int .u8 0, .int .u8 0, .int .u8 0, .int .u8 0, .int .u8 0, .int .u8 0]] W fun e w' => e = .returned (.bool true) ∧ Below W.heap.size W w') := Lib.hid (fun W => by
    have := I.rightID 1 1 5 0 0 0 0 0 0 0 W (by omega)
    rw [show I.rI 1 1 5 0 0 0 0 0 0 0 = true by decide] at this
    exact this)
  have K2 : Hid (∀ W, Below w.heap.size w W → w.heap.size ≤ W.heap.size → Calls Tryd.prog 47 #[.slice (some ⟨bp, 0, none⟩) 1 1] W fun e w' => e = .returned (.bool true) ∧ Below W.heap.size W w') := Lib.hid (fun W hw h1 => by
    have := rightAll (some ⟨bp, 0, none⟩) [kQ] 1 W (rows_k (Nat.lt_of_lt_of_le hb h1) (hp.below hw hb)) (fun x hx => by
      have : x = kQ := by simpa using hx
      subst this
      exact kQ_rng) (Nat.le_refl _) (by unfold maxLen; omega)
    rw [kQ_all] at this
    exact this)
  have hbl := Lib.hid hb
  clear hp
  go_enter Tryd.func49, Tryd.ntmps49
  go_wp2_with (first
    | (go_at_call 50; refine (K1.out _).mono ?_; rintro e w1 ⟨rfl, b1⟩
       have H1 := Lib.hid (H0.out.trans (b1.mono H0.out.size))
       have E1 := Lib.hid (E0.out.kept b1 E0.out.lt)
       have e12 : w1.cell? ⟨w.heap.size, 12, none⟩ = some (.slice (some ⟨bp, 0, none⟩) 1 1) := E1.out.e12
       clear b1)
    | (go_at_call 47; refine (K2.out _ H1.out H1.out.size).mono ?_; rintro e w2 ⟨rfl, b2⟩
       have H2 := Lib.hid (H1.out.trans (b2.mono H1.out.size))
       have E2 := Lib.hid (E1.out.kept b2 E1.out.lt)
       have f3 : w2.cell? ⟨w.heap.size, 3, none⟩ = some (.int .u32 5) := E2.out.e3
       have f4 : w2.cell? ⟨w.heap.size, 4, none⟩ = some (.int .u8 0) := E2.out.e4
       have f11 : w2.cell? ⟨w.heap.size, 11, none⟩ = some (.int .u32 0) := E2.out.e11
       have f12 : w2.cell? ⟨w.heap.size, 12, none⟩ = some (.slice (some ⟨bp, 0, none⟩) 1 1) := E2.out.e12
       have c0 : w2.cell? ⟨bp, 0, none⟩ = some (.int .u8 0) := (HP.out.below H2.out hbl.out).c0
       clear b2 e12))
  go_ret
  exact ⟨rfl, H2.out⟩

set_option maxRecDepth 100000 in
set_option maxHeartbeats 1000000 in
theorem rightK0 (bp : Nat) (w : World) (hb : bp < w.heap.size) (hp : PartAt w bp 0 kQ) :
    Calls Tryd.prog 19 #[.agg #[.int .u8 0, .int .u8 1, .int .u16 1, .int .u32 5, .int .u8 0, .int .u8 0, .int .u8 0, .int .u8 0, .int .u8 0, .int .u8 0, .int .u8 0, .int .u32 0, .slice (some ⟨bp, 0, none⟩) 1 1, .int .u8 0, .string ByteArray.empty, .slice none 0 0, .int .u8 0, .int .u16 0], .int .u8 0] w fun e w' => e = .returned (.bool true) ∧ Below w.heap.size w w' := by
  have H0 : Hid (Below w.heap.size w (w.alloc (.cells #[.int .u8 0, .int .u8 1, .int .u16 1, .int .u32 5, .int .u8 0, .int .u8 0, .int .u8 0, .int .u8 0, .int .u8 0, .int .u8 0, .int .u8 0, .int .u32 0, .slice (some ⟨bp, 0, none⟩) 1 1, .int .u8 0, .string ByteArray.empty, .slice none 0 0, .int .u8 0, .int .u16 0] 68))) := Lib.hid ((Below.refl _ _).alloc (Nat.le_refl _) _)
  have R0 : Hid ((w.alloc (.cells #[.int .u8 0, .int .u8 1, .int .u16 1, .int .u32 5, .int .u8 0, .int .u8 0, .int .u8 0, .int .u8 0, .int .u8 0, .int .u8 0, .int .u8 0, .int .u32 0, .slice (some ⟨bp, 0, none⟩) 1 1, .int .u8 0, .string ByteArray.empty, .slice none 0 0, .int .u8 0, .int .u16 0] 68)).heap[w.heap.size]? = some (.cells #[.int .u8 0, .int .u8 1, .int .u16 1, .int .u32 5, .int .u8 0, .int .u8 0, .int .u8 0, .int .u8 0, .int .u8 0, .int .u8 0, .int .u8 0, .int .u32 0, .slice (some ⟨bp, 0, none⟩) 1 1, .int .u8 0, .string ByteArray.empty, .slice none 0 0, .int .u8 0, .int .u16 0] 68 (0, 0))) := Lib.hid (heap_alloc_new w _)
  have K1 : Hid (∀ W, Below w.heap.size w W → w.heap.size ≤ W.heap.size → Calls Tryd.prog 49 #[.agg #[.int .u8 0, .int .u8 1, .int .u16 1, .int .u32 5, .int .u8 0, .int .u8 0, .int .u8 0, .int .u8 0, .int .u8 0, .int .u8 0, .int .u8 0, .int .u32 0, .slice (some ⟨bp, 0, none⟩) 1 1, .int .u8 0, .string ByteArray.empty, .slice none 0 0, .int .u8 0, .int .u16 0], .int .u8 0] W fun e w' => e = .returned (.bool true) ∧ Below W.heap.size W w') := Lib.hid (fun W hw h1 => asked0 bp W (Nat.lt_of_lt_of_le hb h1) (hp.below hw hb))
  have K2 : Hid (∀ W, Below w.heap.size w W → w.heap.size ≤ W.heap.size → Calls Tryd.prog 22 #[.agg #[.int .u8 0, .int .u8 1, .int .u16 1, .int .u32 5, .int .u8 0, .int .u8 0, .int .u8 0, .int .u8 0, .int .u8 0, .int .u8 0, .int .u8 0, .int .u32 0, .slice (some ⟨bp, 0, none⟩) 1 1, .int .u8 0, .string ByteArray.empty, .slice none 0 0, .int .u8 0, .int .u16 0], .agg #[.int .u8 0, .int .u8 1, .int .u16 1, .int .u32 5, .int .u8 0, .int .u8 0, .int .u8 0, .int .u8 0, .int .u8 0, .int .u8 0, .int .u8 0, .int .u32 0, .slice (some ⟨bp, 0, none⟩) 1 1, .int .u8 0, .string ByteArray.empty, .slice none 0 0, .int .u8 0, .int .u16 0]] W fun e w' => e = .returned (.bool true) ∧ Below W.heap.size W w') := Lib.hid (fun W hw h1 =>
    sameE kE (some ⟨bp, 0, none⟩) none (some ⟨bp, 0, none⟩) none [kQ] [] 1 0 1 0 W (rows_k (Nat.lt_of_lt_of_le hb h1) (hp.below hw hb)) rowsW_nil (rows_k (Nat.lt_of_lt_of_le hb h1) (hp.below hw hb)) rowsW_nil (Nat.le_refl _) (by unfold maxLen; omega) (Nat.le_refl _) (by unfold maxLen; omega) (Nat.le_refl _) (by unfold maxLen; omega) (Nat.le_refl _) (by unfold maxLen; omega))
  clear hp
  go_enter Tryd.func19, Tryd.ntmps19
  go_wp2_with (first
    | (refine wpList_load_row rfl 68 (.tmp 2) rfl w.heap.size (by rfl) 68 #[.int .u8 0, .int .u8 1, .int .u16 1, .int .u32 5, .int .u8 0, .int .u8 0, .int .u8 0, .int .u8 0, .int .u8 0, .int .u8 0, .int .u8 0, .int .u32 0, .slice (some ⟨bp, 0, none⟩) 1 1, .int .u8 0, .string ByteArray.empty, .slice none 0 0, .int .u8 0, .int .u16 0] (0, 0) _ R0.out Tryd.underlying68 rfl (by kernel_rfl) ?_)
    | (go_at_call 49; refine (K1.out _ H0.out H0.out.size).mono ?_; rintro e w1 ⟨rfl, b1⟩
       have H1 := Lib.hid (H0.out.trans (b1.mono H0.out.size))
       have R1 := Lib.hid ((b1.block _ (by simp)).trans R0.out)
       have e0 : w1.cell? ⟨w.heap.size, 0, none⟩ = some (.int .u8 0) := (cell_of_row _ _ 0 _ _ _ R1.out).trans rfl
       have e1 : w1.cell? ⟨w.heap.size, 1, none⟩ = some (.int .u8 1) := (cell_of_row _ _ 1 _ _ _ R1.out).trans rfl
       have e2 : w1.cell? ⟨w.heap.size, 2, none⟩ = some (.int .u16 1) := (cell_of_row _ _ 2 _ _ _ R1.out).trans rfl
       have e3 : w1.cell? ⟨w.heap.size, 3, none⟩ = some (.int .u32 5) := (cell_of_row _ _ 3 _ _ _ R1.out).trans rfl
       have e4 : w1.cell? ⟨w.heap.size, 4, none⟩ = some (.int .u8 0) := (cell_of_row _ _ 4 _ _ _ R1.out).trans rfl
       have e5 : w1.cell? ⟨w.heap.size, 5, none⟩ = some (.int .u8 0) := (cell_of_row _ _ 5 _ _ _ R1.out).trans rfl
       have e6 : w1.cell? ⟨w.heap.size, 6, none⟩ = some (.int .u8 0) := (cell_of_row _ _ 6 _ _ _ R1.out).trans rfl
       have e7 : w1.cell? ⟨w.heap.size, 7, none⟩ = some (.int .u8 0) := (cell_of_row _ _ 7 _ _ _ R1.out).trans rfl
       have e8 : w1.cell? ⟨w.heap.size, 8, none⟩ = some (.int .u8 0) := (cell_of_row _ _ 8 _ _ _ R1.out).trans rfl
       have e9 : w1.cell? ⟨w.heap.size, 9, none⟩ = some (.int .u8 0) := (cell_of_row _ _ 9 _ _ _ R1.out).trans rfl
       have e10 : w1.cell? ⟨w.heap.size, 10, none⟩ = some (.int .u8 0) := (cell_of_row _ _ 10 _ _ _ R1.out).trans rfl
       have e11 : w1.cell? ⟨w.heap.size, 11, none⟩ = some (.int .u32 0) := (cell_of_row _ _ 11 _ _ _ R1.out).trans rfl
       have e12 : w1.cell? ⟨w.heap.size, 12, none⟩ = some (.slice (some ⟨bp, 0, none⟩) 1 1) := (cell_of_row _ _ 12 _ _ _ R1.out).trans rfl
       clear b1 R0)
    | (refine wpList_load_rowG 68 (.tmp 2) rfl (by kernel_rfl) w.heap.size (by rfl) 68 #[.int .u8 0, .int .u8 1, .int .u16 1, .int .u32 5, .int .u8 0, .int .u8 0, .int .u8 0, .int .u8 0, .int .u8 0, .int .u8 0, .int .u8 0, .int .u32 0, .slice (some ⟨bp, 0, none⟩) 1 1, .int .u8 0, .string ByteArray.empty, .slice none 0 0, .int .u8 0, .int .u16 0] (0, 0) _ R1.out Tryd.underlying68 rfl (by kernel_rfl) ?_)
    | (refine wpList_buildG 68 #[(0, .tmp 33), (1, .tmp 35), (2, .tmp 37), (3, .tmp 39)] rfl (by kernel_rfl) #[.int .u8 0, .int .u8 1, .int .u16 1, .int .u32 5, .int .u8 0, .int .u8 0, .int .u8 0, .int .u8 0, .int .u8 0, .int .u8 0, .int .u8 0, .int .u32 0, .slice (some ⟨bp, 0, none⟩) 1 1, .int .u8 0, .string ByteArray.empty, .slice none 0 0, .int .u8 0, .int .u16 0] (by kernel_rfl) ?_; clear e0 e1 e2 e3 e4 e5 e6 e7 e8 e9 e10 e11 e12)
    | (go_at_call 22; refine (K2.out _ H1.out H1.out.size).mono ?_; rintro e w2 ⟨rfl, b2⟩
       have H2 := Lib.hid (H1.out.trans (b2.mono H1.out.size))
       clear b2))
  go_ret
  exact ⟨rfl, H2.out⟩

set_option maxRecDepth 100000 in
set_option maxHeartbeats 1000000 in
theorem rightK1 (bp : Nat) (w : World) (hb : bp < w.heap.size) (hp : PartAt w bp 0 kQ) :
    Calls Tryd.prog 19 #[.agg #[.int .u8 0, .int .u8 1, .int .u16 1, .int .u32 5, .int .u8 0, .int .u8 0, .int .u8 0, .int .u8 0, .int .u8 0, .int .u8 0, .int .u8 0, .int .u32 0, .slice (some ⟨bp, 0, none⟩) 1 1, .int .u8 0, .string ByteArray.empty, .slice none 0 0, .int .u8 0, .int .u16 0], .int .u8 1] w fun e w' => e = .returned (.bool false) ∧ Below w.heap.size w w' := by
  have H0 : Hid (Below w.heap.size w (w.alloc (.cells #[.int .u8 0, .int .u8 1, .int .u16 1, .int .u32 5, .int .u8 0, .int .u8 0, .int .u8 0, .int .u8 0, .int .u8 0, .int .u8 0, .int .u8 0, .int .u32 0, .slice (some ⟨bp, 0, none⟩) 1 1, .int .u8 0, .string ByteArray.empty, .slice none 0 0, .int .u8 0, .int .u16 0] 68))) := Lib.hid ((Below.refl _ _).alloc (Nat.le_refl _) _)
  have E0 : Hid (Ent (w.alloc (.cells #[.int .u8 0, .int .u8 1, .int .u16 1, .int .u32 5, .int .u8 0, .int .u8 0, .int .u8 0, .int .u8 0, .int .u8 0, .int .u8 0, .int .u8 0, .int .u32 0, .slice (some ⟨bp, 0, none⟩) 1 1, .int .u8 0, .string ByteArray.empty, .slice none 0 0, .int .u8 0, .int .u16 0] 68)) w.heap.size kE (.slice (some ⟨bp, 0, none⟩) 1 1) (.slice none 0 0)) := Lib.hid (ent_new w kE (.slice (some ⟨bp, 0, none⟩) 1 1) (.slice none 0 0) 68)
  have K1 : Hid (∀ W, Below w.heap.size w W → w.heap.size ≤ W.heap.size → Calls Tryd.prog 49 #[.agg #[.int .u8 0, .int .u8 1, .int .u16 1, .int .u32 5, .int .u8 0, .int .u8 0, .int .u8 0, .int .u8 0, .int .u8 0, .int .u8 0, .int .u8 0, .int .u32 0, .slice (some ⟨bp, 0, none⟩) 1 1, .int .u8 0, .string ByteArray.empty, .slice none 0 0, .int .u8 0, .int .u16 0], .int .u8 1] W fun e w' => e = .returned (.bool false) ∧ Below W.heap.size W w') := Lib.hid (fun W hw h1 => asked1 bp W (Nat.lt_of_lt_of_le hb h1) (hp.below hw hb))
  clear hp
  go_enter Tryd.func19, Tryd.ntmps19
  go_wp2_with (first
    | (go_at_call 49; refine (K1.out _ H0.out H0.out.size).mono ?_; rintro e w1 ⟨rfl, b1⟩
       have H1 := Lib.hid (H0.out.trans (b1.mono H0.out.size))
       obtain ⟨e0, e1, e2, e3, e4, e5, e6, e7, e8, e9, e10, e11, e12, e13, e14, e15, e16, e17⟩ : w1.cell? ⟨w.heap.size, 0, none⟩ = some (.int .u8 0) ∧ w1.cell? ⟨w.heap.size, 1, none⟩ = some (.int .u8 1) ∧ w1.cell? ⟨w.heap.size, 2, none⟩ = some (.int .u16 1) ∧ w1.cell? ⟨w.heap.size, 3, none⟩ = some (.int .u32 5) ∧ w1.cell? ⟨w.heap.size, 4, none⟩ = some (.int .u8 0) ∧ w1.cell? ⟨w.heap.size, 5, none⟩ = some (.int .u8 0) ∧ w1.cell? ⟨w.heap.size, 6, none⟩ = some (.int .u8 0) ∧ w1.cell? ⟨w.heap.size, 7, none⟩ = some (.int .u8 0) ∧ w1.cell? ⟨w.heap.size, 8, none⟩ = some (.int .u8 0) ∧ w1.cell? ⟨w.heap.size, 9, none⟩ = some (.int .u8 0) ∧ w1.cell? ⟨w.heap.size, 10, none⟩ = some (.int .u8 0) ∧ w1.cell? ⟨w.heap.size, 11, none⟩ = some (.int .u32 0) ∧ w1.cell? ⟨w.heap.size, 12, none⟩ = some (.slice (some ⟨bp, 0, none⟩) 1 1) ∧ w1.cell? ⟨w.heap.size, 13, none⟩ = some (.int .u8 0) ∧ w1.cell? ⟨w.heap.size, 14, none⟩ = some (.string ByteArray.empty) ∧ w1.cell? ⟨w.heap.size, 15, none⟩ = some (.slice none 0 0) ∧ w1.cell? ⟨w.heap.size, 16, none⟩ = some (.int .u8 0) ∧ w1.cell? ⟨w.heap.size, 17, none⟩ = some (.int .u16 0) := (E0.out.kept b1 E0.out.lt).all
       clear b1))
  go_ret
  exact ⟨rfl, H1.out⟩

end Go.Proofs.YthmdnbgfnaokkaaDoor
