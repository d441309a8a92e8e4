/-
  Bytes in memory, and what all of the link's calls share: by exact answers. Condition: bytes lie in memory, at most 2^47 of them.
-/
import Derived.Test.YtldbmmganicliaaRows
import Derived.Test.YtldbmmganicliaaEfg
import Derived.DeepKeys4
import Derived.Maps.OwnSet
import Derived.Maps.Views
import Derived.StillTailTactics
import Derived.WalkKit
import Derived.WalkSpells
import Derived.WalkLawsBesides
import Derived.Lib.Hide
import Derived.LoopN
import Derived.Handy
import Derived.Below
import Derived.Laws.OwnMore
import Derived.Maps.AppendAt
import Derived.OwnWalk
import Derived.RangeFuncBox
import Derived.Lib.SliceRun
import Derived.IntWalk
import Derived.Deep.WholeRow
import Derived.Laws.Rows
import Derived.Laws.Tables
import Derived.Laws.CopyOwn
import Derived.Deep.RegionWith
import Derived.Deep.RegionHeld3
import Derived.BigRegion
import Derived.Deep.Draws
import Derived.RegionTactic
import Derived.Lib.QuietBelow
import Derived.BigQuiet
namespace Go.Proofs.Ytldbmmganicliaa
set_option linter.unusedSimpArgs false
set_option linter.unusedVariables false
open Go.RowKit Go.Sort

theorem byteI : (Try.prog.info? 5).map (fun i => (i.zero, i.size, i.bytes)) = some (some (.int .u8 0), 1, 1) := by kernel_rfl
theorem ret_bool {a b : Bool} (h : a = b) : Ending.returned (.bool a) = .returned (.bool b) := by rw [h]
theorem ret_int {k : IntKind} {a b : Int} (h : a = b) : Ending.returned (.int k a) = .returned (.int k b) := by rw [h]
theorem toNat_of {n : Nat} (h : n < 256) : (UInt8.ofNat n).toNat = n := by
  rw [UInt8.toNat_ofNat']
  exact Nat.mod_eq_of_lt h

/-- bytes in memory, behind a slice's address. -/
def BytesAt (W : World) (B : Nat) (A : Option Addr) (L : List UInt8) : Prop :=
  L ≠ [] → ∃ b o, A = some ⟨b, o, none⟩ ∧ b < B ∧ ∀ j x, L[j]? = some x → W.cell? ⟨b, o + j, none⟩ = some (.int .u8 x.toNat)
theorem BytesAt.keep {W W' : World} {B B' : Nat} {A : Option Addr} {L : List UInt8} (h : BytesAt W B A L) (hB : B ≤ B') (hk : ∀ b i, b < B → W'.cell? ⟨b, i, none⟩ = W.cell? ⟨b, i, none⟩) : BytesAt W' B' A L := fun hx => by
  obtain ⟨b, o, e, hb, hc⟩ := h hx
  exact ⟨b, o, e, Nat.lt_of_lt_of_le hb hB, fun i x hi => (hk b _ hb).trans (hc i x hi)⟩
theorem BytesAt.below {W W' : World} {B B' C : Nat} {A : Option Addr} {L : List UInt8} (h : BytesAt W B A L) (hb : Below C W W') (hC : B ≤ C) (hB : B ≤ B') : BytesAt W' B' A L :=
  h.keep hB fun b i hl => hb.cell (p := ⟨b, i, none⟩) (by simp; omega)
theorem BytesAt.up {W : World} {B B' : Nat} {A : Option Addr} {L : List UInt8} (h : BytesAt W B A L) (hB : B ≤ B') : BytesAt W B' A L := h.keep hB fun _ _ _ => rfl
theorem addr_add (b o j : Nat) : (⟨b, o, none⟩ : Addr).add j = ⟨b, o + j, none⟩ := by
  unfold Addr.add
  by_cases h : j = 0
  · subst h; rfl
  · simp [h]
theorem BytesAt.cells {W : World} {B : Nat} {a : Addr} {L : List UInt8} (h : BytesAt W B (some a) L) : ∀ j u, (Lib.byteCells L)[j]? = some u → W.cell? (a.add j) = some u := by
  intro j u hu
  have hne : L ≠ [] := by rintro rfl; simp [Lib.byteCells] at hu
  obtain ⟨b, o, e, hb, hc⟩ := h hne
  cases e
  rw [Lib.byteCells, List.getElem?_map] at hu
  cases hx : L[j]? with
  | none => rw [hx] at hu; simp at hu
  | some x =>
    rw [hx] at hu
    simp at hu
    subst hu
    rw [addr_add]
    exact hc j x hx
theorem byteCells_one (L : List UInt8) : ∀ u ∈ Lib.byteCells L, u.oneCell' = true := by
  intro u hu
  simp only [Lib.byteCells, List.mem_map] at hu
  obtain ⟨x, _, rfl⟩ := hu
  rfl

/-- bytes that nobody else has: they stand at the head of a block of bytes from base on. -/
def OwnB (W : World) (base : Nat) (A : Option Addr) (X : List UInt8) : Prop :=
  X ≠ [] → ∃ g cur, A = some ⟨g, 0, none⟩ ∧ base ≤ g ∧ W.heap[g]? = some (.cells cur 5 (0, 0)) ∧ cur.toList.take X.length = Lib.byteCells X
theorem OwnB.at_ {W : World} {base : Nat} {A : Option Addr} {X : List UInt8} (h : OwnB W base A X) : BytesAt W W.heap.size A X := fun hx => by
  obtain ⟨g, cur, e, hb, hg, ht⟩ := h hx
  refine ⟨g, 0, e, (Array.getElem?_eq_some_iff.1 hg).1, fun j x hj => ?_⟩
  rw [Nat.zero_add, cell_of_row _ _ j _ _ _ hg]
  have hl := (List.getElem?_eq_some_iff.1 hj).1
  have h1 : (cur.toList.take X.length)[j]? = some (.int .u8 x.toNat) := by rw [ht, Lib.byteCells, List.getElem?_map, hj]; rfl
  rw [List.getElem?_take, if_pos hl] at h1
  simpa using h1
theorem OwnB.lower {W : World} {base base' : Nat} {A : Option Addr} {X : List UInt8} (h : OwnB W base A X) (hb : base' ≤ base) : OwnB W base' A X := fun hx => by
  obtain ⟨g, cur, e, h1, r⟩ := h hx
  exact ⟨g, cur, e, Nat.le_trans hb h1, r⟩
/-- what an owned row holds. -/
theorem bytes_of_own {W : World} {base : Nat} {v : Value} {n : Nat} {L : List UInt8} (h : W.ownsRow base 5 1 v n (Lib.byteCells L)) :
    ∃ A c, v = .slice A n c ∧ n = L.length ∧ OwnB W base A L ∧ L.length ≤ c ∧ c ≤ maxLen := by
  have hn : n = L.length := by
    have := h.1
    rw [Lib.byteCells_length] at this
    omega
  rcases h.2 with ⟨rfl, rfl⟩ | ⟨g, cap, cur, rfl, hbg, hg, hnc, hcm, hcs, htake⟩
  · exact ⟨none, 0, rfl, hn, fun hx => absurd (List.eq_nil_of_length_eq_zero hn.symm) hx, by omega, by unfold maxLen; omega⟩
  · refine ⟨_, cap, rfl, hn, fun hx => ⟨g, cur, rfl, hbg, hg, ?_⟩, by omega, hcm⟩
    rw [← hn, ← htake, Nat.mul_one]

set_option maxHeartbeats 400000 in
theorem toProc (n l : Int) (w : World) :
    Calls Try.prog 34 #[.agg #[.int .u8 n, .int .u16 l]] w fun e w' => e = .returned (.agg #[.int .u8 n, .int .u16 l]) ∧ ((w.alloc (.cells #[.int .u8 n, .int .u16 l] 39)).alloc (.cells #[.int .u8 n, .int .u16 l] 31)) = w' := by
  go_enter Try.func34, Try.ntmps34
  go_wp2
  exact bodyPost_ret (v := .agg #[.int .u8 n, .int .u16 l]) (by simp [results, Try.results34, go_sem]) rfl ⟨rfl, by simp⟩

theorem wpList_bx {P : Program} {ops : Array Oper} {rest : List Oper} {o : Oper} {a : Act} {w : World} {Q : Exit → Act → World → Prop} (hg : o.guard = none) (t : TypeId) (x : Operand) (ho : o.op = .box t x) (d : Tmp) (hd : o.dst = some d) (cells : Array Value) (hx : a.eval x = .agg cells)
    (h : wpList P ops Q rest (a.put (some d) (.pointer (some ⟨w.heap.size, 0, none⟩))) (w.alloc (.cells cells t))) : wpList P ops Q (o :: rest) a w := by
  rw [← hd] at h
  refine wpList_plain hg fun K hK => ?_
  unfold Oper.wp execOp
  simp only [ho, hx, Value.cells, Sem.run_bind, Instr.box, newVar, newRow, run_newObj_alloc, Sem.run_pure, Result.andThen_ok]
  exact hK _ _ h
theorem wpList_bd {P : Program} {ops : Array Oper} {rest : List Oper} {o : Oper} {a : Act} {w : World} {Q : Exit → Act → World → Prop} (hg : o.guard = none) (t : TypeId) (parts : Array (Nat × Operand)) (ho : o.op = .build t parts) (cs : Array Value)
    (hf : P.built t (parts.map fun (i, x) => (i, a.eval x)).toList = some cs)
    (h : wpList P ops Q rest (a.put o.dst (.agg cs)) w) : wpList P ops Q (o :: rest) a w := by
  refine wpList_build hg t parts ho (by rw [hf]; rfl) ?_
  rw [hf]
  exact h
/-- a store of one cell, the only operation that may come up. -/
theorem wpOp_st {P : Program} {w w' : World} {ops : Array Oper} {o : Oper} {i : Nat} {a : Act} {K : Act → World → Prop} {Q : Exit → Act → World → Prop} (hi : ops[i]? = some o) (hgd : o.guard = none) (hd : o.dst = none) (p : Op) (ho : o.op = p)
    (hr : (execOp a.eval (bareO p o.type)).run P w = .ok .skip w') (h : K a w') : wpOp P ops Q i K a w := by
  rw [execOp_bare ho] at hr
  unfold wpOp
  simp only [hi]
  rw [if_pos (by simp [Region.wanted, hgd])]
  refine .inl ?_
  unfold Oper.wp
  rw [hr, Oper.upon_skip, hd]
  exact h
theorem FirstH.two {P : Program} {md : Region.Mode} {ops : Array Oper} {Q : Exit → Act → World → Prop} {S : World → Prop} {n i j : Nat} {L : Array Bool → Act → World → Prop} {f : Nat} {done : Array Bool} {a : Act} {w : World} (hr : Region.ready md ops done = [i, j]) (hin : i < n) (hjn : j < n) (inv : HeadInv md ops n done)
    (Hi : HeadInv md ops n (done.setIfInBounds i true) → wpOp P ops Q i (fun a' w' => S w' ∧ FirstH P md ops Q S n L f (done.setIfInBounds i true) a' w') a w)
    (Hj : HeadInv md ops n (done.setIfInBounds j true) → wpOp P ops Q j (fun a' w' => S w' ∧ FirstH P md ops Q S n L f (done.setIfInBounds j true) a' w') a w) : FirstH P md ops Q S n L (f + 1) done a w :=
  ⟨by rw [hr]; simp, fun k hk => by
    have hk' := hk
    rw [hr] at hk'
    simp only [List.mem_cons, List.not_mem_nil, or_false] at hk'
    rcases hk' with rfl | rfl
    · exact ⟨hin, Hi (inv.set (by rw [hr]; simp) hin)⟩
    · exact ⟨hjn, Hj (inv.set (by rw [hr]; simp) hjn)⟩⟩
/-- an operation that yields a value and turns the world. -/
theorem wpOp_vl {P : Program} {w w' : World} {ops : Array Oper} {o : Oper} {i : Nat} {a : Act} {K : Act → World → Prop} {Q : Exit → Act → World → Prop} {v : Value} (hi : ops[i]? = some o) (hgd : o.guard = none) (d : Tmp) (hd : o.dst = some d) (p : Op) (ho : o.op = p)
    (hr : (execOp a.eval (bareO p o.type)).run P w = .ok (.value v) w') (h : K (a.put (some d) v) w') : wpOp P ops Q i K a w := by
  rw [execOp_bare ho] at hr
  rw [← hd] at h
  unfold wpOp
  simp only [hi]
  rw [if_pos (by simp [Region.wanted, hgd])]
  refine .inl ?_
  unfold Oper.wp
  rw [hr, Oper.upon_value]
  exact h
theorem cell_of {W : World} {b : Nat} {cs : Array Value} {t : TypeId} (h : W.heap[b]? = some (.cells cs t (0, 0))) (i : Nat) (v : Value) (hv : cs[i]? = some v) : W.cell? ⟨b, i, none⟩ = some v :=
  (cell_of_row _ _ i _ _ _ h).trans hv

theorem frz_row {W : World} {b : Nat} {cs : Array Value} {t : TypeId} (i : Nat) (h : W.heap[b]? = some (.cells cs t (0, 0))) : W.frozen? ⟨b, i, none⟩ = false := by
  simp [World.frozen?, h]
theorem row_set {W : World} {b i : Nat} {cs : Array Value} {t : TypeId} {fr : Nat × Nat} (h : W.heap[b]? = some (.cells cs t fr)) (v : Value) : (W.setCell ⟨b, i, none⟩ v).heap[b]? = some (.cells (cs.setIfInBounds i v) t fr) := by
  simp [World.setCell, Array.getElem?_modify, h]
theorem other_set {W : World} {b i k : Nat} {o : Obj} (h : W.heap[k]? = some o) (hk : k ≠ b) (v : Value) : (W.setCell ⟨b, i, none⟩ v).heap[k]? = some o :=
  (Below.heap_setCell W _ v k hk).trans h
theorem OwnB.keep {W W' : World} {base : Nat} {A : Option Addr} {X : List UInt8} (h : OwnB W base A X) (hk : ∀ g cur, base ≤ g → W.heap[g]? = some (.cells cur 5 (0, 0)) → W'.heap[g]? = some (.cells cur 5 (0, 0))) : OwnB W' base A X := fun hx => by
  obtain ⟨g, cur, e, h1, h2, h3⟩ := h hx
  exact ⟨g, cur, e, h1, hk g cur h1 h2, h3⟩
theorem OwnB.nil {W : World} {base : Nat} {A : Option Addr} {X : List UInt8} (h : OwnB W base A X) (hA : A = none) : X.length = 0 := by
  rcases Classical.em (X = []) with e | e
  · rw [e]; rfl
  · obtain ⟨g, cur, e', _⟩ := h e
    rw [hA] at e'
    cases e'
theorem setRow_at {W : World} {g k : Nat} {o : Obj} (h : W.heap[k]? = some o) (hk : k ≠ g) (cs : Array Value) : (W.setRow g cs).heap[k]? = some o :=
  (setRow_other W g k cs hk).trans h
theorem below_row {B g : Nat} {W X : World} (h : Below B W X) (hg : B ≤ g) (cs : Array Value) : Below B W (X.setRow g cs) :=
  h.trans ⟨rfl, rfl, rfl, by simp [World.setRow], fun k hk => setRow_other X g k cs (by omega)⟩

/-- all blocks but those of S lie as they lay. -/
structure KP (S : Nat → Prop) (W W' : World) : Prop where
  os : W'.os = W.os
  tape : W'.tape = W.tape
  output : W'.output = W.output
  size : W.heap.size ≤ W'.heap.size
  block : ∀ k, k < W.heap.size → ¬ S k → W'.heap[k]? = W.heap[k]?
theorem KP.of_below {S : Nat → Prop} {W W' : World} (h : Below W.heap.size W W') : KP S W W' := ⟨h.os, h.tape, h.output, h.size, fun k hk _ => h.block k hk⟩
theorem KP.refl (S : Nat → Prop) (W : World) : KP S W W := ⟨rfl, rfl, rfl, Nat.le_refl _, fun _ _ _ => rfl⟩
theorem KP.trans {S T : Nat → Prop} {W W' X : World} (h : KP S W W') (k : KP T W' X) (hT : ∀ i, i < W.heap.size → T i → S i) : KP S W X :=
  ⟨k.os.trans h.os, k.tape.trans h.tape, k.output.trans h.output, Nat.le_trans h.size k.size, fun i hi hn => (k.block i (Nat.lt_of_lt_of_le hi h.size) (fun ht => hn (hT i hi ht))).trans (h.block i hi hn)⟩
theorem KP.mono {S T : Nat → Prop} {W W' : World} (h : KP S W W') (hT : ∀ i, S i → T i) : KP T W W' := ⟨h.os, h.tape, h.output, h.size, fun i hi hn => h.block i hi fun hs => hn (hT i hs)⟩
theorem KP.below {S : Nat → Prop} {W W' : World} {base : Nat} (h : KP S W W') (hb : base ≤ W.heap.size) (hS : ∀ k, S k → base ≤ k) : Below base W W' :=
  ⟨h.os, h.tape, h.output, h.size, fun k hk => h.block k (by omega) fun hs => by have := hS k hs; omega⟩
theorem KP.set {S : Nat → Prop} (W : World) (b i : Nat) (v : Value) (hb : S b) : KP S W (W.setCell ⟨b, i, none⟩ v) :=
  ⟨rfl, rfl, rfl, by simp [World.setCell], fun k _ hn => Below.heap_setCell W _ v k (fun e => hn (by have : k = b := e; rw [this]; exact hb))⟩
theorem KP.setRow {S : Nat → Prop} (W : World) (b : Nat) (cs : Array Value) (hb : S b) : KP S W (W.setRow b cs) :=
  ⟨rfl, rfl, rfl, by simp [World.setRow], fun k _ hn => setRow_other W b k cs (fun e => hn (by rw [e]; exact hb))⟩
theorem KP.grown {S : Nat → Prop} {W W' : World} {row : Option Nat} (hg : W.grownBy W' row) (hr : ∀ k, row = some k → S k) : KP S W W' :=
  ⟨hg.os, hg.tape, hg.output, hg.size, fun k hk hn => hg.block k hk fun e => hn (hr k e.symm)⟩
theorem apart_of {W : World} {k j : Nat} {c d : Array Value} {t u : TypeId} {f g : Nat × Nat} (h : W.heap[k]? = some (.cells c t f)) (h' : W.heap[j]? = some (.cells d u g)) (hne : t ≠ u) : k ≠ j := fun e => by
  subst e
  rw [h] at h'
  injection h' with h'
  injection h' with h1 h2 h3
  exact hne h2
theorem row_block {W : World} {base : Nat} {e : TypeId} {s : Nat} {v : Value} {n : Nat} {xs : List Value} (h : W.ownsRow base e s v n xs) {g : Nat} (hg : v.ownBlock = some g) : ∃ cur, W.heap[g]? = some (.cells cur e (0, 0)) := by
  rcases h.2 with ⟨rfl, _⟩ | ⟨g', cap, cur, rfl, _, hgb, _⟩
  · simp [Value.ownBlock] at hg
  · have : g' = g := by simpa [Value.ownBlock] using hg
    subst this
    exact ⟨_, hgb⟩
theorem run_load_row {P : Program} {a : Act} {W : World} (ty t0 : TypeId) (x : Operand) (g : Nat) (hx : a.eval x = .pointer (some ⟨g, 0, none⟩)) (t : TypeId) (cs : Array Value) (fr : Nat × Nat) (d : TypeDesc) (hg : W.heap[g]? = some (.cells cs t fr))
    (hu : P.underlying ty = some d) (hd : (match d with | .struct _ | .array _ _ => true | _ => false) = true) (hi : (P.info? ty).map (·.size) = some cs.size) :
    (execOp a.eval (bareO (Op.load ty x) t0)).run P W = .ok (.value (.agg cs)) W := by
  unfold execOp bareO
  simp only [hx, Instr.loadAt, Instr.sureAddr, Sem.run_bind, Sem.run_pure, Result.andThen_ok, run_loadVar_row W g t ty cs fr d hg hu hd hi]
theorem grown_of_below {W W' : World} (hb : Below W.heap.size W W') (row : Option Nat) : W.grownBy W' row := ⟨hb.os, hb.tape, hb.output, hb.size, fun k hk _ => hb.block k hk⟩
theorem grown_trans {a b c : World} {row : Option Nat} (h : Below a.heap.size a b) (k : b.grownBy c row) : a.grownBy c row := (grown_of_below h row).trans k
/-- the byte row's law, at a row. -/
theorem OwnB.keepK {W W' : World} {base : Nat} {A : Option Addr} {X : List UInt8} {S : Nat → Prop} (h : OwnB W base A X) (hk : KP S W W') (hS : ∀ g cur, W.heap[g]? = some (.cells cur 5 (0, 0)) → ¬ S g) : OwnB W' base A X :=
  h.keep fun g cur _ hc => (hk.block g (Array.getElem?_eq_some_iff.1 hc).1 (hS g cur hc)).trans hc

end Go.Proofs.Ytldbmmganicliaa
