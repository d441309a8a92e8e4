/-
  Bytes and parcels in memory, and what all of the bag's calls share: by exact answers. Condition: bytes lie in memory, at most 2^47 of them.
-/
import Derived.Test.YteaafpgkifmdeaaRows
import Derived.Test.YteaafpgkifmdeaaEfg
import Derived.WalkKit
import Derived.WalkSpells
import Derived.WalkLawsBesides
import Derived.Lib.Hide
import Derived.LoopN
import Derived.Handy
import Derived.Below
import Derived.Laws.OwnMore
import Derived.Maps.AppendAt
import Derived.OwnWalk
import Derived.RangeFuncBox
import Derived.Lib.SliceRun
import Derived.IntWalk
import Derived.Deep.WholeRow
import Derived.Laws.Rows
import Derived.Laws.Tables
import Derived.Laws.CopyOwn
import Derived.Deep.RegionWith
import Derived.Deep.RegionHeld3
import Derived.BigRegion
import Derived.Deep.Draws
import Derived.RegionTactic
import Derived.Lib.QuietBelow
import Derived.BigQuiet
namespace Go.Proofs.Yteaafpgkifmdeaa
set_option linter.unusedSimpArgs false
set_option linter.unusedVariables false
open Go.RowKit Go.Sort

theorem byteI : (Try.prog.info? 5).map (fun i => (i.zero, i.size, i.bytes)) = some (some (.int .u8 0), 1, 1) := by kernel_rfl
theorem ret_bool {a b : Bool} (h : a = b) : Ending.returned (.bool a) = .returned (.bool b) := by rw [h]
theorem ret_int {k : IntKind} {a b : Int} (h : a = b) : Ending.returned (.int k a) = .returned (.int k b) := by rw [h]
theorem toNat_of {n : Nat} (h : n < 256) : (UInt8.ofNat n).toNat = n := by
  rw [UInt8.toNat_ofNat']
  exact Nat.mod_eq_of_lt h

/-- bytes in memory, behind a slice's address. -/
def BytesAt (W : World) (B : Nat) (A : Option Addr) (L : List UInt8) : Prop :=
  L ≠ [] → ∃ b o, A = some ⟨b, o, none⟩ ∧ b < B ∧ ∀ j x, L[j]? = some x → W.cell? ⟨b, o + j, none⟩ = some (.int .u8 x.toNat)
theorem BytesAt.keep {W W' : World} {B B' : Nat} {A : Option Addr} {L : List UInt8} (h : BytesAt W B A L) (hB : B ≤ B') (hk : ∀ b i, b < B → W'.cell? ⟨b, i, none⟩ = W.cell? ⟨b, i, none⟩) : BytesAt W' B' A L := fun hx => by
  obtain ⟨b, o, e, hb, hc⟩ := h hx
  exact ⟨b, o, e, Nat.lt_of_lt_of_le hb hB, fun i x hi => (hk b _ hb).trans (hc i x hi)⟩
theorem BytesAt.below {W W' : World} {B B' C : Nat} {A : Option Addr} {L : List UInt8} (h : BytesAt W B A L) (hb : Below C W W') (hC : B ≤ C) (hB : B ≤ B') : BytesAt W' B' A L :=
  h.keep hB fun b i hl => hb.cell (p := ⟨b, i, none⟩) (by simp; omega)
theorem BytesAt.up {W : World} {B B' : Nat} {A : Option Addr} {L : List UInt8} (h : BytesAt W B A L) (hB : B ≤ B') : BytesAt W B' A L := h.keep hB fun _ _ _ => rfl
theorem addr_add (b o j : Nat) : (⟨b, o, none⟩ : Addr).add j = ⟨b, o + j, none⟩ := by
  unfold Addr.add
  by_cases h : j = 0
  · subst h; rfl
  · simp [h]
theorem BytesAt.cells {W : World} {B : Nat} {a : Addr} {L : List UInt8} (h : BytesAt W B (some a) L) : ∀ j u, (Lib.byteCells L)[j]? = some u → W.cell? (a.add j) = some u := by
  intro j u hu
  have hne : L ≠ [] := by rintro rfl; simp [Lib.byteCells] at hu
  obtain ⟨b, o, e, hb, hc⟩ := h hne
  cases e
  rw [Lib.byteCells, List.getElem?_map] at hu
  cases hx : L[j]? with
  | none => rw [hx] at hu; simp at hu
  | some x =>
    rw [hx] at hu
    simp at hu
    subst hu
    rw [addr_add]
    exact hc j x hx
theorem byteCells_one (L : List UInt8) : ∀ u ∈ Lib.byteCells L, u.oneCell' = true := by
  intro u hu
  simp only [Lib.byteCells, List.mem_map] at hu
  obtain ⟨x, _, rfl⟩ := hu
  rfl

/-- bytes that nobody else has: they stand at the head of a block of bytes from base on. -/
def OwnB (W : World) (base : Nat) (A : Option Addr) (X : List UInt8) : Prop :=
  X ≠ [] → ∃ g cur, A = some ⟨g, 0, none⟩ ∧ base ≤ g ∧ W.heap[g]? = some (.cells cur 5 (0, 0)) ∧ cur.toList.take X.length = Lib.byteCells X
theorem OwnB.at_ {W : World} {base : Nat} {A : Option Addr} {X : List UInt8} (h : OwnB W base A X) : BytesAt W W.heap.size A X := fun hx => by
  obtain ⟨g, cur, e, hb, hg, ht⟩ := h hx
  refine ⟨g, 0, e, (Array.getElem?_eq_some_iff.1 hg).1, fun j x hj => ?_⟩
  rw [Nat.zero_add, cell_of_row _ _ j _ _ _ hg]
  have hl := (List.getElem?_eq_some_iff.1 hj).1
  have h1 : (cur.toList.take X.length)[j]? = some (.int .u8 x.toNat) := by rw [ht, Lib.byteCells, List.getElem?_map, hj]; rfl
  rw [List.getElem?_take, if_pos hl] at h1
  simpa using h1
theorem OwnB.lower {W : World} {base base' : Nat} {A : Option Addr} {X : List UInt8} (h : OwnB W base A X) (hb : base' ≤ base) : OwnB W base' A X := fun hx => by
  obtain ⟨g, cur, e, h1, r⟩ := h hx
  exact ⟨g, cur, e, Nat.le_trans hb h1, r⟩
/-- what an owned row holds. -/
theorem bytes_of_own {W : World} {base : Nat} {v : Value} {n : Nat} {L : List UInt8} (h : W.ownsRow base 5 1 v n (Lib.byteCells L)) :
    ∃ A c, v = .slice A n c ∧ n = L.length ∧ OwnB W base A L ∧ L.length ≤ c ∧ c ≤ maxLen := by
  have hn : n = L.length := by
    have := h.1
    rw [Lib.byteCells_length] at this
    omega
  rcases h.2 with ⟨rfl, rfl⟩ | ⟨g, cap, cur, rfl, hbg, hg, hnc, hcm, hcs, htake⟩
  · exact ⟨none, 0, rfl, hn, fun hx => absurd (List.eq_nil_of_length_eq_zero hn.symm) hx, by omega, by unfold maxLen; omega⟩
  · refine ⟨_, cap, rfl, hn, fun hx => ⟨g, cur, rfl, hbg, hg, ?_⟩, by omega, hcm⟩
    rw [← hn, ← htake, Nat.mul_one]

set_option maxRecDepth 100000 in
set_option maxHeartbeats 1000000 in
theorem cloneB (A : Option Addr) (L : List UInt8) (c : Nat) (w : World) (hr : BytesAt w w.heap.size A L) (hl : L.length ≤ 140737488355328) (hc : L.length ≤ c) (hm : c ≤ maxLen) :
    Calls Try.prog 39 #[.slice A L.length c] w fun e w' => ∃ v, e = .returned v ∧ w'.ownsRow w.heap.size 5 1 v L.length (Lib.byteCells L) ∧ Below w.heap.size w w' := by
  obtain ⟨i0, hi0, hz0, hz1, hz2⟩ := info_parts byteI
  have hnil : ∀ W, Sem.run Try.prog (binOp .eql 34 (.slice A L.length c) (.slice none 0 0)) W = .ok (.bool A.isNone) W := fun W => Lib.run_eql_slice_nil W _ _ _ _ _ 0 0 Try.underlying34
  cases A with
  | none =>
    have hL : L = [] := by
      rcases Classical.em (L = []) with h | h
      · exact h
      · obtain ⟨b, o, e, -⟩ := hr h
        cases e
    subst hL
    simp only [Option.isNone, List.length_nil] at hnil
    go_enter Try.func39, Try.ntmps39
    go_wp2
    go_ret
    exact ⟨_, rfl, World.ownsRow_nil _ _ _ _, Below.refl _ _⟩
  | some a =>
    simp only [Option.isNone] at hnil
    have O0 : Hid ((w.alloc (.cells #[] 5)).ownsRow w.heap.size 5 1 (.slice (some ⟨w.heap.size, 0, none⟩) 0 0) 0 []) := Lib.hid ⟨rfl, .inr ⟨w.heap.size, 0, #[], rfl, Nat.le_refl _, heap_alloc_new w _, Nat.le_refl _, by unfold maxLen; omega, rfl, rfl⟩⟩
    have B0 := Lib.hid ((Below.refl w.heap.size w).alloc (Nat.le_refl _) (.cells #[] 5))
    have HC := Lib.hid ((hr.below (C := w.heap.size) B0.out (Nat.le_refl _) B0.out.size).cells)
    clear hr
    go_enter Try.func39, Try.ntmps39
    go_wp2_with (at_builtin
                 refine wpList_append_own _ rfl (.tmp 5) (.tmp 6) 34 rfl w.heap.size 5 i0 _ 1 1 Try.underlying34 hi0 hz0 hz1 hz2 rfl (by decide) _ 0 _ rfl O0.out a L.length c (Lib.byteCells L) rfl (by rw [Lib.byteCells_length, Nat.mul_one]) HC.out (byteCells_one L) (by unfold maxLen; omega) (by omega) B0.out.size ?_
                 intro v' w3 hown' hgrow' hnil'
                 have B3 := Lib.hid (B0.out.grown hgrow' B0.out.size fun k hk => (O0.out.lt k hk).1)
                 rw [Nat.zero_add, List.nil_append] at hown'
                 have O3 := Lib.hid hown'
                 clear hown' hgrow' hnil')
    go_ret
    exact ⟨_, rfl, O3.out, B3.out⟩

set_option maxHeartbeats 400000 in
theorem toProc (n l : Int) (w : World) :
    Calls Try.prog 35 #[.agg #[.int .u8 n, .int .u16 l]] w fun e w' => e = .returned (.agg #[.int .u8 n, .int .u16 l]) ∧ ((w.alloc (.cells #[.int .u8 n, .int .u16 l] 33)).alloc (.cells #[.int .u8 n, .int .u16 l] 43)) = w' := by
  go_enter Try.func35, Try.ntmps35
  go_wp2
  exact bodyPost_ret (v := .agg #[.int .u8 n, .int .u16 l]) (by simp [results, Try.results35, go_sem]) rfl ⟨rfl, by simp⟩
set_option maxHeartbeats 400000 in
theorem refProc (n l : Int) (w : World) :
    Calls Try.prog 23 #[.agg #[.int .u8 n, .int .u16 l]] w fun e w' => e = .returned (.agg #[.int .u8 n, .int .u16 l]) ∧ ((w.alloc (.cells #[.int .u8 n, .int .u16 l] 43)).alloc (.cells #[.int .u8 n, .int .u16 l] 33)) = w' := by
  go_enter Try.func23, Try.ntmps23
  go_wp2
  exact bodyPost_ret (v := .agg #[.int .u8 n, .int .u16 l]) (by simp [results, Try.results23, go_sem]) rfl ⟨rfl, by simp⟩
set_option maxHeartbeats 400000 in
theorem numE (n : Int) (w : World) : Calls Try.prog 14 #[.int .i64 n] w fun e w' => e = .returned (.int .i64 n) ∧ w = w' := by
  go_enter Try.func14, Try.ntmps14
  go_wp2
  go_ret
  exact ⟨rfl, rfl⟩

theorem wpList_bx {P : Program} {ops : Array Oper} {rest : List Oper} {o : Oper} {a : Act} {w : World} {Q : Exit → Act → World → Prop} (hg : o.guard = none) (t : TypeId) (x : Operand) (ho : o.op = .box t x) (d : Tmp) (hd : o.dst = some d) (cells : Array Value) (hx : a.eval x = .agg cells)
    (h : wpList P ops Q rest (a.put (some d) (.pointer (some ⟨w.heap.size, 0, none⟩))) (w.alloc (.cells cells t))) : wpList P ops Q (o :: rest) a w := by
  rw [← hd] at h
  refine wpList_plain hg fun K hK => ?_
  unfold Oper.wp execOp
  simp only [ho, hx, Value.cells, Sem.run_bind, Instr.box, newVar, newRow, run_newObj_alloc, Sem.run_pure, Result.andThen_ok]
  exact hK _ _ h
theorem wpList_bd {P : Program} {ops : Array Oper} {rest : List Oper} {o : Oper} {a : Act} {w : World} {Q : Exit → Act → World → Prop} (hg : o.guard = none) (t : TypeId) (parts : Array (Nat × Operand)) (ho : o.op = .build t parts) (cs : Array Value)
    (hf : P.built t (parts.map fun (i, x) => (i, a.eval x)).toList = some cs)
    (h : wpList P ops Q rest (a.put o.dst (.agg cs)) w) : wpList P ops Q (o :: rest) a w := by
  refine wpList_build hg t parts ho (by rw [hf]; rfl) ?_
  rw [hf]
  exact h
/-- a store of one cell, the only operation that may come up. -/
theorem wpOp_st {P : Program} {w w' : World} {ops : Array Oper} {o : Oper} {i : Nat} {a : Act} {K : Act → World → Prop} {Q : Exit → Act → World → Prop} (hi : ops[i]? = some o) (hgd : o.guard = none) (hd : o.dst = none) (p : Op) (ho : o.op = p)
    (hr : (execOp a.eval (bareO p o.type)).run P w = .ok .skip w') (h : K a w') : wpOp P ops Q i K a w := by
  rw [execOp_bare ho] at hr
  unfold wpOp
  simp only [hi]
  rw [if_pos (by simp [Region.wanted, hgd])]
  refine .inl ?_
  unfold Oper.wp
  rw [hr, Oper.upon_skip, hd]
  exact h
theorem FirstH.two {P : Program} {md : Region.Mode} {ops : Array Oper} {Q : Exit → Act → World → Prop} {S : World → Prop} {n i j : Nat} {L : Array Bool → Act → World → Prop} {f : Nat} {done : Array Bool} {a : Act} {w : World} (hr : Region.ready md ops done = [i, j]) (hin : i < n) (hjn : j < n) (inv : HeadInv md ops n done)
    (Hi : HeadInv md ops n (done.setIfInBounds i true) → wpOp P ops Q i (fun a' w' => S w' ∧ FirstH P md ops Q S n L f (done.setIfInBounds i true) a' w') a w)
    (Hj : HeadInv md ops n (done.setIfInBounds j true) → wpOp P ops Q j (fun a' w' => S w' ∧ FirstH P md ops Q S n L f (done.setIfInBounds j true) a' w') a w) : FirstH P md ops Q S n L (f + 1) done a w :=
  ⟨by rw [hr]; simp, fun k hk => by
    have hk' := hk
    rw [hr] at hk'
    simp only [List.mem_cons, List.not_mem_nil, or_false] at hk'
    rcases hk' with rfl | rfl
    · exact ⟨hin, Hi (inv.set (by rw [hr]; simp) hin)⟩
    · exact ⟨hjn, Hj (inv.set (by rw [hr]; simp) hjn)⟩⟩
/-- an operation that yields a value and turns the world. -/
theorem wpOp_vl {P : Program} {w w' : World} {ops : Array Oper} {o : Oper} {i : Nat} {a : Act} {K : Act → World → Prop} {Q : Exit → Act → World → Prop} {v : Value} (hi : ops[i]? = some o) (hgd : o.guard = none) (d : Tmp) (hd : o.dst = some d) (p : Op) (ho : o.op = p)
    (hr : (execOp a.eval (bareO p o.type)).run P w = .ok (.value v) w') (h : K (a.put (some d) v) w') : wpOp P ops Q i K a w := by
  rw [execOp_bare ho] at hr
  rw [← hd] at h
  unfold wpOp
  simp only [hi]
  rw [if_pos (by simp [Region.wanted, hgd])]
  refine .inl ?_
  unfold Oper.wp
  rw [hr, Oper.upon_value]
  exact h
/-- bytes appended to a row that is one's own: whatever is appended, nil too. -/
theorem wp_appB {w : World} {o : Oper} {a : Act} {K : Act → World → Prop} {Q : Exit → Act → World → Prop} (d : Tmp) (hd : o.dst = some d) (s xo : Operand)
    (ho : o.op = .call { callee := .builtin .append, args := #[s, xo], argTypes := #[34, 34] })
    (base : Nat) (v : Value) (n : Nat) (xs : List Value) (hs : a.eval s = v) (hown : w.ownsRow base 5 1 v n xs)
    (A : Option Addr) (X : List UInt8) (m c B : Nat) (hx : a.eval xo = .slice A m c) (hmm : m = X.length) (hc : A = none → m = 0 ∧ c = 0) (hr : BytesAt w B A X)
    (hlen : n + X.length ≤ 140737488355328) (hbase : base ≤ w.heap.size)
    (h : ∀ v' w', w'.ownsRow base 5 1 v' (n + X.length) (xs ++ Lib.byteCells X) → w.grownBy w' v.ownBlock → K (a.put (some d) v') w') : o.wp Try.prog a w K Q := by
  subst hmm
  rw [← hd] at h
  obtain ⟨i0, hi0, hz0, hz1, hz2⟩ := info_parts byteI
  cases A with
  | none =>
    obtain ⟨h1, h2⟩ := hc rfl
    have hX : X = [] := List.eq_nil_of_length_eq_zero h1
    subst hX
    subst h2
    have hrun := run_append_owned_none (P := Try.prog) (w := w) base 34 o.type 5 i0 1 Try.underlying34 hi0 v n xs hown
    unfold Oper.wp
    simp only [List.length_nil] at hx
    simp [execOp, ho, resolve, invoke, builtin, hs, hx, hrun, Result.andThen]
    exact h v w (by simpa [Lib.byteCells] using hown) (World.grownBy.refl _ _)
  | some ad =>
    exact wp_append_own w s xo 34 ho base 5 i0 _ 1 1 Try.underlying34 hi0 hz0 hz1 hz2 rfl (by decide) v n xs hs hown ad X.length c (Lib.byteCells X) hx (by rw [Lib.byteCells_length, Nat.mul_one]) hr.cells (byteCells_one X)
      (by unfold maxLen; omega) (by omega) hbase fun v' w' h2 h3 _ => h v' w' h2 h3
theorem wpOp_appB {w : World} {ops : Array Oper} {o : Oper} {i : Nat} {a : Act} {K : Act → World → Prop} {Q : Exit → Act → World → Prop} (hi : ops[i]? = some o) (hgd : o.guard = none) (d : Tmp) (hd : o.dst = some d) (s xo : Operand)
    (ho : o.op = .call { callee := .builtin .append, args := #[s, xo], argTypes := #[34, 34] })
    (base : Nat) (v : Value) (n : Nat) (xs : List Value) (hs : a.eval s = v) (hown : w.ownsRow base 5 1 v n xs)
    (A : Option Addr) (X : List UInt8) (m c B : Nat) (hx : a.eval xo = .slice A m c) (hmm : m = X.length) (hc : A = none → m = 0 ∧ c = 0) (hr : BytesAt w B A X)
    (hlen : n + X.length ≤ 140737488355328) (hbase : base ≤ w.heap.size)
    (h : ∀ v' w', w'.ownsRow base 5 1 v' (n + X.length) (xs ++ Lib.byteCells X) → w.grownBy w' v.ownBlock → K (a.put (some d) v') w') : wpOp Try.prog ops Q i K a w := by
  unfold wpOp
  simp only [hi]
  rw [if_pos (by simp [Region.wanted, hgd])]
  exact .inl (wp_appB d hd s xo ho base v n xs hs hown A X m c B hx hmm hc hr hlen hbase h)
theorem wpList_appB {w : World} {ops : Array Oper} {rest : List Oper} {o : Oper} {a : Act} {Q : Exit → Act → World → Prop} (hgd : o.guard = none) (d : Tmp) (hd : o.dst = some d) (s xo : Operand)
    (ho : o.op = .call { callee := .builtin .append, args := #[s, xo], argTypes := #[34, 34] })
    (base : Nat) (v : Value) (n : Nat) (xs : List Value) (hs : a.eval s = v) (hown : w.ownsRow base 5 1 v n xs)
    (A : Option Addr) (X : List UInt8) (m c B : Nat) (hx : a.eval xo = .slice A m c) (hmm : m = X.length) (hc : A = none → m = 0 ∧ c = 0) (hr : BytesAt w B A X)
    (hlen : n + X.length ≤ 140737488355328) (hbase : base ≤ w.heap.size)
    (h : ∀ v' w', w'.ownsRow base 5 1 v' (n + X.length) (xs ++ Lib.byteCells X) → w.grownBy w' v.ownBlock → wpList Try.prog ops Q rest (a.put (some d) v') w') : wpList Try.prog ops Q (o :: rest) a w :=
  wpList_plain hgd fun K hK => wp_appB d hd s xo ho base v n xs hs hown A X m c B hx hmm hc hr hlen hbase fun v' w' h2 h3 => hK _ _ (h v' w' h2 h3)

/-- a parcel. -/
structure Pc where
  fn : Nat
  fl : Nat
  tn : Nat
  tl : Nat
  B : List UInt8
  bad : Bool
/-- a parcel, and where its bytes lie. -/
structure Lp where
  p : Pc
  A : Option Addr
  c : Nat
def Lp.cs (x : Lp) : Array Value := #[.int .u8 x.p.fn, .int .u16 x.p.fl, .int .u8 x.p.tn, .int .u16 x.p.tl, .slice x.A x.p.B.length x.c, .bool x.p.bad]
/-- the cells of a list of parcels. -/
def cellsL (L : List Lp) : List Value := L.flatMap fun x => x.cs.toList
theorem cellsL_length (L : List Lp) : (cellsL L).length = L.length * 6 := by
  induction L with
  | nil => rfl
  | cons x L ih =>
    show (x.cs.toList ++ cellsL L).length = _
    rw [List.length_append, ih]
    simp [Lp.cs]
    omega
theorem cellsL_append (L M : List Lp) : cellsL (L ++ M) = cellsL L ++ cellsL M := by simp [cellsL]
theorem cellsL_at (L : List Lp) : ∀ (i : Nat) (x : Lp), L[i]? = some x → ∀ j, j < 6 → (cellsL L)[i * 6 + j]? = x.cs[j]? := by
  induction L with
  | nil => intro i x h; simp at h
  | cons y L ih =>
    intro i x h j hj
    show (y.cs.toList ++ cellsL L)[i * 6 + j]? = _
    cases i with
    | zero =>
      simp at h
      subst h
      rw [Nat.zero_mul, Nat.zero_add, List.getElem?_append_left (by simp [Lp.cs]; omega)]
      simp
    | succ i =>
      simp at h
      rw [List.getElem?_append_right (by simp [Lp.cs]; omega)]
      have := ih i x h j hj
      rw [← this]
      congr 1
      simp [Lp.cs]
      omega
theorem cellsL_one (L : List Lp) : ∀ u ∈ cellsL L, u.oneCell' = true := by
  intro u hu
  simp only [cellsL, List.mem_flatMap] at hu
  obtain ⟨x, _, h⟩ := hu
  simp only [Lp.cs, List.mem_cons, List.not_mem_nil, or_false] at h
  rcases h with rfl | rfl | rfl | rfl | rfl | rfl <;> rfl
/-- the block of a parcel's bytes. -/
def Lp.g (x : Lp) : Nat := match x.A with
  | some a => a.block
  | none => 0
/-- its bytes are its own. -/
structure Lp.Ok (x : Lp) (W : World) (base : Nat) : Prop where
  own : OwnB W base x.A x.p.B
  le : x.p.B.length ≤ x.c
  mx : x.c ≤ maxLen
  nn : x.A = none → x.p.B.length = 0 ∧ x.c = 0
  len : x.p.B.length ≤ 140737488351232
/-- nobody else's. -/
def Lp.Apart (x y : Lp) : Prop := x.p.B ≠ [] → y.p.B ≠ [] → x.g ≠ y.g
theorem bagI : (Try.prog.info? 45).map (fun i => (i.zero, i.size, i.bytes)) = some (some (.agg #[.int .u8 0, .int .u16 0, .int .u8 0, .int .u16 0, .slice none 0 0, .bool false]), 6, 40) := by kernel_rfl
theorem refI : (Try.prog.info? 36).map (fun i => (i.zero, i.size, i.bytes)) = some (some (.agg #[.int .u8 0, .int .u16 0, .int .u8 0, .int .u16 0, .slice none 0 0, .bool false]), 6, 40) := by kernel_rfl

end Go.Proofs.Yteaafpgkifmdeaa
