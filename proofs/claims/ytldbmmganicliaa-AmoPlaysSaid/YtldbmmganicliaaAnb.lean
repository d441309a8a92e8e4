/-
  slices.AppendSeq(nil, seq) and slices.Collect(seq) at rows, against whatever iterator value that gives them. Condition: the iterator keeps its word (SeqGives).
-/
import Derived.Shelf.SlIter.Collect
import Derived.Test.YtldbmmganicliaaAna
namespace Go.Proofs.Ytldbmmganicliaa
set_option linter.unusedSimpArgs false
set_option linter.unusedVariables false
open Go.RowKit Go.Maps Go.Sort Go.Shelf
attribute [local go_sem] Oper.semAt_some

theorem amoRowI : (Try.prog.info? 88).map (fun i => (i.zero, i.size, i.bytes)) = some (some (.agg #[.int .u8 0, .int .u16 0, .int .u32 0, .int .u8 0, .int .u8 0, .int .u8 0, .int .u8 0, .int .u8 0, .int .u8 0, .int .u8 0, .bool false, .int .u8 0, .string ⟨#[]⟩]), 13, 48) := by kernel_rfl
theorem cells_newW (W : World) (cs : Array Value) (t : TypeId) : ∀ j u, cs.toList[j]? = some u → (W.alloc (.cells cs t)).cell? ((⟨W.heap.size, 0, none⟩ : Addr).add j) = some u := by
  intro j u hj
  rw [addr_add, Nat.zero_add, cell_of_row _ _ j _ _ _ (heap_alloc_new W (.cells cs t))]
  simpa using hj
theorem idNeSlice : (73 : TypeId) ≠ 88 := by decide

/-- what a round does with the parameter, and then. -/
def kAssign : Code := (Code.region 2 #[{ dst := some 5, op := Op.alloc 88, type := 0, pos := "iter.go:51", after := #[], guard := none }, { dst := none, op := Op.store 88 (Operand.tmp 5) (Operand.tmp 7), type := 0, pos := "iter.go:51", after := #[{ on := 0, ground := Ground.data }, { on := 0, ground := Ground.phase }], guard := none }] false)
def kBody : Code := (Code.block 1 (Code.region 3 #[{ dst := some 8, op := Op.load 73 (Operand.tmp 2), type := 73, pos := "iter.go:52", after := #[], guard := none }, { dst := some 9, op := Op.load 88 (Operand.tmp 5), type := 88, pos := "iter.go:52", after := #[], guard := none }, { dst := some 10, op := Op.buildSlice 73 1 #[(0, Operand.tmp 9)], type := 73, pos := "iter.go:52", after := #[{ on := 1, ground := Ground.data }], guard := none }, { dst := some 11, op := Op.call { callee := Callee.builtin Builtin.append, args := #[Operand.tmp 8, Operand.tmp 10], argTypes := #[73, 73] }, type := 73, pos := "iter.go:52", after := #[{ on := 0, ground := Ground.data }, { on := 2, ground := Ground.data }], guard := none }, { dst := none, op := Op.store 73 (Operand.tmp 2) (Operand.tmp 11), type := 0, pos := "iter.go:52", after := #[{ on := 3, ground := Ground.data }, { on := 3, ground := Ground.chain }, { on := 0, ground := Ground.phase }, { on := 1, ground := Ground.phase }, { on := 2, ground := Ground.phase }, { on := 3, ground := Ground.phase }], guard := none }] false))

/-- the loop's record. -/
def kRec (fn : FuncId) (sv : Value) (Bs D : Nat) (st : LoopState) (pend : Option Code) : Loop :=
  { state := st, pending := pend, fn, tmps := #[.slice none 0 0, sv, .pointer (some ⟨Bs, 0, none⟩), undef, .slice none 0 0, undef, sv, undef, undef, undef, undef, undef, undef], params := #[7], assign := kAssign, body := kBody, defers := D }

/-- between two rounds. -/
structure KAt (w0 : World) (fn : FuncId) (sv : Value) (Bs l D : Nat) (ss : List Rw) (W : World) : Prop where
  box : ∃ v, W.heap[Bs]? = some (.cells #[v] 73 (0, 0)) ∧ W.ownsRow w0.heap.size 88 13 v ss.length (flat Rw.cs ss)
  L : W.heap[l]? = some (.loop (kRec fn sv Bs D .ready none))
  K : W.heap[D]? = some (.deferred (some []))
  below : Below w0.heap.size w0 W

theorem k_abides (w0 : World) (fn : FuncId) (sv : Value) (Bs l D B : Nat) (hB : w0.heap.size ≤ B) : AbidesFrom B (KAt w0 fn sv Bs l D) := fun s W W' row h hg hrow => by
  have hrow' : ∀ r, row = some r → ∃ o : Obj, W.heap[r]? = some o ∧ o.isWalk = true := fun r e => (hrow r e).2
  obtain ⟨v, hv, hr⟩ := h.box
  exact ⟨⟨v, (grownBy_keeps hg hrow' hv rfl).trans hv, ownsRow_abides_a hr hg hrow'⟩, (grownBy_keeps hg hrow' h.L rfl).trans h.L, (grownBy_keeps hg hrow' h.K rfl).trans h.K,
    h.below.grown hg h.below.size (fun k e => Nat.le_trans hB (hrow k e).1)⟩

set_option maxRecDepth 100000 in
set_option maxHeartbeats 4000000 in
theorem kYield (F : Fence) (m : Nat) (w0 : World) (fn : FuncId) (hfn : F.fn fn) (sv : Value) (Bs l D : Nat) (hBl : Bs ≠ l) (hDl : D ≠ l) (hDB : D ≠ Bs) (h0B : w0.heap.size ≤ Bs) (h0l : w0.heap.size ≤ l)
    (N : Nat) (hN : N ≤ maxLen) (hNb : N * 48 ≤ 140737488355328) (ss : List Rw) (x : Rw) (W : World) (h : KAt w0 fn sv Bs l D ss W) (hlen : ss.length < N) :
    YieldAt F m Try.prog l #[x.val'] W fun e W' => e = .returned (.bool true) ∧ KAt w0 fn sv Bs l D (ss ++ [x]) W' ∧ KeepsWalks W W' := by
  obtain ⟨i0, hi, hz0, hz1, hz2⟩ := info_parts amoRowI
  obtain ⟨v, hv, hrow⟩ := h.box
  have hne := idNeSlice
  refine ⟨fn, #[.slice none 0 0, sv, .pointer (some ⟨Bs, 0, none⟩), undef, .slice none 0 0, undef, sv, x.val', undef, undef, undef, undef, undef], kAssign, kBody, by simpa [kRec] using run_yield (P := Try.prog) (args := #[x.val']) h.L rfl, roundIn_of_wpIn hfn ?_⟩
  have hl : l < W.heap.size := (Array.getElem?_eq_some_iff.1 h.L).1
  have hBlt0 : Bs < W.heap.size := (Array.getElem?_eq_some_iff.1 hv).1
  have hDlt0 : D < W.heap.size := (Array.getElem?_eq_some_iff.1 h.K).1
  simp only [Rw.val', Rw.cs]
  unfold kAssign
  gi_wp2_with (rw [Oper.semAt_eq _ _ _ (fun c h => by cases h)]; go_simp; try go_bits)
  obtain ⟨W1, hW1⟩ : ∃ W1, W.alloc (.cells #[.int .u8 x.id.n, .int .u16 x.id.l, .int .u32 x.id.s, .int .u8 x.id.d, .int .u8 x.id.a0, .int .u8 x.id.a1, .int .u8 x.id.b0, .int .u8 x.id.b1, .int .u8 x.id.c0, .int .u8 x.id.c1, .bool x.en, .int .u8 x.code, .string x.val] 88) = W1 := ⟨_, rfl⟩
  rw [hW1]
  have hv1 : W1.heap[Bs]? = some (.cells #[v] 73 (0, 0)) := by rw [← hW1]; exact (Below.heap_alloc _ _ Bs hBlt0).trans hv
  have hK1 : W1.heap[D]? = some (.deferred (some [])) := by rw [← hW1]; exact (Below.heap_alloc _ _ D hDlt0).trans h.K
  have hL1 : W1.heap[l]? = some (.loop (kRec fn sv Bs D .ready none)) := by rw [← hW1]; exact (Below.heap_alloc _ _ l hl).trans h.L
  have hrow1 : W1.ownsRow w0.heap.size 88 13 v ss.length (flat Rw.cs ss) := by rw [← hW1]; exact hrow.alloc _
  have hb1 : Below w0.heap.size w0 W1 := by rw [← hW1]; exact h.below.alloc h.below.size _
  have hk1 : KeepsWalks W W1 := by rw [← hW1]; exact KeepsWalks.alloc _ _
  have x0 : W1.cell? ⟨W.heap.size, 0, none⟩ = some (.int .u8 x.id.n) := by rw [← hW1]; simp
  have x1 : W1.cell? ⟨W.heap.size, 1, none⟩ = some (.int .u16 x.id.l) := by rw [← hW1]; simp
  have x2 : W1.cell? ⟨W.heap.size, 2, none⟩ = some (.int .u32 x.id.s) := by rw [← hW1]; simp
  have x3 : W1.cell? ⟨W.heap.size, 3, none⟩ = some (.int .u8 x.id.d) := by rw [← hW1]; simp
  have x4 : W1.cell? ⟨W.heap.size, 4, none⟩ = some (.int .u8 x.id.a0) := by rw [← hW1]; simp
  have x5 : W1.cell? ⟨W.heap.size, 5, none⟩ = some (.int .u8 x.id.a1) := by rw [← hW1]; simp
  have x6 : W1.cell? ⟨W.heap.size, 6, none⟩ = some (.int .u8 x.id.b0) := by rw [← hW1]; simp
  have x7 : W1.cell? ⟨W.heap.size, 7, none⟩ = some (.int .u8 x.id.b1) := by rw [← hW1]; simp
  have x8 : W1.cell? ⟨W.heap.size, 8, none⟩ = some (.int .u8 x.id.c0) := by rw [← hW1]; simp
  have x9 : W1.cell? ⟨W.heap.size, 9, none⟩ = some (.int .u8 x.id.c1) := by rw [← hW1]; simp
  have x10 : W1.cell? ⟨W.heap.size, 10, none⟩ = some (.bool x.en) := by rw [← hW1]; simp
  have x11 : W1.cell? ⟨W.heap.size, 11, none⟩ = some (.int .u8 x.code) := by rw [← hW1]; simp
  have x12 : W1.cell? ⟨W.heap.size, 12, none⟩ = some (.string x.val) := by rw [← hW1]; simp
  have hl1 : l < W1.heap.size := (Array.getElem?_eq_some_iff.1 hL1).1
  clear hW1
  obtain ⟨W5, hW5⟩ : ∃ W5, W1.putObj l (.loop { kRec fn sv Bs D .ready none with state := .busy }) = W5 := ⟨_, rfl⟩
  refine ⟨W5, hW5 ▸ run_beginRound (P := Try.prog) hL1 rfl, ?_⟩
  have hg5 : W1.grownBy W5 (some l) := by rw [← hW5]; exact grownBy_putObj_a _ _ _
  have hk5 : KeepsWalks W W5 := by rw [← hW5]; exact hk1.trans (KeepsWalks.putObj _ hL1 rfl)
  have hv5 : W5.heap[Bs]? = some (.cells #[v] 73 (0, 0)) := by rw [← hW5]; exact (World.putObj_heap_other hBl).trans hv1
  have hK5 : W5.heap[D]? = some (.deferred (some [])) := by rw [← hW5]; exact (World.putObj_heap_other hDl).trans hK1
  have hL5 : W5.heap[l]? = some (.loop { kRec fn sv Bs D .ready none with state := .busy }) := by rw [← hW5]; exact World.putObj_heap_same hl1
  have hrow5 : W5.ownsRow w0.heap.size 88 13 v ss.length (flat Rw.cs ss) := hrow1.kept hg5 (ownsRow_ne_a hrow1 hL1 (fun cur e => by cases e))
  have hb5 : Below w0.heap.size w0 W5 := hb1.grown hg5 hb1.size (fun k e => by cases e; exact h0l)
  have hxb : W5.heap[W.heap.size]? = W1.heap[W.heap.size]? := by rw [← hW5]; exact World.putObj_heap_other (by omega)
  have hx0 := (World.cell?_of_block (w := W1) (a := ⟨W.heap.size, 0, none⟩) hxb).trans x0
  have hx1 := (World.cell?_of_block (w := W1) (a := ⟨W.heap.size, 1, none⟩) hxb).trans x1
  have hx2 := (World.cell?_of_block (w := W1) (a := ⟨W.heap.size, 2, none⟩) hxb).trans x2
  have hx3 := (World.cell?_of_block (w := W1) (a := ⟨W.heap.size, 3, none⟩) hxb).trans x3
  have hx4 := (World.cell?_of_block (w := W1) (a := ⟨W.heap.size, 4, none⟩) hxb).trans x4
  have hx5 := (World.cell?_of_block (w := W1) (a := ⟨W.heap.size, 5, none⟩) hxb).trans x5
  have hx6 := (World.cell?_of_block (w := W1) (a := ⟨W.heap.size, 6, none⟩) hxb).trans x6
  have hx7 := (World.cell?_of_block (w := W1) (a := ⟨W.heap.size, 7, none⟩) hxb).trans x7
  have hx8 := (World.cell?_of_block (w := W1) (a := ⟨W.heap.size, 8, none⟩) hxb).trans x8
  have hx9 := (World.cell?_of_block (w := W1) (a := ⟨W.heap.size, 9, none⟩) hxb).trans x9
  have hx10 := (World.cell?_of_block (w := W1) (a := ⟨W.heap.size, 10, none⟩) hxb).trans x10
  have hx11 := (World.cell?_of_block (w := W1) (a := ⟨W.heap.size, 11, none⟩) hxb).trans x11
  have hx12 := (World.cell?_of_block (w := W1) (a := ⟨W.heap.size, 12, none⟩) hxb).trans x12
  obtain ⟨hc5, hf5⟩ := cell_of_box_a hv5
  have hBlt : Bs < W5.heap.size := (Array.getElem?_eq_some_iff.1 hv5).1
  have hl5 : l < W5.heap.size := (Array.getElem?_eq_some_iff.1 hL5).1
  have hDlt : D < W5.heap.size := (Array.getElem?_eq_some_iff.1 hK5).1
  have ne_of : ∀ {j : Nat} {o : Obj}, W5.heap[j]? = some o → (∀ cur, o ≠ .cells cur 88 (0, 0)) → some j ≠ v.ownBlock := fun hj hno => by
    rcases ownsRow_ne_a hrow5 hj hno with e | e
    · rw [e]; simp
    · exact fun e' => e e'.symm
  have hnb : ∀ cur, (Obj.cells #[v] 73 (0, 0)) ≠ .cells cur 88 (0, 0) := fun cur e => hne (Obj.cells.inj e).2.1
  clear hW5 hg5 hv1 hK1 hL1 hrow1 hb1 hk1 hl1 hxb x0 x1 x2 x3 x4 x5 x6 x7 x8 x9 x10 x11 x12
  unfold kBody
  gi_wp2_with (first
    | (gi_at_builtin; refine wpListIn_append_own _ rfl _ _ 73 rfl w0.heap.size 88 i0 _ 13 48 Try.underlying73 hi hz0 hz1 hz2 rfl (by decide) _ _ _ rfl (hrow5.alloc _) ⟨W5.heap.size, 0, none⟩ 1 1 x.cs.toList rfl rfl (cells_newW W5 #[.int .u8 x.id.n, .int .u16 x.id.l, .int .u32 x.id.s, .int .u8 x.id.d, .int .u8 x.id.a0, .int .u8 x.id.a1, .int .u8 x.id.b0, .int .u8 x.id.b1, .int .u8 x.id.c0, .int .u8 x.id.c1, .bool x.en, .int .u8 x.code, .string x.val] 88) (fun u hu => Rw.one x u hu) (by omega) (by omega) (by have := hb5.size; simp; omega) ?_; intro v' w3 hown' hg3 hnil3
       have hv3 : w3.heap[Bs]? = some (.cells #[v] 73 (0, 0)) := (hg3.block Bs (by simp; omega) (ne_of hv5 hnb)).trans ((Below.heap_alloc _ _ Bs hBlt).trans hv5)
       obtain ⟨hc3, hf3⟩ := cell_of_box_a hv3
       obtain ⟨g', cap', rfl⟩ : ∃ g' cap', v' = .slice (some ⟨g', 0, none⟩) (ss.length + 1) cap' := by
         rcases hown'.2 with ⟨_, h0⟩ | ⟨g', cap', cur', h', _⟩
         · exact absurd h0 (by omega)
         · exact ⟨g', cap', h'⟩
       go_frame)
    | (rw [Oper.semAt_eq _ _ _ (fun c h => by cases h)]; go_simp; try go_bits))
  have hg3' : (W5.alloc (.cells #[.int .u8 x.id.n, .int .u16 x.id.l, .int .u32 x.id.s, .int .u8 x.id.d, .int .u8 x.id.a0, .int .u8 x.id.a1, .int .u8 x.id.b0, .int .u8 x.id.b1, .int .u8 x.id.c0, .int .u8 x.id.c1, .bool x.en, .int .u8 x.code, .string x.val] 88)).grownBy w3 v.ownBlock := hg3
  have hL3 : w3.heap[l]? = some (.loop { kRec fn sv Bs D .ready none with state := .busy }) := (hg3'.block l (by simp; omega) (ne_of hL5 (fun cur e => by cases e))).trans ((Below.heap_alloc _ _ l hl5).trans hL5)
  have hK3 : w3.heap[D]? = some (.deferred (some [])) := (hg3'.block D (by simp; omega) (ne_of hK5 (fun cur e => by cases e))).trans ((Below.heap_alloc _ _ D hDlt).trans hK5)
  obtain ⟨w4, hw4⟩ : ∃ w4, w3.setCell ⟨Bs, 0, none⟩ (.slice (some ⟨g', 0, none⟩) (ss.length + 1) cap') = w4 := ⟨_, rfl⟩
  rw [hw4]
  have hg4 : w3.grownBy w4 (some Bs) := by rw [← hw4]; exact grownBy_setCell0_a _ _ _
  have hv4 : w4.heap[Bs]? = some (.cells #[.slice (some ⟨g', 0, none⟩) (ss.length + 1) cap'] 73 (0, 0)) := by rw [← hw4]; exact heap_setCell_box_a _ hv3
  have hL4 : w4.heap[l]? = some (.loop { kRec fn sv Bs D .ready none with state := .busy }) := (hg4.block l (Array.getElem?_eq_some_iff.1 hL3).1 (fun e => hBl (by cases e; rfl))).trans hL3
  have hK4 : w4.heap[D]? = some (.deferred (some [])) := (hg4.block D (Array.getElem?_eq_some_iff.1 hK3).1 (fun e => hDB (by cases e; rfl))).trans hK3
  have hrow4 := hown'.kept hg4 (ownsRow_ne_a hown' hv3 hnb)
  have hl4 : l < w4.heap.size := (Array.getElem?_eq_some_iff.1 hL4).1
  have hb3 : Below w0.heap.size w0 w3 := (hb5.alloc hb5.size _).grown hg3' (by have := hb5.size; simp; omega) (fun k e => (hrow5.lt k e).1)
  have hb4 : Below w0.heap.size w0 w4 := hb3.grown hg4 hb3.size (fun k e => by cases e; exact h0B)
  have hk4 : KeepsWalks W w4 := ((hk5.trans (KeepsWalks.alloc _ _)).trans (KeepsWalks.of_grownBy hg3' (ownsRow_not_walk_a (hrow5.alloc _)))).trans (by rw [← hw4]; exact KeepsWalks.setCell _ _ _)
  clear hw4
  refine ⟨_, _, run_endRound none hL4, rfl, ⟨⟨_, (World.putObj_heap_other hBl).trans hv4, ?_⟩, World.putObj_heap_same hl4, (World.putObj_heap_other hDl).trans hK4, hb4.grown (grownBy_putObj_a _ _ _) hb4.size (fun k e => by cases e; exact h0l)⟩, hk4.trans (KeepsWalks.putObj _ hL4 rfl)⟩
  have := hrow4.kept (grownBy_putObj_a w4 l (.loop { { kRec fn sv Bs D .ready none with state := .busy } with state := if (none : Option Code).isNone then .ready else .done, pending := none })) (ownsRow_ne_a hrow4 hL4 (fun cur e => by cases e))
  rw [flat_append]
  simp only [flat_cons, flat_nil, List.append_nil]
  simpa using this

set_option maxRecDepth 100000 in
set_option maxHeartbeats 2000000 in
theorem kAppend (F : Fence) (n : Nat) (h11 : F.fn 69) (hro : F.round = none) (hn : 2 ≤ n) (g : Nat) (lb : Array Value) (hFg : F.fn g) (eg : ∀ args w, (callFunc g args).run Try.prog w = .ok (.enter g args) w)
    (S : List Rw → Prop) (N : Nat) (hN : N ≤ maxLen) (hNb : N * 48 ≤ 140737488355328) (w : World) (hseq : SeqGives F (n - 1) Try.prog g lb Rw.val' S N w) :
    CallsIn F n Try.prog 69 #[.slice none 0 0, .func (.func g) #[] lb] w fun e w' => ∃ (v : Value) (ss : List Rw), e = .returned v ∧ S ss ∧ w'.ownsRow w.heap.size 88 13 v ss.length (flat Rw.cs ss) ∧ Below w.heap.size w w' := by
  have h1 : 1 ≤ n := by omega
  refine callsIn_of_wp_marks Try.func69 rfl h11 ?_ hro
  simp only [Try.ntmps69, List.size_toArray, List.length_cons, List.length_nil, Nat.reduceAdd, Nat.reduceSub, Array.replicate_succ, Array.replicate_zero, List.push_toArray, List.append_toArray, List.nil_append, List.cons_append]
  gi_wp2
  refine wpIn_rangeFunc ?_
  intro fn hfn
  rw [hro]
  obtain ⟨W0, hW0⟩ : ∃ W0, w.alloc (.cells #[.slice none 0 0] 73) = W0 := ⟨_, rfl⟩
  have hs0 : W0.heap.size = w.heap.size + 1 := by rw [← hW0]; simp
  have hv0 : W0.heap[w.heap.size]? = some (.cells #[.slice none 0 0] 73 (0, 0)) := by rw [← hW0]; exact World.alloc_heap_new w _
  have hb0 : Below w.heap.size w W0 := by rw [← hW0]; exact (Below.refl _ w).alloc (Nat.le_refl _) _
  rw [hW0]
  obtain ⟨W1, hW1⟩ : ∃ W1, (W0.alloc (.deferred (some []))).alloc (.loop (kRec fn (.func (.func g) #[] lb) w.heap.size W0.heap.size .ready none)) = W1 := ⟨_, rfl⟩
  have hold : ∀ k, k < W0.heap.size → W1.heap[k]? = W0.heap[k]? := fun k hk => by
    rw [← hW1]; exact (Below.heap_alloc _ _ k (by simp; omega)).trans (Below.heap_alloc _ _ k hk)
  have hb1 : Below w.heap.size w W1 := by rw [← hW1]; exact (hb0.alloc hb0.size _).alloc (by have := hb0.size; simp; omega) _
  have hs1 : W1.heap.size = W0.heap.size + 2 := by rw [← hW1]; simp
  have hM : KAt w fn (.func (.func g) #[] lb) w.heap.size (W0.heap.size + 1) W0.heap.size [] W1 :=
    ⟨⟨_, (hold w.heap.size (by omega)).trans hv0, ⟨rfl, .inl ⟨rfl, rfl⟩⟩⟩,
     by rw [← hW1]; have := World.alloc_heap_new (W0.alloc (.deferred (some []))) (.loop (kRec fn (.func (.func g) #[] lb) w.heap.size W0.heap.size .ready none)); rwa [World.size_alloc] at this,
     by rw [← hW1]; exact (Below.heap_alloc _ _ _ (by simp)).trans (World.alloc_heap_new W0 _), hb1⟩
  refine ⟨W0.heap.size + 1, [{ target := .collected W0.heap.size, args := #[] }], W1, { target := .fn (.func g) lb, args := #[.func (.yield (W0.heap.size + 1)) #[] #[]] }, W1, g,
    #[.func (.yield (W0.heap.size + 1)) #[] #[]] ++ lb, W1, ?_, ?_, ?_, ?_, fun _ => h1, ?_⟩
  · rw [← hW1]; exact run_enterLoop_outer _ _ _ _ _
  · simp [resolve, go_sem]
  · intro f' hf'; simp [Target.leads] at hf'; subst hf'; exact hFg
  · simp [invoke, go_sem, eg]
  · refine (hseq (W0.heap.size + 1) (KAt w fn (.func (.func g) #[] lb) w.heap.size (W0.heap.size + 1) W0.heap.size) W1 hb1 (k_abides _ _ _ _ _ _ _ hb1.size)
      (fun pre x W hJ hl => kYield F (n - 1 - 1) w fn hfn _ w.heap.size (W0.heap.size + 1) W0.heap.size (by omega) (by omega) (by omega) (Nat.le_refl _) (by omega) N hN hNb pre x W hJ hl) hM).mono ?_
    rintro e W2 ⟨⟨v0, rfl⟩, ss, hS, h2⟩
    obtain ⟨v, hv, hrow⟩ := h2.box
    have hend := run_endLoop (P := Try.prog) h2.L (by simp [kRec])
    obtain ⟨W3, hW3⟩ : ∃ W3, W2.putObj (W0.heap.size + 1) (.loop { kRec fn (.func (.func g) #[] lb) w.heap.size W0.heap.size .ready none with state := .exhausted }) = W3 := ⟨_, rfl⟩
    rw [hW3] at hend
    have hg3 : W2.grownBy W3 (some (W0.heap.size + 1)) := by rw [← hW3]; exact grownBy_putObj_a _ _ _
    have hv3 : W3.heap[w.heap.size]? = some (.cells #[v] 73 (0, 0)) := by rw [← hW3]; exact (World.putObj_heap_other (by omega)).trans hv
    have hK3 : W3.heap[W0.heap.size]? = some (.deferred (some [])) := by rw [← hW3]; exact (World.putObj_heap_other (by omega)).trans h2.K
    have hrow3 := hrow.kept hg3 (ownsRow_ne_a hrow h2.L (fun cur e => by cases e))
    have hb3 : Below w.heap.size w W3 := h2.below.grown hg3 h2.below.size (fun k e => by cases e; omega)
    obtain ⟨hc3, hf3⟩ := cell_of_box_a hv3
    clear hW3
    refine ⟨none, W3, hend, ?_⟩
    gi_wp2
    rw [← hs0]
    refine ⟨by simp, .inl ⟨_, _, rfl, run_takeDeferred hK3, ?_⟩⟩
    exact ⟨_, results_tmp rfl _ _ _, v, ss, rfl, hS, hrow3.kept (grownBy_putObj_a _ _ _) (ownsRow_ne_a hrow3 hK3 (fun cur e => by cases e)), hb3.grown (grownBy_putObj_a _ _ _) hb3.size (fun k e => by cases e; omega)⟩

set_option maxHeartbeats 1000000 in
theorem kCollect (F : Fence) (n : Nat) (h8 : F.fn 58) (h11 : F.fn 69) (hro : F.round = none) (hn : 3 ≤ n) (g : Nat) (lb : Array Value) (hFg : F.fn g) (eg : ∀ args w, (callFunc g args).run Try.prog w = .ok (.enter g args) w)
    (S : List Rw → Prop) (N : Nat) (hN : N ≤ maxLen) (hNb : N * 48 ≤ 140737488355328) (w : World) (hseq : SeqGives F (n - 1 - 1) Try.prog g lb Rw.val' S N w) :
    CallsIn F n Try.prog 58 #[.func (.func g) #[] lb] w fun e w' => ∃ (v : Value) (ss : List Rw), e = .returned v ∧ S ss ∧ w'.ownsRow w.heap.size 88 13 v ss.length (flat Rw.cs ss) ∧ Below w.heap.size w w' := by
  have h1 : 1 ≤ n := by omega
  refine callsIn_of_wp Try.func58 rfl h8 ?_ hro
  simp only [Try.ntmps58, List.size_toArray, List.length_cons, List.length_nil, Nat.reduceAdd, Nat.reduceSub, Array.replicate_succ, Array.replicate_zero, List.push_toArray, List.append_toArray, List.nil_append, List.cons_append]
  gi_wp2_with (gi_at_call 69; refine (kAppend F (n - 1) h11 hro (by omega) g lb hFg eg S N hN hNb _ hseq).mono ?_; rintro e w' ⟨v, ss, rfl, hS, hrow, hb⟩)
  go_ret
  exact ⟨v, ss, rfl, hS, hrow, hb⟩

/-- maps.Keys hands back an iterator over the map's writes. -/
theorem valuesGives (F : Fence) (n : Nat) (h10 : F.fn 60) (hro : F.round = none) (hn : 1 ≤ n) (Bm b nn : Nat) (D0 : DataW Unit) (X : List Rw) (hX : MapG Rw.key Rw.dat D0 X) (hKL : ∀ x ∈ X, WideAt.IsKeyLit x.key) (w : World) (hBm : Bm < w.heap.size)
    (hm : w.cell? ⟨Bm, 0, none⟩ = some (.map (some b))) (hown : w.ownsMap Try.prog 37 rwElem b nn D0) :
    SeqGives F n Try.prog 60 #[.pointer (some ⟨Bm, 0, none⟩)] Rw.val' (fun ss => ss.Perm X) X.length w := fun l J W hW hJ hY h0 => by
  have hown' : W.ownsMap Try.prog 37 rwElem b nn D0 := by
    have hbl := hown.lt
    obtain ⟨es, clock, hb, Ft, hs, hD⟩ := hown
    exact ⟨es, clock, (hW.block b hbl).trans hb, Ft, hs, hD⟩
  exact valuesIn F n h10 hro hn l Bm b nn D0 X hX hKL J (fun pre x W _ hJ hl => hY pre x W hJ hl) W hJ ((hW.cell (p := ⟨Bm, 0, none⟩) hBm).trans hm) hown' h0

end Go.Proofs.Ytldbmmganicliaa
