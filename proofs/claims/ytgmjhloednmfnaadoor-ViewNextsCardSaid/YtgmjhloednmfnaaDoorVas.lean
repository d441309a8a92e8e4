/-
  slices.AppendSeq(nil, seq) and slices.Collect(seq) at processes: a new list of what the sequence gives. Condition: the sequence keeps its word (SeqStopsK); it gives few enough.
-/
import Derived.Test.YtgmjhloednmfnaaDoorVit
import Derived.Test.YtgmjhloednmfnaaDoorVapp
import Derived.RangeFuncBox
namespace Go.Proofs.YtgmjhloednmfnaaDoor
set_option linter.unusedSimpArgs false
set_option linter.unusedVariables false
open Go.RowKit Go.Shelf
attribute [local go_sem] Oper.semAt_some

theorem prNeSlice : (28 : TypeId) ≠ 48 := by decide
/-- a process lies in the loop's variable. -/
def VarAt (B : Nat) (x : P2) (a' : Act) (W : World) (mk : Value → Act) : Prop :=
  ∃ Bx, B < Bx ∧ W.heap[Bx]? = some (.cells #[.int .u8 x.n, .int .u16 x.l] 48 (0, 0)) ∧ a' = mk (.pointer (some ⟨Bx, 0, none⟩))
theorem varAt_own (B B' : Nat) (x : P2) (a' : Act) (mk : Value → Act) : OwnFrom B' (fun (_ : Unit) W => VarAt B x a' W mk) := fun _ W W' row hs hg hr => by
  obtain ⟨Bx, h1, h2, h3⟩ := hs
  refine ⟨Bx, h1, (hg.block Bx (Array.getElem?_eq_some_iff.1 h2).1 (fun e => ?_)).trans h2, h3⟩
  obtain ⟨_, o, ho, hc⟩ := hr Bx e.symm
  rw [h2] at ho
  cases ho
  cases hc

set_option maxRecDepth 100000 in
set_option maxHeartbeats 2000000 in
theorem appendSeqO (g : Nat) (lb : Array Value) (eg : ∀ args w, (callFunc g args).run Tryd.prog w = .ok (.enter g args) w) (S Sp : List P2 → Prop) (N : Nat) (hN : N ≤ maxLen) (hNb : N * 4 ≤ 140737488355328) (w : World)
    (hseq : ∀ n, 1 ≤ n → SeqStopsK Fence.wide n Tryd.prog g lb (fun x : P2 => #[.agg #[.int .u8 x.n, .int .u16 x.l]]) (KeepG (fun k => k < w.heap.size)) S Sp N w) :
    Calls Tryd.prog 55 #[.slice none 0 0, .func (.func g) #[] lb] w fun e w' => ∃ (v : Value) (ss : List P2), e = .returned v ∧ S ss ∧ w'.ownsRow w.heap.size 48 2 v ss.length (cellsV ss) ∧ Below w.heap.size w w' := by
  obtain ⟨i0, hi, hz0, hz1, hz2⟩ := info_parts pr_info
  refine (callsIn_wide (n := 6)).1 ?_
  refine callsIn_of_wp_marks Tryd.func55 rfl trivial ?_ rfl
  simp only [Tryd.ntmps55, List.size_toArray, List.length_cons, List.length_nil, Nat.reduceAdd, Nat.reduceSub, Array.replicate_succ, Array.replicate_zero, List.push_toArray, List.append_toArray, List.nil_append, List.cons_append]
  gi_wp2
  have bV0 := Boxed.new w 28 (.slice none 0 0)
  have hB0 : Below w.heap.size w (w.alloc (.cells #[.slice none 0 0] 28)) := (Below.refl _ w).alloc (Nat.le_refl _) _
  refine wpIn_rangeFunc_ownH (α := P2) rfl (by omega) (gf := g) (lb := lb) rfl trivial eg (hseq (6 - 1) (by omega)) (fun h k => h.trans k) (keepG_b (fun k hk => by simp; omega)) hB0 (fun _ => rfl)
    (fun pre W => (∃ v, Boxed W w.heap.size 28 v ∧ W.ownsRow w.heap.size 48 2 v pre.length (cellsV pre) ∧ Hid True) ∧ Below w.heap.size w W)
    (fun _ _ _ => False)
    (OwnFrom.and (Own.from (holdsRow_own w.heap.size w.heap.size 28 48 2 (fun pre : List P2 => pre.length) (fun pre => cellsV pre) (fun _ _ => Hid True)) _) (ownFrom_below (Nat.le_refl _) (by simp)))
    (fun _ _ _ _ _ hs _ _ => hs)
    ⟨⟨_, bV0, ⟨rfl, .inl ⟨rfl, rfl⟩⟩, Lib.hid trivial⟩, hB0⟩
    (fun x a' W => VarAt w.heap.size x a' W (fun p => { tmps := #[.slice none 0 0, .func (.func g) #[] lb, .pointer (some ⟨w.heap.size, 0, none⟩), undef, .slice none 0 0, p, .func (.func g) #[] lb, .agg #[.int .u8 x.n, .int .u16 x.l], undef, undef, undef, undef, undef], defers := [] }))
    (fun x a' => varAt_own _ _ _ _ _) ?assign ?body ?done ?stop
  case assign =>
    rintro l pre x W K ⟨⟨v, bV, hrow, _⟩, hB⟩ hK
    gi_wp2
    exact hK _ _ ((KeepsOthers.alloc _ _).from _) (KeepG.of_below ((Below.refl W.heap.size W).alloc (Nat.le_refl _) _) (fun k hk => Nat.lt_of_lt_of_le hk hB.size)) ⟨⟨v, bV.alloc _, hrow.alloc _, Lib.hid trivial⟩, hB.alloc hB.size _⟩ ⟨W.heap.size, bV.lt, World.alloc_heap_new W _, rfl⟩
  case body =>
    rintro l pre x a' W hl ⟨r, hr⟩ ⟨⟨v, bV, hrow, _⟩, hB⟩ ⟨Bx, hBx, bX, rfl⟩ hlt
    have hm1 : pre.length + 1 ≤ maxLen := by omega
    have hm2 : (pre.length + 1) * 4 ≤ 140737488355328 := by omega
    have hbs := hB.size
    have c0 : W.cell? ⟨Bx, 0, none⟩ = some (.int .u8 x.n) := (cell_of_row _ _ 0 _ _ _ bX).trans rfl
    have c1 : W.cell? ⟨Bx, 1, none⟩ = some (.int .u16 x.l) := (cell_of_row _ _ 1 _ _ _ bX).trans rfl
    have hc := bV.cell
    have hlx : Hid (x.cells.length = 1 * 2) := Lib.hid rfl
    have HN := Lib.hid (cells_new W #[.int .u8 x.n, .int .u16 x.l] 48)
    have HR := Lib.hid (hrow.alloc (.cells #[.int .u8 x.n, .int .u16 x.l] 48))
    have HS := Lib.hid (cellsV_snoc pre x)
    clear bX hr hseq
    gi_wp2_with (gi_at_builtin
                 refine wpListIn_append_own _ rfl _ _ 28 rfl w.heap.size 48 i0 _ 2 4 Tryd.underlying28 hi hz0 hz1 hz2 rfl (by decide) _ _ _ rfl HR.out ⟨W.heap.size, 0, none⟩ 1 1 x.cells rfl rfl HN.out (fun u hu => cellsV_one [x] u (by simpa [cellsV] using hu)) (by omega) (by omega) (by simp; omega) ?_
                 intro v' w1 hown' hgrow _
                 obtain ⟨g', cap', rfl⟩ := ownsRow_succ hown'
                 obtain ⟨hv1, hv2, hr2, hk2, hb2⟩ := bV.appended (by decide) hrow hB.size (Nat.le_refl _) hown' hgrow
                 have hc1 := hv1.cell
                 have hf1 := hv1.frozen
                 clear hown' hgrow)
    exact ⟨hk2.from _, KeepG.of_below hb2 (fun k hk => hk), ⟨_, hv2, by rw [HS.out, List.length_append]; exact hr2⟩, hB.trans hb2⟩
  case done =>
    rintro D xs W hD hS ⟨⟨v, bV, hrow, _⟩, hB⟩ hK
    have hc := bV.cell
    gi_wp2
    refine ⟨by simp, .inl ⟨_, _, rfl, run_takeDeferred hK, ?_⟩⟩
    exact ⟨_, results_tmp rfl _ _ _, v, xs, rfl, hS, ownsRow_putObj hrow _ hK rfl, hB.trans (belowK_b (w := w) (Nat.le_refl _) W D _ _ (by simp at hD; omega) hK rfl rfl)⟩
  case stop =>
    rintro D c pre W _ _ h _
    exact h.elim

set_option maxHeartbeats 1000000 in
theorem collectO (g : Nat) (lb : Array Value) (eg : ∀ args w, (callFunc g args).run Tryd.prog w = .ok (.enter g args) w) (S Sp : List P2 → Prop) (N : Nat) (hN : N ≤ maxLen) (hNb : N * 4 ≤ 140737488355328) (w : World)
    (hseq : ∀ n, 1 ≤ n → SeqStopsK Fence.wide n Tryd.prog g lb (fun x : P2 => #[.agg #[.int .u8 x.n, .int .u16 x.l]]) (KeepG (fun k => k < w.heap.size)) S Sp N w) :
    Calls Tryd.prog 39 #[.func (.func g) #[] lb] w fun e w' => ∃ (v : Value) (ss : List P2), e = .returned v ∧ S ss ∧ w'.ownsRow w.heap.size 48 2 v ss.length (cellsV ss) ∧ Below w.heap.size w w' := by
  have K := Lib.hid (appendSeqO g lb eg S Sp N hN hNb w hseq)
  clear hseq
  go_enter Tryd.func39, Tryd.ntmps39
  go_wp2_with (go_at_call 55; refine K.out.mono ?_; rintro e w1 ⟨v, ss, rfl, hS, hrow, hb⟩)
  go_ret
  exact ⟨v, ss, rfl, hS, hrow, hb⟩

end Go.Proofs.YtgmjhloednmfnaaDoor
