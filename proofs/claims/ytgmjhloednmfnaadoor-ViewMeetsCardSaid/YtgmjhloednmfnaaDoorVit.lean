/-
  Sequences of processes: slices.Values at processes, and a view's own sequence of those members of whom a question holds: each gives its elements in their order, whatever the loop's body does that keeps what they read. Condition: the list lies in memory; the question is answered so, whatever has been laid meanwhile.
-/
import Derived.RangeFuncNested
import Derived.RangeFuncBound
import Derived.RangeFuncCalls
import Derived.RangeFuncLeaves
import Derived.Shelf.Abstract
import Derived.Shelf.AbstractIn
import Derived.Shelf.RegionOpen
import Derived.OwnWalkIn
import Derived.TacticsInMore
import Derived.LoopNIn
import Derived.LoopIn
import Derived.Test.YtgmjhloednmfnaaDoorVrnk
namespace Go.Proofs.YtgmjhloednmfnaaDoor
set_option linter.unusedSimpArgs false
set_option linter.unusedVariables false
open Go.RowKit Go.Shelf
attribute [local go_sem] Oper.semAt_some

/-- the blocks of G lie as they lay. -/
structure KeepG (G : Nat → Prop) (W W' : World) : Prop where
  size : W.heap.size ≤ W'.heap.size
  same : ∀ k, G k → W'.heap[k]? = W.heap[k]?
theorem KeepG.refl (G : Nat → Prop) (W : World) : KeepG G W W := ⟨Nat.le_refl _, fun _ _ => rfl⟩
theorem KeepG.trans {G : Nat → Prop} {W W' W2 : World} (h : KeepG G W W') (k : KeepG G W' W2) : KeepG G W W2 := ⟨Nat.le_trans h.size k.size, fun b hb => (k.same b hb).trans (h.same b hb)⟩
theorem KeepG.of_below {G : Nat → Prop} {B : Nat} {W W' : World} (h : Below B W W') (hG : ∀ k, G k → k < B) : KeepG G W W' := ⟨h.size, fun k hk => h.block k (hG k hk)⟩
theorem KeepG.cell {G : Nat → Prop} {W W' : World} (h : KeepG G W W') {p : Addr} (hp : G p.block) : W'.cell? p = W.cell? p := World.cell?_of_block (h.same _ hp)
theorem keepG_b {G : Nat → Prop} {w : World} (hG : ∀ k, G k → k < w.heap.size) (W : World) (l : Nat) (o o' : Obj) (hl : w.heap.size ≤ l) (h : W.heap[l]? = some o) (_ : o.isCells = false) (_ : o.isWalk = false) : KeepG G W (W.putObj l o') :=
  ⟨by simp, fun k hk => World.putObj_heap_other (by have := hG k hk; omega)⟩
theorem PrAt.keepG {G : Nat → Prop} {W W' : World} {b o : Nat} {x : P2} (h : PrAt W b o x) (hk : KeepG G W W') (hb : G b) : PrAt W' b o x :=
  h.keep fun i => hk.cell (p := ⟨b, i, none⟩) hb
theorem grown_below {W W' : World} (h : Below W.heap.size W W') : W.grownBy W' none := ⟨h.os, h.tape, h.output, h.size, fun k hk _ => h.block k hk⟩

theorem fil_in {X : List P2} {f : P2 → Bool} {k : Nat} {x : P2} (h : X[k]? = some x) (hx : f x = true) : (X.take (k + 1)).filter f = (X.take k).filter f ++ [x] := by
  rw [List.take_add_one, h]
  simp [hx]
theorem fil_out {X : List P2} {f : P2 → Bool} {k : Nat} {x : P2} (h : X[k]? = some x) (hx : f x = false) : (X.take (k + 1)).filter f = (X.take k).filter f := by
  rw [List.take_add_one, h]
  simp [hx]
theorem fil_len (X : List P2) (f : P2 → Bool) (k : Nat) : ((X.take k).filter f).length ≤ k := Nat.le_trans (List.length_filter_le _ _) (by simp; omega)

set_option maxHeartbeats 400000 in
theorem valuesO (A : Option Addr) (n c : Nat) (w : World) :
    Calls Tryd.prog 47 #[.slice A n c] w fun e w' => e = .returned (.func (.func 57) #[] #[.pointer (some ⟨w.heap.size, 0, none⟩)]) ∧ w.alloc (.cells #[.slice A n c] 28) = w' := by
  go_enter Tryd.func47, Tryd.ntmps47
  go_wp2
  go_ret
  exact ⟨rfl, rfl⟩

set_option maxRecDepth 100000 in
set_option maxHeartbeats 2000000 in
theorem vals1 (n : Nat) (hn : 1 ≤ n) (l Bs : Nat) (G : Nat → Prop) (A : Option Addr) (X : List P2) (c : Nat) (J Jx : List P2 → World → Prop) (W : World)
    (hJ : AbidesFrom W.heap.size J)
    (hY : ∀ pre x W1, J pre W1 → pre.length < X.length → YieldAt Fence.wide (n - 1) Tryd.prog l #[.agg #[.int .u8 x.n, .int .u16 x.l]] W1 fun e W' =>
      (e = .returned (.bool true) ∧ J (pre ++ [x]) W' ∧ KeepG G W1 W') ∨ (e = .returned (.bool false) ∧ Jx (pre ++ [x]) W'))
    (hBs : W.cell? ⟨Bs, 0, none⟩ = some (.slice A X.length c)) (hr : RowsV W W.heap.size A X) (hA : ∀ b o, X ≠ [] → A = some ⟨b, o, none⟩ → G b) (hG : ∀ k, G k → k < W.heap.size) (hc : X.length ≤ c) (hm : c ≤ maxLen) (h0 : J [] W) :
    CallsIn Fence.wide n Tryd.prog 57 #[.func (.yield l) #[] #[], .pointer (some ⟨Bs, 0, none⟩)] W fun e W' => (∃ v, e = .returned v) ∧
      ((∃ xs, xs = X ∧ J xs W') ∨ (∃ pre, True ∧ Jx pre W')) := by
  unfold maxLen at hm
  refine callsIn_of_wp Tryd.func57 rfl trivial ?_ rfl
  simp only [Tryd.ntmps57, List.size_toArray, List.length_cons, List.length_nil, Nat.reduceAdd, Nat.reduceSub, Array.replicate_succ, Array.replicate_zero, List.push_toArray, List.append_toArray, List.nil_append, List.cons_append]
  gi_wp2
  gi_loopw [7] (fun i wr => ∃ k : Nat, k ≤ X.length ∧ i = .int .i64 k ∧ Hid (J (X.take k) wr) ∧ Hid (KeepG G W wr)) (fun i _ => X.length - (intOf i).toNat)
  case atStart => exact ⟨0, Nat.zero_le _, rfl, Lib.hid (by rw [List.take_zero]; exact h0), Lib.hid (KeepG.refl _ _)⟩
  case round =>
    obtain ⟨k, hk, rfl, hJs, hK⟩ := hrel
    by_cases hlt : k < X.length
    · obtain ⟨b, o, rfl, hb, C⟩ := hr.at_ hlt
      have hGb := hA b o (by rintro rfl; simp at hlt) rfl
      obtain ⟨c0, c1⟩ := C.keepG hK.out hGb
      have HX := Lib.hid (show X[k]? = some X[k] from List.getElem?_eq_getElem hlt)
      have HT := Lib.hid (show X.take (k + 1) = X.take k ++ [X[k]] by rw [List.take_add_one, HX.out]; rfl)
      have hle : (X.take k).length < X.length := by simp; omega
      generalize X[k] = x at *
      clear hr C hA
      have hji : (k : Int) < (X.length : Int) := by omega
      have hj0 : (0 : Int) ≤ (k : Int) := by omega
      have hci : (X.length : Int) ≤ (c : Int) := by omega
      have hJ5 := hJ _ wr (wr.alloc (.cells #[.int .u8 x.n, .int .u16 x.l] 48)) none hJs.out (World.grownBy_alloc wr _ none) (fun r e => by cases e)
      obtain ⟨fn, tmps, assign, body, hy, hR⟩ := hY _ x _ hJ5 hle
      have hK5 := Lib.hid (hK.out.trans (KeepG.of_below ((Below.refl wr.heap.size wr).alloc (Nat.le_refl _) (.cells #[.int .u8 x.n, .int .u16 x.l] 48)) (fun k hk => Nat.lt_of_lt_of_le (hG k hk) hK.out.size)))
      clear hJ5 hle
      gi_wp2
      refine hR.mono ?_
      rintro e W3 (⟨rfl, hJ3, hk3⟩ | ⟨rfl, hJx3⟩)
      · have HJ3 := Lib.hid hJ3
        have HK3 := Lib.hid (hK5.out.trans hk3)
        clear hJ3 hk3
        gi_wp2
        go_roundw
        case rel => exact ⟨k + 1, by omega, by go_num, by rw [HT.out]; exact HJ3, HK3⟩
        case measure => simp [intOf]; omega
      · have HJ3 := Lib.hid hJx3
        clear hJx3
        gi_wp2
        refine bodyPost_ret (results_none rfl _ _ _) rfl ?_
        exact ⟨⟨_, rfl⟩, .inr ⟨_, trivial, HJ3.out⟩⟩
    · obtain rfl : k = X.length := by omega
      gi_wp2
      go_end0
      exact ⟨⟨_, rfl⟩, .inl ⟨_, rfl, by have := hJs.out; rwa [List.take_length] at this⟩⟩

/-- slices.Values's value gives the list. -/
theorem vals_stops (n : Nat) (hn : 1 ≤ n) (Bs : Nat) (G : Nat → Prop) (A : Option Addr) (X : List P2) (c : Nat) (w : World) (hBs : w.cell? ⟨Bs, 0, none⟩ = some (.slice A X.length c)) (hr : RowsV w w.heap.size A X) (hA : ∀ b o, X ≠ [] → A = some ⟨b, o, none⟩ → G b) (hG : ∀ k, G k → k < w.heap.size) (hc : X.length ≤ c) (hm : c ≤ maxLen) :
    SeqStopsK Fence.wide n Tryd.prog 57 #[.pointer (some ⟨Bs, 0, none⟩)] (fun x : P2 => #[.agg #[.int .u8 x.n, .int .u16 x.l]]) (KeepG G) (fun xs => xs = X) (fun _ => True) X.length w := fun l J Jx W hW hJ hJx hY h0 =>
  vals1 n hn l Bs G A X c J Jx W hJ hY ((hW.cell (p := ⟨Bs, 0, none⟩) (World.block_lt_of_cell? w _ hBs)).trans hBs) (hr.below (C := w.heap.size) hW (Nat.le_refl _) hW.size) hA (fun k hk => Nat.lt_of_lt_of_le (hG k hk) hW.size) hc hm h0

set_option maxHeartbeats 400000 in
theorem thoseO (g N : Int) (A : Option Addr) (n c : Nat) (fv : Value) (h : Nat) (hb : Array Value) (hfv : fv = .func (.func h) #[] hb) (w : World) :
    Calls Tryd.prog 31 #[.agg #[.int .u8 g, .int .u32 N, .slice A n c], fv] w fun e w' => e = .returned (.func (.func 45) #[] #[.pointer (some ⟨w.heap.size, 0, none⟩), .pointer (some ⟨w.heap.size + 1, 0, none⟩)]) ∧ (w.alloc (.cells #[.int .u8 g, .int .u32 N, .slice A n c] 30)).alloc (.cells #[fv] 63) = w' := by
  subst hfv
  go_enter Tryd.func31, Tryd.ntmps31
  go_wp2
  go_ret
  exact ⟨rfl, rfl⟩

set_option maxRecDepth 100000 in
set_option maxHeartbeats 2000000 in
theorem those1 (n : Nat) (hn : 1 ≤ n) (l Bv Bf : Nat) (G : Nat → Prop) (A : Option Addr) (X : List P2) (c : Nat) (f : P2 → Bool) (h : Nat) (hb : Array Value) (J Jx : List P2 → World → Prop) (W : World)
    (eg : ∀ args w, (callFunc h args).run Tryd.prog w = .ok (.enter h args) w)
    (hask : ∀ W1 x, x ∈ X → KeepG G W W1 → Calls Tryd.prog h (#[.agg #[.int .u8 x.n, .int .u16 x.l]] ++ hb) W1 fun e W' => e = .returned (.bool (f x)) ∧ Below W1.heap.size W1 W')
    (hJ : AbidesFrom W.heap.size J)
    (hY : ∀ pre x W1, J pre W1 → pre.length < X.length → YieldAt Fence.wide (n - 1) Tryd.prog l #[.agg #[.int .u8 x.n, .int .u16 x.l]] W1 fun e W' =>
      (e = .returned (.bool true) ∧ J (pre ++ [x]) W' ∧ KeepG G W1 W') ∨ (e = .returned (.bool false) ∧ Jx (pre ++ [x]) W'))
    (hBv : W.cell? ⟨Bv, 2, none⟩ = some (.slice A X.length c)) (hBf : W.cell? ⟨Bf, 0, none⟩ = some (.func (.func h) #[] hb)) (hr : RowsV W W.heap.size A X) (hA : ∀ b o, X ≠ [] → A = some ⟨b, o, none⟩ → G b) (hGf : G Bf) (hG : ∀ k, G k → k < W.heap.size) (hc : X.length ≤ c) (hm : c ≤ maxLen) (h0 : J [] W) :
    CallsIn Fence.wide n Tryd.prog 45 #[.func (.yield l) #[] #[], .pointer (some ⟨Bv, 0, none⟩), .pointer (some ⟨Bf, 0, none⟩)] W fun e W' => (∃ v, e = .returned v) ∧
      ((∃ xs, xs = X.filter f ∧ J xs W') ∨ (∃ pre, True ∧ Jx pre W')) := by
  have HA := Lib.hid hask
  unfold maxLen at hm
  clear hask
  refine callsIn_of_wp Tryd.func45 rfl trivial ?_ rfl
  simp only [Tryd.ntmps45, List.size_toArray, List.length_cons, List.length_nil, Nat.reduceAdd, Nat.reduceSub, Array.replicate_succ, Array.replicate_zero, List.push_toArray, List.append_toArray, List.nil_append, List.cons_append]
  gi_wp2
  gi_loopw [9] (fun i wr => ∃ k : Nat, k ≤ X.length ∧ i = .int .i64 k ∧ Hid (J ((X.take k).filter f) wr) ∧ Hid (KeepG G W wr)) (fun i _ => X.length - (intOf i).toNat)
  case atStart => exact ⟨0, Nat.zero_le _, rfl, Lib.hid (by rw [List.take_zero]; exact h0), Lib.hid (KeepG.refl _ _)⟩
  case round =>
    obtain ⟨k, hk, rfl, hJs, hK⟩ := hrel
    by_cases hlt : k < X.length
    · obtain ⟨b, o, rfl, hb', C⟩ := hr.at_ hlt
      have hGb := hA b o (by rintro rfl; simp at hlt) rfl
      obtain ⟨c0, c1⟩ := C.keepG hK.out hGb
      have HX := Lib.hid (show X[k]? = some X[k] from List.getElem?_eq_getElem hlt)
      have hxm : X[k] ∈ X := List.getElem_mem hlt
      have hle : ((X.take k).filter f).length < X.length := Nat.lt_of_le_of_lt (fil_len X f k) hlt
      generalize X[k] = x at *
      clear hr C hA
      have hji : (k : Int) < (X.length : Int) := by omega
      have hj0 : (0 : Int) ≤ (k : Int) := by omega
      have hci : (X.length : Int) ≤ (c : Int) := by omega
      have q0' := (hK.out.cell (p := ⟨Bf, 0, none⟩) hGf).trans hBf
      have q0 := Go.Lib.cell?_alloc_some (.cells #[.int .u8 x.n, .int .u16 x.l] 48) q0'
      clear q0'
      have hJ5 := Lib.hid (hJ _ wr (wr.alloc (.cells #[.int .u8 x.n, .int .u16 x.l] 48)) none hJs.out (World.grownBy_alloc wr _ none) (fun r e => by cases e))
      have hK5 := Lib.hid (hK.out.trans (KeepG.of_below ((Below.refl wr.heap.size wr).alloc (Nat.le_refl _) (.cells #[.int .u8 x.n, .int .u16 x.l] 48)) (fun k hk => Nat.lt_of_lt_of_le (hG k hk) hK.out.size)))
      have hF := HA.out _ x hxm hK5.out
      cases hfx : f x with
      | false =>
        rw [hfx] at hF
        have HT := Lib.hid (fil_out HX.out hfx)
        have HF := Lib.hid hF
        clear hF hfx
        gi_wp2_with (first
          | (refine ⟨trivial, ?_⟩; gi_at_fn h; refine (callsIn_wide.2 HF.out).mono ?_; rintro e w1 ⟨rfl, b1⟩
             have HJ1 := Lib.hid (hJ _ _ w1 none hJ5.out (grown_below b1) (fun r e => by cases e))
             have HK1 := Lib.hid (hK5.out.trans (KeepG.of_below b1 (fun k hk => Nat.lt_of_lt_of_le (hG k hk) hK5.out.size)))
             clear b1 c0 c1 q0))
        refine ⟨(fun _ e => nomatch e), ?_⟩
        gi_wp2
        go_roundw
        case rel => exact ⟨k + 1, by omega, by go_num, by rw [HT.out]; exact HJ1, HK1⟩
        case measure => simp [intOf]; omega
      | true =>
        rw [hfx] at hF
        have HT := Lib.hid (fil_in HX.out hfx)
        have HF := Lib.hid hF
        clear hF hfx
        gi_wp2_with (first
          | (refine ⟨trivial, ?_⟩; gi_at_fn h; refine (callsIn_wide.2 HF.out).mono ?_; rintro e w1 ⟨rfl, b1⟩
             have HJ1 := Lib.hid (hJ _ _ w1 none hJ5.out (grown_below b1) (fun r e => by cases e))
             have HK1 := Lib.hid (hK5.out.trans (KeepG.of_below b1 (fun k hk => Nat.lt_of_lt_of_le (hG k hk) hK5.out.size)))
             have d0 : w1.cell? ⟨wr.heap.size, 0, none⟩ = some (.int .u8 x.n) := (b1.cell (p := ⟨wr.heap.size, 0, none⟩) (by simp)).trans (by simp)
             have d1 : w1.cell? ⟨wr.heap.size, 1, none⟩ = some (.int .u16 x.l) := (b1.cell (p := ⟨wr.heap.size, 1, none⟩) (by simp)).trans (by simp)
             obtain ⟨fn, tmps, assign, body, hy, hR⟩ := hY _ x _ HJ1.out hle
             clear b1 c0 c1 q0 hle))
        refine hR.mono ?_
        rintro e W3 (⟨rfl, hJ3, hk3⟩ | ⟨rfl, hJx3⟩)
        · have HJ3 := Lib.hid hJ3
          have HK3 := Lib.hid (HK1.out.trans hk3)
          clear hJ3 hk3
          gi_wp2
          go_roundw
          case rel => exact ⟨k + 1, by omega, by go_num, by rw [HT.out]; exact HJ3, HK3⟩
          case measure => simp [intOf]; omega
        · have HJ3 := Lib.hid hJx3
          clear hJx3
          gi_wp2
          refine bodyPost_ret (results_none rfl _ _ _) rfl ?_
          exact ⟨⟨_, rfl⟩, .inr ⟨_, trivial, HJ3.out⟩⟩
    · obtain rfl : k = X.length := by omega
      gi_wp2
      go_end0
      exact ⟨⟨_, rfl⟩, .inl ⟨_, rfl, by have := hJs.out; rwa [List.take_length] at this⟩⟩

/-- the view's own sequence gives the members of whom the question holds. -/
theorem those_stops (n : Nat) (hn : 1 ≤ n) (Bv Bf : Nat) (G : Nat → Prop) (A : Option Addr) (X : List P2) (c : Nat) (f : P2 → Bool) (h : Nat) (hb : Array Value) (w : World)
    (eg : ∀ args w, (callFunc h args).run Tryd.prog w = .ok (.enter h args) w)
    (hask : ∀ W1 x, x ∈ X → KeepG G w W1 → Calls Tryd.prog h (#[.agg #[.int .u8 x.n, .int .u16 x.l]] ++ hb) W1 fun e W' => e = .returned (.bool (f x)) ∧ Below W1.heap.size W1 W')
    (hBv : w.cell? ⟨Bv, 2, none⟩ = some (.slice A X.length c)) (hBf : w.cell? ⟨Bf, 0, none⟩ = some (.func (.func h) #[] hb)) (hr : RowsV w w.heap.size A X) (hA : ∀ b o, X ≠ [] → A = some ⟨b, o, none⟩ → G b) (hGf : G Bf) (hG : ∀ k, G k → k < w.heap.size) (hc : X.length ≤ c) (hm : c ≤ maxLen) :
    SeqStopsK Fence.wide n Tryd.prog 45 #[.pointer (some ⟨Bv, 0, none⟩), .pointer (some ⟨Bf, 0, none⟩)] (fun x : P2 => #[.agg #[.int .u8 x.n, .int .u16 x.l]]) (KeepG G) (fun xs => xs = X.filter f) (fun _ => True) X.length w := fun l J Jx W hW hJ hJx hY h0 =>
  those1 n hn l Bv Bf G A X c f h hb J Jx W eg (fun W1 x hx hk => hask W1 x hx ((KeepG.of_below hW hG).trans hk)) hJ hY ((hW.cell (p := ⟨Bv, 2, none⟩) (World.block_lt_of_cell? w _ hBv)).trans hBv) ((hW.cell (p := ⟨Bf, 0, none⟩) (World.block_lt_of_cell? w _ hBf)).trans hBf) (hr.below (C := w.heap.size) hW (Nat.le_refl _) hW.size) hA hGf (fun k hk => Nat.lt_of_lt_of_le (hG k hk) hW.size) hc hm h0

end Go.Proofs.YtgmjhloednmfnaaDoor
