/-
  The document's kept: by exact answers. Condition: the link lies in memory; what is kept has numbers of its own.
-/
import Derived.Test.YtgnfclikdfllnaaJdp
import Derived.Test.YtgnfclikdfllnaaJag
namespace Go.Proofs.Ytgnfclikdfllnaa
set_option linter.unusedSimpArgs false
set_option linter.unusedVariables false
open Go.RowKit Go.Maps Go.Sort

theorem run_slB {P : Program} {w : World} {a : Act} {sv xv : Value} {t t0 : TypeId} {x : Operand} {lo hi : Option Operand} {lo' hi' : Option Value} (hx : a.eval x = xv) (hlo : lo.map a.eval = lo') (hhi : hi.map a.eval = hi')
    (hr : (Instr.sliceAt t xv lo' hi' none).run P w = .ok sv w) : (execOp a.eval (bareO (.slice t x lo hi none) t0)).run P w = .ok (.value sv) w := by
  unfold execOp bareO
  simp only [hx, hlo, hhi, Option.map_none, Sem.run_bind, hr, Result.andThen_ok, Sem.run_pure]
theorem slTo (A : Option Addr) (n c k : Nat) (hk : k ≤ n) (hc : n ≤ c) (hA : (A = none ∧ c = 0) ∨ ∃ g o, A = some ⟨g, o, none⟩) (w : World) : (Instr.sliceAt 58 (.slice A n c) none (some (.int .i64 (k : Int))) none).run Try.prog w = .ok (.slice A k c) w := by
  have h1 : (0 : Int) ≤ (k : Int) := by omega
  have h2 : (k : Int) ≤ (c : Int) := by omega
  rcases hA with ⟨rfl, rfl⟩ | ⟨g, o, rfl⟩
  · obtain rfl : k = 0 := by omega
    go_simp
  · go_simp
theorem slFrom (A : Option Addr) (n c k : Nat) (hk : k ≤ n) (hc : n ≤ c) (hA : (A = none ∧ c = 0) ∨ ∃ g o, A = some ⟨g, o, none⟩) : ∃ A2, (∀ w, (Instr.sliceAt 58 (.slice A n c) (some (.int .i64 (k : Int))) none none).run Try.prog w = .ok (.slice A2 (n - k) (c - k)) w) ∧ ((A2 = none ∧ c - k = 0) ∨ ∃ g o o2, A = some ⟨g, o, none⟩ ∧ A2 = some ⟨g, o2, none⟩ ∧ (k < n → o2 = o + k * 2)) := by
  have h1 : (0 : Int) ≤ (k : Int) := by omega
  have h2 : (k : Int) ≤ (n : Int) := by omega
  have h3 : (n : Int) ≤ (c : Int) := by omega
  rcases hA with ⟨rfl, rfl⟩ | ⟨g, o, rfl⟩
  · obtain rfl : k = 0 := by omega
    obtain rfl : n = 0 := by omega
    exact ⟨none, fun w => by go_simp, .inl ⟨rfl, rfl⟩⟩
  · by_cases e : c = k
    · subst e
      exact ⟨some ⟨g, o, none⟩, fun w => by go_simp, .inr ⟨g, o, o, rfl, rfl, fun h => by omega⟩⟩
    · have h4 : (k : Int) < (c : Int) := by omega
      exact ⟨some ⟨g, o + k * 2, none⟩, fun w => by go_simp, .inr ⟨g, o, o + k * 2, rfl, rfl, fun _ => rfl⟩⟩
theorem slFromS (g o n c k : Nat) (hk : k ≤ n) (hc : n ≤ c) : ∃ o2, (∀ w, (Instr.sliceAt 58 (.slice (some ⟨g, o, none⟩) n c) (some (.int .i64 (k : Int))) none none).run Try.prog w = .ok (.slice (some ⟨g, o2, none⟩) (n - k) (c - k)) w) ∧ (k < n → o2 = o + k * 2) := by
  have h1 : (0 : Int) ≤ (k : Int) := by omega
  have h2 : (k : Int) ≤ (n : Int) := by omega
  have h3 : (n : Int) ≤ (c : Int) := by omega
  by_cases e : c = k
  · subst e
    exact ⟨o, fun w => by go_simp, fun h => by omega⟩
  · have h4 : (k : Int) < (c : Int) := by omega
    exact ⟨o + k * 2, fun w => by go_simp, fun _ => rfl⟩
/-- all but one: what stands ahead of it and behind it. -/
theorem outN_at {K : List Kr} (h : K.Pairwise fun x y => x.seq ≠ y.seq) {i : Nat} {x : Kr} (hi : K[i]? = some x) : outN K x.seq = K.take i ++ K.drop (i + 1) := by
  induction K generalizing i with
  | nil => simp at hi
  | cons a K ih =>
    obtain ⟨h1, h2⟩ := List.pairwise_cons.1 h
    cases i with
    | zero =>
      simp at hi
      subst hi
      unfold outN
      rw [List.filter_cons]
      simp
      intro y hy e
      exact h1 y hy e.symm
    | succ i =>
      simp at hi
      have hne := h1 x (List.mem_of_getElem? hi)
      have e := ih h2 hi
      unfold outN at e ⊢
      rw [List.filter_cons, if_pos (by simpa using hne), e]
      rfl
theorem fK_at {K : List Kr} {q : Nat} {x : Kr} {i : Nat} (hn : ∀ j y, j < i → K[j]? = some y → y.seq ≠ q) (hi : K[i]? = some x) (hx : x.seq = q) : fK K q = some x := by
  induction K generalizing i with
  | nil => simp at hi
  | cons a K ih =>
    unfold fK
    cases i with
    | zero =>
      simp at hi
      subst hi
      simp [hx]
    | succ i =>
      have ha := hn 0 a (by omega) rfl
      rw [List.find?_cons_of_neg (by simpa using ha)]
      exact ih (i := i) (fun j y hj hy => hn (j + 1) y (by omega) (by simpa using hy)) (by simpa using hi)
theorem fK_out {K : List Kr} {q : Nat} (hn : ∀ y ∈ K, y.seq ≠ q) : fK K q = none := List.find?_eq_none.2 fun y hy => by simpa using hn y hy
def KeptR (base : Nat) (W : World) (b : Nat) (v w : Value) (s : Sc) (L : List Ls) (K : List Kr) (q : Nat) (e : Ending) (W' : World) : Prop :=
  e = .returned (.tuple #[kv K q, .bool (fK K q).isSome]) ∧ ∃ w', DL base W' b v w' s L (outN K q) ∧ KP (fun k => k = b) W W' ∧ (w' = w ∨ ∀ k, w'.ownBlock = some k → W.heap.size ≤ k)

set_option maxRecDepth 100000 in
set_option maxHeartbeats 4000000 in
theorem keptD (base : Nat) (W : World) (b : Nat) (v w : Value) (s : Sc) (L : List Ls) (K : List Kr) (h : DL base W b v w s L K) (q : Nat) (hap : K.Pairwise fun x y => x.seq ≠ y.seq) :
    Calls Try.prog 38 #[.pointer (some ⟨b, 0, none⟩), .int .u64 q] W fun e W' => KeptR base W b v w s L K q e W' := by
  obtain ⟨A, cp, rfl, hn1, hn2, hA⟩ := h.krow.slice
  obtain ⟨n, hn⟩ : ∃ n, K.length = n := ⟨_, rfl⟩
  have lnk := h.lnk
  have row := h.krow
  have kf := h.kfew
  obtain ⟨mn, ml, pn, pl, ag, nx, wt, ow⟩ := s
  simp only [hn, Sc.ds] at lnk row hn1 kf
  have c8 := cell_of lnk 8 (.slice A n cp) rfl
  have HN := Lib.hid hn
  have HP := Lib.hid h
  have LNK := Lib.hid lnk
  have ROW := Lib.hid row
  have HAP := Lib.hid hap
  have HA := Lib.hid hA
  have HN1 := Lib.hid hn1
  have HN2 := Lib.hid hn2
  have KFW := Lib.hid kf
  clear h lnk row hn hap hA hn1 hn2
  go_enter Try.func38, Try.ntmps38
  go_wp2
  go_loopw [6] (fun iv wr => ∃ k : Nat, k ≤ n ∧ iv = .int .i64 k ∧ W = wr ∧ Hid (∀ j y, j < k → K[j]? = some y → y.seq ≠ q)) (fun iv _ => n - (intOf iv).toNat)
  case atStart => exact ⟨0, Nat.zero_le _, rfl, rfl, Lib.hid fun j y hj => by omega⟩
  case round =>
    obtain ⟨k, hk, rfl, rfl, HB⟩ := hrel
    by_cases hkn : k < n
    · have hki : (k : Int) < (n : Int) := by omega
      have hkK : k < K.length := by rw [HN.out]; exact hkn
      obtain ⟨x, hxk⟩ : ∃ x, K[k]? = some x := ⟨K[k], by simp [hkK]⟩
      obtain ⟨xs, ⟨xB, xa, xc⟩⟩ := x
      have hg : ∃ g o, A = some ⟨g, o, none⟩ := by
        rcases HA.out with ⟨_, h1⟩ | h0
        · have := HN1.out
          omega
        · exact h0
      obtain ⟨g, o, rfl⟩ := hg
      have e0 := RowO.elem Kr.sz ROW.out hxk (j := 0) (by decide)
      have e1 := RowO.elem Kr.sz ROW.out hxk (j := 1) (by decide)
      simp only [Kr.cs, List.getElem?_toArray, List.getElem?_cons_zero, List.getElem?_cons_succ, Nat.add_zero] at e0 e1
      have HXK := Lib.hid hxk
      clear hkK hxk
      by_cases hq : xs = q
      · subst hq
        obtain ⟨o2, hsf, hA2⟩ := slFromS g o n cp (k + 1) (by omega) HN1.out
        have hst := slTo (some ⟨g, o, none⟩) n cp k (by omega) HN1.out (.inr ⟨g, o, rfl⟩)
        rw [show (((k + 1 : Nat)) : Int) = (k : Int) + 1 by omega] at hsf
        have HSF := Lib.hid hsf
        have HST := Lib.hid hst
        have HA2 := Lib.hid hA2
        have HWR : Hid (IntKind.i64.wrap ((k : Int) + 1) = (k : Int) + 1) := Lib.hid (IntWalk.i64_in _ (by have := KFW.out; omega))
        obtain ⟨w2, hw2⟩ : ∃ Y, W.drew = Y := ⟨_, rfl⟩
        have b2 : Below W.heap.size W w2 := by rw [← hw2]; exact (Below.refl _ _).drew
        obtain ⟨w3, hw3⟩ : ∃ Y, w2.alloc (.cells #[] 98) = Y := ⟨_, rfl⟩
        have b3 : Below W.heap.size W w3 := by rw [← hw3]; exact b2.alloc b2.size _
        have l2 := (b2.block b (blt LNK.out)).trans LNK.out
        have l3 := (b3.block b (blt LNK.out)).trans LNK.out
        have O3 : Hid (w3.ownsRow W.heap.size 98 2 (.slice (some ⟨w2.heap.size, 0, none⟩) 0 0) 0 []) := Lib.hid (by rw [← hw3]; exact ⟨rfl, .inr ⟨w2.heap.size, 0, #[], rfl, b2.size, heap_alloc_new _ _, Nat.le_refl _, by unfold maxLen; omega, rfl, rfl⟩⟩)
        have ROW3 := Lib.hid (ROW.out.below b3)
        have HW2 := Lib.hid hw2
        have HW3 := Lib.hid hw3
        have B3 := Lib.hid b3
        have L2 := Lib.hid l2
        have L3 := Lib.hid l3
        clear hsf hst hA2 hw2 b2 hw3 b3 l2 l3
        go_wp2
        refine region_heldT (S := fun X => X.heap[b]? = some (.cells #[.int .u8 mn, .int .u16 ml, .int .u8 pn, .int .u16 pl, .int .i64 ag, .int .u64 nx, .int .u64 wt, v, .slice (some ⟨g, o, none⟩) n cp, .bool ow] 60 (0, 0))) 17 (by kernel_rfl) (by decide) (fun inv => ?_)
        change FirstH _ _ _ _ _ _ _ _ _ _ W.drew
        rw [HW2.out]
        have HS := L2.out
        refine FirstH.go (i := 0) (v := .pointer (some ⟨b, 0, none⟩)) rfl rfl _ rfl _ rfl (by kernel_rfl) (fun _ _ _ h => h) inv (fun X _ => by unfold bareO; go_simp) HS (fun inv => ?_)
        try simp only [Act.put, List.setIfInBounds_toArray, List.set_cons_zero, List.set_cons_succ]
        refine FirstH.go (i := 2) (v := .pointer (some ⟨b, 0, none⟩)) rfl rfl _ rfl _ rfl (by kernel_rfl) (fun _ _ _ h => h) inv (fun X _ => by unfold bareO; go_simp) HS (fun inv => ?_)
        try simp only [Act.put, List.setIfInBounds_toArray, List.set_cons_zero, List.set_cons_succ]
        refine FirstH.go (i := 3) (v := .pointer (some ⟨b, 0, none⟩)) rfl rfl _ rfl _ rfl (by kernel_rfl) (fun _ _ _ h => h) inv (fun X _ => by unfold bareO; go_simp) HS (fun inv => ?_)
        try simp only [Act.put, List.setIfInBounds_toArray, List.set_cons_zero, List.set_cons_succ]
        refine FirstH.go (i := 4) (v := .pointer (some ⟨b, 8, none⟩)) rfl rfl _ rfl _ rfl (by kernel_rfl) (fun _ _ _ h => h) inv (fun X _ => by unfold bareO; go_simp) HS (fun inv => ?_)
        try simp only [Act.put, List.setIfInBounds_toArray, List.set_cons_zero, List.set_cons_succ]
        refine FirstH.go (i := 5) (v := .slice (some ⟨g, o, none⟩) n cp) rfl rfl _ rfl _ rfl (by kernel_rfl) (fun _ _ _ h => h) inv (fun X hS => by have c1 := cell_of hS 8 (.slice (some ⟨g, o, none⟩) n cp) rfl; unfold bareO; go_simp) HS (fun inv => ?_)
        try simp only [Act.put, List.setIfInBounds_toArray, List.set_cons_zero, List.set_cons_succ]
        refine FirstH.go (i := 6) (v := .int .i64 k) rfl rfl _ rfl _ rfl (by kernel_rfl) (fun _ _ _ h => h) inv (fun X _ => by unfold bareO; go_simp) HS (fun inv => ?_)
        try simp only [Act.put, List.setIfInBounds_toArray, List.set_cons_zero, List.set_cons_succ]
        refine FirstH.go (i := 7) (v := .slice (some ⟨g, o, none⟩) k cp) rfl rfl _ rfl _ rfl (by kernel_rfl) (fun _ _ _ h => h) inv (fun X _ => run_slB rfl rfl rfl (HST.out X)) HS (fun inv => ?_)
        try simp only [Act.put, List.setIfInBounds_toArray, List.set_cons_zero, List.set_cons_succ]
        refine FirstH.go (i := 9) (v := .pointer (some ⟨b, 0, none⟩)) rfl rfl _ rfl _ rfl (by kernel_rfl) (fun _ _ _ h => h) inv (fun X _ => by unfold bareO; go_simp) HS (fun inv => ?_)
        try simp only [Act.put, List.setIfInBounds_toArray, List.set_cons_zero, List.set_cons_succ]
        refine FirstH.go (i := 10) (v := .pointer (some ⟨b, 0, none⟩)) rfl rfl _ rfl _ rfl (by kernel_rfl) (fun _ _ _ h => h) inv (fun X _ => by unfold bareO; go_simp) HS (fun inv => ?_)
        try simp only [Act.put, List.setIfInBounds_toArray, List.set_cons_zero, List.set_cons_succ]
        refine FirstH.go (i := 11) (v := .pointer (some ⟨b, 8, none⟩)) rfl rfl _ rfl _ rfl (by kernel_rfl) (fun _ _ _ h => h) inv (fun X _ => by unfold bareO; go_simp) HS (fun inv => ?_)
        try simp only [Act.put, List.setIfInBounds_toArray, List.set_cons_zero, List.set_cons_succ]
        refine FirstH.go (i := 12) (v := .slice (some ⟨g, o, none⟩) n cp) rfl rfl _ rfl _ rfl (by kernel_rfl) (fun _ _ _ h => h) inv (fun X hS => by have c1 := cell_of hS 8 (.slice (some ⟨g, o, none⟩) n cp) rfl; unfold bareO; go_simp) HS (fun inv => ?_)
        try simp only [Act.put, List.setIfInBounds_toArray, List.set_cons_zero, List.set_cons_succ]
        refine FirstH.go (i := 13) (v := .int .i64 k) rfl rfl _ rfl _ rfl (by kernel_rfl) (fun _ _ _ h => h) inv (fun X _ => by unfold bareO; go_simp) HS (fun inv => ?_)
        try simp only [Act.put, List.setIfInBounds_toArray, List.set_cons_zero, List.set_cons_succ]
        refine FirstH.go (i := 14) (v := .int .i64 ((k : Int) + 1)) rfl rfl _ rfl _ rfl (by kernel_rfl) (fun _ _ _ h => h) inv (fun X _ => by have hwr := HWR.out; unfold bareO; go_simp) HS (fun inv => ?_)
        try simp only [Act.put, List.setIfInBounds_toArray, List.set_cons_zero, List.set_cons_succ]
        refine FirstH.go (i := 15) (v := .slice (some ⟨g, o2, none⟩) (n - (k + 1)) (cp - (k + 1))) rfl rfl _ rfl _ rfl (by kernel_rfl) (fun _ _ _ h => h) inv (fun X _ => run_slB rfl rfl rfl (HSF.out X)) HS (fun inv => ?_)
        try simp only [Act.put, List.setIfInBounds_toArray, List.set_cons_zero, List.set_cons_succ]
        clear HS
        refine FirstH.only (i := 1) (by kernel_rfl) (by decide) inv (fun inv => wpOp_vl (i := 1) (v := .slice (some ⟨w2.heap.size, 0, none⟩) 0 0) (w' := w2.alloc (.cells #[] 98)) rfl rfl 36 rfl _ rfl (by unfold bareO; go_simp) ?_)
        rw [HW3.out]
        refine ⟨L3.out, ?_⟩
        try simp only [Act.put, List.setIfInBounds_toArray, List.set_cons_zero, List.set_cons_succ]
        obtain ⟨i0, hi0, hz0, hz1, hz2⟩ := info_parts rkI
        have lt : (K.take k).length = k := by rw [List.length_take, HN.out]; omega
        have ld : (K.drop (k + 1)).length = n - (k + 1) := by rw [List.length_drop, HN.out]
        have hrow : ∀ (X : World), RowO X 98 2 (.slice (some ⟨g, o, none⟩) n cp) n (flat Kr.cs K) → (∀ j u, (flat Kr.cs (K.take k))[j]? = some u → X.cell? ⟨g, o + j, none⟩ = some u) ∧ (∀ j u, (flat Kr.cs (K.drop (k + 1)))[j]? = some u → X.cell? ⟨g, o + (k + 1) * 2 + j, none⟩ = some u) := fun X hX => by
          have e : flat Kr.cs K = flat Kr.cs (K.take (k + 1)) ++ flat Kr.cs (K.drop (k + 1)) := by rw [← flat_append, List.take_append_drop]
          have e' : flat Kr.cs K = flat Kr.cs (K.take k) ++ flat Kr.cs (K.drop k) := by rw [← flat_append, List.take_append_drop]
          have le : (flat Kr.cs (K.take (k + 1))).length = (k + 1) * 2 := by rw [flat_len Kr.sz, List.length_take, HN.out]; omega
          refine ⟨fun j u hu => hX.cells j u ?_, fun j u hu => ?_⟩
          · rw [e', List.getElem?_append_left ((List.getElem?_eq_some_iff.1 hu).1)]
            exact hu
          · have := hX.cells ((k + 1) * 2 + j) u (by rw [e, List.getElem?_append_right (by omega), le, Nat.add_sub_cancel_left]; exact hu)
            rw [← Nat.add_assoc] at this
            exact this
        have HROW := Lib.hid hrow
        have LT := Lib.hid lt
        have LD := Lib.hid ld
        clear hrow lt ld
        refine FirstH.only (i := 8) (by kernel_rfl) (by decide) inv (fun inv => wpOp_any rfl rfl (wp_append_own w3 (.tmp 36) (.tmp 42) 58 rfl W.heap.size 98 i0 _ 2 32 Try.underlying58 hi0 hz0 hz1 hz2 rfl (by decide) _ 0 _ rfl O3.out ⟨g, o, none⟩ k cp (flat Kr.cs (K.take k)) rfl (by rw [flat_len Kr.sz, LT.out]) (fun j u hu => by rw [addr_add]; exact (HROW.out _ ROW3.out).1 j u hu) (flat_one Kr.one _) (by have := KFW.out; unfold maxLen; omega) (by have := KFW.out; omega) (Nat.le_trans B3.out.size (Nat.le_refl _)) ?_))
        intro v8 w8 O8 g8 _
        have b8 : Below W.heap.size W w8 := B3.out.grown g8 B3.out.size fun k hk => (O3.out.lt k hk).1
        refine ⟨(b8.block b (blt LNK.out)).trans LNK.out, ?_⟩
        rw [Nat.zero_add, List.nil_append] at O8
        have O8' := Lib.hid O8
        have B8 := Lib.hid b8
        have ROW8 := Lib.hid (ROW.out.below b8)
        clear O8 g8 b8
        try simp only [Act.put, List.setIfInBounds_toArray, List.set_cons_zero, List.set_cons_succ]
        have fin : ∀ v9 w9, w9.ownsRow W.heap.size 98 2 v9 (k + (n - (k + 1))) (flat Kr.cs (K.take k) ++ flat Kr.cs (K.drop (k + 1))) → Below W.heap.size W w9 → KeptR base W b v (.slice (some ⟨g, o, none⟩) K.length cp) ⟨mn, ml, pn, pl, ag, nx, wt, ow⟩ L K xs (.returned (.tuple #[.slice xa xB.length xc, .bool true])) (w9.setCell ⟨b, 8, none⟩ v9) := by
          intro v9 w9 O9 b9
          have hf : fK K xs = some ⟨xs, ⟨xB, xa, xc⟩⟩ := fK_at HB.out HXK.out rfl
          have ho : outN K xs = K.take k ++ K.drop (k + 1) := outN_at HAP.out HXK.out
          have hP := HP.out
          have kF : KP (fun k => k = b) W (w9.setCell ⟨b, 8, none⟩ v9) := (KP.of_below b9).trans (KP.set (S := fun k => k = b) w9 b 8 _ rfl) fun _ _ h => h
          have l9 := (b9.block b (blt hP.lnk)).trans hP.lnk
          have hu : ∀ (g' : Nat) (cur : Array Value), W.heap[g']? = some (.cells cur 5 (0, 0)) → ¬ (g' = b) := fun g' cur hg e => hP.u8 g' cur hg (Or.inl e)
          have len : (K.take k ++ K.drop (k + 1)).length = k + (n - (k + 1)) := by rw [List.length_append, LT.out, LD.out]
          unfold KeptR
          refine ⟨by rw [hf]; unfold kv; rw [hf]; rfl, v9, ?_, kF, ?_⟩
          · rw [ho]
            refine ⟨hP.hb, hP.hv, fun g' hg => ?_, (row_set l9 _).trans rfl, hP.row.keepK kF hP.ne_bv, ?_, fun y hy => (hP.okL y hy).keepK kF hu, fun y hy => (hP.okK y (by rcases List.mem_append.1 hy with h | h; exact List.mem_of_mem_take h; exact List.mem_of_mem_drop h)).keepK kF hu, hP.few, by rw [len]; have := KFW.out; omega, hP.nxt, hP.wnt, hP.agn, hP.seqs, hP.ats⟩
            · have h1 := (O9.lt g' hg).1
              have := hP.hb
              have := blt hP.lnk
              omega
            · rw [len, flat_append]
              refine (RowO.of_owns O9).keepB fun g' hg => Below.heap_setCell _ _ _ _ ?_
              obtain ⟨c2, h2⟩ := row_block O9 hg
              exact apart_of h2 l9 (by decide)
          · exact Or.inr fun k hk => (O9.lt k hk).1
        have FIN := Lib.hid fin
        clear fin
        refine FirstH.only (i := 16) (by kernel_rfl) (by decide) inv (fun inv => wpOp_any rfl rfl ?_)
        have hfin2 : ∀ v9 w9, w9.ownsRow W.heap.size 98 2 v9 (k + (n - (k + 1))) (flat Kr.cs (K.take k) ++ flat Kr.cs (K.drop (k + 1))) → w8.grownBy w9 v8.ownBlock → Below W.heap.size W w9 := fun v9 w9 _ g9 => B8.out.grown g9 B8.out.size fun k hk => (O8'.out.lt k hk).1
        have HF2 := Lib.hid hfin2
        clear hfin2
        refine wp_append_own w8 (.tmp 43) (.tmp 50) 58 rfl W.heap.size 98 i0 _ 2 32 Try.underlying58 hi0 hz0 hz1 hz2 rfl (by decide) v8 k _ rfl O8'.out ⟨g, o2, none⟩ (n - (k + 1)) (cp - (k + 1)) (flat Kr.cs (K.drop (k + 1))) rfl (by rw [flat_len Kr.sz, LD.out]) (fun j u hu => ?_) (flat_one Kr.one _) (by have := KFW.out; unfold maxLen; omega) (by have := KFW.out; omega) B8.out.size ?_
        · have hlt : k + 1 < n := by
            have h1 := (List.getElem?_eq_some_iff.1 hu).1
            rw [flat_len Kr.sz, LD.out] at h1
            omega
          rw [addr_add, HA2.out hlt]
          exact (HROW.out _ ROW8.out).2 j u hu
        · intro v9 w9 O9 g9 _
          have b9 := HF2.out v9 w9 O9 g9
          refine ⟨(b9.block b (blt LNK.out)).trans LNK.out, ?_⟩
          have fr := FIN.out v9 w9 O9 b9
          have l9 := (b9.block b (blt LNK.out)).trans LNK.out
          obtain ⟨A9, c9, rfl, _, _, _⟩ := (RowO.of_owns O9).slice
          have c8 := cell_of l9 8 (.slice (some ⟨g, o, none⟩) n cp) rfl
          have z8 := frz_row 8 l9
          have FR := Lib.hid fr
          clear O9 g9 b9 fr l9 hi0 hz0 hz1 hz2
          try simp only [Act.put, List.setIfInBounds_toArray, List.set_cons_zero, List.set_cons_succ]
          refine ⟨by kernel_rfl, ?_⟩
          simp only [List.drop_succ_cons, List.drop_zero]
          go_wp2
          refine bodyPost_ret (results_tmp2 rfl _ _ _) rfl ?_
          exact FR.out
      · have hq' : ¬ (xs : Int) = (q : Int) := by omega
        have hq'' : ((xs : Int) == (q : Int)) = false := by simp; omega
        have HQ := Lib.hid hq
        clear hq
        go_wp2
        go_roundw
        case rel =>
          refine ⟨k + 1, by omega, by go_num, by first | rfl | trivial, Lib.hid fun j y hj hy => ?_⟩
          by_cases hjk : j < k
          · exact HB.out j y hjk hy
          · obtain rfl : j = k := by omega
            rw [HXK.out] at hy
            cases hy
            exact HQ.out
        case measure => simp [intOf]; omega
    · obtain rfl : k = n := by omega
      have hki : ¬ (k : Int) < (k : Int) := by omega
      go_wp2
      have hf : fK K q = none := fK_out fun y hy => by
        obtain ⟨j, hj⟩ := List.getElem?_of_mem hy
        exact HB.out j y (by have := (List.getElem?_eq_some_iff.1 hj).1; rw [HN.out] at this; exact this) hj
      have ho : outN K q = K := by
        unfold outN
        exact List.filter_eq_self.2 fun y hy => by simpa using fK_none hf y hy
      refine bodyPost_ret (results_tmp2 rfl _ _ _) rfl ?_
      unfold KeptR
      rw [hf, ho]
      unfold kv
      rw [hf]
      exact ⟨rfl, _, HP.out, KP.refl _ _, Or.inl rfl⟩

end Go.Proofs.Ytgnfclikdfllnaa
