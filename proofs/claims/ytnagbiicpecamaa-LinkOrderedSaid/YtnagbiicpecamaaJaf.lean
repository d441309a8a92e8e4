/-
  The program's keep: by exact answers. Condition: the link lies in memory.
-/
import Derived.Test.YtnagbiicpecamaaJae
namespace Go.Proofs.Ytnagbiicpecamaa
set_option linter.unusedSimpArgs false
set_option linter.unusedVariables false
open Go.RowKit Go.Maps Go.Sort

/-- what is kept at a number. -/
def fK (K : List Kr) (q : Nat) : Option Kr := K.find? fun x => decide (x.seq = q)
def kv (K : List Kr) (q : Nat) : Value := match fK K q with
  | some x => x.b.v
  | none => .slice none 0 0
theorem fK_some {K : List Kr} {q : Nat} {x : Kr} (h : fK K q = some x) : x ∈ K ∧ x.seq = q := by
  have h1 := List.find?_some h
  have h2 := List.mem_of_find?_eq_some h
  simp at h1
  exact ⟨h2, h1⟩
theorem fK_none {K : List Kr} {q : Nat} (h : fK K q = none) : ∀ y ∈ K, y.seq ≠ q := by
  intro y hy e
  have := List.find?_eq_none.1 h y hy
  simp [e] at this
theorem PL.look (base : Nat) (W : World) (b m : Nat) (v : Value) (c : Nat) (s : Sc) (L : List Ls) (K : List Kr) (h : PL base W b m v c s L K) (q : Nat) (hq : q ≤ 18446744073709551615) :
    ∃ es clock, W.heap[m]? = some (.map es clock) ∧ ∀ X : World, X.heap[m]? = some (.map es clock) → (Instr.lookup 62 (.map (some m)) (.int .u64 q) true).run Try.prog X = .ok (.tuple #[kv K q, .bool (fK K q).isSome]) X := by
  obtain ⟨nn, D, hk, ⟨es, clock, hb, F, hs, hD⟩, M⟩ := h.map
  refine ⟨es, clock, hb, fun X hX => ?_⟩
  have O : X.ownsMap Try.prog 22 bdElem m nn D := ⟨es, clock, hX, F, hs, hD⟩
  obtain ⟨v', ps, hrun, hv⟩ := O.look_ok u64Keyed mapU (bdZero X) bdZeroE (u64Key hq)
  cases hf : fK K q with
  | some x =>
    obtain ⟨hx, rfl⟩ := fK_some hf
    rw [M.at_ x hx] at hv
    rw [M.has_ x hx] at hrun
    obtain ⟨A, n, c', rfl, e, hA⟩ := bdElem_inv hv
    obtain ⟨e1, e2, e3⟩ := bdDat_inj (h.okK x hx).spot hA (congrArg Prod.fst e)
    subst e1 e2 e3
    rw [hrun]
    simp [kv, hf, Bd.v]
  | none =>
    have hh := M.hasnt (fK_none hf)
    rw [atKey_of_not_has hh] at hv
    rw [hh] at hrun
    obtain ⟨A, n, c', rfl, e, hA⟩ := bdElem_inv hv
    obtain ⟨e1, e2, e3⟩ := bdDat_inj (A := none) (n := 0) (c := 0) (fun a e => by cases e) hA (congrArg Prod.fst e)
    subst e1 e2 e3
    rw [hrun]
    simp [kv, hf]
theorem mapGrown {base : Nat} {W W' : World} {b m : Nat} {v : Value} {c c' : Nat} {s : Sc} {L : List Ls} {K K' : List Kr} (h : PL base W b m v c s L K) (k : KP (fun k => k = m) W W') (hm : ∃ (nn : Nat) (D : DataW Unit), nn ≤ c' ∧ W'.ownsMap Try.prog 22 bdElem m nn D ∧ MapK D K') (hK : ∀ x ∈ K', x.b.Ok W') : PL base W' b m v c' s L K' := by
  obtain ⟨es, cl, hmm⟩ := h.ml
  have hu : ∀ (g' : Nat) (cur : Array Value), W.heap[g']? = some (.cells cur 5 (0, 0)) → ¬ (g' = m) := fun g' cur hg e => h.u8 g' cur hg (Or.inr (Or.inl e))
  exact ⟨h.hb, h.hm, h.hv, (k.block b (blt h.lnk) h.ne_bm).trans h.lnk, h.row.keepK k h.ne_mv, fun y hy => (h.okL y hy).keepK k hu, hm, hK, h.few, h.nxt, h.wnt, h.agn, h.seqs, h.ats⟩

set_option maxRecDepth 100000 in
set_option maxHeartbeats 1000000 in
theorem keep_low (base : Nat) (W : World) (b m : Nat) (v : Value) (c : Nat) (s : Sc) (L : List Ls) (K : List Kr) (h : PL base W b m v c s L K) (q : Nat) (hq : q ≤ 18446744073709551615) (XA : Option Addr) (X : List UInt8) (xc : Nat) (h1 : q < s.want) :
    Calls Try.prog 23 #[.pointer (some ⟨b, 0, none⟩), .int .u64 q, .slice XA X.length xc] W fun e W' => e = .returned (.tuple #[]) ∧ W = W' := by
  obtain ⟨mn, ml, pn, pl, ag, nx, wt, ow⟩ := s
  have c6 := cell_of h.lnk 6 (.int .u64 wt) rfl
  have c9 := cell_of h.lnk 9 (.map (some m)) rfl
  have hwt : wt ≤ 18446744073709551615 := h.wnt
  have h2 : (q : Int) < (wt : Int) := by have : q < wt := h1; omega
  clear h h1
  go_enter Try.func23, Try.ntmps23
  go_wp2
  refine bodyPost_ret (results_none rfl _ _ _) rfl ?_
  exact ⟨rfl, rfl⟩
set_option maxRecDepth 100000 in
set_option maxHeartbeats 1000000 in
theorem keep_high (base : Nat) (W : World) (b m : Nat) (v : Value) (c : Nat) (s : Sc) (L : List Ls) (K : List Kr) (h : PL base W b m v c s L K) (q : Nat) (hq : q ≤ 18446744073709551615) (XA : Option Addr) (X : List UInt8) (xc : Nat) (h1 : ¬ q < s.want) (h2 : 8 ≤ q - s.want) :
    Calls Try.prog 23 #[.pointer (some ⟨b, 0, none⟩), .int .u64 q, .slice XA X.length xc] W fun e W' => e = .returned (.tuple #[]) ∧ W = W' := by
  obtain ⟨mn, ml, pn, pl, ag, nx, wt, ow⟩ := s
  have c6 := cell_of h.lnk 6 (.int .u64 wt) rfl
  have c9 := cell_of h.lnk 9 (.map (some m)) rfl
  have hwt : wt ≤ 18446744073709551615 := h.wnt
  have h3 : ¬ (q : Int) < (wt : Int) := by have : ¬ q < wt := h1; omega
  have h5 : (8 : Int) ≤ (q : Int) - (wt : Int) := by have : 8 ≤ q - wt := h2; omega
  have h4 : IntKind.u64.wrap ((q : Int) - (wt : Int)) = (q : Int) - (wt : Int) := IntWalk.u64_in _ (by omega)
  clear h h1 h2
  go_enter Try.func23, Try.ntmps23
  go_wp2
  refine bodyPost_ret (results_none rfl _ _ _) rfl ?_
  exact ⟨rfl, rfl⟩
set_option maxRecDepth 100000 in
set_option maxHeartbeats 1000000 in
theorem keep_there (base : Nat) (W : World) (b m : Nat) (v : Value) (c : Nat) (s : Sc) (L : List Ls) (K : List Kr) (h : PL base W b m v c s L K) (q : Nat) (hq : q ≤ 18446744073709551615) (XA : Option Addr) (X : List UInt8) (xc : Nat) (h1 : ¬ q < s.want) (h2 : q - s.want < 8) (h3 : (fK K q).isSome = true) :
    Calls Try.prog 23 #[.pointer (some ⟨b, 0, none⟩), .int .u64 q, .slice XA X.length xc] W fun e W' => e = .returned (.tuple #[]) ∧ W = W' := by
  obtain ⟨es, cl, hm, hl⟩ := PL.look _ _ _ _ _ _ _ _ _ h q hq
  have hl := hl W hm
  rw [h3] at hl
  obtain ⟨mn, ml, pn, pl, ag, nx, wt, ow⟩ := s
  have c6 := cell_of h.lnk 6 (.int .u64 wt) rfl
  have c9 := cell_of h.lnk 9 (.map (some m)) rfl
  have hwt : wt ≤ 18446744073709551615 := h.wnt
  have h5 : ¬ (q : Int) < (wt : Int) := by have : ¬ q < wt := h1; omega
  have h6 : ¬ (8 : Int) ≤ (q : Int) - (wt : Int) := by have : q - wt < 8 := h2; omega
  have h4 : IntKind.u64.wrap ((q : Int) - (wt : Int)) = (q : Int) - (wt : Int) := IntWalk.u64_in _ (by omega)
  obtain ⟨kq, hkq⟩ : ∃ u, kv K q = u := ⟨_, rfl⟩
  rw [hkq] at hl
  clear h h1 h2 hm hkq
  go_enter Try.func23, Try.ntmps23
  go_wp2
  go_end0
  exact ⟨rfl, rfl⟩
set_option maxRecDepth 100000 in
set_option maxHeartbeats 2000000 in
theorem keep_new (base : Nat) (W : World) (b m : Nat) (v : Value) (c : Nat) (s : Sc) (L : List Ls) (K : List Kr) (h : PL base W b m v c s L K) (q : Nat) (hq : q ≤ 18446744073709551615) (XA : Option Addr) (X : List UInt8) (xc : Nat) (hx : BytesAt W W.heap.size XA X) (hxl : X.length ≤ 1000000) (hxc : X.length ≤ xc) (hxm : xc ≤ maxLen) (h1 : ¬ q < s.want) (h2 : q - s.want < 8) (h3 : fK K q = none) (hc : c < 1000000) :
    Calls Try.prog 23 #[.pointer (some ⟨b, 0, none⟩), .int .u64 q, .slice XA X.length xc] W fun e W' => e = .returned (.tuple #[]) ∧ ∃ x : Kr, x.seq = q ∧ x.b.B = X ∧ PL base W' b m v (c + 1) s L (K ++ [x]) ∧ KP (fun k => k = m) W W' := by
  obtain ⟨es, cl, hm, hl⟩ := PL.look _ _ _ _ _ _ _ _ _ h q hq
  have hl := hl W hm
  have hkv : kv K q = .slice none 0 0 := by unfold kv; rw [h3]
  rw [hkv, h3] at hl
  simp only [Option.isSome] at hl
  have HP := Lib.hid h
  have HF := Lib.hid h3
  have lnk := h.lnk
  obtain ⟨mn, ml, pn, pl, ag, nx, wt, ow⟩ := s
  simp only [Sc.cs] at lnk
  have c6 := cell_of lnk 6 (.int .u64 wt) rfl
  have c9 := cell_of lnk 9 (.map (some m)) rfl
  have hwt : wt ≤ 18446744073709551615 := h.wnt
  have h5 : ¬ (q : Int) < (wt : Int) := by have : ¬ q < wt := h1; omega
  have h6 : ¬ (8 : Int) ≤ (q : Int) - (wt : Int) := by have : q - wt < 8 := h2; omega
  have h4 : IntKind.u64.wrap ((q : Int) - (wt : Int)) = (q : Int) - (wt : Int) := IntWalk.u64_in _ (by omega)
  obtain ⟨W1, hW1⟩ : ∃ Y, W.drew = Y := ⟨_, rfl⟩
  have b1 : Below W.heap.size W W1 := by rw [← hW1]; exact (Below.refl _ _).drew
  have KC := Lib.hid (cloneB XA X xc W1 (hx.below b1 (Nat.le_refl _) b1.size) (by omega) hxc hxm)
  have l1 := (b1.block b (blt lnk)).trans lnk
  have B1 := Lib.hid b1
  have L1 := Lib.hid l1
  have HW1 := Lib.hid hW1
  have HXL := Lib.hid hxl
  have HC := Lib.hid hc
  have HQ := Lib.hid hq
  obtain ⟨xl, hxx⟩ : ∃ xl, X.length = xl := ⟨_, rfl⟩
  have HXX := Lib.hid hxx
  simp only [hxx] at KC ⊢
  clear h h1 h2 h3 hm hkv lnk hx hxl hxc hxm hc b1 l1 hW1 hxx hq
  go_enter Try.func23, Try.ntmps23
  go_wp2
  refine region_heldT (S := fun X => X.heap[b]? = some (.cells #[.int .u8 mn, .int .u16 ml, .int .u8 pn, .int .u16 pl, .int .i64 ag, .int .u64 nx, .int .u64 wt, v, .bool ow, .map (some m)] 64 (0, 0))) 7 (by kernel_rfl) (by decide) (fun inv => ?_)
  change FirstH _ _ _ _ _ _ _ _ _ _ W.drew
  rw [HW1.out]
  have HS := L1.out
  refine FirstH.go (i := 0) (v := .pointer (some ⟨b, 0, none⟩)) rfl rfl _ rfl _ rfl (by kernel_rfl) (fun _ _ _ h => h) inv (fun X _ => by unfold bareO; go_simp) HS (fun inv => ?_)
  try simp only [Act.put, List.setIfInBounds_toArray, List.set_cons_zero, List.set_cons_succ]
  refine FirstH.go (i := 1) (v := .pointer (some ⟨b, 0, none⟩)) rfl rfl _ rfl _ rfl (by kernel_rfl) (fun _ _ _ h => h) inv (fun X _ => by unfold bareO; go_simp) HS (fun inv => ?_)
  try simp only [Act.put, List.setIfInBounds_toArray, List.set_cons_zero, List.set_cons_succ]
  refine FirstH.go (i := 2) (v := .pointer (some ⟨b, 9, none⟩)) rfl rfl _ rfl _ rfl (by kernel_rfl) (fun _ _ _ h => h) inv (fun X _ => by unfold bareO; go_simp) HS (fun inv => ?_)
  try simp only [Act.put, List.setIfInBounds_toArray, List.set_cons_zero, List.set_cons_succ]
  refine FirstH.go (i := 3) (v := .map (some m)) rfl rfl _ rfl _ rfl (by kernel_rfl) (fun _ _ _ h => h) inv (fun X hS => by have c1 := cell_of hS 9 (.map (some m)) rfl; unfold bareO; go_simp) HS (fun inv => ?_)
  try simp only [Act.put, List.setIfInBounds_toArray, List.set_cons_zero, List.set_cons_succ]
  refine FirstH.go (i := 4) (v := .int .u64 q) rfl rfl _ rfl _ rfl (by kernel_rfl) (fun _ _ _ h => h) inv (fun X _ => by unfold bareO; go_simp) HS (fun inv => ?_)
  try simp only [Act.put, List.setIfInBounds_toArray, List.set_cons_zero, List.set_cons_succ]
  refine FirstH.go (i := 5) (v := .slice XA xl xc) rfl rfl _ rfl _ rfl (by kernel_rfl) (fun _ _ _ h => h) inv (fun X _ => by unfold bareO; go_simp) HS (fun inv => ?_)
  try simp only [Act.put, List.setIfInBounds_toArray, List.set_cons_zero, List.set_cons_succ]
  clear HS
  refine FirstH.only (i := 6) (by kernel_rfl) (by decide) inv (fun inv => wpOp_call (i := 6) rfl rfl 40 rfl _ rfl 21 #[.slice XA xl xc] (by unfold bareO; go_simp) KC.out ?_)
  rintro e W4 ⟨bv, rfl, bo, b4⟩
  have hxx := HXX.out
  subst hxx
  obtain ⟨bd, rfl, rfl, bok⟩ := Bd.of_own bo HXL.out
  have l4 := (b4.block b (blt L1.out)).trans L1.out
  refine ⟨_, rfl, l4, ?_⟩
  have B4 := Lib.hid (B1.out.trans (b4.mono B1.out.size))
  have P4 := HP.out.below B4.out
  obtain ⟨nn, D, hk, O, M⟩ := P4.map
  obtain ⟨W6, hrun, O6, hturn⟩ := O.store u64Keyed mapU (by have := HC.out; unfold maxLen; omega) (u64Key HQ.out) bok.elem
  have hg : KP (fun k => k = m) W4 W6 := KP.grown hturn.grown fun k e => (Option.some.inj e).symm
  have M6 := M.put O.isMap ⟨q, bd⟩ HQ.out (fK_none HF.out)
  have u4 : ∀ (g' : Nat) (cur : Array Value), W4.heap[g']? = some (.cells cur 5 (0, 0)) → ¬ (g' = m) := fun g' cur hg e => P4.u8 g' cur hg (Or.inr (Or.inl e))
  have F6 := Lib.hid (mapGrown (c' := c + 1) P4 hg ⟨nn + 1, _, by omega, O6, M6⟩ (fun y hy => by
    rcases List.mem_append.1 hy with hy | hy
    · exact (P4.okK y hy).keepK hg u4
    · obtain rfl : y = ⟨q, bd⟩ := by simpa using hy
      exact bok.keepK hg u4))
  have G6 := Lib.hid ((KP.of_below B4.out).trans hg fun _ _ h => h)
  have HR := Lib.hid hrun
  clear b4 bo l4 P4 O M O6 hturn hg M6 u4 hrun bok
  unfold Bd.v at HR ⊢
  try simp only [Act.put, List.setIfInBounds_toArray, List.set_cons_zero, List.set_cons_succ]
  refine ⟨by kernel_rfl, ?_⟩
  simp only [List.drop_succ_cons, List.drop_zero]
  have hr := HR.out
  go_wp2
  go_end0
  exact ⟨rfl, ⟨q, bd⟩, rfl, rfl, F6.out, G6.out⟩

end Go.Proofs.Ytnagbiicpecamaa
