/-
  The program's come: by an exact answer. Condition: the link lies in memory.
-/
import Derived.Test.YtnagbiicpecamaaJaf
import Derived.Deep.LoopGhost
namespace Go.Proofs.Ytnagbiicpecamaa
set_option linter.unusedSimpArgs false
set_option linter.unusedVariables false
open Go.RowKit Go.Maps Go.Sort

theorem bdsI : (Try.prog.info? 44).map (fun i => (i.zero, i.size, i.bytes)) = some (some (.slice none 0 0), 1, 24) := by kernel_rfl
theorem wpList_appBd {w : World} {ops : Array Oper} {rest : List Oper} {o : Oper} {a : Act} {Q : Exit → Act → World → Prop} (hgd : o.guard = none) (d : Tmp) (hd : o.dst = some d) (s xo : Operand)
    (ho : o.op = .call { callee := .builtin .append, args := #[s, xo], argTypes := #[51, 51] })
    (base : Nat) (v : Value) (n : Nat) (xs : List Value) (hs : a.eval s = v) (hown : w.ownsRow base 44 1 v n xs)
    (g : Nat) (cs : Array Value) (c : Nat) (hz : cs.size = 1) (h1 : ∀ u ∈ cs.toList, u.oneCell' = true) (hx : a.eval xo = .slice (some ⟨g, 0, none⟩) 1 c) (hr : w.heap[g]? = some (.cells cs 44 (0, 0)))
    (hlen : n ≤ 100000) (hbase : base ≤ w.heap.size)
    (h : ∀ v' w', w'.ownsRow base 44 1 v' (n + 1) (xs ++ cs.toList) → w.grownBy w' v.ownBlock → wpList Try.prog ops Q rest (a.put (some d) v') w') : wpList Try.prog ops Q (o :: rest) a w := by
  rw [← hd] at h
  obtain ⟨i0, hi0, hz0, hz1, hz2⟩ := info_parts bdsI
  refine wpList_append_own w hgd s xo 51 ho base 44 i0 _ 1 24 Try.underlying51 hi0 hz0 hz1 hz2 rfl (by decide) v n xs hs hown ⟨g, 0, none⟩ 1 c cs.toList hx (by simp [hz]) (fun j u hu => ?_) h1
    (by unfold maxLen; omega) (by omega) hbase fun v' w' h2 h3 _ => h v' w' h2 h3
  rw [addr_add, Nat.zero_add, cell_of_row _ _ j _ _ _ hr]
  simpa using hu

/-- the next number. -/
def inc (w : Nat) : Nat := (w + 1) % 18446744073709551616
theorem inc_le (w : Nat) : inc w ≤ 18446744073709551615 := by unfold inc; omega
theorem inc_wrap (w : Nat) : IntKind.u64.wrap ((w : Int) + 1) = ((inc w : Nat) : Int) := by
  simp only [IntKind.wrap_u64, inc]
  omega
/-- what comes from a number on. -/
def comeF : Nat → List Kr → Nat → List Kr × Nat × List Kr
  | 0, K, w => (K, w, [])
  | f + 1, K, w => match fK K w with
    | none => (K, w, [])
    | some x => ((comeF f (outN K w) (inc w)).1, (comeF f (outN K w) (inc w)).2.1, x :: (comeF f (outN K w) (inc w)).2.2)
theorem comeF_none {f : Nat} {K : List Kr} {w : Nat} (h : fK K w = none) : comeF f K w = (K, w, []) := by
  cases f with
  | zero => rfl
  | succ f => simp [comeF, h]
theorem comeF_some {f : Nat} {K : List Kr} {w : Nat} {x : Kr} (h : fK K w = some x) : comeF (f + 1) K w = ((comeF f (outN K w) (inc w)).1, (comeF f (outN K w) (inc w)).2.1, x :: (comeF f (outN K w) (inc w)).2.2) := by simp [comeF, h]
theorem outN_len {K : List Kr} (h : K.Pairwise fun x y => x.seq ≠ y.seq) {x : Kr} (hx : x ∈ K) : (outN K x.seq).length + 1 = K.length := by
  induction K with
  | nil => cases hx
  | cons a K ih =>
    obtain ⟨h1, h2⟩ := List.pairwise_cons.1 h
    rcases List.mem_cons.1 hx with rfl | hx
    · have e : outN (x :: K) x.seq = K := by
        unfold outN
        rw [List.filter_cons]
        simp
        intro y hy e
        exact h1 y hy e.symm
      rw [e]
      simp
    · have hne := h1 x hx
      have e : outN (a :: K) x.seq = a :: outN K x.seq := by
        unfold outN
        rw [List.filter_cons]
        simp [hne]
      rw [e, List.length_cons, List.length_cons, ih h2 hx]
def bvs (D : List Kr) : List Value := D.map fun x => x.b.v
theorem bvs_one (x : Kr) : (Value.slice x.b.A x.b.B.length x.b.c).oneCell' = true := rfl
/-- while it comes. -/
structure ComeJ (base : Nat) (W : World) (b m : Nat) (v : Value) (c : Nat) (s : Sc) (L : List Ls) (K : List Kr) (w : Nat) (K' : List Kr) (D : List Kr) (dv : Value) (wr : World) : Prop where
  pl : PL base wr b m v c { s with want := w } L K'
  row : wr.ownsRow W.heap.size 44 1 dv D.length (bvs D)
  ok : ∀ x ∈ D, x.b.Ok wr
  kp : KP (fun k => k = b ∨ k = m) W wr
  eq : comeF K.length K s.want = ((comeF K'.length K' w).1, (comeF K'.length K' w).2.1, D ++ (comeF K'.length K' w).2.2)
  le : D.length + K'.length ≤ K.length
def ComeR (base : Nat) (W : World) (b m : Nat) (v : Value) (c : Nat) (s : Sc) (L : List Ls) (K : List Kr) (e : Ending) (W' : World) : Prop :=
  ∃ dv, e = .returned dv ∧ W'.ownsRow W.heap.size 44 1 dv (comeF K.length K s.want).2.2.length (bvs (comeF K.length K s.want).2.2) ∧ (∀ x ∈ (comeF K.length K s.want).2.2, x.b.Ok W') ∧ PL base W' b m v c { s with want := (comeF K.length K s.want).2.1 } L (comeF K.length K s.want).1 ∧ KP (fun k => k = b ∨ k = m) W W'
theorem ComeJ.fin {base : Nat} {W : World} {b m : Nat} {v : Value} {c : Nat} {s : Sc} {L : List Ls} {K : List Kr} {w : Nat} {K' D : List Kr} {dv : Value} {wr wz : World} (h : ComeJ base W b m v c s L K w K' D dv wr) (hf : fK K' w = none) (b1 : Below wr.heap.size wr wz) : ComeR base W b m v c s L K (.returned dv) wz := by
  have e := h.eq
  rw [comeF_none hf] at e
  unfold ComeR
  rw [e]
  simp only [List.append_nil]
  exact ⟨dv, rfl, owns_keepB h.row fun g hg => b1.block g (h.row.lt g hg).2, fun x hx => (h.ok x hx).below b1, h.pl.below b1, h.kp.trans (KP.of_below b1) fun _ _ h => h⟩
/-- one that has come: the map, and then the number. -/
theorem ComeJ.step {base : Nat} {W : World} {b m : Nat} {v : Value} {c : Nat} {s : Sc} {L : List Ls} {K : List Kr} {w : Nat} {K' D : List Kr} {dv dv' : Value} {wr w1 w2 w3 w4 : World} {x : Kr} (h : ComeJ base W b m v c s L K w K' D dv wr) (hf : fK K' w = some x) (b1 : Below wr.heap.size wr w1)
    (hm : ∃ (nn : Nat) (D : DataW Unit), nn ≤ c ∧ w2.ownsMap Try.prog 22 bdElem m nn D ∧ MapK D (outN K' w)) (k2 : KP (fun k => k = m) w1 w2) (b3 : Below w2.heap.size w2 w3) (row : w4.ownsRow W.heap.size 44 1 dv' (D.length + 1) (bvs D ++ [x.b.v])) (k4 : KP (fun k => dv.ownBlock = some k) w3 w4) (wF : World) (hwF : w4.setCell ⟨b, 6, none⟩ (.int .u64 (inc w)) = wF) :
    ComeJ base W b m v c s L K (inc w) (outN K' w) (D ++ [x]) dv' wF := by
  obtain ⟨hx, hxw⟩ := fK_some hf
  have p1 := h.pl.below b1
  have hap : K'.Pairwise fun x y => x.seq ≠ y.seq := by
    obtain ⟨_, _, _, _, M⟩ := h.pl.map
    exact M.apart
  have u1 : ∀ (g' : Nat) (cur : Array Value), w1.heap[g']? = some (.cells cur 5 (0, 0)) → ¬ (g' = m) := fun g' cur hg e => p1.u8 g' cur hg (Or.inr (Or.inl e))
  have p2 : PL base w2 b m v c { s with want := w } L (outN K' w) := mapGrown p1 k2 hm fun y hy => (p1.okK y (mem_outN.1 hy).1).keepK k2 u1
  have p3 := p2.below b3
  have hdv : ∀ g, dv.ownBlock = some g → W.heap.size ≤ g ∧ g < wr.heap.size := fun g hg => h.row.lt g hg
  have hrow3 : w3.ownsRow W.heap.size 44 1 dv D.length (bvs D) := by
    have r1 := owns_keepB h.row fun g hg => b1.block g (h.row.lt g hg).2
    have r2 := owns_keepB r1 fun g hg => k2.block g (r1.lt g hg).2 (by
      obtain ⟨cu, hcu⟩ := row_block r1 hg
      obtain ⟨es, cl, hmm⟩ := p1.ml
      rintro rfl
      rw [hmm] at hcu
      cases hcu)
    exact owns_keepB r2 fun g hg => b3.block g (r2.lt g hg).2
  have hne : ∀ (k : Nat) (cu : Array Value) (t : TypeId), w3.heap[k]? = some (.cells cu t (0, 0)) → t ≠ 44 → ¬ (dv.ownBlock = some k) := fun k cu t hk ht e => by
    obtain ⟨c2, h2⟩ := row_block hrow3 e
    exact apart_of hk h2 ht rfl
  have u3 : ∀ (g' : Nat) (cur : Array Value), w3.heap[g']? = some (.cells cur 5 (0, 0)) → ¬ (dv.ownBlock = some g') := fun g' cu hc => hne g' _ _ hc (by decide)
  have p4 : PL base w4 b m v c { s with want := w } L (outN K' w) := p3.keepK k4 (hne b _ _ p3.lnk (by decide)) (fun e => by
    obtain ⟨es, cl, hmm⟩ := p3.ml
    obtain ⟨c2, h2⟩ := row_block hrow3 e
    rw [hmm] at h2
    cases h2) (fun g' hg => by
    obtain ⟨c2, h2⟩ := p3.row.block g' hg
    exact hne g' _ _ h2 (by decide)) u3
  have kF : KP (fun k => k = b) w4 wF := by rw [← hwF]; exact KP.set (S := fun k => k = b) w4 b 6 _ rfl
  have pF : PL base wF b m v c { s with want := inc w } L (outN K' w) := p4.num kF (by rw [← hwF]; exact (row_set p4.lnk _).trans rfl) rfl rfl (inc_le w)
  have hbd : ∀ y : Kr, y.b.Ok wr → y.b.Ok wF := fun y hy => ((((hy.below b1).keepK k2 u1).below b3).keepK k4 u3).keepK kF fun g' cur hg e => p4.u8 g' cur hg (Or.inl e)
  have hlen := outN_len hap hx
  rw [hxw] at hlen
  refine ⟨pF, ?_, fun y hy => ?_, ?_, ?_, ?_⟩
  · rw [List.length_append]
    have e : bvs (D ++ [x]) = bvs D ++ [x.b.v] := by simp [bvs]
    rw [e]
    refine owns_keepB row fun g hg => kF.block g (row.lt g hg).2 ?_
    obtain ⟨cu, hcu⟩ := row_block row hg
    exact apart_of hcu p4.lnk (by decide)
  · rcases List.mem_append.1 hy with hy | hy
    · exact hbd y (h.ok y hy)
    · obtain rfl : y = x := by simpa using hy
      exact hbd y (h.pl.okK y hx)
  · have k01 := h.kp.trans (KP.of_below (S := fun k => k = b ∨ k = m) b1) fun _ _ h => h
    have k02 := k01.trans k2 fun k _ hk => Or.inr hk
    have k03 := k02.trans (KP.of_below (S := fun k => k = b ∨ k = m) b3) fun _ _ h => h
    have k04 := k03.trans k4 fun k hk hp => absurd (hdv k hp).1 (by omega)
    exact k04.trans kF fun k _ hk => Or.inl hk
  · obtain ⟨f, hf'⟩ : ∃ f, K'.length = f + 1 := ⟨(outN K' w).length, hlen.symm⟩
    have e := h.eq
    rw [hf', comeF_some hf] at e
    have e2 : (outN K' w).length = f := by omega
    rw [e, e2]
    simp
  · rw [List.length_append]
    have := h.le
    simp
    omega

set_option maxRecDepth 100000 in
set_option maxHeartbeats 4000000 in
theorem comeW (base : Nat) (W : World) (b m : Nat) (v : Value) (c : Nat) (s : Sc) (L : List Ls) (K : List Kr) (h : PL base W b m v c s L K) (hK : K.length ≤ 100000) :
    Calls Try.prog 24 #[.pointer (some ⟨b, 0, none⟩)] W fun e W' => ComeR base W b m v c s L K e W' := by
  have J0 : Hid (ComeJ base W b m v c s L K s.want K [] (.slice none 0 0) W) := Lib.hid ⟨h, World.ownsRow_nil _ _ _ _, fun _ hx => (by cases hx), KP.refl _ _, by simp, by simp⟩
  obtain ⟨A, cp, hv, _, _, _⟩ := h.row.slice
  obtain ⟨mn, ml, pn, pl, ag, nx, wt, ow⟩ := s
  have HK := Lib.hid hK
  clear h hv hK
  go_enter Try.func24, Try.ntmps24
  go_wp2_with fail
  go_loopg [3] K.length (fun gk dv wr => ∃ (w : Nat) (K' D : List Kr), K'.length = gk ∧ Hid (ComeJ base W b m v c ⟨mn, ml, pn, pl, ag, nx, wt, ow⟩ L K w K' D dv wr))
  case atStart => exact ⟨wt, K, [], rfl, J0⟩
  case round =>
    obtain ⟨wt', K', D, hgk, J⟩ := hrel
    clear J0
    have lnk := J.out.pl.lnk
    simp only [Sc.cs] at lnk
    obtain ⟨w1, hw1⟩ : ∃ Y, wr.drew = Y := ⟨_, rfl⟩
    have b1 : Below wr.heap.size wr w1 := by rw [← hw1]; exact (Below.refl _ _).drew
    have p1 := J.out.pl.below b1
    obtain ⟨es, cl, hm, hl⟩ := PL.look _ _ _ _ _ _ _ _ _ p1 wt' p1.wnt
    have l1 := (b1.block b (blt lnk)).trans lnk
    have HL := Lib.hid hl
    have HW1 := Lib.hid hw1
    have B1' := Lib.hid b1
    have P1 := Lib.hid p1
    have HH : Hid (w1.heap[b]? = some (.cells #[.int .u8 mn, .int .u16 ml, .int .u8 pn, .int .u16 pl, .int .i64 ag, .int .u64 nx, .int .u64 wt', v, .bool ow, .map (some m)] 64 (0, 0)) ∧ w1.heap[m]? = some (.map es cl)) := Lib.hid ⟨l1, hm⟩
    have HGK := Lib.hid hgk
    obtain ⟨kq, hkq⟩ : ∃ u, kv K' wt' = u := ⟨_, rfl⟩
    rw [hkq] at HL
    obtain ⟨kb, hkb⟩ : ∃ u, (fK K' wt').isSome = u := ⟨_, rfl⟩
    rw [hkb] at HL
    have HKQ := Lib.hid hkq
    have HKB := Lib.hid hkb
    clear hw1 b1 p1 hm hl l1 lnk hgk hkq hkb
    go_wp2
    refine region_heldT (S := fun X => X.heap[b]? = some (.cells #[.int .u8 mn, .int .u16 ml, .int .u8 pn, .int .u16 pl, .int .i64 ag, .int .u64 nx, .int .u64 wt', v, .bool ow, .map (some m)] 64 (0, 0)) ∧ X.heap[m]? = some (.map es cl)) 13 (by kernel_rfl) (by decide) (fun inv => ?_)
    change FirstH _ _ _ _ _ _ _ _ _ _ wr.drew
    rw [HW1.out]
    have HS := HH.out
    refine FirstH.go (i := 0) (v := .pointer (some ⟨b, 0, none⟩)) rfl rfl _ rfl _ rfl (by kernel_rfl) (fun _ _ _ h => h) inv (fun X _ => by unfold bareO; go_simp) HS (fun inv => ?_)
    try simp only [Act.put, List.setIfInBounds_toArray, List.set_cons_zero, List.set_cons_succ]
    refine FirstH.go (i := 1) (v := .pointer (some ⟨b, 0, none⟩)) rfl rfl _ rfl _ rfl (by kernel_rfl) (fun _ _ _ h => h) inv (fun X _ => by unfold bareO; go_simp) HS (fun inv => ?_)
    try simp only [Act.put, List.setIfInBounds_toArray, List.set_cons_zero, List.set_cons_succ]
    refine FirstH.go (i := 2) (v := .pointer (some ⟨b, 9, none⟩)) rfl rfl _ rfl _ rfl (by kernel_rfl) (fun _ _ _ h => h) inv (fun X _ => by unfold bareO; go_simp) HS (fun inv => ?_)
    try simp only [Act.put, List.setIfInBounds_toArray, List.set_cons_zero, List.set_cons_succ]
    refine FirstH.go (i := 3) (v := .map (some m)) rfl rfl _ rfl _ rfl (by kernel_rfl) (fun _ _ _ h => h) inv (fun X hS => by have c1 := cell_of hS.1 9 (.map (some m)) rfl; unfold bareO; go_simp) HS (fun inv => ?_)
    try simp only [Act.put, List.setIfInBounds_toArray, List.set_cons_zero, List.set_cons_succ]
    refine FirstH.go (i := 4) (v := .pointer (some ⟨b, 0, none⟩)) rfl rfl _ rfl _ rfl (by kernel_rfl) (fun _ _ _ h => h) inv (fun X _ => by unfold bareO; go_simp) HS (fun inv => ?_)
    try simp only [Act.put, List.setIfInBounds_toArray, List.set_cons_zero, List.set_cons_succ]
    refine FirstH.go (i := 5) (v := .pointer (some ⟨b, 0, none⟩)) rfl rfl _ rfl _ rfl (by kernel_rfl) (fun _ _ _ h => h) inv (fun X _ => by unfold bareO; go_simp) HS (fun inv => ?_)
    try simp only [Act.put, List.setIfInBounds_toArray, List.set_cons_zero, List.set_cons_succ]
    refine FirstH.go (i := 6) (v := .pointer (some ⟨b, 6, none⟩)) rfl rfl _ rfl _ rfl (by kernel_rfl) (fun _ _ _ h => h) inv (fun X _ => by unfold bareO; go_simp) HS (fun inv => ?_)
    try simp only [Act.put, List.setIfInBounds_toArray, List.set_cons_zero, List.set_cons_succ]
    refine FirstH.go (i := 7) (v := .int .u64 wt') rfl rfl _ rfl _ rfl (by kernel_rfl) (fun _ _ _ h => h) inv (fun X hS => by have c1 := cell_of hS.1 6 (.int .u64 wt') rfl; unfold bareO; go_simp) HS (fun inv => ?_)
    try simp only [Act.put, List.setIfInBounds_toArray, List.set_cons_zero, List.set_cons_succ]
    refine FirstH.go (i := 8) (v := .tuple #[kq, .bool kb]) rfl rfl _ rfl _ rfl (by kernel_rfl) (fun _ _ _ h => h) inv (fun X hS => by have hl := HL.out X hS.2; unfold bareO; go_simp) HS (fun inv => ?_)
    try simp only [Act.put, List.setIfInBounds_toArray, List.set_cons_zero, List.set_cons_succ]
    refine FirstH.go (i := 9) (v := .tuple #[kq, .bool kb]) rfl rfl _ rfl _ rfl (by kernel_rfl) (fun _ _ _ h => h) inv (fun X _ => by unfold bareO; go_simp) HS (fun inv => ?_)
    try simp only [Act.put, List.setIfInBounds_toArray, List.set_cons_zero, List.set_cons_succ]
    refine FirstH.go (i := 10) (v := kq) rfl rfl _ rfl _ rfl (by kernel_rfl) (fun _ _ _ h => h) inv (fun X _ => by unfold bareO; go_simp) HS (fun inv => ?_)
    try simp only [Act.put, List.setIfInBounds_toArray, List.set_cons_zero, List.set_cons_succ]
    refine FirstH.go (i := 11) (v := .bool kb) rfl rfl _ rfl _ rfl (by kernel_rfl) (fun _ _ _ h => h) inv (fun X _ => by unfold bareO; go_simp) HS (fun inv => ?_)
    try simp only [Act.put, List.setIfInBounds_toArray, List.set_cons_zero, List.set_cons_succ]
    refine FirstH.go (i := 12) (v := kq) rfl rfl _ rfl _ rfl (by kernel_rfl) (fun _ _ _ h => h) inv (fun X _ => by unfold bareO; go_simp) HS (fun inv => ?_)
    try simp only [Act.put, List.setIfInBounds_toArray, List.set_cons_zero, List.set_cons_succ]
    clear HS
    refine ⟨by kernel_rfl, ?_⟩
    simp only [List.drop_succ_cons, List.drop_zero]
    cases kb with
    | false =>
      go_wp2
      go_ret
      exact J.out.fin (by have := HKB.out; simpa using this) B1'.out
    | true =>
      obtain ⟨x, hx⟩ : ∃ x, fK K' wt' = some x := Option.isSome_iff_exists.1 HKB.out
      have hkq : kq = .slice x.b.A x.b.B.length x.b.c := by
        rw [← HKQ.out]
        unfold kv
        rw [hx]
        rfl
      subst hkq
      have HX := Lib.hid hx
      obtain ⟨xa, hxa⟩ : ∃ u, x.b.A = u := ⟨_, rfl⟩
      obtain ⟨xl, hxl⟩ : ∃ u, x.b.B.length = u := ⟨_, rfl⟩
      obtain ⟨xc, hxc⟩ : ∃ u, x.b.c = u := ⟨_, rfl⟩
      have hv3 : x.b.v = .slice xa xl xc := by unfold Bd.v; rw [hxa, hxl, hxc]
      have HV := Lib.hid hv3
      rw [hxa, hxl, hxc]
      clear hx inv HL hxa hxl hxc hv3
      go_wp2_with fail
      obtain ⟨w2, hw2⟩ : ∃ Y, w1.drew = Y := ⟨_, rfl⟩
      have b2 : Below w1.heap.size w1 w2 := by rw [← hw2]; exact (Below.refl _ _).drew
      have B2 := Lib.hid (B1'.out.trans (b2.mono B1'.out.size))
      have p2 := P1.out.below b2
      have h2 : w2.heap[b]? = some (.cells #[.int .u8 mn, .int .u16 ml, .int .u8 pn, .int .u16 pl, .int .i64 ag, .int .u64 nx, .int .u64 wt', v, .bool ow, .map (some m)] 64 (0, 0)) := (b2.block b (blt HH.out.1)).trans HH.out.1
      obtain ⟨nn, D', hk, O, M⟩ := p2.map
      obtain ⟨w6, hrun, O6, hturn⟩ := O.drop u64Keyed mapU (u64Key (n := wt') p2.wnt) 0
      have k6 : KP (fun k => k = m) w2 w6 := KP.grown hturn.grown fun k e => (Option.some.inj e).symm
      have M6 := M.del wt'
      have hmap : Hid (∃ (nn : Nat) (D : DataW Unit), nn ≤ c ∧ w6.ownsMap Try.prog 22 bdElem m nn D ∧ MapK D (outN K' wt')) := Lib.hid ⟨nn, _, hk, O6, M6⟩
      have h6 : w6.heap[b]? = some (.cells #[.int .u8 mn, .int .u16 ml, .int .u8 pn, .int .u16 pl, .int .i64 ag, .int .u64 nx, .int .u64 wt', v, .bool ow, .map (some m)] 64 (0, 0)) := (k6.block b (blt h2) p2.ne_bm).trans h2
      obtain ⟨w7, hw7⟩ : ∃ Y, w6.alloc (.cells #[.slice xa xl xc] 44) = Y := ⟨_, rfl⟩
      have r7 : w7.heap[w6.heap.size]? = some (.cells #[.slice xa xl xc] 44 (0, 0)) := by rw [← hw7]; exact heap_alloc_new _ _
      have b7 : Below w6.heap.size w6 w7 := by rw [← hw7]; exact (Below.refl _ _).alloc (Nat.le_refl _) _
      have h7 := (b7.block b (blt h6)).trans h6
      have row7 : w7.ownsRow W.heap.size 44 1 u3 D.length (bvs D) := by
        have r1 := owns_keepB J.out.row fun g hg => B2.out.block g (J.out.row.lt g hg).2
        have r2 := owns_keepB r1 fun g hg => k6.block g (r1.lt g hg).2 (by
          obtain ⟨cu, hcu⟩ := row_block r1 hg
          obtain ⟨es, cl, hmm⟩ := p2.ml
          rintro rfl
          rw [hmm] at hcu
          cases hcu)
        exact owns_keepB r2 fun g hg => b7.block g (r2.lt g hg).2
      have hbase : W.heap.size ≤ w7.heap.size := Nat.le_trans J.out.kp.size (Nat.le_trans B2.out.size (Nat.le_trans k6.size b7.size))
      have hdl : Hid (D.length ≤ 100000) := Lib.hid (by have := J.out.le; have := HK.out; omega)
      have c1 := cell_of h7 6 (.int .u64 wt') rfl
      have z1 := frz_row 6 h7
      have HW2 := Lib.hid hw2
      have HR := Lib.hid hrun
      have K6 := Lib.hid k6
      have HW7 := Lib.hid hw7
      have R7 := Lib.hid r7
      have B7 := Lib.hid b7
      have H2 := Lib.hid h2
      have H7 := Lib.hid h7
      have ROW7 := Lib.hid row7
      have HB := Lib.hid hbase
      have HNB := Lib.hid p2.ne_bm
      clear hw2 b2 p2 h2 O M hrun O6 hturn k6 M6 h6 hw7 r7 b7 h7 row7 hbase hk
      refine region_heldT (S := fun X => X.heap[b]? = some (.cells #[.int .u8 mn, .int .u16 ml, .int .u8 pn, .int .u16 pl, .int .i64 ag, .int .u64 nx, .int .u64 wt', v, .bool ow, .map (some m)] 64 (0, 0))) 8 (by kernel_rfl) (by decide) (fun inv => ?_)
      change FirstH _ _ _ _ _ _ _ _ _ _ w1.drew
      rw [HW2.out]
      have HS := H2.out
      refine FirstH.go (i := 0) (v := .pointer (some ⟨b, 0, none⟩)) rfl rfl _ rfl _ rfl (by kernel_rfl) (fun _ _ _ h => h) inv (fun X _ => by unfold bareO; go_simp) HS (fun inv => ?_)
      try simp only [Act.put, List.setIfInBounds_toArray, List.set_cons_zero, List.set_cons_succ]
      refine FirstH.go (i := 1) (v := .pointer (some ⟨b, 0, none⟩)) rfl rfl _ rfl _ rfl (by kernel_rfl) (fun _ _ _ h => h) inv (fun X _ => by unfold bareO; go_simp) HS (fun inv => ?_)
      try simp only [Act.put, List.setIfInBounds_toArray, List.set_cons_zero, List.set_cons_succ]
      refine FirstH.go (i := 2) (v := .pointer (some ⟨b, 9, none⟩)) rfl rfl _ rfl _ rfl (by kernel_rfl) (fun _ _ _ h => h) inv (fun X _ => by unfold bareO; go_simp) HS (fun inv => ?_)
      try simp only [Act.put, List.setIfInBounds_toArray, List.set_cons_zero, List.set_cons_succ]
      refine FirstH.go (i := 3) (v := .map (some m)) rfl rfl _ rfl _ rfl (by kernel_rfl) (fun _ _ _ h => h) inv (fun X hS => by have c1 := cell_of hS 9 (.map (some m)) rfl; unfold bareO; go_simp) HS (fun inv => ?_)
      try simp only [Act.put, List.setIfInBounds_toArray, List.set_cons_zero, List.set_cons_succ]
      refine FirstH.go (i := 4) (v := .pointer (some ⟨b, 0, none⟩)) rfl rfl _ rfl _ rfl (by kernel_rfl) (fun _ _ _ h => h) inv (fun X _ => by unfold bareO; go_simp) HS (fun inv => ?_)
      try simp only [Act.put, List.setIfInBounds_toArray, List.set_cons_zero, List.set_cons_succ]
      refine FirstH.go (i := 5) (v := .pointer (some ⟨b, 0, none⟩)) rfl rfl _ rfl _ rfl (by kernel_rfl) (fun _ _ _ h => h) inv (fun X _ => by unfold bareO; go_simp) HS (fun inv => ?_)
      try simp only [Act.put, List.setIfInBounds_toArray, List.set_cons_zero, List.set_cons_succ]
      refine FirstH.go (i := 6) (v := .pointer (some ⟨b, 6, none⟩)) rfl rfl _ rfl _ rfl (by kernel_rfl) (fun _ _ _ h => h) inv (fun X _ => by unfold bareO; go_simp) HS (fun inv => ?_)
      try simp only [Act.put, List.setIfInBounds_toArray, List.set_cons_zero, List.set_cons_succ]
      refine FirstH.go (i := 7) (v := .int .u64 wt') rfl rfl _ rfl _ rfl (by kernel_rfl) (fun _ _ _ h => h) inv (fun X hS => by have c1 := cell_of hS 6 (.int .u64 wt') rfl; unfold bareO; go_simp) HS (fun inv => ?_)
      try simp only [Act.put, List.setIfInBounds_toArray, List.set_cons_zero, List.set_cons_succ]
      clear HS
      refine ⟨by kernel_rfl, ?_⟩
      simp only [List.drop_succ_cons, List.drop_zero]
      have hr := HR.out
      have hwi := inc_wrap wt'
      go_wp2_with (first
        | (rw [HW7.out])
        | (refine wpList_appBd rfl 32 rfl (.tmp 29) (.tmp 31) rfl W.heap.size u3 D.length _ rfl ROW7.out w6.heap.size #[.slice xa xl xc] 1 rfl (by simp [Value.oneCell']) rfl R7.out hdl.out HB.out ?_
           intro v' w9 O9 g9
           have k9 : KP (fun k => u3.ownBlock = some k) w7 w9 := KP.grown g9 fun k hk => hk
           have h9 : w9.heap[b]? = some (.cells #[.int .u8 mn, .int .u16 ml, .int .u8 pn, .int .u16 pl, .int .i64 ag, .int .u64 nx, .int .u64 wt', v, .bool ow, .map (some m)] 64 (0, 0)) := (k9.block b (blt H7.out) (fun e => by
             obtain ⟨cu, hcu⟩ := row_block ROW7.out e
             exact apart_of H7.out hcu (by decide) rfl)).trans H7.out
           have c1 := cell_of h9 6 (.int .u64 wt') rfl
           have z1 := frz_row 6 h9
           have O9' := Lib.hid O9
           have K9 := Lib.hid k9
           clear O9 g9 k9 h9))
      have hlen : (outN K' wt').length + 1 = K'.length := by
        obtain ⟨hx1, hx2⟩ := fK_some HX.out
        obtain ⟨_, _, _, _, M⟩ := J.out.pl.map
        have := outN_len M.apart hx1
        rw [hx2] at this
        exact this
      go_roundg (outN K' wt').length
      case measure => have := HGK.out; omega
      case rel =>
        refine ⟨inc wt', outN K' wt', D ++ [x], rfl, Lib.hid (J.out.step HX.out B2.out hmap.out K6.out B7.out ?_ K9.out _ rfl)⟩
        have := O9'.out
        rw [HV.out]
        exact this

end Go.Proofs.Ytnagbiicpecamaa
