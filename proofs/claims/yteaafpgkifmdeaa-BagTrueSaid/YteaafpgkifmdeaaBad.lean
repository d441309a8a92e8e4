/-
  A parcel put behind the others of the program's list: by exact answers. Condition: the bag lies in memory.
-/
import Derived.Test.YteaafpgkifmdeaaBfi
namespace Go.Proofs.Yteaafpgkifmdeaa
set_option linter.unusedSimpArgs false
set_option linter.unusedVariables false
open Go.RowKit Go.Sort

/-- all blocks but those of S lie as they lay. -/
structure KP (S : Nat → Prop) (W W' : World) : Prop where
  os : W'.os = W.os
  tape : W'.tape = W.tape
  output : W'.output = W.output
  size : W.heap.size ≤ W'.heap.size
  block : ∀ k, k < W.heap.size → ¬ S k → W'.heap[k]? = W.heap[k]?
theorem KP.of_below {S : Nat → Prop} {W W' : World} (h : Below W.heap.size W W') : KP S W W' := ⟨h.os, h.tape, h.output, h.size, fun k hk _ => h.block k hk⟩
theorem KP.refl (S : Nat → Prop) (W : World) : KP S W W := ⟨rfl, rfl, rfl, Nat.le_refl _, fun _ _ _ => rfl⟩
theorem KP.trans {S T : Nat → Prop} {W W' X : World} (h : KP S W W') (k : KP T W' X) (hT : ∀ i, i < W.heap.size → T i → S i) : KP S W X :=
  ⟨k.os.trans h.os, k.tape.trans h.tape, k.output.trans h.output, Nat.le_trans h.size k.size, fun i hi hn => (k.block i (Nat.lt_of_lt_of_le hi h.size) (fun ht => hn (hT i hi ht))).trans (h.block i hi hn)⟩
theorem KP.mono {S T : Nat → Prop} {W W' : World} (h : KP S W W') (hT : ∀ i, S i → T i) : KP T W W' := ⟨h.os, h.tape, h.output, h.size, fun i hi hn => h.block i hi fun hs => hn (hT i hs)⟩
theorem KP.below {S : Nat → Prop} {W W' : World} {base : Nat} (h : KP S W W') (hb : base ≤ W.heap.size) (hS : ∀ k, S k → base ≤ k) : Below base W W' :=
  ⟨h.os, h.tape, h.output, h.size, fun k hk => h.block k (by omega) fun hs => by have := hS k hs; omega⟩
theorem KP.set {S : Nat → Prop} (W : World) (b i : Nat) (v : Value) (hb : S b) : KP S W (W.setCell ⟨b, i, none⟩ v) :=
  ⟨rfl, rfl, rfl, by simp [World.setCell], fun k _ hn => Below.heap_setCell W _ v k (fun e => hn (by have : k = b := e; rw [this]; exact hb))⟩
theorem KP.setRow {S : Nat → Prop} (W : World) (b : Nat) (cs : Array Value) (hb : S b) : KP S W (W.setRow b cs) :=
  ⟨rfl, rfl, rfl, by simp [World.setRow], fun k _ hn => setRow_other W b k cs (fun e => hn (by rw [e]; exact hb))⟩
theorem KP.grown {S : Nat → Prop} {W W' : World} {row : Option Nat} (hg : W.grownBy W' row) (hr : ∀ k, row = some k → S k) : KP S W W' :=
  ⟨hg.os, hg.tape, hg.output, hg.size, fun k hk hn => hg.block k hk fun e => hn (hr k e.symm)⟩
theorem apart_of {W : World} {k j : Nat} {c d : Array Value} {t u : TypeId} {f g : Nat × Nat} (h : W.heap[k]? = some (.cells c t f)) (h' : W.heap[j]? = some (.cells d u g)) (hne : t ≠ u) : k ≠ j := fun e => by
  subst e
  rw [h] at h'
  injection h' with h'
  injection h' with h1 h2 h3
  exact hne h2
theorem row_block {W : World} {base : Nat} {e : TypeId} {s : Nat} {v : Value} {n : Nat} {xs : List Value} (h : W.ownsRow base e s v n xs) {g : Nat} (hg : v.ownBlock = some g) : ∃ cur, W.heap[g]? = some (.cells cur e (0, 0)) := by
  rcases h.2 with ⟨rfl, _⟩ | ⟨g', cap, cur, rfl, _, hgb, _⟩
  · simp [Value.ownBlock] at hg
  · have : g' = g := by simpa [Value.ownBlock] using hg
    subst this
    exact ⟨_, hgb⟩
theorem Lp.g_of {x : Lp} {g o : Nat} (h : x.A = some ⟨g, o, none⟩) : x.g = g := by
  unfold Lp.g
  rw [h]
theorem Lp.Ok.keep {x : Lp} {W W' : World} {base : Nat} (h : x.Ok W base) (hk : ∀ k cur, base ≤ k → x.p.B ≠ [] → x.g = k → W.heap[k]? = some (.cells cur 5 (0, 0)) → W'.heap[k]? = some (.cells cur 5 (0, 0))) : x.Ok W' base :=
  ⟨fun hx => by
    obtain ⟨g, cur, e, h1, h2, h3⟩ := h.own hx
    exact ⟨g, cur, e, h1, hk g cur h1 hx (Lp.g_of e) h2, h3⟩, h.le, h.mx, h.nn, h.len⟩
theorem Lp.Ok.lower {x : Lp} {W : World} {base base' : Nat} (h : x.Ok W base) (hb : base' ≤ base) : x.Ok W base' := ⟨h.own.lower hb, h.le, h.mx, h.nn, h.len⟩
theorem Lp.Ok.lt {x : Lp} {W : World} {base : Nat} (h : x.Ok W base) (hx : x.p.B ≠ []) : base ≤ x.g ∧ x.g < W.heap.size := by
  obtain ⟨g, cur, e, h1, h2, h3⟩ := h.own hx
  rw [Lp.g_of e]
  exact ⟨h1, (Array.getElem?_eq_some_iff.1 h2).1⟩
theorem Lp.Ok.block {x : Lp} {W : World} {base : Nat} (h : x.Ok W base) (hx : x.p.B ≠ []) : ∃ cur, W.heap[x.g]? = some (.cells cur 5 (0, 0)) := by
  obtain ⟨g, cur, e, h1, h2, h3⟩ := h.own hx
  rw [Lp.g_of e]
  exact ⟨cur, h2⟩
theorem tPL : (45 : TypeId) ≠ 67 := by decide
theorem tPB : (45 : TypeId) ≠ 64 := by decide
theorem tBL : (64 : TypeId) ≠ 67 := by decide
theorem t5P : (5 : TypeId) ≠ 45 := by decide
theorem t5L : (5 : TypeId) ≠ 67 := by decide
theorem t5B : (5 : TypeId) ≠ 64 := by decide
/-- what the bag is made of. -/
def PBS (b l : Nat) (v : Value) (L : List Lp) (k : Nat) : Prop := k = b ∨ k = l ∨ v.ownBlock = some k ∨ ∃ x ∈ L, x.p.B ≠ [] ∧ x.g = k
theorem PB.keep {base b l most : Nat} {v : Value} {L : List Lp} {W W' : World} (h : PB base W b l most v L) (hk : ∀ k, k < W.heap.size → PBS b l v L k → W'.heap[k]? = W.heap[k]?) : PB base W' b l most v L := by
  have lt : ∀ {k : Nat} {o : Obj}, W.heap[k]? = some o → k < W.heap.size := fun h => (Array.getElem?_eq_some_iff.1 h).1
  refine ⟨h.hb, h.hl, (hk b (lt h.bag) (.inl rfl)).trans h.bag, (hk l (lt h.lst) (.inr (.inl rfl))).trans h.lst, ?_, fun x hx => (h.ok x hx).keep fun k cur _ hne e hc => (hk k (lt hc) (.inr (.inr (.inr ⟨x, hx, hne, e⟩)))).trans hc, h.ap, h.few, h.most⟩
  refine ⟨h.row.1, ?_⟩
  rcases h.row.2 with hn | ⟨g, cap, cur, rfl, hb, hgg, rest⟩
  · exact .inl hn
  · exact .inr ⟨g, cap, cur, rfl, hb, (hk g (lt hgg) (.inr (.inr (.inl rfl)))).trans hgg, rest⟩
theorem PB.below {base b l most : Nat} {v : Value} {L : List Lp} {W W' : World} (h : PB base W b l most v L) (hb : Below W.heap.size W W') : PB base W' b l most v L := h.keep fun k hk _ => hb.block k hk
theorem PB.slice {base b l most : Nat} {v : Value} {L : List Lp} {W : World} (h : PB base W b l most v L) : ∃ A c, v = .slice A L.length c := by
  rcases h.row.2 with ⟨rfl, h0⟩ | ⟨g, cap, cur, rfl, _⟩
  · exact ⟨none, 0, by rw [h0]⟩
  · exact ⟨_, _, rfl⟩

theorem run_load_row {P : Program} {a : Act} {W : World} (ty t0 : TypeId) (x : Operand) (g : Nat) (hx : a.eval x = .pointer (some ⟨g, 0, none⟩)) (t : TypeId) (cs : Array Value) (fr : Nat × Nat) (d : TypeDesc) (hg : W.heap[g]? = some (.cells cs t fr))
    (hu : P.underlying ty = some d) (hd : (match d with | .struct _ | .array _ _ => true | _ => false) = true) (hi : (P.info? ty).map (·.size) = some cs.size) :
    (execOp a.eval (bareO (Op.load ty x) t0)).run P W = .ok (.value (.agg cs)) W := by
  unfold execOp bareO
  simp only [hx, Instr.loadAt, Instr.sureAddr, Sem.run_bind, Sem.run_pure, Result.andThen_ok, run_loadVar_row W g t ty cs fr d hg hu hd hi]
theorem wpOp_appP {w : World} {ops : Array Oper} {o : Oper} {i : Nat} {a : Act} {K : Act → World → Prop} {Q : Exit → Act → World → Prop} (hi : ops[i]? = some o) (hgd : o.guard = none) (d : Tmp) (hd : o.dst = some d) (s xo : Operand)
    (ho : o.op = .call { callee := .builtin .append, args := #[s, xo], argTypes := #[60, 60] })
    (base : Nat) (v : Value) (n : Nat) (xs : List Value) (hs : a.eval s = v) (hown : w.ownsRow base 45 6 v n xs)
    (g : Nat) (y : Lp) (c : Nat) (hx : a.eval xo = .slice (some ⟨g, 0, none⟩) 1 c) (hr : w.heap[g]? = some (.cells y.cs 45 (0, 0)))
    (hlen : n ≤ 100000) (hbase : base ≤ w.heap.size)
    (h : ∀ v' w', w'.ownsRow base 45 6 v' (n + 1) (xs ++ y.cs.toList) → w.grownBy w' v.ownBlock → K (a.put (some d) v') w') : wpOp Try.prog ops Q i K a w := by
  rw [← hd] at h
  obtain ⟨i0, hi0, hz0, hz1, hz2⟩ := info_parts bagI
  unfold wpOp
  simp only [hi]
  rw [if_pos (by simp [Region.wanted, hgd])]
  refine .inl ?_
  refine wp_append_own w s xo 60 ho base 45 i0 _ 6 40 Try.underlying60 hi0 hz0 hz1 hz2 rfl (by decide) v n xs hs hown ⟨g, 0, none⟩ 1 c y.cs.toList hx (by simp [Lp.cs]) (fun j u hu => ?_) (fun u hu => cellsL_one [y] u (by simpa [cellsL] using hu))
    (by unfold maxLen; omega) (by omega) hbase fun v' w' h2 h3 _ => h v' w' h2 h3
  rw [addr_add, Nat.zero_add, cell_of_row _ _ j _ _ _ hr]
  simpa using hu

set_option maxRecDepth 100000 in
set_option maxHeartbeats 400000 in
theorem add_full (base b l most : Nat) (v : Value) (L : List Lp) (x : Lp) (W : World) (h : PB base W b l most v L) (hf : most ≤ L.length) :
    Calls Try.prog 34 #[.pointer (some ⟨l, 0, none⟩), .agg x.cs] W fun e W' => e = .returned (.int .i64 11) ∧ Below W.heap.size W W' := by
  obtain ⟨A, c, rfl⟩ := h.slice
  obtain ⟨cs, hcs⟩ : ∃ cs, x.cs = cs := ⟨_, rfl⟩
  rw [hcs]
  clear hcs
  obtain ⟨n, hn⟩ : ∃ n, L.length = n := ⟨_, rfl⟩
  obtain ⟨W1, hW1⟩ : ∃ W1, W.alloc (.cells cs 45) = W1 := ⟨_, rfl⟩
  have b1 : Below W.heap.size W W1 := by rw [← hW1]; exact (Below.refl _ _).alloc (Nat.le_refl _) _
  have h1 := (h.below b1).lst
  rw [hn] at h1 hf
  have c0 := cell_of h1 0 _ rfl
  have c1 := cell_of h1 1 _ rfl
  have HW := Lib.hid hW1
  have B1 := Lib.hid b1
  have hf' : (most : Int) ≤ (n : Int) := by omega
  clear h hW1 b1 h1 hf hn
  go_enter Try.func34, Try.ntmps34
  go_wp2_with (refine wpList_bx rfl 45 (.tmp 1) rfl 3 rfl cs rfl ?_; rw [HW.out])
  go_quiet (fail)
  go_wp2
  go_ret
  exact ⟨rfl, B1.out.trans ⟨rfl, rfl, rfl, Nat.le_refl _, fun _ _ => rfl⟩⟩

set_option maxRecDepth 100000 in
set_option maxHeartbeats 1000000 in
theorem add_ok (base b l most : Nat) (v : Value) (L : List Lp) (x : Lp) (W : World) (h : PB base W b l most v L) (hf : L.length < most) (hr : BytesAt W W.heap.size x.A x.p.B) (hl : x.p.B.length ≤ 140737488351232) (hc : x.p.B.length ≤ x.c) (hm : x.c ≤ maxLen) :
    Calls Try.prog 34 #[.pointer (some ⟨l, 0, none⟩), .agg x.cs] W fun e W' => e = .returned (.int .i64 0) ∧ ∃ y v', y.p = x.p ∧ y.Ok W' W.heap.size ∧ PB base W' b l most v' (L ++ [y]) ∧ KP (fun k => k = l ∨ v.ownBlock = some k) W W' := by
  have hmost := h.most
  obtain ⟨A, c, hv⟩ := h.slice
  obtain ⟨cs, hcs⟩ : ∃ cs, x.cs = cs := ⟨_, rfl⟩
  obtain ⟨n, hn⟩ : ∃ n, L.length = n := ⟨_, rfl⟩
  obtain ⟨W1, hW1⟩ : ∃ W1, W.alloc (.cells cs 45) = W1 := ⟨_, rfl⟩
  have b1 : Below W.heap.size W W1 := by rw [← hW1]; exact (Below.refl _ _).alloc (Nat.le_refl _) _
  have r1 : W1.heap[W.heap.size]? = some (.cells cs 45 (0, 0)) := by rw [← hW1]; exact heap_alloc_new _ _
  have h1 := (h.below b1).lst
  rw [hv, hn] at h1
  have c0 := cell_of h1 0 (.int .i64 most) rfl
  have c1 := cell_of h1 1 (.slice A n c) rfl
  have HO := Lib.hid (fun W h => ownP x W h hl hc hm)
  rw [hcs] at HO ⊢
  have HW := Lib.hid hW1
  have HCS := Lib.hid hcs
  have B1 := Lib.hid b1
  have R1 := Lib.hid r1
  have HP := Lib.hid h
  have HR := Lib.hid hr
  have HN := Lib.hid hn
  have HV := Lib.hid hv
  have hf' : ¬ (most : Int) ≤ (n : Int) := by omega
  have hn2 : Hid (n ≤ 2000) := Lib.hid (by omega)
  clear h hW1 b1 h1 hf hn r1 hr hl hc hm hcs hv
  go_enter Try.func34, Try.ntmps34
  go_wp2_with (refine wpList_bx rfl 45 (.tmp 1) rfl 3 rfl cs rfl ?_; rw [HW.out])
  go_quiet (fail)
  go_wp2
  obtain ⟨W2, hW2⟩ : ∃ X, W1.drewN nq = X := ⟨_, rfl⟩
  have b2 : Below W1.heap.size W1 W2 := by rw [← hW2]; exact ⟨rfl, rfl, rfl, Nat.le_refl _, fun _ _ => rfl⟩
  rw [hW2]
  clear hW2 c0 c1
  refine region_heldT (S := fun X => X.heap[l]? = some (.cells #[.int .i64 most, .slice A n c] 67 (0, 0)) ∧ X.heap[W.heap.size]? = some (.cells cs 45 (0, 0))) 9 (by kernel_rfl) (by decide) (fun inv => ?_)
  change FirstH _ _ _ _ _ _ _ _ _ _ W2.drew
  obtain ⟨W3, hW3⟩ : ∃ X, W2.drew = X := ⟨_, rfl⟩
  have b3 : Below W1.heap.size W1 W3 := by rw [← hW3]; exact b2.drew
  rw [hW3]
  clear hW3 b2
  have B3 := Lib.hid (B1.out.trans (b3.mono B1.out.size))
  have r3 : W3.heap[W.heap.size]? = some (.cells cs 45 (0, 0)) := (b3.block _ (Array.getElem?_eq_some_iff.1 R1.out).1).trans R1.out
  have P3 := Lib.hid (HP.out.below B3.out)
  have l3 : W3.heap[l]? = some (.cells #[.int .i64 most, .slice A n c] 67 (0, 0)) := by have := P3.out.lst; rw [HV.out, HN.out] at this; exact this
  have HS : W3.heap[l]? = some (.cells #[.int .i64 most, .slice A n c] 67 (0, 0)) ∧ W3.heap[W.heap.size]? = some (.cells cs 45 (0, 0)) := ⟨l3, r3⟩
  have hlt : Hid (W.heap.size < W3.heap.size) := Lib.hid (Array.getElem?_eq_some_iff.1 r3).1
  have R3 := Lib.hid r3
  have KO := Lib.hid (HO.out W3 (HR.out.below B3.out (Nat.le_refl _) B3.out.size))
  clear b3 r3 l3 HO B1 R1
  refine FirstH.go (i := 0) (v := .pointer (some ⟨l, 0, none⟩)) rfl rfl _ rfl _ rfl (by kernel_rfl) (fun _ _ _ h => h) inv (fun X _ => by unfold bareO; go_simp) HS (fun inv => ?_)
  try simp only [Act.put, List.setIfInBounds_toArray, List.set_cons_zero, List.set_cons_succ]
  refine FirstH.go (i := 1) (v := .pointer (some ⟨l, 0, none⟩)) rfl rfl _ rfl _ rfl (by kernel_rfl) (fun _ _ _ h => h) inv (fun X _ => by unfold bareO; go_simp) HS (fun inv => ?_)
  try simp only [Act.put, List.setIfInBounds_toArray, List.set_cons_zero, List.set_cons_succ]
  refine FirstH.go (i := 2) (v := .pointer (some ⟨l, 0, none⟩)) rfl rfl _ rfl _ rfl (by kernel_rfl) (fun _ _ _ h => h) inv (fun X _ => by unfold bareO; go_simp) HS (fun inv => ?_)
  try simp only [Act.put, List.setIfInBounds_toArray, List.set_cons_zero, List.set_cons_succ]
  refine FirstH.go (i := 3) (v := .pointer (some ⟨l, 1, none⟩)) rfl rfl _ rfl _ rfl (by kernel_rfl) (fun _ _ _ h => h) inv (fun X _ => by unfold bareO; go_simp) HS (fun inv => ?_)
  try simp only [Act.put, List.setIfInBounds_toArray, List.set_cons_zero, List.set_cons_succ]
  refine FirstH.go (i := 4) (v := .slice A n c) rfl rfl _ rfl _ rfl (by kernel_rfl) (fun _ _ _ h => h) inv (fun X hS => by have c1 := cell_of hS.1 1 (.slice A n c) rfl; unfold bareO; go_simp) HS (fun inv => ?_)
  try simp only [Act.put, List.setIfInBounds_toArray, List.set_cons_zero, List.set_cons_succ]
  refine FirstH.go (i := 5) (v := .agg cs) rfl rfl _ rfl _ rfl (by kernel_rfl) (fun _ _ _ h => h) inv (fun X hS => run_load_row 45 _ _ W.heap.size rfl _ _ _ _ hS.2 Try.underlying45 rfl (by rw [← HCS.out]; kernel_rfl)) HS (fun inv => ?_)
  try simp only [Act.put, List.setIfInBounds_toArray, List.set_cons_zero, List.set_cons_succ]
  clear HS
  refine FirstH.only (i := 6) (by kernel_rfl) (by decide) inv (fun inv => wpOp_call (i := 6) rfl rfl 21 rfl _ rfl 33 #[.agg cs] (by unfold bareO; go_simp) KO.out ?_)
  rintro e W4 ⟨y, rfl, hy, ok4, b4⟩
  have B4 := Lib.hid (B3.out.trans (b4.mono B3.out.size))
  have P4 := Lib.hid (P3.out.below b4)
  have l4 : W4.heap[l]? = some (.cells #[.int .i64 most, .slice A n c] 67 (0, 0)) := by have := P4.out.lst; rw [HV.out, HN.out] at this; exact this
  have r4 : W4.heap[W.heap.size]? = some (.cells cs 45 (0, 0)) := (b4.block _ hlt.out).trans R3.out
  have R4 := Lib.hid r4
  have OK4 := Lib.hid ok4
  have HY := Lib.hid hy
  have L34 := Lib.hid b4.size
  obtain ⟨ys, hys⟩ : ∃ ys, y.cs = ys := ⟨_, rfl⟩
  rw [hys]
  have HYS := Lib.hid hys
  have HYZ : Hid (ys.all (·.oneCell') = true) := Lib.hid (by rw [← hys]; simp [Lp.cs, Value.oneCell'])
  refine ⟨_, rfl, ⟨l4, r4⟩, ?_⟩
  clear ok4 hy b4 l4 r4 hys KO
  try simp only [Act.put, List.setIfInBounds_toArray, List.set_cons_zero, List.set_cons_succ]
  refine FirstH.only (i := 7) (by kernel_rfl) (by decide) inv (fun inv => wpOp_vl (i := 7) (v := .slice (some ⟨W4.heap.size, 0, none⟩) 1 1) (w' := W4.alloc (.cells ys 45)) rfl rfl 22 rfl _ rfl (by rw [← HYS.out]; unfold bareO Lp.cs; go_simp) ?_)
  have r5 : (W4.alloc (.cells ys 45)).heap[W4.heap.size]? = some (.cells ys 45 (0, 0)) := heap_alloc_new _ _
  have b5 : Below W4.heap.size W4 (W4.alloc (.cells ys 45)) := (Below.refl _ _).alloc (Nat.le_refl _) _
  obtain ⟨W5, hW5⟩ : ∃ X, W4.alloc (.cells ys 45) = X := ⟨_, rfl⟩
  rw [hW5] at r5 b5 ⊢
  have B5 := Lib.hid (B4.out.trans (b5.mono B4.out.size))
  have P5 := Lib.hid (P4.out.below b5)
  have l5 : W5.heap[l]? = some (.cells #[.int .i64 most, .slice A n c] 67 (0, 0)) := by have := P5.out.lst; rw [HV.out, HN.out] at this; exact this
  have q5 : W5.heap[W.heap.size]? = some (.cells cs 45 (0, 0)) := (b5.block _ (Nat.lt_of_lt_of_le hlt.out L34.out)).trans ((by have := P4; exact (R4.out)))
  have OK5 := Lib.hid (OK4.out.keep (W' := W5) fun k cur _ _ _ h => (b5.block k (Array.getElem?_eq_some_iff.1 h).1).trans h)
  have L5 := Lib.hid b5.size
  refine ⟨⟨l5, q5⟩, ?_⟩
  have O5 := Lib.hid P5.out.row
  rw [HV.out, HN.out] at O5
  have R5 := Lib.hid r5
  have Q5 := Lib.hid q5
  clear hW5 b5 l5 q5 r5
  try simp only [Act.put, List.setIfInBounds_toArray, List.set_cons_zero, List.set_cons_succ]
  refine FirstH.only (i := 8) (by kernel_rfl) (by decide) inv (fun inv => wpOp_appP (i := 8) rfl rfl 23 rfl (.tmp 19) (.tmp 22) rfl base _ n _ rfl O5.out W4.heap.size y 1 rfl (by rw [HYS.out]; exact R5.out) (by have := hn2.out; omega) (by have := P5.out.hl; have h2 := (Array.getElem?_eq_some_iff.1 P5.out.lst).1; omega) ?_)
  intro v6 W6 O6 g6
  obtain ⟨a6, c6, rfl⟩ := ownsRow_succ O6
  have ne : ∀ (k : Nat) (c' : Array Value) (t : TypeId), W5.heap[k]? = some (.cells c' t (0, 0)) → t ≠ 45 → W6.heap[k]? = some (.cells c' t (0, 0)) := fun k c' t hk ht => (g6.block k (Array.getElem?_eq_some_iff.1 hk).1 (fun e => by
    obtain ⟨cur, hc⟩ := row_block O5.out e.symm
    exact apart_of hk hc ht rfl)).trans hk
  have l6 : W6.heap[l]? = some (.cells #[.int .i64 most, .slice A n c] 67 (0, 0)) := ne _ _ _ (by have := P5.out.lst; rw [HV.out, HN.out] at this; exact this) (by decide)
  have q6 : W6.heap[W.heap.size]? = some (.cells cs 45 (0, 0)) := (g6.block _ (Array.getElem?_eq_some_iff.1 Q5.out).1 (fun e => by
    have h1 := HP.out.row.lt W.heap.size (by rw [HV.out, HN.out]; exact e.symm)
    omega)).trans Q5.out
  refine ⟨⟨l6, q6⟩, ?_⟩
  have c1 := cell_of l6 1 (.slice A n c) rfl
  have z1 := frz_row 1 l6
  have G6 := Lib.hid g6
  have O6' := Lib.hid O6
  have L6 := Lib.hid l6
  have NE := Lib.hid ne
  clear ne g6 O6 l6 q6 Q5 R4 R5 R3
  try simp only [Act.put, List.setIfInBounds_toArray, List.set_cons_zero, List.set_cons_succ]
  refine ⟨by kernel_rfl, ?_⟩
  simp only [List.drop_succ_cons, List.drop_zero]
  go_wp2
  go_ret
  refine ⟨rfl, y, .slice (some ⟨a6, 0, none⟩) (n + 1) c6, HY.out, ?_, ?_, ?_⟩
  all_goals
    clear inv
    have hlt' := hlt.out
    have ok7 : ∀ (z : Lp) (bs : Nat), z.Ok W5 bs → z.Ok (W6.setCell ⟨l, 1, none⟩ (.slice (some ⟨a6, 0, none⟩) (n + 1) c6)) bs := fun z bs hz => hz.keep fun k cur _ _ _ hk => other_set (NE.out _ _ _ hk (by decide)) (apart_of (NE.out _ _ _ hk (by decide)) L6.out (by decide)) _
    have yo := (ok7 y _ OK5.out).lower (base' := W.heap.size) B3.out.size
  · exact yo
  · have hbl : b ≠ l := apart_of P5.out.bag P5.out.lst (by decide)
    refine ⟨P5.out.hb, P5.out.hl, other_set (NE.out _ _ _ P5.out.bag (by decide)) hbl _, (row_set L6.out _).trans rfl, ?_, fun z hz => ?_, ?_, ?_, P5.out.most⟩
    · have e1 : (L ++ [y]).length = n + 1 := by rw [List.length_append, HN.out]; rfl
      have e2 : cellsL (L ++ [y]) = cellsL L ++ y.cs.toList := by rw [cellsL_append]; simp [cellsL]
      rw [e1, e2]
      refine O6'.out.kept (row := some l) ⟨rfl, rfl, rfl, by simp [World.setCell], fun k _ hk => Below.heap_setCell _ _ _ _ (by simpa using hk)⟩ (.inr fun e => ?_)
      obtain ⟨cur, hc⟩ := row_block O6'.out e
      exact apart_of hc L6.out (by decide) rfl
    · rcases List.mem_append.1 hz with h | h
      · exact ok7 z _ (P5.out.ok z h)
      · obtain rfl : z = y := by simpa using h
        exact yo.lower (by have := P5.out.hl; have h2 := HP.out.hl; have h3 := (Array.getElem?_eq_some_iff.1 HP.out.lst).1; omega)
    · refine List.pairwise_append.2 ⟨P5.out.ap, List.pairwise_singleton _ _, fun z hz u hu => ?_⟩
      obtain rfl : u = y := by simpa using hu
      intro h1 h2 e
      have h3 := ((HP.out.ok z hz).lt h1).2
      have h4 := (yo.lt h2).1
      omega
    · rw [List.length_append, HN.out]
      have := hf'
      simp
      omega
  · refine ((KP.of_below B5.out).trans (KP.grown G6.out fun k hk => ?_) fun _ _ h => h).trans (KP.set _ _ _ _ (.inl rfl)) fun _ _ h => h
    right
    rw [HV.out, HN.out]
    exact hk

end Go.Proofs.Yteaafpgkifmdeaa
