/-
  The document's Res over a table. Condition: the table lies in memory, numbers fit their kinds.
-/
import Derived.Test.YtldbmmganicliaaAdf
namespace Go.Proofs.Ytldbmmganicliaa
set_option linter.unusedSimpArgs false
set_option linter.unusedVariables false
open Go.RowKit Go.Maps Go.Sort

theorem results_cell2_rowA {P : Program} {fn : Func} {p u : Tmp} {ty : TypeId} (h : fn.results = #[.cell p ty, .tmp u]) (tmps : Array Value) (w : World) (g : Nat) (t : TypeId) (cs : Array Value) (fr : Nat × Nat) (d : TypeDesc)
    (hp : tmps.getD p undef = .pointer (some ⟨g, 0, none⟩)) (hg : w.heap[g]? = some (.cells cs t fr))
    (hu : P.underlying ty = some d) (hd : (match d with | .struct _ | .array _ _ => true | _ => false) = true) (hi : (P.info? ty).map (·.size) = some cs.size) :
    Sem.run P (results fn tmps) w = .ok (.tuple #[.agg cs, tmps.getD u undef]) w := by
  have hp' : tmps[p]?.getD undef = .pointer (some ⟨g, 0, none⟩) := by simpa using hp
  simp [results, h, hp', asAddr, run_loadVar_row w g t ty cs fr d hg hu hd hi]
def Tt.resC (t : Tt) (x : I10) : Int := match t.L[fndT t.L x]? with
  | some y => if isT t.L x && y.en then y.code else 0
  | none => 0
def Tt.resV (t : Tt) (x : I10) : ByteArray := match t.L[fndT t.L x]? with
  | some y => if isT t.L x && y.en then y.val else ⟨#[]⟩
  | none => ⟨#[]⟩
def Tt.resB (t : Tt) (x : I10) : Bool := isT t.L x && t.ended x
set_option maxRecDepth 100000 in
set_option maxHeartbeats 4000000 in
theorem resT (W : World) (r : Nat) (t : Tt) (lv fv : Value) (h : DT W r t lv fv) (x : I10) (rx : x.Rng) :
    Calls Try.prog 21 #[.pointer (some ⟨r, 0, none⟩), .agg #[.int .u8 x.n, .int .u16 x.l, .int .u32 x.s, .int .u8 x.d, .int .u8 x.a0, .int .u8 x.a1, .int .u8 x.b0, .int .u8 x.b1, .int .u8 x.c0, .int .u8 x.c1]] W fun e W' => e = .returned (.tuple #[.agg #[.int .u8 (t.resC x), .string (t.resV x)], .bool (t.resB x)]) ∧ Below W.heap.size W W' := by
  obtain ⟨W1, hW1⟩ : ∃ z, W.alloc (.cells #[.int .u8 x.n, .int .u16 x.l, .int .u32 x.s, .int .u8 x.d, .int .u8 x.a0, .int .u8 x.a1, .int .u8 x.b0, .int .u8 x.b1, .int .u8 x.c0, .int .u8 x.c1] 43) = z := ⟨_, rfl⟩
  have b1 : Below W.heap.size W W1 := by rw [← hW1]; exact (Below.refl _ _).alloc (Nat.le_refl _) _
  obtain ⟨kx, hkx⟩ : ∃ z, W.heap.size = z := ⟨_, rfl⟩
  have R1 : W1.heap[kx]? = some (.cells #[.int .u8 x.n, .int .u16 x.l, .int .u32 x.s, .int .u8 x.d, .int .u8 x.a0, .int .u8 x.a1, .int .u8 x.b0, .int .u8 x.b1, .int .u8 x.c0, .int .u8 x.c1] 43 (0, 0)) := by rw [← hW1, ← hkx]; exact heap_alloc_new _ _
  have hs1 : W1.heap.size = kx + 1 := by
    rw [← hW1]
    show (W.heap.push _).size = _
    rw [Array.size_push, hkx]
  obtain ⟨W2, hW2⟩ : ∃ z, W1.alloc (.cells #[.int .u8 0, .string ⟨#[]⟩] 45) = z := ⟨_, rfl⟩
  have b2 : Below W1.heap.size W1 W2 := by rw [← hW2]; exact (Below.refl _ _).alloc (Nat.le_refl _) _
  have X2 := Lib.hid ((b2.block kx (bltA R1)).trans R1)
  have y2 : W2.heap[kx + 1]? = some (.cells #[.int .u8 0, .string ⟨#[]⟩] 45 (0, 0)) := by rw [← hW2, ← hs1]; exact heap_alloc_new _ _
  have Y2 := Lib.hid y2
  have S2 := Lib.hid (bltA y2)
  have SK : Hid (kx ≤ W2.heap.size) := Lib.hid (Nat.le_trans (Nat.le_succ _) (Nat.le_of_lt S2.out))
  have D2 := Lib.hid ((h.below b1).below b2)
  have Z2 : Hid (Below kx W W2) := Lib.hid ((hkx ▸ b1 : Below kx W W1).trans (b2.mono (by omega)))
  have HW1 := Lib.hid hW1
  have HW2 := Lib.hid hW2
  have HKX := Lib.hid hkx
  obtain ⟨A, c, rfl, hc, hm, hA⟩ := h.rows.slice
  obtain ⟨n, hn⟩ : ∃ z, t.L.length = z := ⟨_, rfl⟩
  have HN := Lib.hid hn
  rw [hn] at hc
  have HA := Lib.hid hA
  have hcapi : (n : Int) ≤ (c : Int) := by omega
  have KF := Lib.hid (findT W2 r t _ fv D2.out x rx)
  clear hA hn h b1 hW1 hW2 R1 b2 y2
  rw [hkx]
  go_enter Try.func21, Try.ntmps21
  have x0 := cell_of X2.out 0 (.int .u8 x.n) rfl
  have x1 := cell_of X2.out 1 (.int .u16 x.l) rfl
  have x2 := cell_of X2.out 2 (.int .u32 x.s) rfl
  have x3 := cell_of X2.out 3 (.int .u8 x.d) rfl
  have x4 := cell_of X2.out 4 (.int .u8 x.a0) rfl
  have x5 := cell_of X2.out 5 (.int .u8 x.a1) rfl
  have x6 := cell_of X2.out 6 (.int .u8 x.b0) rfl
  have x7 := cell_of X2.out 7 (.int .u8 x.b1) rfl
  have x8 := cell_of X2.out 8 (.int .u8 x.c0) rfl
  have x9 := cell_of X2.out 9 (.int .u8 x.c1) rfl
  by_cases hi : isT t.L x = true
  · as_aux_lemma =>
    skip
    obtain ⟨y, hy, hlt, _⟩ := isT_row hi
    have KF : Hid (Calls Try.prog 38 #[.pointer (some ⟨r, 0, none⟩), .agg #[.int .u8 x.n, .int .u16 x.l, .int .u32 x.s, .int .u8 x.d, .int .u8 x.a0, .int .u8 x.a1, .int .u8 x.b0, .int .u8 x.b1, .int .u8 x.c0, .int .u8 x.c1]] W2 fun e W' => e = .returned (.tuple #[.int .i64 (fndT t.L x), .bool true]) ∧ Below W2.heap.size W2 W') := Lib.hid (hi ▸ KF.out)
    have e1 : t.resC x = if y.en then y.code else 0 := by simp only [Tt.resC, hy, hi, Bool.true_and]
    have e2 : t.resV x = if y.en then y.val else ⟨#[]⟩ := by simp only [Tt.resV, hy, hi, Bool.true_and]
    have e3 : t.resB x = y.en := by simp only [Tt.resB, Tt.ended, hy, hi, Bool.true_and]
    have E1 := Lib.hid e1
    have E2 := Lib.hid e2
    have E3 := Lib.hid e3
    obtain ⟨k, hk⟩ : ∃ k, fndT t.L x = k := ⟨_, rfl⟩
    rw [hk] at KF hy hlt
    rw [HN.out] at hlt
    have hki : (k : Int) < (n : Int) := by omega
    have HY := Lib.hid hy
    obtain ⟨g, o, rfl⟩ : ∃ g o, A = some ⟨g, o, none⟩ := by
      rcases HA.out with ⟨_, h1⟩ | h1
      · omega
      · exact h1
    clear e1 e2 e3 hi hy
    obtain ⟨yi, ye, yc, yv⟩ := y
    cases ye
    · rw [E1.out, E2.out, E3.out]
      clear E1 E2 E3
      go_wp2_with (first | rw [HW1.out] | rw [HW2.out] | (go_at_call 38; refine KF.out.mono ?_; rintro e w3 ⟨rfl, b⟩; have D3 := Lib.hid (D2.out.below b); have Y3 := Lib.hid ((b.block _ S2.out).trans Y2.out); have Z3 := Lib.hid (Z2.out.trans (b.mono SK.out)); clear b; clear x0 x1 x2 x3 x4 x5 x6 x7 x8 x9; have blk := D3.out.blk; rw [HN.out] at blk; have s1 := cell_of blk 1 (.slice (some ⟨g, o, none⟩) n c) rfl; have rows := D3.out.rows; rw [HN.out] at rows; have rr := (Rw.at_ rows HY.out).2.2.2.2.2.2.2.2.2.2; obtain ⟨r10, r11, r12⟩ := rr; simp only at r10 r11 r12; clear rows blk) | (refine wpList_store_row rfl 45 (.tmp 4) (.tmp 27) rfl (kx + 1) #[.int .u8 0, .string ⟨#[]⟩] (by rfl) (by rfl) 45 #[.int .u8 0, .string ⟨#[]⟩] Y3.out (by kernel_rfl) rfl (by simp [Value.oneCell']) ?_) | fail)
      exact bodyPost_ret (v := .tuple #[.agg #[.int .u8 0, .string ⟨#[]⟩], .bool false]) (results_cell2_rowA (p := 4) (u := 5) (ty := 45) rfl _ _ (kx + 1) 45 _ (0, 0) _ (by rfl) (setRow_heap _ _ _ _ _ _ Y3.out) Try.underlying45 rfl (by kernel_rfl)) rfl ⟨rfl, below_row Z3.out (Nat.le_succ _) _⟩

    · rw [E1.out, E2.out, E3.out]
      clear E1 E2 E3
      go_wp2_with (first | rw [HW1.out] | rw [HW2.out] | (go_at_call 38; refine KF.out.mono ?_; rintro e w3 ⟨rfl, b⟩; have D3 := Lib.hid (D2.out.below b); have Y3 := Lib.hid ((b.block _ S2.out).trans Y2.out); have Z3 := Lib.hid (Z2.out.trans (b.mono SK.out)); clear b; clear x0 x1 x2 x3 x4 x5 x6 x7 x8 x9; have blk := D3.out.blk; rw [HN.out] at blk; have s1 := cell_of blk 1 (.slice (some ⟨g, o, none⟩) n c) rfl; have rows := D3.out.rows; rw [HN.out] at rows; have rr := (Rw.at_ rows HY.out).2.2.2.2.2.2.2.2.2.2; obtain ⟨r10, r11, r12⟩ := rr; simp only at r10 r11 r12; clear rows blk) | (refine wpList_store_row rfl 45 (.tmp 4) (.tmp 35) rfl (kx + 1) #[.int .u8 yc, .string yv] (by rfl) (by rfl) 45 #[.int .u8 0, .string ⟨#[]⟩] Y3.out (by kernel_rfl) rfl (by simp [Value.oneCell']) ?_) | fail)
      exact bodyPost_ret (v := .tuple #[.agg #[.int .u8 yc, .string yv], .bool true]) (results_cell2_rowA (p := 4) (u := 5) (ty := 45) rfl _ _ (kx + 1) 45 _ (0, 0) _ (by rfl) (setRow_heap _ _ _ _ _ _ Y3.out) Try.underlying45 rfl (by kernel_rfl)) rfl ⟨rfl, below_row Z3.out (Nat.le_succ _) _⟩

  · as_aux_lemma =>
    skip
    have hi' : isT t.L x = false := by simpa using hi
    have KF : Hid (Calls Try.prog 38 #[.pointer (some ⟨r, 0, none⟩), .agg #[.int .u8 x.n, .int .u16 x.l, .int .u32 x.s, .int .u8 x.d, .int .u8 x.a0, .int .u8 x.a1, .int .u8 x.b0, .int .u8 x.b1, .int .u8 x.c0, .int .u8 x.c1]] W2 fun e W' => e = .returned (.tuple #[.int .i64 (fndT t.L x), .bool false]) ∧ Below W2.heap.size W2 W') := Lib.hid (hi' ▸ KF.out)
    have e1 : t.resC x = 0 := by simp only [Tt.resC, hi', Bool.false_and]; split <;> rfl
    have e2 : t.resV x = ⟨#[]⟩ := by simp only [Tt.resV, hi', Bool.false_and]; split <;> rfl
    have e3 : t.resB x = false := by simp only [Tt.resB, hi', Bool.false_and]
    rw [e1, e2, e3]
    obtain ⟨k, hk⟩ : ∃ k, fndT t.L x = k := ⟨_, rfl⟩
    rw [hk] at KF
    clear e1 e2 e3 hi hi'
    go_wp2_with (first | rw [HW1.out] | rw [HW2.out] | (go_at_call 38; refine KF.out.mono ?_; rintro e w3 ⟨rfl, b⟩; have D3 := Lib.hid (D2.out.below b); have Y3 := Lib.hid ((b.block _ S2.out).trans Y2.out); have Z3 := Lib.hid (Z2.out.trans (b.mono SK.out)); clear b; clear x0 x1 x2 x3 x4 x5 x6 x7 x8 x9) | (refine wpList_store_row rfl 45 (.tmp 4) (.tmp 27) rfl (kx + 1) #[.int .u8 0, .string ⟨#[]⟩] (by rfl) (by rfl) 45 #[.int .u8 0, .string ⟨#[]⟩] Y3.out (by kernel_rfl) rfl (by simp [Value.oneCell']) ?_) | fail)
    exact bodyPost_ret (v := .tuple #[.agg #[.int .u8 0, .string ⟨#[]⟩], .bool false]) (results_cell2_rowA (p := 4) (u := 5) (ty := 45) rfl _ _ (kx + 1) 45 _ (0, 0) _ (by rfl) (setRow_heap _ _ _ _ _ _ Y3.out) Try.underlying45 rfl (by kernel_rfl)) rfl ⟨rfl, below_row Z3.out (Nat.le_succ _) _⟩

end Go.Proofs.Ytldbmmganicliaa
