/-
  The document's Begin over a table. Condition: the table lies in memory, numbers fit their kinds, it has fewer than 1000 rows.
-/
import Derived.Test.YtldbmmganicliaaAdf
import Derived.Test.YtldbmmganicliaaRgt
import Derived.Deep.Upon
namespace Go.Proofs.Ytldbmmganicliaa
set_option linter.unusedSimpArgs false
set_option linter.unusedVariables false
open Go.RowKit Go.Maps Go.Sort

theorem grownReflA (w : World) (r : Option Nat) : w.grownBy w r := World.grownBy.refl w r
theorem wp_appZA {P : Program} {w : World} {o : Oper} {a : Act} {K : Act → World → Prop} {Q : Exit → Act → World → Prop} (d : Tmp) (hd : o.dst = some d) (s x : Operand) (t e : TypeId)
    (ho : o.op = .call { callee := .builtin .append, args := #[s, x], argTypes := #[t, t] }) (i : TypeInfo) (z : Value) (sz bytes : Nat) (ht : P.underlying t = some (.slice e)) (hi : P.info? e = some i) (hz : i.zero = some z)
    (hsize : i.size = sz) (hby : i.bytes = bytes) (hzs : z.cells.size = sz) (hsz : 0 < sz)
    (v : Value) (n : Nat) (xs : List Value) (hs : a.eval s = v) (hr : RowO w e sz v n xs)
    (sA : Option Addr) (m c : Nat) (news : List Value) (hx : a.eval x = .slice sA m c) (hl : news.length = m * sz) (hnews : m ≠ 0 → ∃ ad, sA = some ad ∧ ∀ j u, news[j]? = some u → w.cell? (ad.add j) = some u) (h1 : ∀ u ∈ news, u.oneCell' = true)
    (hlen : n + m ≤ 100000) (hbytes : bytes ≤ 1000)
    (h : ∀ v' w', RowO w' e sz v' (n + m) (xs ++ news) → w.grownBy w' v.ownBlock → (v'.ownBlock = v.ownBlock ∨ ∃ k, v'.ownBlock = some k ∧ w.heap.size ≤ k) → K (a.put (some d) v') w') : o.wp P a w K Q := by
  by_cases hm : m = 0
  · subst hm
    have hn : news = [] := List.eq_nil_of_length_eq_zero (by simpa using hl)
    subst hn
    obtain ⟨A, cc, rfl, hc, _, _⟩ := hr.slice
    have hrun : (Builtin.append_ #[t, t] o.type #[.slice A n cc, .slice sA 0 c]).run P w = .ok (.slice A n cc) w := by
      refine run_append_nothing w t t o.type e i ht hi A n cc hc _ ?_
      cases sA with
      | none => exact Src.ofNil w ht c
      | some ad => exact Src.ofSlice w ht ad 0 c [] (by simp) (fun j u hu => by cases hu) (fun u hu => by cases hu)
    have hk := h (.slice A n cc) w (by simpa using hr) (grownReflA _ _) (.inl rfl)
    rw [← hd] at hk
    unfold Oper.wp execOp
    simp only [ho, resolve, invoke, builtin, Sem.run_bind, Sem.run_pure, Result.andThen_ok, List.map_toArray, List.map_cons, List.map_nil, hs, hx, hrun]
    exact hk
  · obtain ⟨ad, rfl, hc⟩ := hnews hm
    exact wp_appO d hd s x t e ho i z sz bytes ht hi hz hsize hby hzs hsz v n xs hs hr ad m c news hx hl hc h1 (by omega) hlen hbytes h
theorem run_slA {P : Program} {w : World} {a : Act} {sv xv : Value} {t t0 : TypeId} {x : Operand} {lo hi : Option Operand} {lo' hi' : Option Value} (hx : a.eval x = xv) (hlo : lo.map a.eval = lo') (hhi : hi.map a.eval = hi')
    (hr : (Instr.sliceAt t xv lo' hi' none).run P w = .ok sv w) : (execOp a.eval (bareO (.slice t x lo hi none) t0)).run P w = .ok (.value sv) w := by
  unfold execOp bareO
  simp only [hx, hlo, hhi, Option.map_none, Sem.run_bind, hr, Result.andThen_ok, Sem.run_pure]
theorem rowIA : (Try.prog.info? 93).map (fun i => (i.zero, i.size, i.bytes)) = some (some (.agg #[.int .u8 0, .int .u16 0, .int .u32 0, .int .u8 0, .int .u8 0, .int .u8 0, .int .u8 0, .int .u8 0, .int .u8 0, .int .u8 0, .bool false, .int .u8 0, .string ⟨#[]⟩]), 13, 48) := by kernel_rfl
theorem slToA (A : Option Addr) (n c k : Nat) (hk : k ≤ n) (hc : n ≤ c) (hA : (A = none ∧ c = 0) ∨ ∃ g o, A = some ⟨g, o, none⟩) (w : World) : (Instr.sliceAt 68 (.slice A n c) none (some (.int .i64 (k : Int))) none).run Try.prog w = .ok (.slice A k c) w := by
  have h1 : (0 : Int) ≤ (k : Int) := by omega
  have h2 : (k : Int) ≤ (c : Int) := by omega
  rcases hA with ⟨rfl, rfl⟩ | ⟨g, o, rfl⟩
  · obtain rfl : k = 0 := by omega
    go_simp
  · go_simp
theorem slFromA (A : Option Addr) (n c k : Nat) (hk : k ≤ n) (hc : n ≤ c) (hA : (A = none ∧ c = 0) ∨ ∃ g o, A = some ⟨g, o, none⟩) : ∃ A2, (∀ w, (Instr.sliceAt 68 (.slice A n c) (some (.int .i64 (k : Int))) none none).run Try.prog w = .ok (.slice A2 (n - k) (c - k)) w) ∧ (n - k ≠ 0 → ∃ g o, A = some ⟨g, o, none⟩ ∧ A2 = some ⟨g, o + k * 13, none⟩) := by
  have h1 : (0 : Int) ≤ (k : Int) := by omega
  have h2 : (k : Int) ≤ (n : Int) := by omega
  have h3 : (n : Int) ≤ (c : Int) := by omega
  rcases hA with ⟨rfl, rfl⟩ | ⟨g, o, rfl⟩
  · obtain rfl : n = 0 := by omega
    obtain rfl : k = 0 := by omega
    exact ⟨none, fun w => by go_simp, fun h => by omega⟩
  · by_cases e : c = k
    · subst e
      exact ⟨some ⟨g, o, none⟩, fun w => by go_simp, fun h => by omega⟩
    · have h4 : (k : Int) < (c : Int) := by omega
      exact ⟨some ⟨g, o + k * 13, none⟩, fun w => by go_simp, fun _ => ⟨g, o, rfl, rfl⟩⟩
/-- a row more. -/
def insT (L : List Rw) (x : I10) : List Rw := L.take (fndT L x) ++ [⟨x, false, 0, ⟨#[]⟩⟩] ++ L.drop (fndT L x)
theorem fndT_le (L : List Rw) (x : I10) : fndT L x ≤ L.length := by
  have := List.takeWhile_sublist (fun y : Rw => decide (y.id.cmp x < 0)) (l := L)
  exact this.length_le
theorem ins_rng {L : List Rw} {x : I10} (rx : x.Rng) (h : ∀ y ∈ L, y.id.Rng ∧ (0 ≤ y.code ∧ y.code ≤ 255)) : ∀ y ∈ insT L x, y.id.Rng ∧ (0 ≤ y.code ∧ y.code ≤ 255) := by
  intro y hy
  simp only [insT, List.mem_append, List.mem_singleton] at hy
  rcases hy with (hy | rfl) | hy
  · exact h y (List.mem_of_mem_take hy)
  · exact ⟨rx, by simp⟩
  · exact h y (List.mem_of_mem_drop hy)
theorem ins_len (L : List Rw) (x : I10) : (insT L x).length = L.length + 1 := by
  have := fndT_le L x
  simp only [insT, List.length_append, List.length_take, List.length_drop, List.length_singleton]
  omega
theorem state_fresh {t : Tt} {x : I10} (h : t.state x = 0) : isT t.L x = false := by
  cases hb : isT t.L x with
  | false => rfl
  | true =>
    simp only [Tt.state, hb, Bool.true_and, if_true] at h
    split at h <;> omega
theorem beginT_end {W w4 w11 : World} {kx B0 r : Nat} {t : Tt} {lv fv v : Value} {x : I10} {m : Nat} (hZ : Below kx W w4) (hkx : W.heap.size = kx) (hB0 : w4.heap.size = B0) (b : Below B0 w4 w11) (D : DT w4 r t lv fv)
    (hl : w11.heap[r]? = some (.cells #[.int .i64 t.win, lv, fv] 71 (0, 0))) (O : RowO w11 93 13 v m (flat Rw.cs (insT t.L x))) (hm : m = (insT t.L x).length) (own : ∀ q, v.ownBlock = some q → B0 ≤ q) (rx : x.Rng) (hf : t.L.length < 1000) :
    DT (w11.setCell ⟨r, 1, none⟩ v) r { t with L := insT t.L x } v fv ∧ KP (fun q => q = r) W (w11.setCell ⟨r, 1, none⟩ v) := by
  subst hm
  have hr : r < B0 := hB0 ▸ bltA D.blk
  have ks : KP (fun q => q = r) w11 (w11.setCell ⟨r, 1, none⟩ v) := KP.set (S := fun q => q = r) w11 r 1 v rfl
  have b' : Below w4.heap.size w4 w11 := hB0.symm ▸ b
  refine ⟨⟨(row_set hl (i := 1) v).trans rfl, O.keepK ks fun q hq e => by have := own q hq; omega, (D.flo.below b').keepK ks fun q hq e => ?_, ins_rng rx D.rng, D.frng, ⟨by rw [ins_len]; omega, D.few.2⟩, D.win⟩, ?_⟩
  · obtain ⟨c2, h2⟩ := (D.flo.below b').block q hq
    exact apart_of h2 hl (by decide) e
  · have k1 : KP (fun q => q = r) W w4 := KP.of_below (hkx.symm ▸ hZ)
    have k2 : KP (fun q => q = r) w4 w11 := KP.of_below b'
    exact (k1.trans k2 fun _ _ h => h).trans ks fun _ _ h => h
set_option maxRecDepth 100000 in
set_option maxHeartbeats 4000000 in
theorem beginT_ok (W : World) (r : Nat) (t : Tt) (lv fv : Value) (h : DT W r t lv fv) (x : I10) (rx : x.Rng) (hok : x.ok = true) (hs : t.state x = 0) (hf : t.L.length < 1000) :
    Calls Try.prog 13 #[.pointer (some ⟨r, 0, none⟩), .agg #[.int .u8 x.n, .int .u16 x.l, .int .u32 x.s, .int .u8 x.d, .int .u8 x.a0, .int .u8 x.a1, .int .u8 x.b0, .int .u8 x.b1, .int .u8 x.c0, .int .u8 x.c1]] W fun e W' => e = .returned (.int .i64 0) ∧ ∃ lv', DT W' r { t with L := insT t.L x } lv' fv ∧ KP (fun q => q = r) W W' := by
  obtain ⟨W1, hW1⟩ : ∃ z, W.alloc (.cells #[.int .u8 x.n, .int .u16 x.l, .int .u32 x.s, .int .u8 x.d, .int .u8 x.a0, .int .u8 x.a1, .int .u8 x.b0, .int .u8 x.b1, .int .u8 x.c0, .int .u8 x.c1] 43) = z := ⟨_, rfl⟩
  have b1 : Below W.heap.size W W1 := by rw [← hW1]; exact (Below.refl _ _).alloc (Nat.le_refl _) _
  obtain ⟨kx, hkx⟩ : ∃ z, W.heap.size = z := ⟨_, rfl⟩
  have R1 : W1.heap[kx]? = some (.cells #[.int .u8 x.n, .int .u16 x.l, .int .u32 x.s, .int .u8 x.d, .int .u8 x.a0, .int .u8 x.a1, .int .u8 x.b0, .int .u8 x.b1, .int .u8 x.c0, .int .u8 x.c1] 43 (0, 0)) := by rw [← hW1, ← hkx]; exact heap_alloc_new _ _
  have D1 := Lib.hid (h.below b1)
  have X1 := Lib.hid R1
  have B1 := Lib.hid b1
  have HW1 := Lib.hid hW1
  have HKX := Lib.hid hkx
  have S1 : Hid (kx < W1.heap.size) := Lib.hid (bltA R1)
  obtain ⟨A, c, rfl, hc, hm, hA⟩ := h.rows.slice
  obtain ⟨n, hn⟩ : ∃ z, t.L.length = z := ⟨_, rfl⟩
  have HN := Lib.hid hn
  have HA := Lib.hid hA
  have Z1 : Hid (Below kx W W1) := Lib.hid (hkx ▸ b1)
  have HFW := Lib.hid hf
  have HRX := Lib.hid rx
  have HH := Lib.hid h
  have hfr := state_fresh hs
  obtain ⟨k, hk⟩ : ∃ k, fndT t.L x = k := ⟨_, rfl⟩
  have HK := Lib.hid hk
  have HKN : Hid (k ≤ n) := Lib.hid (by rw [← hk, ← hn]; exact fndT_le _ _)
  have KR : Hid (Calls Try.prog 37 #[.agg #[.int .u8 x.n, .int .u16 x.l, .int .u32 x.s, .int .u8 x.d, .int .u8 x.a0, .int .u8 x.a1, .int .u8 x.b0, .int .u8 x.b1, .int .u8 x.c0, .int .u8 x.c1]] W1 fun e W' => e = .returned (.bool true) ∧ Below W1.heap.size W1 W') := Lib.hid (by
    have := refRight x.n x.l x.s x.d x.a0 x.a1 x.b0 x.b1 x.c0 x.c1 W1 rx.d.1
    rw [show rI x.n x.l x.s x.d x.a0 x.a1 x.b0 x.b1 x.c0 x.c1 = true from hok] at this
    exact this)
  have KS : Hid (∀ w : World, DT w r t (.slice A t.L.length c) fv → Calls Try.prog 24 #[.pointer (some ⟨r, 0, none⟩), .agg #[.int .u8 x.n, .int .u16 x.l, .int .u32 x.s, .int .u8 x.d, .int .u8 x.a0, .int .u8 x.a1, .int .u8 x.b0, .int .u8 x.b1, .int .u8 x.c0, .int .u8 x.c1]] w fun e W' => e = .returned (.int .i64 0) ∧ Below w.heap.size w W') := Lib.hid fun w hw => hs ▸ stateT w r t _ fv hw x rx
  have KF : Hid (∀ w : World, DT w r t (.slice A t.L.length c) fv → Calls Try.prog 38 #[.pointer (some ⟨r, 0, none⟩), .agg #[.int .u8 x.n, .int .u16 x.l, .int .u32 x.s, .int .u8 x.d, .int .u8 x.a0, .int .u8 x.a1, .int .u8 x.b0, .int .u8 x.b1, .int .u8 x.c0, .int .u8 x.c1]] w fun e W' => e = .returned (.tuple #[.int .i64 (k : Int), .bool false]) ∧ Below w.heap.size w W') := Lib.hid fun w hw => hk ▸ hfr ▸ findT w r t _ fv hw x rx
  rw [hn] at hc
  have HC := Lib.hid (And.intro hc hm)
  clear hA hn hs hok hf hfr hk hc hm
  clear h b1 hW1 R1 rx
  go_enter Try.func13, Try.ntmps13
  go_wp2_with (first | rw [HW1.out, HKX.out] | fail)
  rw [HW1.out]
  have x0 := cell_of X1.out 0 (.int .u8 x.n) rfl
  have x1 := cell_of X1.out 1 (.int .u16 x.l) rfl
  have x2 := cell_of X1.out 2 (.int .u32 x.s) rfl
  have x3 := cell_of X1.out 3 (.int .u8 x.d) rfl
  have x4 := cell_of X1.out 4 (.int .u8 x.a0) rfl
  have x5 := cell_of X1.out 5 (.int .u8 x.a1) rfl
  have x6 := cell_of X1.out 6 (.int .u8 x.b0) rfl
  have x7 := cell_of X1.out 7 (.int .u8 x.b1) rfl
  have x8 := cell_of X1.out 8 (.int .u8 x.c0) rfl
  have x9 := cell_of X1.out 9 (.int .u8 x.c1) rfl
  go_wp2_with (first | (go_at_call 37; refine KR.out.mono ?_; rintro e w2 ⟨rfl, b⟩; have D2 := Lib.hid (D1.out.below b); have X2 := Lib.hid ((b.block kx S1.out).trans X1.out); have Z2 := Lib.hid (Z1.out.trans (b.mono (Nat.le_of_lt S1.out))); have S2 : Hid (kx < w2.heap.size) := Lib.hid (Nat.lt_of_lt_of_le S1.out b.size); clear b; clear x0 x1 x2 x3 x4 x5 x6 x7 x8 x9; have x0 := cell_of X2.out 0 (.int .u8 x.n) rfl; have x1 := cell_of X2.out 1 (.int .u16 x.l) rfl; have x2 := cell_of X2.out 2 (.int .u32 x.s) rfl; have x3 := cell_of X2.out 3 (.int .u8 x.d) rfl; have x4 := cell_of X2.out 4 (.int .u8 x.a0) rfl; have x5 := cell_of X2.out 5 (.int .u8 x.a1) rfl; have x6 := cell_of X2.out 6 (.int .u8 x.b0) rfl; have x7 := cell_of X2.out 7 (.int .u8 x.b1) rfl; have x8 := cell_of X2.out 8 (.int .u8 x.c0) rfl; have x9 := cell_of X2.out 9 (.int .u8 x.c1) rfl) | (go_at_call 24; refine (KS.out _ D2.out).mono ?_; rintro e w3 ⟨rfl, b⟩; have D3 := Lib.hid (D2.out.below b); have X3 := Lib.hid ((b.block kx S2.out).trans X2.out); have Z3 := Lib.hid (Z2.out.trans (b.mono (Nat.le_of_lt S2.out))); have S3 : Hid (kx < w3.heap.size) := Lib.hid (Nat.lt_of_lt_of_le S2.out b.size); clear b; clear x0 x1 x2 x3 x4 x5 x6 x7 x8 x9; have x0 := cell_of X3.out 0 (.int .u8 x.n) rfl; have x1 := cell_of X3.out 1 (.int .u16 x.l) rfl; have x2 := cell_of X3.out 2 (.int .u32 x.s) rfl; have x3 := cell_of X3.out 3 (.int .u8 x.d) rfl; have x4 := cell_of X3.out 4 (.int .u8 x.a0) rfl; have x5 := cell_of X3.out 5 (.int .u8 x.a1) rfl; have x6 := cell_of X3.out 6 (.int .u8 x.b0) rfl; have x7 := cell_of X3.out 7 (.int .u8 x.b1) rfl; have x8 := cell_of X3.out 8 (.int .u8 x.c0) rfl; have x9 := cell_of X3.out 9 (.int .u8 x.c1) rfl) | (go_at_call 38; refine (KF.out _ D3.out).mono ?_; rintro e w4 ⟨rfl, b⟩; have D4 := Lib.hid (D3.out.below b); have X4 := Lib.hid ((b.block kx S3.out).trans X3.out); have Z4 := Lib.hid (Z3.out.trans (b.mono (Nat.le_of_lt S3.out))); have S4 : Hid (kx < w4.heap.size) := Lib.hid (Nat.lt_of_lt_of_le S3.out b.size); clear b; clear x0 x1 x2 x3 x4 x5 x6 x7 x8 x9) | fail)
  obtain ⟨A2, hsf, hA2⟩ := slFromA A n c k HKN.out HC.out.1 HA.out
  have hst := slToA A n c k HKN.out HC.out.1 HA.out
  have HSF := Lib.hid hsf
  have HST := Lib.hid hst
  have HA2 := Lib.hid hA2
  clear hsf hst hA2
  have blk4 := D4.out.blk
  rw [HN.out] at blk4
  have L4 := Lib.hid blk4
  clear blk4
  have ROW4 : Hid (RowO w4 93 13 (.slice A n c) n (flat Rw.cs t.L)) := Lib.hid (by have := D4.out.rows; rw [HN.out] at this; exact this)
  obtain ⟨B0, hB0⟩ : ∃ z, w4.heap.size = z := ⟨_, rfl⟩
  obtain ⟨w5, hw5⟩ : ∃ Y, w4.drew = Y := ⟨_, rfl⟩
  have b5 : Below B0 w4 w5 := by rw [← hw5, ← hB0]; exact (Below.refl _ _).drew
  have s5 : B0 ≤ w5.heap.size := by have := b5.size; omega
  have HB0 := Lib.hid hB0
  have LTB : Hid (∀ (q : Nat) (ob : Obj), w4.heap[q]? = some ob → q < B0) := Lib.hid (fun q ob h => by rw [← hB0]; exact bltA h)
  have KEEP : Hid (∀ w : World, Below B0 w4 w → w.heap[r]? = some (.cells #[.int .i64 t.win, .slice A n c, fv] 71 (0, 0)) ∧ w.heap[kx]? = some (.cells #[.int .u8 x.n, .int .u16 x.l, .int .u32 x.s, .int .u8 x.d, .int .u8 x.a0, .int .u8 x.a1, .int .u8 x.b0, .int .u8 x.b1, .int .u8 x.c0, .int .u8 x.c1] 43 (0, 0))) := Lib.hid fun w hb => ⟨(hb.block r (LTB.out _ _ L4.out)).trans L4.out, (hb.block kx (LTB.out _ _ X4.out)).trans X4.out⟩
  have S5 := Lib.hid s5
  have HW5_ := Lib.hid hw5
  have B5 := Lib.hid b5
  clear hw5 b5 s5 hB0
  refine region_heldT (S := fun X => X.heap[r]? = some (.cells #[.int .i64 t.win, .slice A n c, fv] 71 (0, 0)) ∧ X.heap[kx]? = some (.cells #[.int .u8 x.n, .int .u16 x.l, .int .u32 x.s, .int .u8 x.d, .int .u8 x.a0, .int .u8 x.a1, .int .u8 x.b0, .int .u8 x.b1, .int .u8 x.c0, .int .u8 x.c1] 43 (0, 0))) 20 (by kernel_rfl) (by decide) (fun inv => ?_)
  change FirstH _ _ _ _ _ _ _ _ _ _ w4.drew
  rw [HW5_.out]
  have HS := KEEP.out _ B5.out
  refine FirstH.go (i := 0) (v := .pointer (some ⟨r, 0, none⟩)) rfl rfl _ rfl _ rfl (by kernel_rfl) (fun _ _ _ h => h) inv (fun X _ => by unfold bareO; go_simp) HS (fun inv => ?_)
  try simp only [Act.put, List.setIfInBounds_toArray, List.set_cons_zero, List.set_cons_succ]
  refine FirstH.go (i := 2) (v := .pointer (some ⟨r, 0, none⟩)) rfl rfl _ rfl _ rfl (by kernel_rfl) (fun _ _ _ h => h) inv (fun X _ => by unfold bareO; go_simp) HS (fun inv => ?_)
  try simp only [Act.put, List.setIfInBounds_toArray, List.set_cons_zero, List.set_cons_succ]
  refine FirstH.go (i := 3) (v := .pointer (some ⟨r, 0, none⟩)) rfl rfl _ rfl _ rfl (by kernel_rfl) (fun _ _ _ h => h) inv (fun X _ => by unfold bareO; go_simp) HS (fun inv => ?_)
  try simp only [Act.put, List.setIfInBounds_toArray, List.set_cons_zero, List.set_cons_succ]
  refine FirstH.go (i := 4) (v := .pointer (some ⟨r, 1, none⟩)) rfl rfl _ rfl _ rfl (by kernel_rfl) (fun _ _ _ h => h) inv (fun X _ => by unfold bareO; go_simp) HS (fun inv => ?_)
  try simp only [Act.put, List.setIfInBounds_toArray, List.set_cons_zero, List.set_cons_succ]
  refine FirstH.go (i := 5) (v := .slice A n c) rfl rfl _ rfl _ rfl (by kernel_rfl) (fun _ _ _ h => h) inv (fun X hS => by have c1 := cell_of hS.1 1 (.slice A n c) rfl; unfold bareO; go_simp) HS (fun inv => ?_)
  try simp only [Act.put, List.setIfInBounds_toArray, List.set_cons_zero, List.set_cons_succ]
  refine FirstH.go (i := 6) (v := .int .i64 k) rfl rfl _ rfl _ rfl (by kernel_rfl) (fun _ _ _ h => h) inv (fun X _ => by unfold bareO; go_simp) HS (fun inv => ?_)
  try simp only [Act.put, List.setIfInBounds_toArray, List.set_cons_zero, List.set_cons_succ]
  refine FirstH.go (i := 7) (v := .slice A k c) rfl rfl _ rfl _ rfl (by kernel_rfl) (fun _ _ _ h => h) inv (fun X _ => run_slA rfl rfl rfl (HST.out X)) HS (fun inv => ?_)
  try simp only [Act.put, List.setIfInBounds_toArray, List.set_cons_zero, List.set_cons_succ]
  refine FirstH.go (i := 9) (v := .agg #[.int .u8 x.n, .int .u16 x.l, .int .u32 x.s, .int .u8 x.d, .int .u8 x.a0, .int .u8 x.a1, .int .u8 x.b0, .int .u8 x.b1, .int .u8 x.c0, .int .u8 x.c1]) rfl rfl _ rfl _ rfl (by kernel_rfl) (fun _ _ _ h => h) inv (fun X hS => by have c0 := cell_of hS.2 0 (.int .u8 x.n) rfl; have c1 := cell_of hS.2 1 (.int .u16 x.l) rfl; have c2 := cell_of hS.2 2 (.int .u32 x.s) rfl; have c3 := cell_of hS.2 3 (.int .u8 x.d) rfl; have c4 := cell_of hS.2 4 (.int .u8 x.a0) rfl; have c5 := cell_of hS.2 5 (.int .u8 x.a1) rfl; have c6 := cell_of hS.2 6 (.int .u8 x.b0) rfl; have c7 := cell_of hS.2 7 (.int .u8 x.b1) rfl; have c8 := cell_of hS.2 8 (.int .u8 x.c0) rfl; have c9 := cell_of hS.2 9 (.int .u8 x.c1) rfl; unfold bareO; go_simp) HS (fun inv => ?_)
  try simp only [Act.put, List.setIfInBounds_toArray, List.set_cons_zero, List.set_cons_succ]
  refine FirstH.go (i := 10) (v := .agg #[.int .u8 x.n, .int .u16 x.l, .int .u32 x.s, .int .u8 x.d, .int .u8 x.a0, .int .u8 x.a1, .int .u8 x.b0, .int .u8 x.b1, .int .u8 x.c0, .int .u8 x.c1, .bool false, .int .u8 0, .string ⟨#[]⟩]) rfl rfl _ rfl _ rfl (by kernel_rfl) (fun _ _ _ h => h) inv (fun X _ => by unfold bareO; go_simp) HS (fun inv => ?_)
  try simp only [Act.put, List.setIfInBounds_toArray, List.set_cons_zero, List.set_cons_succ]
  refine FirstH.go (i := 13) (v := .pointer (some ⟨r, 0, none⟩)) rfl rfl _ rfl _ rfl (by kernel_rfl) (fun _ _ _ h => h) inv (fun X _ => by unfold bareO; go_simp) HS (fun inv => ?_)
  try simp only [Act.put, List.setIfInBounds_toArray, List.set_cons_zero, List.set_cons_succ]
  refine FirstH.go (i := 14) (v := .pointer (some ⟨r, 0, none⟩)) rfl rfl _ rfl _ rfl (by kernel_rfl) (fun _ _ _ h => h) inv (fun X _ => by unfold bareO; go_simp) HS (fun inv => ?_)
  try simp only [Act.put, List.setIfInBounds_toArray, List.set_cons_zero, List.set_cons_succ]
  refine FirstH.go (i := 15) (v := .pointer (some ⟨r, 1, none⟩)) rfl rfl _ rfl _ rfl (by kernel_rfl) (fun _ _ _ h => h) inv (fun X _ => by unfold bareO; go_simp) HS (fun inv => ?_)
  try simp only [Act.put, List.setIfInBounds_toArray, List.set_cons_zero, List.set_cons_succ]
  refine FirstH.go (i := 16) (v := .slice A n c) rfl rfl _ rfl _ rfl (by kernel_rfl) (fun _ _ _ h => h) inv (fun X hS => by have c1 := cell_of hS.1 1 (.slice A n c) rfl; unfold bareO; go_simp) HS (fun inv => ?_)
  try simp only [Act.put, List.setIfInBounds_toArray, List.set_cons_zero, List.set_cons_succ]
  refine FirstH.go (i := 17) (v := .int .i64 k) rfl rfl _ rfl _ rfl (by kernel_rfl) (fun _ _ _ h => h) inv (fun X _ => by unfold bareO; go_simp) HS (fun inv => ?_)
  try simp only [Act.put, List.setIfInBounds_toArray, List.set_cons_zero, List.set_cons_succ]
  refine FirstH.go (i := 18) (v := .slice A2 (n - k) (c - k)) rfl rfl _ rfl _ rfl (by kernel_rfl) (fun _ _ _ h => h) inv (fun X _ => run_slA rfl rfl rfl (HSF.out X)) HS (fun inv => ?_)
  try simp only [Act.put, List.setIfInBounds_toArray, List.set_cons_zero, List.set_cons_succ]
  clear HS
  obtain ⟨i0, hi0, hz0, hz1, hz2⟩ := info_parts rowIA
  have lt : (t.L.take k).length = k := by rw [List.length_take, HN.out]; have := HKN.out; omega
  have ld : (t.L.drop k).length = n - k := by rw [List.length_drop, HN.out]
  have hrow : ∀ (X : World) (g o : Nat), A = some ⟨g, o, none⟩ → RowO X 93 13 (.slice A n c) n (flat Rw.cs t.L) → (∀ j u, (flat Rw.cs (t.L.take k))[j]? = some u → X.cell? ⟨g, o + j, none⟩ = some u) ∧ (∀ j u, (flat Rw.cs (t.L.drop k))[j]? = some u → X.cell? ⟨g, o + k * 13 + j, none⟩ = some u) := fun X g o hA hX => by
    subst hA
    have e' : flat Rw.cs t.L = flat Rw.cs (t.L.take k) ++ flat Rw.cs (t.L.drop k) := by rw [← flat_append, List.take_append_drop]
    have le : (flat Rw.cs (t.L.take k)).length = k * 13 := by rw [flat_len Rw.sz, lt]
    refine ⟨fun j u hu => hX.cells j u ?_, fun j u hu => ?_⟩
    · rw [e', List.getElem?_append_left ((List.getElem?_eq_some_iff.1 hu).1)]
      exact hu
    · have := hX.cells (k * 13 + j) u (by rw [e', List.getElem?_append_right (by omega), le, Nat.add_sub_cancel_left]; exact hu)
      rw [← Nat.add_assoc] at this
      exact this
  have HROW := Lib.hid hrow
  have LT := Lib.hid lt
  have LD := Lib.hid ld
  have ROWAT : Hid (∀ w : World, Below B0 w4 w → RowO w 93 13 (.slice A n c) n (flat Rw.cs t.L)) := Lib.hid fun w hb => ROW4.out.below (HB0.out ▸ hb)
  have NSOME : Hid (n ≠ 0 → ∃ g o, A = some ⟨g, o, none⟩) := Lib.hid fun h0 => by
    rcases HA.out with ⟨_, h1⟩ | h1
    · have := HC.out.1
      omega
    · exact h1
  clear hrow lt ld
  refine FirstH.two (i := 1) (j := 11) (by kernel_rfl) (by decide) (by decide) inv (fun inv => wpOp_vl (i := 1) (v := .slice (some ⟨w5.heap.size, 0, none⟩) 0 0) (w' := w5.alloc (.cells #[] 93)) rfl rfl 27 rfl _ rfl (by unfold bareO; go_simp) ?_) (fun inv => wpOp_vl (i := 11) (v := .slice (some ⟨w5.heap.size, 0, none⟩) 1 1) (w' := w5.alloc (.cells #[.int .u8 x.n, .int .u16 x.l, .int .u32 x.s, .int .u8 x.d, .int .u8 x.a0, .int .u8 x.a1, .int .u8 x.b0, .int .u8 x.b1, .int .u8 x.c0, .int .u8 x.c1, .bool false, .int .u8 0, .string ⟨#[]⟩] 93)) rfl rfl 37 rfl _ rfl (by unfold bareO; go_simp) ?_)
  · skip
    obtain ⟨wa1, hwa1⟩ : ∃ Y, w5.alloc (.cells #[] 93) = Y := ⟨_, rfl⟩
    rw [hwa1]
    obtain ⟨e0, he0⟩ : ∃ z, w5.heap.size = z := ⟨_, rfl⟩
    have s1 : B0 ≤ w5.heap.size := by have := B5.out.size; have := HB0.out; omega
    have b1 : Below B0 w4 wa1 := by rw [← hwa1]; exact B5.out.alloc s1 _
    have c1 : Below w5.heap.size w5 wa1 := by rw [← hwa1]; exact (Below.refl _ _).alloc (Nat.le_refl _) _
    have Oa1 : Hid (RowO wa1 93 13 (.slice (some ⟨e0, 0, none⟩) 0 0) 0 []) := Lib.hid (by rw [← he0, ← hwa1]; exact ⟨rfl, .inr ⟨w5.heap.size, 0, 0, #[], rfl, heap_alloc_new _ _, Nat.le_refl _, by unfold maxLen; omega, by simp, fun j u hu => by simp at hu⟩⟩)
    have OWa1 : Hid (∀ q, (Value.slice (some ⟨e0, 0, none⟩) 0 0).ownBlock = some q → B0 ≤ q) := Lib.hid fun q hq => by
      have : e0 = q := by simpa [Value.ownBlock] using hq
      omega
    rw [he0]
    refine ⟨KEEP.out _ b1, ?_⟩
    have Ba1 := Lib.hid b1
    have EA0 := Lib.hid he0
    clear hwa1 b1 c1 s1 he0
    try simp only [Act.put, List.setIfInBounds_toArray, List.set_cons_zero, List.set_cons_succ]
    refine FirstH.two (i := 8) (j := 11) (by kernel_rfl) (by decide) (by decide) inv (fun inv => wpOp_any rfl rfl (wp_appZA 34 rfl (.tmp 27) (.tmp 33) 68 93 rfl i0 _ 13 48 Try.underlying68 hi0 hz0 hz1 hz2 rfl (by decide) _ 0 _ rfl Oa1.out A k c (flat Rw.cs (t.L.take k)) rfl (by rw [flat_len Rw.sz, LT.out]) (fun hk0 => by
      obtain ⟨g, o, e⟩ := NSOME.out (by have := HKN.out; omega)
      exact ⟨_, e, fun j u hu => by rw [addr_add]; exact (HROW.out _ g o e (ROWAT.out _ Ba1.out)).1 j u hu⟩) (flat_one Rw.one _) (by have := HKN.out; have := HFW.out; have := HN.out; omega) (by decide) ?_)) (fun inv => wpOp_vl (i := 11) (v := .slice (some ⟨wa1.heap.size, 0, none⟩) 1 1) (w' := wa1.alloc (.cells #[.int .u8 x.n, .int .u16 x.l, .int .u32 x.s, .int .u8 x.d, .int .u8 x.a0, .int .u8 x.a1, .int .u8 x.b0, .int .u8 x.b1, .int .u8 x.c0, .int .u8 x.c1, .bool false, .int .u8 0, .string ⟨#[]⟩] 93)) rfl rfl 37 rfl _ rfl (by unfold bareO; go_simp) ?_)
    · skip
      intro vT wa2 O2 g2 f2
      have b2 : Below B0 w4 wa2 := Ba1.out.grown g2 (by have := Ba1.out.size; have := HB0.out; omega) OWa1.out
      have own2 : ∀ q, vT.ownBlock = some q → B0 ≤ q := fun q hq => by
        rcases f2 with e | ⟨q', e, hq'⟩
        · exact OWa1.out q (e ▸ hq)
        · rw [e] at hq
          cases hq
          have := Ba1.out.size
          have := HB0.out
          omega
      refine ⟨KEEP.out _ b2, ?_⟩
      rw [Nat.zero_add, List.nil_append] at O2
      have Oa2 := Lib.hid O2
      have Ba2 := Lib.hid b2
      have OWa2 := Lib.hid own2
      clear O2 g2 b2 f2 own2
      try simp only [Act.put, List.setIfInBounds_toArray, List.set_cons_zero, List.set_cons_succ]
      refine FirstH.only (i := 11) (by kernel_rfl) (by decide) inv (fun inv => wpOp_vl (i := 11) (v := .slice (some ⟨wa2.heap.size, 0, none⟩) 1 1) (w' := wa2.alloc (.cells #[.int .u8 x.n, .int .u16 x.l, .int .u32 x.s, .int .u8 x.d, .int .u8 x.a0, .int .u8 x.a1, .int .u8 x.b0, .int .u8 x.b1, .int .u8 x.c0, .int .u8 x.c1, .bool false, .int .u8 0, .string ⟨#[]⟩] 93)) rfl rfl 37 rfl _ rfl (by unfold bareO; go_simp) ?_)
      obtain ⟨wa3, hwa3⟩ : ∃ Y, wa2.alloc (.cells #[.int .u8 x.n, .int .u16 x.l, .int .u32 x.s, .int .u8 x.d, .int .u8 x.a0, .int .u8 x.a1, .int .u8 x.b0, .int .u8 x.b1, .int .u8 x.c0, .int .u8 x.c1, .bool false, .int .u8 0, .string ⟨#[]⟩] 93) = Y := ⟨_, rfl⟩
      rw [hwa3]
      obtain ⟨qT, hqT⟩ : ∃ z, wa2.heap.size = z := ⟨_, rfl⟩
      have s3 : B0 ≤ wa2.heap.size := by have := Ba2.out.size; have := HB0.out; omega
      have b3 : Below B0 w4 wa3 := by rw [← hwa3]; exact Ba2.out.alloc s3 _
      have c3 : Below wa2.heap.size wa2 wa3 := by rw [← hwa3]; exact (Below.refl _ _).alloc (Nat.le_refl _) _
      have Ra3 : Hid (wa3.heap[qT]? = some (.cells #[.int .u8 x.n, .int .u16 x.l, .int .u32 x.s, .int .u8 x.d, .int .u8 x.a0, .int .u8 x.a1, .int .u8 x.b0, .int .u8 x.b1, .int .u8 x.c0, .int .u8 x.c1, .bool false, .int .u8 0, .string ⟨#[]⟩] 93 (0, 0))) := Lib.hid (by rw [← hqT, ← hwa3]; exact heap_alloc_new _ _)
      have Oa3 := Lib.hid (Oa2.out.below c3)
      have NEa3 : Hid (∀ q, (Value.ownBlock vT) = some q → qT ≠ q) := Lib.hid fun q hq => by
        have := Oa2.out.lt q hq
        omega
      rw [hqT]
      refine ⟨KEEP.out _ b3, ?_⟩
      have Ba3 := Lib.hid b3
      clear hwa3 b3 c3 s3 hqT
      try simp only [Act.put, List.setIfInBounds_toArray, List.set_cons_zero, List.set_cons_succ]
      have wT_ : True := trivial
      have OT := Oa3
      have BT := Ba3
      have OWNT := OWa2
      have RT := Ra3
      refine FirstH.only (i := 12) (by kernel_rfl) (by decide) inv (fun inv => wpOp_any rfl rfl (wp_appO 38 rfl (.tmp 34) (.tmp 37) 68 93 rfl i0 _ 13 48 Try.underlying68 hi0 hz0 hz1 hz2 rfl (by decide) vT k _ rfl OT.out ⟨qT, 0, none⟩ 1 1 [.int .u8 x.n, .int .u16 x.l, .int .u32 x.s, .int .u8 x.d, .int .u8 x.a0, .int .u8 x.a1, .int .u8 x.b0, .int .u8 x.b1, .int .u8 x.c0, .int .u8 x.c1, .bool false, .int .u8 0, .string ⟨#[]⟩] rfl rfl (fun j u hu => by rw [addr_add, Nat.zero_add, cell_of_row _ _ j _ _ _ RT.out]; simpa using hu) (by simp [Value.oneCell']) (by decide) (by have := HKN.out; have := HFW.out; have := HN.out; omega) (by decide) ?_))
      intro v10 w10 O10 g10 f10
      have b10 : Below B0 w4 w10 := BT.out.grown g10 (by have := BT.out.size; have := HB0.out; omega) OWNT.out
      have own10 : ∀ q, v10.ownBlock = some q → B0 ≤ q := fun q hq => by
        rcases f10 with e | ⟨q', e, hq'⟩
        · exact OWNT.out q (e ▸ hq)
        · rw [e] at hq
          cases hq
          have := BT.out.size
          have := HB0.out
          omega
      refine ⟨KEEP.out _ b10, ?_⟩
      have O10' := Lib.hid O10
      have B10 := Lib.hid b10
      have OWN10 := Lib.hid own10
      clear O10 g10 b10 f10 own10
      try simp only [Act.put, List.setIfInBounds_toArray, List.set_cons_zero, List.set_cons_succ]
      refine FirstH.only (i := 19) (by kernel_rfl) (by decide) inv (fun inv => wpOp_any rfl rfl (wp_appZA 45 rfl (.tmp 38) (.tmp 44) 68 93 rfl i0 _ 13 48 Try.underlying68 hi0 hz0 hz1 hz2 rfl (by decide) v10 (k + 1) _ rfl O10'.out A2 (n - k) (c - k) (flat Rw.cs (t.L.drop k)) rfl (by rw [flat_len Rw.sz, LD.out]) (fun hk0 => by
        obtain ⟨g, o, e, e2⟩ := HA2.out hk0
        exact ⟨_, e2, fun j u hu => by rw [addr_add]; exact (HROW.out _ g o e (ROWAT.out _ B10.out)).2 j u hu⟩) (flat_one Rw.one _) (by have := HKN.out; have := HFW.out; have := HN.out; omega) (by decide) ?_))
      intro v11 w11 O11 g11 f11
      have b11 : Below B0 w4 w11 := B10.out.grown g11 (by have := B10.out.size; have := HB0.out; omega) OWN10.out
      have l11 := KEEP.out _ b11
      refine ⟨l11, ?_⟩
      have O11' := Lib.hid O11
      have B11 := Lib.hid b11
      have L11 := Lib.hid l11.1
      obtain ⟨A11, c11, rfl, _, _, _⟩ := O11.slice
      have c1 := cell_of l11.1 1 (.slice A n c) rfl
      have z1 := frz_row 1 l11.1
      have own11 : ∀ q, (Value.slice A11 (k + 1 + (n - k)) c11).ownBlock = some q → B0 ≤ q := fun q hq => by
        rcases f11 with e | ⟨q', e, hq'⟩
        · exact OWN10.out q (e ▸ hq)
        · rw [e] at hq
          cases hq
          have := B10.out.size
          have := HB0.out
          omega
      have OWN11 := Lib.hid own11
      clear O11 g11 b11 f11 l11 hi0 hz0 hz1 hz2 own11
      try simp only [Act.put, List.setIfInBounds_toArray, List.set_cons_zero, List.set_cons_succ]
      refine ⟨by kernel_rfl, ?_⟩
      simp only [List.drop_succ_cons, List.drop_zero]
      go_wp2
      go_ret
      have EF : flat Rw.cs (insT t.L x) = flat Rw.cs (t.L.take k) ++ [.int .u8 x.n, .int .u16 x.l, .int .u32 x.s, .int .u8 x.d, .int .u8 x.a0, .int .u8 x.a1, .int .u8 x.b0, .int .u8 x.b1, .int .u8 x.c0, .int .u8 x.c1, .bool false, .int .u8 0, .string ⟨#[]⟩] ++ flat Rw.cs (t.L.drop k) := by
        unfold insT
        rw [HK.out, flat_append, flat_append]
        rfl
      have EL : k + 1 + (n - k) = (insT t.L x).length := by
        rw [ins_len, HN.out]
        have := HKN.out
        omega
      refine ⟨rfl, .slice A11 (k + 1 + (n - k)) c11, ?_⟩
      exact beginT_end Z4.out hkx HB0.out B11.out D4.out (by rw [HN.out]; exact L11.out) (EF ▸ O11'.out) EL OWN11.out HRX.out HFW.out
    · skip
      obtain ⟨wa2, hwa2⟩ : ∃ Y, wa1.alloc (.cells #[.int .u8 x.n, .int .u16 x.l, .int .u32 x.s, .int .u8 x.d, .int .u8 x.a0, .int .u8 x.a1, .int .u8 x.b0, .int .u8 x.b1, .int .u8 x.c0, .int .u8 x.c1, .bool false, .int .u8 0, .string ⟨#[]⟩] 93) = Y := ⟨_, rfl⟩
      rw [hwa2]
      obtain ⟨qT, hqT⟩ : ∃ z, wa1.heap.size = z := ⟨_, rfl⟩
      have s2 : B0 ≤ wa1.heap.size := by have := Ba1.out.size; have := HB0.out; omega
      have b2 : Below B0 w4 wa2 := by rw [← hwa2]; exact Ba1.out.alloc s2 _
      have c2 : Below wa1.heap.size wa1 wa2 := by rw [← hwa2]; exact (Below.refl _ _).alloc (Nat.le_refl _) _
      have Ra2 : Hid (wa2.heap[qT]? = some (.cells #[.int .u8 x.n, .int .u16 x.l, .int .u32 x.s, .int .u8 x.d, .int .u8 x.a0, .int .u8 x.a1, .int .u8 x.b0, .int .u8 x.b1, .int .u8 x.c0, .int .u8 x.c1, .bool false, .int .u8 0, .string ⟨#[]⟩] 93 (0, 0))) := Lib.hid (by rw [← hqT, ← hwa2]; exact heap_alloc_new _ _)
      have Oa2 := Lib.hid (Oa1.out.below c2)
      have NEa2 : Hid (∀ q, (Value.ownBlock (.slice (some ⟨e0, 0, none⟩) 0 0)) = some q → qT ≠ q) := Lib.hid fun q hq => by
        have := Oa1.out.lt q hq
        omega
      rw [hqT]
      refine ⟨KEEP.out _ b2, ?_⟩
      have Ba2 := Lib.hid b2
      clear hwa2 b2 c2 s2 hqT
      try simp only [Act.put, List.setIfInBounds_toArray, List.set_cons_zero, List.set_cons_succ]
      refine FirstH.only (i := 8) (by kernel_rfl) (by decide) inv (fun inv => wpOp_any rfl rfl (wp_appZA 34 rfl (.tmp 27) (.tmp 33) 68 93 rfl i0 _ 13 48 Try.underlying68 hi0 hz0 hz1 hz2 rfl (by decide) _ 0 _ rfl Oa2.out A k c (flat Rw.cs (t.L.take k)) rfl (by rw [flat_len Rw.sz, LT.out]) (fun hk0 => by
        obtain ⟨g, o, e⟩ := NSOME.out (by have := HKN.out; omega)
        exact ⟨_, e, fun j u hu => by rw [addr_add]; exact (HROW.out _ g o e (ROWAT.out _ Ba2.out)).1 j u hu⟩) (flat_one Rw.one _) (by have := HKN.out; have := HFW.out; have := HN.out; omega) (by decide) ?_))
      intro vT wa3 O3 g3 f3
      have b3 : Below B0 w4 wa3 := Ba2.out.grown g3 (by have := Ba2.out.size; have := HB0.out; omega) OWa1.out
      have own3 : ∀ q, vT.ownBlock = some q → B0 ≤ q := fun q hq => by
        rcases f3 with e | ⟨q', e, hq'⟩
        · exact OWa1.out q (e ▸ hq)
        · rw [e] at hq
          cases hq
          have := Ba2.out.size
          have := HB0.out
          omega
      have Ra3 : Hid (wa3.heap[qT]? = some (.cells #[.int .u8 x.n, .int .u16 x.l, .int .u32 x.s, .int .u8 x.d, .int .u8 x.a0, .int .u8 x.a1, .int .u8 x.b0, .int .u8 x.b1, .int .u8 x.c0, .int .u8 x.c1, .bool false, .int .u8 0, .string ⟨#[]⟩] 93 (0, 0))) := Lib.hid ((g3.block qT (bltA Ra2.out) fun e => NEa2.out qT e.symm rfl).trans Ra2.out)
      refine ⟨KEEP.out _ b3, ?_⟩
      rw [Nat.zero_add, List.nil_append] at O3
      have Oa3 := Lib.hid O3
      have Ba3 := Lib.hid b3
      have OWa3 := Lib.hid own3
      clear O3 g3 b3 f3 own3
      try simp only [Act.put, List.setIfInBounds_toArray, List.set_cons_zero, List.set_cons_succ]
      have wT_ : True := trivial
      have OT := Oa3
      have BT := Ba3
      have OWNT := OWa3
      have RT := Ra3
      refine FirstH.only (i := 12) (by kernel_rfl) (by decide) inv (fun inv => wpOp_any rfl rfl (wp_appO 38 rfl (.tmp 34) (.tmp 37) 68 93 rfl i0 _ 13 48 Try.underlying68 hi0 hz0 hz1 hz2 rfl (by decide) vT k _ rfl OT.out ⟨qT, 0, none⟩ 1 1 [.int .u8 x.n, .int .u16 x.l, .int .u32 x.s, .int .u8 x.d, .int .u8 x.a0, .int .u8 x.a1, .int .u8 x.b0, .int .u8 x.b1, .int .u8 x.c0, .int .u8 x.c1, .bool false, .int .u8 0, .string ⟨#[]⟩] rfl rfl (fun j u hu => by rw [addr_add, Nat.zero_add, cell_of_row _ _ j _ _ _ RT.out]; simpa using hu) (by simp [Value.oneCell']) (by decide) (by have := HKN.out; have := HFW.out; have := HN.out; omega) (by decide) ?_))
      intro v10 w10 O10 g10 f10
      have b10 : Below B0 w4 w10 := BT.out.grown g10 (by have := BT.out.size; have := HB0.out; omega) OWNT.out
      have own10 : ∀ q, v10.ownBlock = some q → B0 ≤ q := fun q hq => by
        rcases f10 with e | ⟨q', e, hq'⟩
        · exact OWNT.out q (e ▸ hq)
        · rw [e] at hq
          cases hq
          have := BT.out.size
          have := HB0.out
          omega
      refine ⟨KEEP.out _ b10, ?_⟩
      have O10' := Lib.hid O10
      have B10 := Lib.hid b10
      have OWN10 := Lib.hid own10
      clear O10 g10 b10 f10 own10
      try simp only [Act.put, List.setIfInBounds_toArray, List.set_cons_zero, List.set_cons_succ]
      refine FirstH.only (i := 19) (by kernel_rfl) (by decide) inv (fun inv => wpOp_any rfl rfl (wp_appZA 45 rfl (.tmp 38) (.tmp 44) 68 93 rfl i0 _ 13 48 Try.underlying68 hi0 hz0 hz1 hz2 rfl (by decide) v10 (k + 1) _ rfl O10'.out A2 (n - k) (c - k) (flat Rw.cs (t.L.drop k)) rfl (by rw [flat_len Rw.sz, LD.out]) (fun hk0 => by
        obtain ⟨g, o, e, e2⟩ := HA2.out hk0
        exact ⟨_, e2, fun j u hu => by rw [addr_add]; exact (HROW.out _ g o e (ROWAT.out _ B10.out)).2 j u hu⟩) (flat_one Rw.one _) (by have := HKN.out; have := HFW.out; have := HN.out; omega) (by decide) ?_))
      intro v11 w11 O11 g11 f11
      have b11 : Below B0 w4 w11 := B10.out.grown g11 (by have := B10.out.size; have := HB0.out; omega) OWN10.out
      have l11 := KEEP.out _ b11
      refine ⟨l11, ?_⟩
      have O11' := Lib.hid O11
      have B11 := Lib.hid b11
      have L11 := Lib.hid l11.1
      obtain ⟨A11, c11, rfl, _, _, _⟩ := O11.slice
      have c1 := cell_of l11.1 1 (.slice A n c) rfl
      have z1 := frz_row 1 l11.1
      have own11 : ∀ q, (Value.slice A11 (k + 1 + (n - k)) c11).ownBlock = some q → B0 ≤ q := fun q hq => by
        rcases f11 with e | ⟨q', e, hq'⟩
        · exact OWN10.out q (e ▸ hq)
        · rw [e] at hq
          cases hq
          have := B10.out.size
          have := HB0.out
          omega
      have OWN11 := Lib.hid own11
      clear O11 g11 b11 f11 l11 hi0 hz0 hz1 hz2 own11
      try simp only [Act.put, List.setIfInBounds_toArray, List.set_cons_zero, List.set_cons_succ]
      refine ⟨by kernel_rfl, ?_⟩
      simp only [List.drop_succ_cons, List.drop_zero]
      go_wp2
      go_ret
      have EF : flat Rw.cs (insT t.L x) = flat Rw.cs (t.L.take k) ++ [.int .u8 x.n, .int .u16 x.l, .int .u32 x.s, .int .u8 x.d, .int .u8 x.a0, .int .u8 x.a1, .int .u8 x.b0, .int .u8 x.b1, .int .u8 x.c0, .int .u8 x.c1, .bool false, .int .u8 0, .string ⟨#[]⟩] ++ flat Rw.cs (t.L.drop k) := by
        unfold insT
        rw [HK.out, flat_append, flat_append]
        rfl
      have EL : k + 1 + (n - k) = (insT t.L x).length := by
        rw [ins_len, HN.out]
        have := HKN.out
        omega
      refine ⟨rfl, .slice A11 (k + 1 + (n - k)) c11, ?_⟩
      exact beginT_end Z4.out hkx HB0.out B11.out D4.out (by rw [HN.out]; exact L11.out) (EF ▸ O11'.out) EL OWN11.out HRX.out HFW.out
  · skip
    obtain ⟨wa1, hwa1⟩ : ∃ Y, w5.alloc (.cells #[.int .u8 x.n, .int .u16 x.l, .int .u32 x.s, .int .u8 x.d, .int .u8 x.a0, .int .u8 x.a1, .int .u8 x.b0, .int .u8 x.b1, .int .u8 x.c0, .int .u8 x.c1, .bool false, .int .u8 0, .string ⟨#[]⟩] 93) = Y := ⟨_, rfl⟩
    rw [hwa1]
    obtain ⟨qT, hqT⟩ : ∃ z, w5.heap.size = z := ⟨_, rfl⟩
    have s1 : B0 ≤ w5.heap.size := by have := B5.out.size; have := HB0.out; omega
    have b1 : Below B0 w4 wa1 := by rw [← hwa1]; exact B5.out.alloc s1 _
    have c1 : Below w5.heap.size w5 wa1 := by rw [← hwa1]; exact (Below.refl _ _).alloc (Nat.le_refl _) _
    have Ra1 : Hid (wa1.heap[qT]? = some (.cells #[.int .u8 x.n, .int .u16 x.l, .int .u32 x.s, .int .u8 x.d, .int .u8 x.a0, .int .u8 x.a1, .int .u8 x.b0, .int .u8 x.b1, .int .u8 x.c0, .int .u8 x.c1, .bool false, .int .u8 0, .string ⟨#[]⟩] 93 (0, 0))) := Lib.hid (by rw [← hqT, ← hwa1]; exact heap_alloc_new _ _)
    rw [hqT]
    refine ⟨KEEP.out _ b1, ?_⟩
    have Ba1 := Lib.hid b1
    clear hwa1 b1 c1 s1 hqT
    try simp only [Act.put, List.setIfInBounds_toArray, List.set_cons_zero, List.set_cons_succ]
    refine FirstH.only (i := 1) (by kernel_rfl) (by decide) inv (fun inv => wpOp_vl (i := 1) (v := .slice (some ⟨wa1.heap.size, 0, none⟩) 0 0) (w' := wa1.alloc (.cells #[] 93)) rfl rfl 27 rfl _ rfl (by unfold bareO; go_simp) ?_)
    obtain ⟨wa2, hwa2⟩ : ∃ Y, wa1.alloc (.cells #[] 93) = Y := ⟨_, rfl⟩
    rw [hwa2]
    obtain ⟨e0, he0⟩ : ∃ z, wa1.heap.size = z := ⟨_, rfl⟩
    have s2 : B0 ≤ wa1.heap.size := by have := Ba1.out.size; have := HB0.out; omega
    have b2 : Below B0 w4 wa2 := by rw [← hwa2]; exact Ba1.out.alloc s2 _
    have c2 : Below wa1.heap.size wa1 wa2 := by rw [← hwa2]; exact (Below.refl _ _).alloc (Nat.le_refl _) _
    have Oa2 : Hid (RowO wa2 93 13 (.slice (some ⟨e0, 0, none⟩) 0 0) 0 []) := Lib.hid (by rw [← he0, ← hwa2]; exact ⟨rfl, .inr ⟨wa1.heap.size, 0, 0, #[], rfl, heap_alloc_new _ _, Nat.le_refl _, by unfold maxLen; omega, by simp, fun j u hu => by simp at hu⟩⟩)
    have OWa2 : Hid (∀ q, (Value.slice (some ⟨e0, 0, none⟩) 0 0).ownBlock = some q → B0 ≤ q) := Lib.hid fun q hq => by
      have : e0 = q := by simpa [Value.ownBlock] using hq
      omega
    have Ra2 : Hid (wa2.heap[qT]? = some (.cells #[.int .u8 x.n, .int .u16 x.l, .int .u32 x.s, .int .u8 x.d, .int .u8 x.a0, .int .u8 x.a1, .int .u8 x.b0, .int .u8 x.b1, .int .u8 x.c0, .int .u8 x.c1, .bool false, .int .u8 0, .string ⟨#[]⟩] 93 (0, 0))) := Lib.hid ((c2.block qT (bltA Ra1.out)).trans Ra1.out)
    have NEa2 : Hid (∀ q, (Value.slice (some ⟨e0, 0, none⟩) 0 0).ownBlock = some q → qT ≠ q) := Lib.hid fun q hq => by
      have : e0 = q := by simpa [Value.ownBlock] using hq
      have := bltA Ra1.out
      omega
    rw [he0]
    refine ⟨KEEP.out _ b2, ?_⟩
    have Ba2 := Lib.hid b2
    have EA0 := Lib.hid he0
    clear hwa2 b2 c2 s2 he0
    try simp only [Act.put, List.setIfInBounds_toArray, List.set_cons_zero, List.set_cons_succ]
    refine FirstH.only (i := 8) (by kernel_rfl) (by decide) inv (fun inv => wpOp_any rfl rfl (wp_appZA 34 rfl (.tmp 27) (.tmp 33) 68 93 rfl i0 _ 13 48 Try.underlying68 hi0 hz0 hz1 hz2 rfl (by decide) _ 0 _ rfl Oa2.out A k c (flat Rw.cs (t.L.take k)) rfl (by rw [flat_len Rw.sz, LT.out]) (fun hk0 => by
      obtain ⟨g, o, e⟩ := NSOME.out (by have := HKN.out; omega)
      exact ⟨_, e, fun j u hu => by rw [addr_add]; exact (HROW.out _ g o e (ROWAT.out _ Ba2.out)).1 j u hu⟩) (flat_one Rw.one _) (by have := HKN.out; have := HFW.out; have := HN.out; omega) (by decide) ?_))
    intro vT wa3 O3 g3 f3
    have b3 : Below B0 w4 wa3 := Ba2.out.grown g3 (by have := Ba2.out.size; have := HB0.out; omega) OWa2.out
    have own3 : ∀ q, vT.ownBlock = some q → B0 ≤ q := fun q hq => by
      rcases f3 with e | ⟨q', e, hq'⟩
      · exact OWa2.out q (e ▸ hq)
      · rw [e] at hq
        cases hq
        have := Ba2.out.size
        have := HB0.out
        omega
    have Ra3 : Hid (wa3.heap[qT]? = some (.cells #[.int .u8 x.n, .int .u16 x.l, .int .u32 x.s, .int .u8 x.d, .int .u8 x.a0, .int .u8 x.a1, .int .u8 x.b0, .int .u8 x.b1, .int .u8 x.c0, .int .u8 x.c1, .bool false, .int .u8 0, .string ⟨#[]⟩] 93 (0, 0))) := Lib.hid ((g3.block qT (bltA Ra2.out) fun e => NEa2.out qT e.symm rfl).trans Ra2.out)
    refine ⟨KEEP.out _ b3, ?_⟩
    rw [Nat.zero_add, List.nil_append] at O3
    have Oa3 := Lib.hid O3
    have Ba3 := Lib.hid b3
    have OWa3 := Lib.hid own3
    clear O3 g3 b3 f3 own3
    try simp only [Act.put, List.setIfInBounds_toArray, List.set_cons_zero, List.set_cons_succ]
    have wT_ : True := trivial
    have OT := Oa3
    have BT := Ba3
    have OWNT := OWa3
    have RT := Ra3
    refine FirstH.only (i := 12) (by kernel_rfl) (by decide) inv (fun inv => wpOp_any rfl rfl (wp_appO 38 rfl (.tmp 34) (.tmp 37) 68 93 rfl i0 _ 13 48 Try.underlying68 hi0 hz0 hz1 hz2 rfl (by decide) vT k _ rfl OT.out ⟨qT, 0, none⟩ 1 1 [.int .u8 x.n, .int .u16 x.l, .int .u32 x.s, .int .u8 x.d, .int .u8 x.a0, .int .u8 x.a1, .int .u8 x.b0, .int .u8 x.b1, .int .u8 x.c0, .int .u8 x.c1, .bool false, .int .u8 0, .string ⟨#[]⟩] rfl rfl (fun j u hu => by rw [addr_add, Nat.zero_add, cell_of_row _ _ j _ _ _ RT.out]; simpa using hu) (by simp [Value.oneCell']) (by decide) (by have := HKN.out; have := HFW.out; have := HN.out; omega) (by decide) ?_))
    intro v10 w10 O10 g10 f10
    have b10 : Below B0 w4 w10 := BT.out.grown g10 (by have := BT.out.size; have := HB0.out; omega) OWNT.out
    have own10 : ∀ q, v10.ownBlock = some q → B0 ≤ q := fun q hq => by
      rcases f10 with e | ⟨q', e, hq'⟩
      · exact OWNT.out q (e ▸ hq)
      · rw [e] at hq
        cases hq
        have := BT.out.size
        have := HB0.out
        omega
    refine ⟨KEEP.out _ b10, ?_⟩
    have O10' := Lib.hid O10
    have B10 := Lib.hid b10
    have OWN10 := Lib.hid own10
    clear O10 g10 b10 f10 own10
    try simp only [Act.put, List.setIfInBounds_toArray, List.set_cons_zero, List.set_cons_succ]
    refine FirstH.only (i := 19) (by kernel_rfl) (by decide) inv (fun inv => wpOp_any rfl rfl (wp_appZA 45 rfl (.tmp 38) (.tmp 44) 68 93 rfl i0 _ 13 48 Try.underlying68 hi0 hz0 hz1 hz2 rfl (by decide) v10 (k + 1) _ rfl O10'.out A2 (n - k) (c - k) (flat Rw.cs (t.L.drop k)) rfl (by rw [flat_len Rw.sz, LD.out]) (fun hk0 => by
      obtain ⟨g, o, e, e2⟩ := HA2.out hk0
      exact ⟨_, e2, fun j u hu => by rw [addr_add]; exact (HROW.out _ g o e (ROWAT.out _ B10.out)).2 j u hu⟩) (flat_one Rw.one _) (by have := HKN.out; have := HFW.out; have := HN.out; omega) (by decide) ?_))
    intro v11 w11 O11 g11 f11
    have b11 : Below B0 w4 w11 := B10.out.grown g11 (by have := B10.out.size; have := HB0.out; omega) OWN10.out
    have l11 := KEEP.out _ b11
    refine ⟨l11, ?_⟩
    have O11' := Lib.hid O11
    have B11 := Lib.hid b11
    have L11 := Lib.hid l11.1
    obtain ⟨A11, c11, rfl, _, _, _⟩ := O11.slice
    have c1 := cell_of l11.1 1 (.slice A n c) rfl
    have z1 := frz_row 1 l11.1
    have own11 : ∀ q, (Value.slice A11 (k + 1 + (n - k)) c11).ownBlock = some q → B0 ≤ q := fun q hq => by
      rcases f11 with e | ⟨q', e, hq'⟩
      · exact OWN10.out q (e ▸ hq)
      · rw [e] at hq
        cases hq
        have := B10.out.size
        have := HB0.out
        omega
    have OWN11 := Lib.hid own11
    clear O11 g11 b11 f11 l11 hi0 hz0 hz1 hz2 own11
    try simp only [Act.put, List.setIfInBounds_toArray, List.set_cons_zero, List.set_cons_succ]
    refine ⟨by kernel_rfl, ?_⟩
    simp only [List.drop_succ_cons, List.drop_zero]
    go_wp2
    go_ret
    have EF : flat Rw.cs (insT t.L x) = flat Rw.cs (t.L.take k) ++ [.int .u8 x.n, .int .u16 x.l, .int .u32 x.s, .int .u8 x.d, .int .u8 x.a0, .int .u8 x.a1, .int .u8 x.b0, .int .u8 x.b1, .int .u8 x.c0, .int .u8 x.c1, .bool false, .int .u8 0, .string ⟨#[]⟩] ++ flat Rw.cs (t.L.drop k) := by
      unfold insT
      rw [HK.out, flat_append, flat_append]
      rfl
    have EL : k + 1 + (n - k) = (insT t.L x).length := by
      rw [ins_len, HN.out]
      have := HKN.out
      omega
    refine ⟨rfl, .slice A11 (k + 1 + (n - k)) c11, ?_⟩
    exact beginT_end Z4.out hkx HB0.out B11.out D4.out (by rw [HN.out]; exact L11.out) (EF ▸ O11'.out) EL OWN11.out HRX.out HFW.out
set_option maxRecDepth 100000 in
set_option maxHeartbeats 4000000 in
theorem beginT_bad (W : World) (r : Nat) (t : Tt) (lv fv : Value) (h : DT W r t lv fv) (x : I10) (rx : x.Rng) (hok : x.ok = false) :
    Calls Try.prog 13 #[.pointer (some ⟨r, 0, none⟩), .agg #[.int .u8 x.n, .int .u16 x.l, .int .u32 x.s, .int .u8 x.d, .int .u8 x.a0, .int .u8 x.a1, .int .u8 x.b0, .int .u8 x.b1, .int .u8 x.c0, .int .u8 x.c1]] W fun e W' => e = .returned (.int .i64 1) ∧ Below W.heap.size W W' := by
  obtain ⟨W1, hW1⟩ : ∃ z, W.alloc (.cells #[.int .u8 x.n, .int .u16 x.l, .int .u32 x.s, .int .u8 x.d, .int .u8 x.a0, .int .u8 x.a1, .int .u8 x.b0, .int .u8 x.b1, .int .u8 x.c0, .int .u8 x.c1] 43) = z := ⟨_, rfl⟩
  have b1 : Below W.heap.size W W1 := by rw [← hW1]; exact (Below.refl _ _).alloc (Nat.le_refl _) _
  obtain ⟨kx, hkx⟩ : ∃ z, W.heap.size = z := ⟨_, rfl⟩
  have R1 : W1.heap[kx]? = some (.cells #[.int .u8 x.n, .int .u16 x.l, .int .u32 x.s, .int .u8 x.d, .int .u8 x.a0, .int .u8 x.a1, .int .u8 x.b0, .int .u8 x.b1, .int .u8 x.c0, .int .u8 x.c1] 43 (0, 0)) := by rw [← hW1, ← hkx]; exact heap_alloc_new _ _
  have D1 := Lib.hid (h.below b1)
  have X1 := Lib.hid R1
  have B1 := Lib.hid b1
  have HW1 := Lib.hid hW1
  have HKX := Lib.hid hkx
  have S1 : Hid (kx < W1.heap.size) := Lib.hid (bltA R1)
  have Z1 : Hid (Below kx W W1) := Lib.hid (hkx ▸ b1)
  have KR : Hid (Calls Try.prog 37 #[.agg #[.int .u8 x.n, .int .u16 x.l, .int .u32 x.s, .int .u8 x.d, .int .u8 x.a0, .int .u8 x.a1, .int .u8 x.b0, .int .u8 x.b1, .int .u8 x.c0, .int .u8 x.c1]] W1 fun e W' => e = .returned (.bool false) ∧ Below W1.heap.size W1 W') := Lib.hid (by
    have := refRight x.n x.l x.s x.d x.a0 x.a1 x.b0 x.b1 x.c0 x.c1 W1 rx.d.1
    rw [show rI x.n x.l x.s x.d x.a0 x.a1 x.b0 x.b1 x.c0 x.c1 = false from hok] at this
    exact this)
  clear h b1 hW1 R1
  rw [hkx]
  go_enter Try.func13, Try.ntmps13
  go_wp2_with (first | rw [HW1.out, HKX.out] | fail)
  rw [HW1.out]
  have x0 := cell_of X1.out 0 (.int .u8 x.n) rfl
  have x1 := cell_of X1.out 1 (.int .u16 x.l) rfl
  have x2 := cell_of X1.out 2 (.int .u32 x.s) rfl
  have x3 := cell_of X1.out 3 (.int .u8 x.d) rfl
  have x4 := cell_of X1.out 4 (.int .u8 x.a0) rfl
  have x5 := cell_of X1.out 5 (.int .u8 x.a1) rfl
  have x6 := cell_of X1.out 6 (.int .u8 x.b0) rfl
  have x7 := cell_of X1.out 7 (.int .u8 x.b1) rfl
  have x8 := cell_of X1.out 8 (.int .u8 x.c0) rfl
  have x9 := cell_of X1.out 9 (.int .u8 x.c1) rfl
  go_wp2_with (first | (go_at_call 37; refine KR.out.mono ?_; rintro e w2 ⟨rfl, b⟩; have D2 := Lib.hid (D1.out.below b); have X2 := Lib.hid ((b.block kx S1.out).trans X1.out); have Z2 := Lib.hid (Z1.out.trans (b.mono (Nat.le_of_lt S1.out))); have S2 : Hid (kx < w2.heap.size) := Lib.hid (Nat.lt_of_lt_of_le S1.out b.size); clear b; clear x0 x1 x2 x3 x4 x5 x6 x7 x8 x9) | fail)
  go_ret
  exact ⟨rfl, Z2.out⟩
set_option maxRecDepth 100000 in
set_option maxHeartbeats 4000000 in
theorem beginT_1 (W : World) (r : Nat) (t : Tt) (lv fv : Value) (h : DT W r t lv fv) (x : I10) (rx : x.Rng) (hok : x.ok = true) (hs : t.state x = 1) :
    Calls Try.prog 13 #[.pointer (some ⟨r, 0, none⟩), .agg #[.int .u8 x.n, .int .u16 x.l, .int .u32 x.s, .int .u8 x.d, .int .u8 x.a0, .int .u8 x.a1, .int .u8 x.b0, .int .u8 x.b1, .int .u8 x.c0, .int .u8 x.c1]] W fun e W' => e = .returned (.int .i64 4) ∧ Below W.heap.size W W' := by
  obtain ⟨W1, hW1⟩ : ∃ z, W.alloc (.cells #[.int .u8 x.n, .int .u16 x.l, .int .u32 x.s, .int .u8 x.d, .int .u8 x.a0, .int .u8 x.a1, .int .u8 x.b0, .int .u8 x.b1, .int .u8 x.c0, .int .u8 x.c1] 43) = z := ⟨_, rfl⟩
  have b1 : Below W.heap.size W W1 := by rw [← hW1]; exact (Below.refl _ _).alloc (Nat.le_refl _) _
  obtain ⟨kx, hkx⟩ : ∃ z, W.heap.size = z := ⟨_, rfl⟩
  have R1 : W1.heap[kx]? = some (.cells #[.int .u8 x.n, .int .u16 x.l, .int .u32 x.s, .int .u8 x.d, .int .u8 x.a0, .int .u8 x.a1, .int .u8 x.b0, .int .u8 x.b1, .int .u8 x.c0, .int .u8 x.c1] 43 (0, 0)) := by rw [← hW1, ← hkx]; exact heap_alloc_new _ _
  have D1 := Lib.hid (h.below b1)
  have X1 := Lib.hid R1
  have B1 := Lib.hid b1
  have HW1 := Lib.hid hW1
  have HKX := Lib.hid hkx
  have S1 : Hid (kx < W1.heap.size) := Lib.hid (bltA R1)
  have Z1 : Hid (Below kx W W1) := Lib.hid (hkx ▸ b1)
  have KR : Hid (Calls Try.prog 37 #[.agg #[.int .u8 x.n, .int .u16 x.l, .int .u32 x.s, .int .u8 x.d, .int .u8 x.a0, .int .u8 x.a1, .int .u8 x.b0, .int .u8 x.b1, .int .u8 x.c0, .int .u8 x.c1]] W1 fun e W' => e = .returned (.bool true) ∧ Below W1.heap.size W1 W') := Lib.hid (by
    have := refRight x.n x.l x.s x.d x.a0 x.a1 x.b0 x.b1 x.c0 x.c1 W1 rx.d.1
    rw [show rI x.n x.l x.s x.d x.a0 x.a1 x.b0 x.b1 x.c0 x.c1 = true from hok] at this
    exact this)
  have KS : Hid (∀ w : World, DT w r t lv fv → Calls Try.prog 24 #[.pointer (some ⟨r, 0, none⟩), .agg #[.int .u8 x.n, .int .u16 x.l, .int .u32 x.s, .int .u8 x.d, .int .u8 x.a0, .int .u8 x.a1, .int .u8 x.b0, .int .u8 x.b1, .int .u8 x.c0, .int .u8 x.c1]] w fun e W' => e = .returned (.int .i64 1) ∧ Below w.heap.size w W') := Lib.hid fun w hw => hs ▸ stateT w r t _ fv hw x rx
  clear hs
  clear h b1 hW1 R1
  rw [hkx]
  go_enter Try.func13, Try.ntmps13
  go_wp2_with (first | rw [HW1.out, HKX.out] | fail)
  rw [HW1.out]
  have x0 := cell_of X1.out 0 (.int .u8 x.n) rfl
  have x1 := cell_of X1.out 1 (.int .u16 x.l) rfl
  have x2 := cell_of X1.out 2 (.int .u32 x.s) rfl
  have x3 := cell_of X1.out 3 (.int .u8 x.d) rfl
  have x4 := cell_of X1.out 4 (.int .u8 x.a0) rfl
  have x5 := cell_of X1.out 5 (.int .u8 x.a1) rfl
  have x6 := cell_of X1.out 6 (.int .u8 x.b0) rfl
  have x7 := cell_of X1.out 7 (.int .u8 x.b1) rfl
  have x8 := cell_of X1.out 8 (.int .u8 x.c0) rfl
  have x9 := cell_of X1.out 9 (.int .u8 x.c1) rfl
  go_wp2_with (first | (go_at_call 37; refine KR.out.mono ?_; rintro e w2 ⟨rfl, b⟩; have D2 := Lib.hid (D1.out.below b); have X2 := Lib.hid ((b.block kx S1.out).trans X1.out); have Z2 := Lib.hid (Z1.out.trans (b.mono (Nat.le_of_lt S1.out))); have S2 : Hid (kx < w2.heap.size) := Lib.hid (Nat.lt_of_lt_of_le S1.out b.size); clear b; clear x0 x1 x2 x3 x4 x5 x6 x7 x8 x9; have x0 := cell_of X2.out 0 (.int .u8 x.n) rfl; have x1 := cell_of X2.out 1 (.int .u16 x.l) rfl; have x2 := cell_of X2.out 2 (.int .u32 x.s) rfl; have x3 := cell_of X2.out 3 (.int .u8 x.d) rfl; have x4 := cell_of X2.out 4 (.int .u8 x.a0) rfl; have x5 := cell_of X2.out 5 (.int .u8 x.a1) rfl; have x6 := cell_of X2.out 6 (.int .u8 x.b0) rfl; have x7 := cell_of X2.out 7 (.int .u8 x.b1) rfl; have x8 := cell_of X2.out 8 (.int .u8 x.c0) rfl; have x9 := cell_of X2.out 9 (.int .u8 x.c1) rfl) | (go_at_call 24; refine (KS.out _ D2.out).mono ?_; rintro e w3 ⟨rfl, b⟩; have D3 := Lib.hid (D2.out.below b); have X3 := Lib.hid ((b.block kx S2.out).trans X2.out); have Z3 := Lib.hid (Z2.out.trans (b.mono (Nat.le_of_lt S2.out))); have S3 : Hid (kx < w3.heap.size) := Lib.hid (Nat.lt_of_lt_of_le S2.out b.size); clear b; clear x0 x1 x2 x3 x4 x5 x6 x7 x8 x9) | fail)
  go_ret
  exact ⟨rfl, Z3.out⟩
set_option maxRecDepth 100000 in
set_option maxHeartbeats 4000000 in
theorem beginT_2 (W : World) (r : Nat) (t : Tt) (lv fv : Value) (h : DT W r t lv fv) (x : I10) (rx : x.Rng) (hok : x.ok = true) (hs : t.state x = 2) :
    Calls Try.prog 13 #[.pointer (some ⟨r, 0, none⟩), .agg #[.int .u8 x.n, .int .u16 x.l, .int .u32 x.s, .int .u8 x.d, .int .u8 x.a0, .int .u8 x.a1, .int .u8 x.b0, .int .u8 x.b1, .int .u8 x.c0, .int .u8 x.c1]] W fun e W' => e = .returned (.int .i64 4) ∧ Below W.heap.size W W' := by
  obtain ⟨W1, hW1⟩ : ∃ z, W.alloc (.cells #[.int .u8 x.n, .int .u16 x.l, .int .u32 x.s, .int .u8 x.d, .int .u8 x.a0, .int .u8 x.a1, .int .u8 x.b0, .int .u8 x.b1, .int .u8 x.c0, .int .u8 x.c1] 43) = z := ⟨_, rfl⟩
  have b1 : Below W.heap.size W W1 := by rw [← hW1]; exact (Below.refl _ _).alloc (Nat.le_refl _) _
  obtain ⟨kx, hkx⟩ : ∃ z, W.heap.size = z := ⟨_, rfl⟩
  have R1 : W1.heap[kx]? = some (.cells #[.int .u8 x.n, .int .u16 x.l, .int .u32 x.s, .int .u8 x.d, .int .u8 x.a0, .int .u8 x.a1, .int .u8 x.b0, .int .u8 x.b1, .int .u8 x.c0, .int .u8 x.c1] 43 (0, 0)) := by rw [← hW1, ← hkx]; exact heap_alloc_new _ _
  have D1 := Lib.hid (h.below b1)
  have X1 := Lib.hid R1
  have B1 := Lib.hid b1
  have HW1 := Lib.hid hW1
  have HKX := Lib.hid hkx
  have S1 : Hid (kx < W1.heap.size) := Lib.hid (bltA R1)
  have Z1 : Hid (Below kx W W1) := Lib.hid (hkx ▸ b1)
  have KR : Hid (Calls Try.prog 37 #[.agg #[.int .u8 x.n, .int .u16 x.l, .int .u32 x.s, .int .u8 x.d, .int .u8 x.a0, .int .u8 x.a1, .int .u8 x.b0, .int .u8 x.b1, .int .u8 x.c0, .int .u8 x.c1]] W1 fun e W' => e = .returned (.bool true) ∧ Below W1.heap.size W1 W') := Lib.hid (by
    have := refRight x.n x.l x.s x.d x.a0 x.a1 x.b0 x.b1 x.c0 x.c1 W1 rx.d.1
    rw [show rI x.n x.l x.s x.d x.a0 x.a1 x.b0 x.b1 x.c0 x.c1 = true from hok] at this
    exact this)
  have KS : Hid (∀ w : World, DT w r t lv fv → Calls Try.prog 24 #[.pointer (some ⟨r, 0, none⟩), .agg #[.int .u8 x.n, .int .u16 x.l, .int .u32 x.s, .int .u8 x.d, .int .u8 x.a0, .int .u8 x.a1, .int .u8 x.b0, .int .u8 x.b1, .int .u8 x.c0, .int .u8 x.c1]] w fun e W' => e = .returned (.int .i64 2) ∧ Below w.heap.size w W') := Lib.hid fun w hw => hs ▸ stateT w r t _ fv hw x rx
  clear hs
  clear h b1 hW1 R1
  rw [hkx]
  go_enter Try.func13, Try.ntmps13
  go_wp2_with (first | rw [HW1.out, HKX.out] | fail)
  rw [HW1.out]
  have x0 := cell_of X1.out 0 (.int .u8 x.n) rfl
  have x1 := cell_of X1.out 1 (.int .u16 x.l) rfl
  have x2 := cell_of X1.out 2 (.int .u32 x.s) rfl
  have x3 := cell_of X1.out 3 (.int .u8 x.d) rfl
  have x4 := cell_of X1.out 4 (.int .u8 x.a0) rfl
  have x5 := cell_of X1.out 5 (.int .u8 x.a1) rfl
  have x6 := cell_of X1.out 6 (.int .u8 x.b0) rfl
  have x7 := cell_of X1.out 7 (.int .u8 x.b1) rfl
  have x8 := cell_of X1.out 8 (.int .u8 x.c0) rfl
  have x9 := cell_of X1.out 9 (.int .u8 x.c1) rfl
  go_wp2_with (first | (go_at_call 37; refine KR.out.mono ?_; rintro e w2 ⟨rfl, b⟩; have D2 := Lib.hid (D1.out.below b); have X2 := Lib.hid ((b.block kx S1.out).trans X1.out); have Z2 := Lib.hid (Z1.out.trans (b.mono (Nat.le_of_lt S1.out))); have S2 : Hid (kx < w2.heap.size) := Lib.hid (Nat.lt_of_lt_of_le S1.out b.size); clear b; clear x0 x1 x2 x3 x4 x5 x6 x7 x8 x9; have x0 := cell_of X2.out 0 (.int .u8 x.n) rfl; have x1 := cell_of X2.out 1 (.int .u16 x.l) rfl; have x2 := cell_of X2.out 2 (.int .u32 x.s) rfl; have x3 := cell_of X2.out 3 (.int .u8 x.d) rfl; have x4 := cell_of X2.out 4 (.int .u8 x.a0) rfl; have x5 := cell_of X2.out 5 (.int .u8 x.a1) rfl; have x6 := cell_of X2.out 6 (.int .u8 x.b0) rfl; have x7 := cell_of X2.out 7 (.int .u8 x.b1) rfl; have x8 := cell_of X2.out 8 (.int .u8 x.c0) rfl; have x9 := cell_of X2.out 9 (.int .u8 x.c1) rfl) | (go_at_call 24; refine (KS.out _ D2.out).mono ?_; rintro e w3 ⟨rfl, b⟩; have D3 := Lib.hid (D2.out.below b); have X3 := Lib.hid ((b.block kx S2.out).trans X2.out); have Z3 := Lib.hid (Z2.out.trans (b.mono (Nat.le_of_lt S2.out))); have S3 : Hid (kx < w3.heap.size) := Lib.hid (Nat.lt_of_lt_of_le S2.out b.size); clear b; clear x0 x1 x2 x3 x4 x5 x6 x7 x8 x9) | fail)
  go_ret
  exact ⟨rfl, Z3.out⟩
set_option maxRecDepth 100000 in
set_option maxHeartbeats 4000000 in
theorem beginT_3 (W : World) (r : Nat) (t : Tt) (lv fv : Value) (h : DT W r t lv fv) (x : I10) (rx : x.Rng) (hok : x.ok = true) (hs : t.state x = 3) :
    Calls Try.prog 13 #[.pointer (some ⟨r, 0, none⟩), .agg #[.int .u8 x.n, .int .u16 x.l, .int .u32 x.s, .int .u8 x.d, .int .u8 x.a0, .int .u8 x.a1, .int .u8 x.b0, .int .u8 x.b1, .int .u8 x.c0, .int .u8 x.c1]] W fun e W' => e = .returned (.int .i64 16) ∧ Below W.heap.size W W' := by
  obtain ⟨W1, hW1⟩ : ∃ z, W.alloc (.cells #[.int .u8 x.n, .int .u16 x.l, .int .u32 x.s, .int .u8 x.d, .int .u8 x.a0, .int .u8 x.a1, .int .u8 x.b0, .int .u8 x.b1, .int .u8 x.c0, .int .u8 x.c1] 43) = z := ⟨_, rfl⟩
  have b1 : Below W.heap.size W W1 := by rw [← hW1]; exact (Below.refl _ _).alloc (Nat.le_refl _) _
  obtain ⟨kx, hkx⟩ : ∃ z, W.heap.size = z := ⟨_, rfl⟩
  have R1 : W1.heap[kx]? = some (.cells #[.int .u8 x.n, .int .u16 x.l, .int .u32 x.s, .int .u8 x.d, .int .u8 x.a0, .int .u8 x.a1, .int .u8 x.b0, .int .u8 x.b1, .int .u8 x.c0, .int .u8 x.c1] 43 (0, 0)) := by rw [← hW1, ← hkx]; exact heap_alloc_new _ _
  have D1 := Lib.hid (h.below b1)
  have X1 := Lib.hid R1
  have B1 := Lib.hid b1
  have HW1 := Lib.hid hW1
  have HKX := Lib.hid hkx
  have S1 : Hid (kx < W1.heap.size) := Lib.hid (bltA R1)
  have Z1 : Hid (Below kx W W1) := Lib.hid (hkx ▸ b1)
  have KR : Hid (Calls Try.prog 37 #[.agg #[.int .u8 x.n, .int .u16 x.l, .int .u32 x.s, .int .u8 x.d, .int .u8 x.a0, .int .u8 x.a1, .int .u8 x.b0, .int .u8 x.b1, .int .u8 x.c0, .int .u8 x.c1]] W1 fun e W' => e = .returned (.bool true) ∧ Below W1.heap.size W1 W') := Lib.hid (by
    have := refRight x.n x.l x.s x.d x.a0 x.a1 x.b0 x.b1 x.c0 x.c1 W1 rx.d.1
    rw [show rI x.n x.l x.s x.d x.a0 x.a1 x.b0 x.b1 x.c0 x.c1 = true from hok] at this
    exact this)
  have KS : Hid (∀ w : World, DT w r t lv fv → Calls Try.prog 24 #[.pointer (some ⟨r, 0, none⟩), .agg #[.int .u8 x.n, .int .u16 x.l, .int .u32 x.s, .int .u8 x.d, .int .u8 x.a0, .int .u8 x.a1, .int .u8 x.b0, .int .u8 x.b1, .int .u8 x.c0, .int .u8 x.c1]] w fun e W' => e = .returned (.int .i64 3) ∧ Below w.heap.size w W') := Lib.hid fun w hw => hs ▸ stateT w r t _ fv hw x rx
  clear hs
  clear h b1 hW1 R1
  rw [hkx]
  go_enter Try.func13, Try.ntmps13
  go_wp2_with (first | rw [HW1.out, HKX.out] | fail)
  rw [HW1.out]
  have x0 := cell_of X1.out 0 (.int .u8 x.n) rfl
  have x1 := cell_of X1.out 1 (.int .u16 x.l) rfl
  have x2 := cell_of X1.out 2 (.int .u32 x.s) rfl
  have x3 := cell_of X1.out 3 (.int .u8 x.d) rfl
  have x4 := cell_of X1.out 4 (.int .u8 x.a0) rfl
  have x5 := cell_of X1.out 5 (.int .u8 x.a1) rfl
  have x6 := cell_of X1.out 6 (.int .u8 x.b0) rfl
  have x7 := cell_of X1.out 7 (.int .u8 x.b1) rfl
  have x8 := cell_of X1.out 8 (.int .u8 x.c0) rfl
  have x9 := cell_of X1.out 9 (.int .u8 x.c1) rfl
  go_wp2_with (first | (go_at_call 37; refine KR.out.mono ?_; rintro e w2 ⟨rfl, b⟩; have D2 := Lib.hid (D1.out.below b); have X2 := Lib.hid ((b.block kx S1.out).trans X1.out); have Z2 := Lib.hid (Z1.out.trans (b.mono (Nat.le_of_lt S1.out))); have S2 : Hid (kx < w2.heap.size) := Lib.hid (Nat.lt_of_lt_of_le S1.out b.size); clear b; clear x0 x1 x2 x3 x4 x5 x6 x7 x8 x9; have x0 := cell_of X2.out 0 (.int .u8 x.n) rfl; have x1 := cell_of X2.out 1 (.int .u16 x.l) rfl; have x2 := cell_of X2.out 2 (.int .u32 x.s) rfl; have x3 := cell_of X2.out 3 (.int .u8 x.d) rfl; have x4 := cell_of X2.out 4 (.int .u8 x.a0) rfl; have x5 := cell_of X2.out 5 (.int .u8 x.a1) rfl; have x6 := cell_of X2.out 6 (.int .u8 x.b0) rfl; have x7 := cell_of X2.out 7 (.int .u8 x.b1) rfl; have x8 := cell_of X2.out 8 (.int .u8 x.c0) rfl; have x9 := cell_of X2.out 9 (.int .u8 x.c1) rfl) | (go_at_call 24; refine (KS.out _ D2.out).mono ?_; rintro e w3 ⟨rfl, b⟩; have D3 := Lib.hid (D2.out.below b); have X3 := Lib.hid ((b.block kx S2.out).trans X2.out); have Z3 := Lib.hid (Z2.out.trans (b.mono (Nat.le_of_lt S2.out))); have S3 : Hid (kx < w3.heap.size) := Lib.hid (Nat.lt_of_lt_of_le S2.out b.size); clear b; clear x0 x1 x2 x3 x4 x5 x6 x7 x8 x9) | fail)
  go_ret
  exact ⟨rfl, Z3.out⟩
set_option maxRecDepth 100000 in
set_option maxHeartbeats 4000000 in
theorem beginT_4 (W : World) (r : Nat) (t : Tt) (lv fv : Value) (h : DT W r t lv fv) (x : I10) (rx : x.Rng) (hok : x.ok = true) (hs : t.state x = 4) :
    Calls Try.prog 13 #[.pointer (some ⟨r, 0, none⟩), .agg #[.int .u8 x.n, .int .u16 x.l, .int .u32 x.s, .int .u8 x.d, .int .u8 x.a0, .int .u8 x.a1, .int .u8 x.b0, .int .u8 x.b1, .int .u8 x.c0, .int .u8 x.c1]] W fun e W' => e = .returned (.int .i64 10) ∧ Below W.heap.size W W' := by
  obtain ⟨W1, hW1⟩ : ∃ z, W.alloc (.cells #[.int .u8 x.n, .int .u16 x.l, .int .u32 x.s, .int .u8 x.d, .int .u8 x.a0, .int .u8 x.a1, .int .u8 x.b0, .int .u8 x.b1, .int .u8 x.c0, .int .u8 x.c1] 43) = z := ⟨_, rfl⟩
  have b1 : Below W.heap.size W W1 := by rw [← hW1]; exact (Below.refl _ _).alloc (Nat.le_refl _) _
  obtain ⟨kx, hkx⟩ : ∃ z, W.heap.size = z := ⟨_, rfl⟩
  have R1 : W1.heap[kx]? = some (.cells #[.int .u8 x.n, .int .u16 x.l, .int .u32 x.s, .int .u8 x.d, .int .u8 x.a0, .int .u8 x.a1, .int .u8 x.b0, .int .u8 x.b1, .int .u8 x.c0, .int .u8 x.c1] 43 (0, 0)) := by rw [← hW1, ← hkx]; exact heap_alloc_new _ _
  have D1 := Lib.hid (h.below b1)
  have X1 := Lib.hid R1
  have B1 := Lib.hid b1
  have HW1 := Lib.hid hW1
  have HKX := Lib.hid hkx
  have S1 : Hid (kx < W1.heap.size) := Lib.hid (bltA R1)
  have Z1 : Hid (Below kx W W1) := Lib.hid (hkx ▸ b1)
  have KR : Hid (Calls Try.prog 37 #[.agg #[.int .u8 x.n, .int .u16 x.l, .int .u32 x.s, .int .u8 x.d, .int .u8 x.a0, .int .u8 x.a1, .int .u8 x.b0, .int .u8 x.b1, .int .u8 x.c0, .int .u8 x.c1]] W1 fun e W' => e = .returned (.bool true) ∧ Below W1.heap.size W1 W') := Lib.hid (by
    have := refRight x.n x.l x.s x.d x.a0 x.a1 x.b0 x.b1 x.c0 x.c1 W1 rx.d.1
    rw [show rI x.n x.l x.s x.d x.a0 x.a1 x.b0 x.b1 x.c0 x.c1 = true from hok] at this
    exact this)
  have KS : Hid (∀ w : World, DT w r t lv fv → Calls Try.prog 24 #[.pointer (some ⟨r, 0, none⟩), .agg #[.int .u8 x.n, .int .u16 x.l, .int .u32 x.s, .int .u8 x.d, .int .u8 x.a0, .int .u8 x.a1, .int .u8 x.b0, .int .u8 x.b1, .int .u8 x.c0, .int .u8 x.c1]] w fun e W' => e = .returned (.int .i64 4) ∧ Below w.heap.size w W') := Lib.hid fun w hw => hs ▸ stateT w r t _ fv hw x rx
  clear hs
  clear h b1 hW1 R1
  rw [hkx]
  go_enter Try.func13, Try.ntmps13
  go_wp2_with (first | rw [HW1.out, HKX.out] | fail)
  rw [HW1.out]
  have x0 := cell_of X1.out 0 (.int .u8 x.n) rfl
  have x1 := cell_of X1.out 1 (.int .u16 x.l) rfl
  have x2 := cell_of X1.out 2 (.int .u32 x.s) rfl
  have x3 := cell_of X1.out 3 (.int .u8 x.d) rfl
  have x4 := cell_of X1.out 4 (.int .u8 x.a0) rfl
  have x5 := cell_of X1.out 5 (.int .u8 x.a1) rfl
  have x6 := cell_of X1.out 6 (.int .u8 x.b0) rfl
  have x7 := cell_of X1.out 7 (.int .u8 x.b1) rfl
  have x8 := cell_of X1.out 8 (.int .u8 x.c0) rfl
  have x9 := cell_of X1.out 9 (.int .u8 x.c1) rfl
  go_wp2_with (first | (go_at_call 37; refine KR.out.mono ?_; rintro e w2 ⟨rfl, b⟩; have D2 := Lib.hid (D1.out.below b); have X2 := Lib.hid ((b.block kx S1.out).trans X1.out); have Z2 := Lib.hid (Z1.out.trans (b.mono (Nat.le_of_lt S1.out))); have S2 : Hid (kx < w2.heap.size) := Lib.hid (Nat.lt_of_lt_of_le S1.out b.size); clear b; clear x0 x1 x2 x3 x4 x5 x6 x7 x8 x9; have x0 := cell_of X2.out 0 (.int .u8 x.n) rfl; have x1 := cell_of X2.out 1 (.int .u16 x.l) rfl; have x2 := cell_of X2.out 2 (.int .u32 x.s) rfl; have x3 := cell_of X2.out 3 (.int .u8 x.d) rfl; have x4 := cell_of X2.out 4 (.int .u8 x.a0) rfl; have x5 := cell_of X2.out 5 (.int .u8 x.a1) rfl; have x6 := cell_of X2.out 6 (.int .u8 x.b0) rfl; have x7 := cell_of X2.out 7 (.int .u8 x.b1) rfl; have x8 := cell_of X2.out 8 (.int .u8 x.c0) rfl; have x9 := cell_of X2.out 9 (.int .u8 x.c1) rfl) | (go_at_call 24; refine (KS.out _ D2.out).mono ?_; rintro e w3 ⟨rfl, b⟩; have D3 := Lib.hid (D2.out.below b); have X3 := Lib.hid ((b.block kx S2.out).trans X2.out); have Z3 := Lib.hid (Z2.out.trans (b.mono (Nat.le_of_lt S2.out))); have S3 : Hid (kx < w3.heap.size) := Lib.hid (Nat.lt_of_lt_of_le S2.out b.size); clear b; clear x0 x1 x2 x3 x4 x5 x6 x7 x8 x9) | fail)
  go_ret
  exact ⟨rfl, Z3.out⟩

end Go.Proofs.Ytldbmmganicliaa
