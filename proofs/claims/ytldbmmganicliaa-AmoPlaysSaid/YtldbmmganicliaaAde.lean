/-
  The document's End over a table. Condition: the table lies in memory, numbers fit their kinds, it has fewer than 1000 rows.
-/
import Derived.Test.YtldbmmganicliaaAdb
namespace Go.Proofs.Ytldbmmganicliaa
set_option linter.unusedSimpArgs false
set_option linter.unusedVariables false
open Go.RowKit Go.Maps Go.Sort

theorem RowO.setElemA {α : Type} {f : α → Array Value} {W W' : World} {e : TypeId} {sz g o n c : Nat} {L : List α} (hs : ∀ x, (f x).size = sz) (hz : 0 < sz) (h : RowO W e sz (.slice (some ⟨g, o, none⟩) n c) n (flat f L)) (hn : L.length = n) {k : Nat} (hk : k < L.length) (y : α) (cur cur' : Array Value)
    (hc : W.heap[g]? = some (.cells cur e (0, 0))) (hc' : W'.heap[g]? = some (.cells cur' e (0, 0))) (hsz : cur'.size = cur.size) (hout : ∀ j, j < o + k * sz ∨ o + k * sz + sz ≤ j → cur'[j]? = cur[j]?) (hin : ∀ r, r < sz → cur'[o + k * sz + r]? = (f y)[r]?) :
    RowO W' e sz (.slice (some ⟨g, o, none⟩) n c) n (flat f (L.set k y)) := by
  refine ⟨by rw [flat_len hs, List.length_set, hn], ?_⟩
  rcases h.2 with ⟨h0, _⟩ | ⟨g', o', cap, cu, h1, hg, h2, h3, h4, h5⟩
  · cases h0
  · cases h1
    rw [hc] at hg
    cases hg
    refine .inr ⟨g, o, c, cur', rfl, hc', h2, h3, by rw [hsz]; exact h4, fun j u hu => ?_⟩
    have hj := (List.getElem?_eq_some_iff.1 hu).1
    rw [flat_len hs, List.length_set, hn] at hj
    have e1 : j / sz * sz + j % sz = j := Nat.div_add_mod' j sz
    have e2 : j % sz < sz := Nat.mod_lt _ hz
    have e3 : j / sz < n := Nat.div_lt_of_lt_mul (by rw [Nat.mul_comm]; exact hj)
    obtain ⟨i, hi⟩ : ∃ i, j / sz = i := ⟨_, rfl⟩
    obtain ⟨r, hr⟩ : ∃ r, j % sz = r := ⟨_, rfl⟩
    rw [hi] at e1 e3
    rw [hr] at e1 e2
    subst e1
    by_cases hik : i = k
    · subst hik
      rw [flat_at hs (L.set i y) i y (by rw [List.getElem?_set_self hk]) r e2] at hu
      rw [← Nat.add_assoc, hin r e2]
      exact hu
    · have hz := List.getElem?_eq_getElem (show i < L.length by omega)
      rw [flat_at hs (L.set k y) i _ ((List.getElem?_set_ne (fun e => hik e.symm)).trans hz) r e2] at hu
      rw [← flat_at hs L i _ hz r e2] at hu
      rw [hout]
      · exact h5 _ _ hu
      · rcases Nat.lt_or_gt_of_ne hik with hl | hl
        · left
          have := Nat.mul_le_mul_right sz (show i + 1 ≤ k from hl)
          rw [Nat.add_mul] at this
          omega
        · right
          have := Nat.mul_le_mul_right sz (show k + 1 ≤ i from hl)
          rw [Nat.add_mul] at this
          omega

theorem wpList_appZA {P : Program} {w : World} {ops : Array Oper} {rest : List Oper} {o : Oper} {a : Act} {Q : Exit → Act → World → Prop} (hgd : o.guard = none) (d : Tmp) (hd : o.dst = some d) (s x : Operand) (t e : TypeId)
    (ho : o.op = .call { callee := .builtin .append, args := #[s, x], argTypes := #[t, t] }) (i : TypeInfo) (z : Value) (sz bytes : Nat) (ht : P.underlying t = some (.slice e)) (hi : P.info? e = some i) (hz : i.zero = some z)
    (hsize : i.size = sz) (hby : i.bytes = bytes) (hzs : z.cells.size = sz) (hsz : 0 < sz)
    (v : Value) (n : Nat) (xs : List Value) (hs : a.eval s = v) (hr : RowO w e sz v n xs)
    (sA : Option Addr) (m c : Nat) (news : List Value) (hx : a.eval x = .slice sA m c) (hl : news.length = m * sz) (hnews : m ≠ 0 → ∃ ad, sA = some ad ∧ ∀ j u, news[j]? = some u → w.cell? (ad.add j) = some u) (h1 : ∀ u ∈ news, u.oneCell' = true)
    (hlen : n + m ≤ 100000) (hbytes : bytes ≤ 1000)
    (h : ∀ v' w', RowO w' e sz v' (n + m) (xs ++ news) → w.grownBy w' v.ownBlock → (v'.ownBlock = v.ownBlock ∨ ∃ k, v'.ownBlock = some k ∧ w.heap.size ≤ k) → wpList P ops Q rest (a.put (some d) v') w') : wpList P ops Q (o :: rest) a w :=
  wpList_plain hgd fun K hK => wp_appZA d hd s x t e ho i z sz bytes ht hi hz hsize hby hzs hsz v n xs hs hr sA m c news hx hl hnews h1 hlen hbytes fun v' w' a1 a2 a3 => hK _ _ (h v' w' a1 a2 a3)
set_option maxRecDepth 100000 in
set_option maxHeartbeats 4000000 in
theorem endT_no (W : World) (r : Nat) (t : Tt) (lv fv : Value) (h : DT W r t lv fv) (x : I10) (rx : x.Rng) (code : Int) (val : ByteArray) (hno : ¬ (isT t.L x = true ∧ t.ended x = false)) :
    Calls Try.prog 16 #[.pointer (some ⟨r, 0, none⟩), .agg #[.int .u8 x.n, .int .u16 x.l, .int .u32 x.s, .int .u8 x.d, .int .u8 x.a0, .int .u8 x.a1, .int .u8 x.b0, .int .u8 x.b1, .int .u8 x.c0, .int .u8 x.c1], .agg #[.int .u8 code, .string val]] W fun e W' => e = .returned (.bool false) ∧ Below W.heap.size W W' := by
  obtain ⟨W1, hW1⟩ : ∃ z, W.alloc (.cells #[.int .u8 x.n, .int .u16 x.l, .int .u32 x.s, .int .u8 x.d, .int .u8 x.a0, .int .u8 x.a1, .int .u8 x.b0, .int .u8 x.b1, .int .u8 x.c0, .int .u8 x.c1] 43) = z := ⟨_, rfl⟩
  have b1 : Below W.heap.size W W1 := by rw [← hW1]; exact (Below.refl _ _).alloc (Nat.le_refl _) _
  obtain ⟨kx, hkx⟩ : ∃ z, W.heap.size = z := ⟨_, rfl⟩
  have R1 : W1.heap[kx]? = some (.cells #[.int .u8 x.n, .int .u16 x.l, .int .u32 x.s, .int .u8 x.d, .int .u8 x.a0, .int .u8 x.a1, .int .u8 x.b0, .int .u8 x.b1, .int .u8 x.c0, .int .u8 x.c1] 43 (0, 0)) := by rw [← hW1, ← hkx]; exact heap_alloc_new _ _
  have hs1 : W1.heap.size = kx + 1 := by
    rw [← hW1]
    show (W.heap.push _).size = _
    rw [Array.size_push, hkx]
  obtain ⟨W2, hW2⟩ : ∃ z, W1.alloc (.cells #[.int .u8 code, .string val] 45) = z := ⟨_, rfl⟩
  have b2 : Below W1.heap.size W1 W2 := by rw [← hW2]; exact (Below.refl _ _).alloc (Nat.le_refl _) _
  have X2 := Lib.hid ((b2.block kx (bltA R1)).trans R1)
  have y2 : W2.heap[kx + 1]? = some (.cells #[.int .u8 code, .string val] 45 (0, 0)) := by rw [← hW2, ← hs1]; exact heap_alloc_new _ _
  have Y2 := Lib.hid y2
  have S2 : Hid (kx + 1 < W2.heap.size) := Lib.hid (bltA y2)
  have D2 := Lib.hid ((h.below b1).below b2)
  have Z2 : Hid (Below kx W W2) := Lib.hid ((hkx ▸ b1 : Below kx W W1).trans (b2.mono (by omega)))
  have HW1 := Lib.hid hW1
  have HW2 := Lib.hid hW2
  have HKX := Lib.hid hkx
  obtain ⟨A, c, rfl, hc, hm, hA⟩ := h.rows.slice
  obtain ⟨n, hn⟩ : ∃ z, t.L.length = z := ⟨_, rfl⟩
  have HN := Lib.hid hn
  rw [hn] at hc
  have HA := Lib.hid hA
  have hcapi : (n : Int) ≤ (c : Int) := by omega
  have HC := Lib.hid (And.intro hc hm)
  have KF := Lib.hid (findT W2 r t _ fv D2.out x rx)
  have HRX := Lib.hid rx
  clear hA hn h b1 hW1 hW2 R1 b2 y2 rx
  rw [hkx]
  go_enter Try.func16, Try.ntmps16
  have x0 := cell_of X2.out 0 (.int .u8 x.n) rfl
  have x1 := cell_of X2.out 1 (.int .u16 x.l) rfl
  have x2 := cell_of X2.out 2 (.int .u32 x.s) rfl
  have x3 := cell_of X2.out 3 (.int .u8 x.d) rfl
  have x4 := cell_of X2.out 4 (.int .u8 x.a0) rfl
  have x5 := cell_of X2.out 5 (.int .u8 x.a1) rfl
  have x6 := cell_of X2.out 6 (.int .u8 x.b0) rfl
  have x7 := cell_of X2.out 7 (.int .u8 x.b1) rfl
  have x8 := cell_of X2.out 8 (.int .u8 x.c0) rfl
  have x9 := cell_of X2.out 9 (.int .u8 x.c1) rfl
  by_cases hi : isT t.L x = true
  · as_aux_lemma =>
    skip
    obtain ⟨y, hy, hlt, _⟩ := isT_row hi
    have KF : Hid (Calls Try.prog 38 #[.pointer (some ⟨r, 0, none⟩), .agg #[.int .u8 x.n, .int .u16 x.l, .int .u32 x.s, .int .u8 x.d, .int .u8 x.a0, .int .u8 x.a1, .int .u8 x.b0, .int .u8 x.b1, .int .u8 x.c0, .int .u8 x.c1]] W2 fun e W' => e = .returned (.tuple #[.int .i64 (fndT t.L x), .bool true]) ∧ Below W2.heap.size W2 W') := Lib.hid (hi ▸ KF.out)
    obtain ⟨k, hk⟩ : ∃ k, fndT t.L x = k := ⟨_, rfl⟩
    have HK := Lib.hid hk
    rw [hk] at KF hy hlt
    rw [HN.out] at hlt
    have HKN := Lib.hid hlt
    have hki : (k : Int) < (n : Int) := by omega
    have HY := Lib.hid hy
    obtain ⟨g, o, rfl⟩ : ∃ g o, A = some ⟨g, o, none⟩ := by
      rcases HA.out with ⟨_, h1⟩ | h1
      · omega
      · exact h1
    have hen : y.en = true := by
      cases e : y.en with
      | true => rfl
      | false =>
        refine absurd ⟨hi, ?_⟩ hno
        simp only [Tt.ended, hk, hy, e]
    have HEN := Lib.hid hen
    clear hen hi hy hno
    go_wp2_with (first | rw [HW1.out] | rw [HW2.out] | (go_at_call 38; refine KF.out.mono ?_; rintro e w3 ⟨rfl, b⟩; have D3 := Lib.hid (D2.out.below b); have X3 := Lib.hid ((b.block kx (Nat.lt_of_succ_lt S2.out)).trans X2.out); have Y3 := Lib.hid ((b.block (kx + 1) S2.out).trans Y2.out); have Z3 := Lib.hid (Z2.out.trans (b.mono (Nat.le_of_lt (Nat.lt_of_succ_lt S2.out)))); have S3 : Hid (kx + 1 < w3.heap.size) := Lib.hid (Nat.lt_of_lt_of_le S2.out b.size); clear b; clear x0 x1 x2 x3 x4 x5 x6 x7 x8 x9; have blk := D3.out.blk; rw [HN.out] at blk; have s1 := cell_of blk 1 (.slice (some ⟨g, o, none⟩) n c) rfl; have rows := D3.out.rows; rw [HN.out] at rows; have r10 := (Rw.at_ rows HY.out).2.2.2.2.2.2.2.2.2.2.1; rw [HEN.out] at r10; clear rows blk) | fail)
    go_ret
    exact ⟨rfl, Z3.out⟩
  · as_aux_lemma =>
    skip
    have hi' : isT t.L x = false := by simpa using hi
    have KF : Hid (Calls Try.prog 38 #[.pointer (some ⟨r, 0, none⟩), .agg #[.int .u8 x.n, .int .u16 x.l, .int .u32 x.s, .int .u8 x.d, .int .u8 x.a0, .int .u8 x.a1, .int .u8 x.b0, .int .u8 x.b1, .int .u8 x.c0, .int .u8 x.c1]] W2 fun e W' => e = .returned (.tuple #[.int .i64 (fndT t.L x), .bool false]) ∧ Below W2.heap.size W2 W') := Lib.hid (hi' ▸ KF.out)
    obtain ⟨k, hk⟩ : ∃ k, fndT t.L x = k := ⟨_, rfl⟩
    rw [hk] at KF
    clear hi hi' hno
    go_wp2_with (first | rw [HW1.out] | rw [HW2.out] | (go_at_call 38; refine KF.out.mono ?_; rintro e w3 ⟨rfl, b⟩; have D3 := Lib.hid (D2.out.below b); have X3 := Lib.hid ((b.block kx (Nat.lt_of_succ_lt S2.out)).trans X2.out); have Y3 := Lib.hid ((b.block (kx + 1) S2.out).trans Y2.out); have Z3 := Lib.hid (Z2.out.trans (b.mono (Nat.le_of_lt (Nat.lt_of_succ_lt S2.out)))); have S3 : Hid (kx + 1 < w3.heap.size) := Lib.hid (Nat.lt_of_lt_of_le S2.out b.size); clear b; clear x0 x1 x2 x3 x4 x5 x6 x7 x8 x9) | fail)
    go_ret
    exact ⟨rfl, Z3.out⟩
theorem tabT_end {W w4 w11 : World} {kx B0 r : Nat} {t : Tt} {lv fv v : Value} {L' : List Rw} {m : Nat} (hZ : Below kx W w4) (hkx : W.heap.size = kx) (hB0 : w4.heap.size = B0) (b : Below B0 w4 w11) (D : DT w4 r t lv fv)
    (hl : w11.heap[r]? = some (.cells #[.int .i64 t.win, lv, fv] 71 (0, 0))) (O : RowO w11 93 13 v m (flat Rw.cs L')) (hm : m = L'.length) (own : ∀ q, v.ownBlock = some q → B0 ≤ q) (rg : ∀ x ∈ L', x.id.Rng ∧ (0 ≤ x.code ∧ x.code ≤ 255)) (hf : L'.length ≤ 1000) :
    DT (w11.setCell ⟨r, 1, none⟩ v) r { t with L := L' } v fv ∧ KP (fun q => q = r) W (w11.setCell ⟨r, 1, none⟩ v) := by
  subst hm
  have hr : r < B0 := hB0 ▸ bltA D.blk
  have ks : KP (fun q => q = r) w11 (w11.setCell ⟨r, 1, none⟩ v) := KP.set (S := fun q => q = r) w11 r 1 v rfl
  have b' : Below w4.heap.size w4 w11 := hB0.symm ▸ b
  refine ⟨⟨(row_set hl (i := 1) v).trans rfl, O.keepK ks fun q hq e => by have := own q hq; omega, (D.flo.below b').keepK ks fun q hq e => ?_, rg, D.frng, ⟨hf, D.few.2⟩, D.win⟩, ?_⟩
  · obtain ⟨c2, h2⟩ := (D.flo.below b').block q hq
    exact apart_of h2 hl (by decide) e
  · have k1 : KP (fun q => q = r) W w4 := KP.of_below (hkx.symm ▸ hZ)
    have k2 : KP (fun q => q = r) w4 w11 := KP.of_below b'
    exact (k1.trans k2 fun _ _ h => h).trans ks fun _ _ h => h
def setE (L : List Rw) (k : Nat) (y : Rw) (code : Int) (val : ByteArray) : List Rw := L.set k ⟨y.id, true, code, val⟩
theorem setE_rng {L : List Rw} {k : Nat} {y : Rw} {code : Int} {val : ByteArray} (hy : L[k]? = some y) (h : ∀ x ∈ L, x.id.Rng ∧ (0 ≤ x.code ∧ x.code ≤ 255)) (rc : 0 ≤ code ∧ code ≤ 255) : ∀ x ∈ setE L k y code val, x.id.Rng ∧ (0 ≤ x.code ∧ x.code ≤ 255) := by
  intro x hx
  rcases List.mem_or_eq_of_mem_set hx with hx | rfl
  · exact h x hx
  · exact ⟨(h y (List.mem_of_getElem? hy)).1, rc⟩
theorem end_row {W : World} {g o n c k : Nat} {L : List Rw} {y : Rw} (h : RowO W 93 13 (.slice (some ⟨g, o, none⟩) n c) n (flat Rw.cs L)) (hn : L.length = n) (hy : L[k]? = some y) (code : Int) (val : ByteArray) :
    RowO (((W.setCell ⟨g, o + k * 13 + 10, none⟩ (.bool true)).setCell ⟨g, o + k * 13 + 11, none⟩ (.int .u8 code)).setCell ⟨g, o + k * 13 + 12, none⟩ (.string val)) 93 13 (.slice (some ⟨g, o, none⟩) n c) n (flat Rw.cs (setE L k y code val)) := by
  have E1 : ∀ r, r < 13 → W.cell? ⟨g, o + k * 13 + r, none⟩ = (Rw.cs y)[r]? := fun r hr => RowO.elem Rw.sz h hy hr
  rcases h.2 with ⟨h0, _⟩ | ⟨g', o', cap, cur, h1, hg, _, _, _, _⟩
  · cases h0
  · cases h1
    have E : ∀ r, r < 13 → cur[o + k * 13 + r]? = (Rw.cs y)[r]? := fun r hr => by
      rw [← E1 r hr, cell_of_row _ _ _ _ _ _ hg]
    have hb : o + k * 13 + 12 < cur.size := by
      have := E 12 (by decide)
      exact (Array.getElem?_eq_some_iff.1 (this.trans rfl)).1
    have hk : k < L.length := (List.getElem?_eq_some_iff.1 hy).1
    refine RowO.setElemA Rw.sz (by decide) h hn hk _ cur (((cur.setIfInBounds (o + k * 13 + 10) (.bool true)).setIfInBounds (o + k * 13 + 11) (.int .u8 code)).setIfInBounds (o + k * 13 + 12) (.string val)) hg (row_set (row_set (row_set hg _) _) _) (by simp) (fun j hj => ?_) (fun r hr => ?_)
    · rw [Array.getElem?_setIfInBounds_ne (by omega), Array.getElem?_setIfInBounds_ne (by omega), Array.getElem?_setIfInBounds_ne (by omega)]
    · by_cases r9 : r < 10
      · rw [Array.getElem?_setIfInBounds_ne (by omega), Array.getElem?_setIfInBounds_ne (by omega), Array.getElem?_setIfInBounds_ne (by omega), E r hr]
        have : r = 0 ∨ r = 1 ∨ r = 2 ∨ r = 3 ∨ r = 4 ∨ r = 5 ∨ r = 6 ∨ r = 7 ∨ r = 8 ∨ r = 9 := by omega
        rcases this with rfl | rfl | rfl | rfl | rfl | rfl | rfl | rfl | rfl | rfl <;> rfl
      · have : r = 10 ∨ r = 11 ∨ r = 12 := by omega
        rcases this with rfl | rfl | rfl
        · rw [Array.getElem?_setIfInBounds_ne (by omega), Array.getElem?_setIfInBounds_ne (by omega), Array.getElem?_setIfInBounds_self_of_lt (by omega)]
          rfl
        · rw [Array.getElem?_setIfInBounds_ne (by omega), Array.getElem?_setIfInBounds_self_of_lt (by simp; omega)]
          rfl
        · rw [Array.getElem?_setIfInBounds_self_of_lt (by simp; omega)]
          rfl
theorem cell_set_neA {W : World} {g i j : Nat} {cur : Array Value} {t : TypeId} (h : W.heap[g]? = some (.cells cur t (0, 0))) (hij : i ≠ j) (v : Value) : (W.setCell ⟨g, j, none⟩ v).cell? ⟨g, i, none⟩ = W.cell? ⟨g, i, none⟩ := by
  rw [cell_of_row _ _ _ _ _ _ (row_set h v), cell_of_row _ _ _ _ _ _ h, Array.getElem?_setIfInBounds_ne (by omega)]
set_option maxRecDepth 100000 in
set_option maxHeartbeats 4000000 in
theorem endT_end (W : World) (r : Nat) (t : Tt) (lv fv : Value) (h : DT W r t lv fv) (x : I10) (rx : x.Rng) (code : Int) (val : ByteArray) (hin : isT t.L x = true) (hne : t.ended x = false) (hno : t.old x = false) (rc : 0 ≤ code ∧ code ≤ 255) :
    Calls Try.prog 16 #[.pointer (some ⟨r, 0, none⟩), .agg #[.int .u8 x.n, .int .u16 x.l, .int .u32 x.s, .int .u8 x.d, .int .u8 x.a0, .int .u8 x.a1, .int .u8 x.b0, .int .u8 x.b1, .int .u8 x.c0, .int .u8 x.c1], .agg #[.int .u8 code, .string val]] W fun e W' => e = .returned (.bool true) ∧ ∃ (y : Rw) (lv' : Value), t.L[fndT t.L x]? = some y ∧ DT W' r { t with L := setE t.L (fndT t.L x) y code val } lv' fv ∧ KP (fun q => q = r) W W' := by
  obtain ⟨W1, hW1⟩ : ∃ z, W.alloc (.cells #[.int .u8 x.n, .int .u16 x.l, .int .u32 x.s, .int .u8 x.d, .int .u8 x.a0, .int .u8 x.a1, .int .u8 x.b0, .int .u8 x.b1, .int .u8 x.c0, .int .u8 x.c1] 43) = z := ⟨_, rfl⟩
  have b1 : Below W.heap.size W W1 := by rw [← hW1]; exact (Below.refl _ _).alloc (Nat.le_refl _) _
  obtain ⟨kx, hkx⟩ : ∃ z, W.heap.size = z := ⟨_, rfl⟩
  have R1 : W1.heap[kx]? = some (.cells #[.int .u8 x.n, .int .u16 x.l, .int .u32 x.s, .int .u8 x.d, .int .u8 x.a0, .int .u8 x.a1, .int .u8 x.b0, .int .u8 x.b1, .int .u8 x.c0, .int .u8 x.c1] 43 (0, 0)) := by rw [← hW1, ← hkx]; exact heap_alloc_new _ _
  have hs1 : W1.heap.size = kx + 1 := by
    rw [← hW1]
    show (W.heap.push _).size = _
    rw [Array.size_push, hkx]
  obtain ⟨W2, hW2⟩ : ∃ z, W1.alloc (.cells #[.int .u8 code, .string val] 45) = z := ⟨_, rfl⟩
  have b2 : Below W1.heap.size W1 W2 := by rw [← hW2]; exact (Below.refl _ _).alloc (Nat.le_refl _) _
  have X2 := Lib.hid ((b2.block kx (bltA R1)).trans R1)
  have y2 : W2.heap[kx + 1]? = some (.cells #[.int .u8 code, .string val] 45 (0, 0)) := by rw [← hW2, ← hs1]; exact heap_alloc_new _ _
  have Y2 := Lib.hid y2
  have S2 : Hid (kx + 1 < W2.heap.size) := Lib.hid (bltA y2)
  have D2 := Lib.hid ((h.below b1).below b2)
  have Z2 : Hid (Below kx W W2) := Lib.hid ((hkx ▸ b1 : Below kx W W1).trans (b2.mono (by omega)))
  have HW1 := Lib.hid hW1
  have HW2 := Lib.hid hW2
  have HKX := Lib.hid hkx
  obtain ⟨A, c, rfl, hc, hm, hA⟩ := h.rows.slice
  obtain ⟨n, hn⟩ : ∃ z, t.L.length = z := ⟨_, rfl⟩
  have HN := Lib.hid hn
  rw [hn] at hc
  have HA := Lib.hid hA
  have hcapi : (n : Int) ≤ (c : Int) := by omega
  have HC := Lib.hid (And.intro hc hm)
  have KF := Lib.hid (findT W2 r t _ fv D2.out x rx)
  have HRX := Lib.hid rx
  clear hA hn h b1 hW1 hW2 R1 b2 y2 rx
  go_enter Try.func16, Try.ntmps16
  have x0 := cell_of X2.out 0 (.int .u8 x.n) rfl
  have x1 := cell_of X2.out 1 (.int .u16 x.l) rfl
  have x2 := cell_of X2.out 2 (.int .u32 x.s) rfl
  have x3 := cell_of X2.out 3 (.int .u8 x.d) rfl
  have x4 := cell_of X2.out 4 (.int .u8 x.a0) rfl
  have x5 := cell_of X2.out 5 (.int .u8 x.a1) rfl
  have x6 := cell_of X2.out 6 (.int .u8 x.b0) rfl
  have x7 := cell_of X2.out 7 (.int .u8 x.b1) rfl
  have x8 := cell_of X2.out 8 (.int .u8 x.c0) rfl
  have x9 := cell_of X2.out 9 (.int .u8 x.c1) rfl
  have hi := hin
  obtain ⟨y, hy, hlt, _⟩ := isT_row hi
  have KF : Hid (Calls Try.prog 38 #[.pointer (some ⟨r, 0, none⟩), .agg #[.int .u8 x.n, .int .u16 x.l, .int .u32 x.s, .int .u8 x.d, .int .u8 x.a0, .int .u8 x.a1, .int .u8 x.b0, .int .u8 x.b1, .int .u8 x.c0, .int .u8 x.c1]] W2 fun e W' => e = .returned (.tuple #[.int .i64 (fndT t.L x), .bool true]) ∧ Below W2.heap.size W2 W') := Lib.hid (hi ▸ KF.out)
  obtain ⟨k, hk⟩ : ∃ k, fndT t.L x = k := ⟨_, rfl⟩
  have HK := Lib.hid hk
  rw [hk] at KF hy hlt
  rw [HN.out] at hlt
  have HKN := Lib.hid hlt
  have hki : (k : Int) < (n : Int) := by omega
  have HY := Lib.hid hy
  obtain ⟨g, o, rfl⟩ : ∃ g o, A = some ⟨g, o, none⟩ := by
    rcases HA.out with ⟨_, h1⟩ | h1
    · omega
    · exact h1
  have hen : y.en = false := by
    have := hne
    simpa only [Tt.ended, hk, hy] using this
  have HEN := Lib.hid hen
  have KO : Hid (∀ w : World, DT w r t (.slice (some ⟨g, o, none⟩) t.L.length c) fv → Calls Try.prog 40 #[.pointer (some ⟨r, 0, none⟩), .agg #[.int .u8 x.n, .int .u16 x.l, .int .u32 x.s, .int .u8 x.d, .int .u8 x.a0, .int .u8 x.a1, .int .u8 x.b0, .int .u8 x.b1, .int .u8 x.c0, .int .u8 x.c1]] w fun e W' => e = .returned (.bool false) ∧ Below w.heap.size w W') := Lib.hid fun w hw => hno ▸ oldT w r t _ fv hw x HRX.out
  have HRC := Lib.hid rc
  obtain ⟨i0, hi0, hz0, hz1, hz2⟩ := info_parts rowIA
  clear hen hi hin hy hne hno rc
  go_wp2_with (first | rw [HW1.out] | rw [HW2.out] | (go_at_call 38; refine KF.out.mono ?_; rintro e w3 ⟨rfl, b⟩; have D3 := Lib.hid (D2.out.below b); have X3 := Lib.hid ((b.block kx (Nat.lt_of_succ_lt S2.out)).trans X2.out); have Y3 := Lib.hid ((b.block (kx + 1) S2.out).trans Y2.out); have Z3 := Lib.hid (Z2.out.trans (b.mono (Nat.le_of_lt (Nat.lt_of_succ_lt S2.out)))); have S3 : Hid (kx + 1 < w3.heap.size) := Lib.hid (Nat.lt_of_lt_of_le S2.out b.size); clear b; clear x0 x1 x2 x3 x4 x5 x6 x7 x8 x9; have b4 : Below w3.heap.size w3 (w3.alloc (.cells #[] 93)) := (Below.refl _ _).alloc (Nat.le_refl _) _; have O4 : Hid (RowO (w3.alloc (.cells #[] 93)) 93 13 (.slice (some ⟨w3.heap.size, 0, none⟩) 0 0) 0 []) := Lib.hid ⟨rfl, .inr ⟨w3.heap.size, 0, 0, #[], rfl, heap_alloc_new _ _, Nat.le_refl _, by unfold maxLen; omega, by simp, fun j u hu => by simp at hu⟩⟩; obtain ⟨w4, hw4⟩ : ∃ Y, w3.alloc (.cells #[] 93) = Y := ⟨_, rfl⟩; rw [hw4] at b4 O4; have HW4 := Lib.hid hw4; have B4 := Lib.hid b4; obtain ⟨e3, he3⟩ : ∃ z, w3.heap.size = z := ⟨_, rfl⟩; rw [he3] at O4; have HE3 := Lib.hid he3; have D4 := Lib.hid (D3.out.below b4); have R4 : Hid (RowO w4 93 13 (.slice (some ⟨g, o, none⟩) n c) n (flat Rw.cs t.L)) := Lib.hid (HN.out ▸ D4.out.rows); have blk := D3.out.blk; rw [HN.out] at blk; have s1 := cell_of blk 1 (.slice (some ⟨g, o, none⟩) n c) rfl; have rows := D3.out.rows; rw [HN.out] at rows; have r10 := (Rw.at_ rows HY.out).2.2.2.2.2.2.2.2.2.2.1; rw [HEN.out] at r10; clear rows blk; have blk4 := D4.out.blk; rw [HN.out] at blk4; have s4 := cell_of blk4 1 (.slice (some ⟨g, o, none⟩) n c) rfl; clear b4 hw4 blk4) | rw [HW4.out] | (at_builtin; refine wpList_appZA rfl 33 rfl (.tmp 28) (.tmp 32) 68 93 rfl i0 _ 13 48 Try.underlying68 hi0 hz0 hz1 hz2 rfl (by decide) (.slice (some ⟨e3, 0, none⟩) 0 0) 0 [] rfl O4.out (some ⟨g, o, none⟩) n c (flat Rw.cs t.L) rfl (by rw [flat_len Rw.sz, HN.out]) (fun _ => ⟨_, rfl, fun j u hu => by rw [addr_add]; exact R4.out.cells j u hu⟩) (flat_one Rw.one _) (by have := D4.out.few.1; have := HN.out; omega) (by decide) ?_; intro v5 w5 O5 g5 f5; rw [Nat.zero_add] at O5; rw [List.nil_append] at O5; have b : Below w3.heap.size w3 w5 := B4.out.grown g5 B4.out.size (fun q hq => Nat.le_of_eq (HE3.out.trans (by simpa [Value.ownBlock] using hq))); have own5 : ∀ q, v5.ownBlock = some q → w3.heap.size ≤ q := fun q hq => f5.elim (fun e => Nat.le_of_eq (HE3.out.trans (by rw [e] at hq; simpa [Value.ownBlock] using hq))) (fun ⟨q', e, hq'⟩ => by rw [e] at hq; cases hq; exact Nat.le_trans B4.out.size hq'); have B5 := Lib.hid b; have D5 := Lib.hid (D3.out.below b); have X5 := Lib.hid ((b.block kx (Nat.lt_of_succ_lt S3.out)).trans X3.out); have Y5 := Lib.hid ((b.block (kx + 1) S3.out).trans Y3.out); have Z5 := Lib.hid (Z3.out.trans (b.mono (Nat.le_of_lt (Nat.lt_of_succ_lt S3.out)))); have S5 : Hid (kx + 1 < w5.heap.size) := Lib.hid (Nat.lt_of_lt_of_le S3.out b.size); clear b; obtain ⟨A2, c2, rfl, hc2, _, hA2⟩ := O5.slice; obtain ⟨g2, o2, rfl⟩ : ∃ g2 o2, A2 = some ⟨g2, o2, none⟩ := hA2.elim (fun h0 => by have := h0.2; have := HKN.out; omega) id; have O5' := Lib.hid O5; have OWN5 := Lib.hid own5; have x0 := cell_of X5.out 0 (.int .u8 x.n) rfl; have x1 := cell_of X5.out 1 (.int .u16 x.l) rfl; have x2 := cell_of X5.out 2 (.int .u32 x.s) rfl; have x3 := cell_of X5.out 3 (.int .u8 x.d) rfl; have x4 := cell_of X5.out 4 (.int .u8 x.a0) rfl; have x5 := cell_of X5.out 5 (.int .u8 x.a1) rfl; have x6 := cell_of X5.out 6 (.int .u8 x.b0) rfl; have x7 := cell_of X5.out 7 (.int .u8 x.b1) rfl; have x8 := cell_of X5.out 8 (.int .u8 x.c0) rfl; have x9 := cell_of X5.out 9 (.int .u8 x.c1) rfl; clear O5 g5 f5 own5 hc2 hA2 hi0 hz0 hz1 hz2 s4) | (go_at_call 40; refine (KO.out _ D5.out).mono ?_; rintro e w6 ⟨rfl, b⟩; have B6 := Lib.hid (B5.out.trans (b.mono B5.out.size)); have O6 := Lib.hid (O5'.out.below b); have D6 := Lib.hid (D5.out.below b); have X6 := Lib.hid ((b.block kx (Nat.lt_of_succ_lt S5.out)).trans X5.out); have Y6 := Lib.hid ((b.block (kx + 1) S5.out).trans Y5.out); have Z6 := Lib.hid (Z5.out.trans (b.mono (Nat.le_of_lt (Nat.lt_of_succ_lt S5.out)))); have S6 : Hid (kx + 1 < w6.heap.size) := Lib.hid (Nat.lt_of_lt_of_le S5.out b.size); clear b; clear x0 x1 x2 x3 x4 x5 x6 x7 x8 x9; have LG := OWN5.out g2 rfl; have nk : kx + 1 ≠ g2 := (by have := S3.out; omega); have nr : r ≠ g2 := (by have := bltA D3.out.blk; omega); obtain ⟨cur, hcur⟩ := O6.out.block g2 rfl; have e10 := RowO.elem Rw.sz O6.out HY.out (j := 10) (by decide); have e11 := RowO.elem Rw.sz O6.out HY.out (j := 11) (by decide); have e12 := RowO.elem Rw.sz O6.out HY.out (j := 12) (by decide); simp only [Rw.cs, List.getElem?_toArray, List.getElem?_cons_zero, List.getElem?_cons_succ] at e10 e11 e12; obtain ⟨w7, hw7⟩ : ∃ Y, w6.setCell ⟨g2, o2 + k * 13 + 10, none⟩ (.bool true) = Y := ⟨_, rfl⟩; have G7 := row_set hcur (i := o2 + k * 13 + 10) (.bool true); rw [hw7] at G7; have c11 : w7.cell? ⟨g2, o2 + k * 13 + 11, none⟩ = _ := hw7 ▸ (cell_set_neA hcur (i := o2 + k * 13 + 11) (j := o2 + k * 13 + 10) (by omega) (.bool true)).trans e11; have c12a : w7.cell? ⟨g2, o2 + k * 13 + 12, none⟩ = _ := hw7 ▸ (cell_set_neA hcur (i := o2 + k * 13 + 12) (j := o2 + k * 13 + 10) (by omega) (.bool true)).trans e12; have z10 := frz_row (o2 + k * 13 + 10) hcur; have z11 := frz_row (o2 + k * 13 + 11) G7; obtain ⟨w8, hw8⟩ : ∃ Y, w7.setCell ⟨g2, o2 + k * 13 + 11, none⟩ (.int .u8 code) = Y := ⟨_, rfl⟩; have G8 := row_set G7 (i := o2 + k * 13 + 11) (.int .u8 code); have c12 := (cell_set_neA G7 (i := o2 + k * 13 + 12) (j := o2 + k * 13 + 11) (by omega) (.int .u8 code)).trans c12a; have z12 := frz_row (o2 + k * 13 + 12) G8; have y7 : w7.heap[kx + 1]? = _ := hw7 ▸ (Below.heap_setCell w6 ⟨g2, o2 + k * 13 + 10, none⟩ (.bool true) (kx + 1) nk).trans Y6.out; have y0 := cell_of y7 0 (.int .u8 code) rfl; have y1 := cell_of y7 1 (.string val) rfl; obtain ⟨w9, hw9⟩ : ∃ Y, (w7.setCell ⟨g2, o2 + k * 13 + 11, none⟩ (.int .u8 code)).setCell ⟨g2, o2 + k * 13 + 12, none⟩ (.string val) = Y := ⟨_, rfl⟩; have l6 := D6.out.blk; rw [HN.out] at l6; have l9 : w9.heap[r]? = _ := hw9 ▸ (Below.heap_setCell _ ⟨g2, o2 + k * 13 + 12, none⟩ (.string val) r nr).trans ((Below.heap_setCell w7 ⟨g2, o2 + k * 13 + 11, none⟩ (.int .u8 code) r nr).trans (hw7 ▸ (Below.heap_setCell w6 ⟨g2, o2 + k * 13 + 10, none⟩ (.bool true) r nr).trans l6)); have s9 := cell_of l9 1 (.slice (some ⟨g, o, none⟩) n c) rfl; have z9 := frz_row 1 l9; have O9 := end_row O6.out HN.out HY.out code val; rw [hw7] at O9; rw [hw9] at O9; have b9 : Below w3.heap.size w3 w9 := (by rw [← hw9, ← hw7]; exact ((B6.out.setCell LG _).setCell LG _).setCell LG _); have HW7 := Lib.hid hw7; have HW8 := Lib.hid hw8; have HW9 := Lib.hid hw9; have O9' := Lib.hid O9; have B9 := Lib.hid b9; have L9 := Lib.hid l9; clear hw7 hw8 hw9 O9 b9 l9 l6 y7 G7 G8 c12a e11 e12 LG nk nr hcur) | rw [HW7.out] | rw [HW9.out] | fail)
  go_ret
  refine ⟨rfl, y, .slice (some ⟨g2, o2, none⟩) n c2, by rw [HK.out]; exact HY.out, ?_⟩
  rw [HK.out]
  exact tabT_end Z3.out hkx rfl B9.out D3.out (by rw [HN.out]; exact L9.out) O9'.out (by rw [setE, List.length_set, HN.out]) OWN5.out (setE_rng HY.out D3.out.rng HRC.out) (by rw [setE, List.length_set]; exact D3.out.few.1)
/-- a row less. -/
def delT (L : List Rw) (k : Nat) : List Rw := L.take k ++ L.drop (k + 1)
theorem del_len {L : List Rw} {k : Nat} (h : k < L.length) : (delT L k).length + 1 = L.length := by
  simp only [delT, List.length_append, List.length_take, List.length_drop]
  omega
theorem del_rng {L : List Rw} {k : Nat} (h : ∀ x ∈ L, x.id.Rng ∧ (0 ≤ x.code ∧ x.code ≤ 255)) : ∀ x ∈ delT L k, x.id.Rng ∧ (0 ≤ x.code ∧ x.code ≤ 255) := by
  intro x hx
  rcases List.mem_append.1 hx with hx | hx
  · exact h x (List.mem_of_mem_take hx)
  · exact h x (List.mem_of_mem_drop hx)
/-- the first rows of a row. -/
theorem RowO.takeA {α : Type} {f : α → Array Value} {W : World} {e : TypeId} {sz g o n c : Nat} {L : List α} (hs : ∀ x, (f x).size = sz) (h : RowO W e sz (.slice (some ⟨g, o, none⟩) n c) n (flat f L)) (hn : L.length = n) {k : Nat} (hk : k ≤ n) : RowO W e sz (.slice (some ⟨g, o, none⟩) k c) k (flat f (L.take k)) := by
  refine ⟨by rw [flat_len hs, List.length_take, hn, Nat.min_eq_left hk], ?_⟩
  rcases h.2 with ⟨h0, _⟩ | ⟨g', o', cap, cur, h1, hg, h2, h3, h4, h5⟩
  · cases h0
  · cases h1
    refine .inr ⟨g, o, c, cur, rfl, hg, Nat.le_trans hk h2, h3, h4, fun j u hu => h5 j u ?_⟩
    rw [← flat_take hs L k (by omega)] at hu
    rw [List.getElem?_take] at hu
    split at hu
    · exact hu
    · cases hu
set_option maxRecDepth 100000 in
set_option maxHeartbeats 4000000 in
theorem endT_old (W : World) (r : Nat) (t : Tt) (lv fv : Value) (h : DT W r t lv fv) (x : I10) (rx : x.Rng) (code : Int) (val : ByteArray) (hin : isT t.L x = true) (hne : t.ended x = false) (hno : t.old x = true) :
    Calls Try.prog 16 #[.pointer (some ⟨r, 0, none⟩), .agg #[.int .u8 x.n, .int .u16 x.l, .int .u32 x.s, .int .u8 x.d, .int .u8 x.a0, .int .u8 x.a1, .int .u8 x.b0, .int .u8 x.b1, .int .u8 x.c0, .int .u8 x.c1], .agg #[.int .u8 code, .string val]] W fun e W' => e = .returned (.bool true) ∧ ∃ lv' : Value, DT W' r { t with L := delT t.L (fndT t.L x) } lv' fv ∧ KP (fun q => q = r) W W' := by
  obtain ⟨W1, hW1⟩ : ∃ z, W.alloc (.cells #[.int .u8 x.n, .int .u16 x.l, .int .u32 x.s, .int .u8 x.d, .int .u8 x.a0, .int .u8 x.a1, .int .u8 x.b0, .int .u8 x.b1, .int .u8 x.c0, .int .u8 x.c1] 43) = z := ⟨_, rfl⟩
  have b1 : Below W.heap.size W W1 := by rw [← hW1]; exact (Below.refl _ _).alloc (Nat.le_refl _) _
  obtain ⟨kx, hkx⟩ : ∃ z, W.heap.size = z := ⟨_, rfl⟩
  have R1 : W1.heap[kx]? = some (.cells #[.int .u8 x.n, .int .u16 x.l, .int .u32 x.s, .int .u8 x.d, .int .u8 x.a0, .int .u8 x.a1, .int .u8 x.b0, .int .u8 x.b1, .int .u8 x.c0, .int .u8 x.c1] 43 (0, 0)) := by rw [← hW1, ← hkx]; exact heap_alloc_new _ _
  have hs1 : W1.heap.size = kx + 1 := by
    rw [← hW1]
    show (W.heap.push _).size = _
    rw [Array.size_push, hkx]
  obtain ⟨W2, hW2⟩ : ∃ z, W1.alloc (.cells #[.int .u8 code, .string val] 45) = z := ⟨_, rfl⟩
  have b2 : Below W1.heap.size W1 W2 := by rw [← hW2]; exact (Below.refl _ _).alloc (Nat.le_refl _) _
  have X2 := Lib.hid ((b2.block kx (bltA R1)).trans R1)
  have y2 : W2.heap[kx + 1]? = some (.cells #[.int .u8 code, .string val] 45 (0, 0)) := by rw [← hW2, ← hs1]; exact heap_alloc_new _ _
  have Y2 := Lib.hid y2
  have S2 : Hid (kx + 1 < W2.heap.size) := Lib.hid (bltA y2)
  have D2 := Lib.hid ((h.below b1).below b2)
  have Z2 : Hid (Below kx W W2) := Lib.hid ((hkx ▸ b1 : Below kx W W1).trans (b2.mono (by omega)))
  have HW1 := Lib.hid hW1
  have HW2 := Lib.hid hW2
  have HKX := Lib.hid hkx
  obtain ⟨A, c, rfl, hc, hm, hA⟩ := h.rows.slice
  obtain ⟨n, hn⟩ : ∃ z, t.L.length = z := ⟨_, rfl⟩
  have HN := Lib.hid hn
  rw [hn] at hc
  have HA := Lib.hid hA
  have hcapi : (n : Int) ≤ (c : Int) := by omega
  have HC := Lib.hid (And.intro hc hm)
  have KF := Lib.hid (findT W2 r t _ fv D2.out x rx)
  have HRX := Lib.hid rx
  clear hA hn h b1 hW1 hW2 R1 b2 y2 rx
  go_enter Try.func16, Try.ntmps16
  have x0 := cell_of X2.out 0 (.int .u8 x.n) rfl
  have x1 := cell_of X2.out 1 (.int .u16 x.l) rfl
  have x2 := cell_of X2.out 2 (.int .u32 x.s) rfl
  have x3 := cell_of X2.out 3 (.int .u8 x.d) rfl
  have x4 := cell_of X2.out 4 (.int .u8 x.a0) rfl
  have x5 := cell_of X2.out 5 (.int .u8 x.a1) rfl
  have x6 := cell_of X2.out 6 (.int .u8 x.b0) rfl
  have x7 := cell_of X2.out 7 (.int .u8 x.b1) rfl
  have x8 := cell_of X2.out 8 (.int .u8 x.c0) rfl
  have x9 := cell_of X2.out 9 (.int .u8 x.c1) rfl
  have hi := hin
  obtain ⟨y, hy, hlt, _⟩ := isT_row hi
  have KF : Hid (Calls Try.prog 38 #[.pointer (some ⟨r, 0, none⟩), .agg #[.int .u8 x.n, .int .u16 x.l, .int .u32 x.s, .int .u8 x.d, .int .u8 x.a0, .int .u8 x.a1, .int .u8 x.b0, .int .u8 x.b1, .int .u8 x.c0, .int .u8 x.c1]] W2 fun e W' => e = .returned (.tuple #[.int .i64 (fndT t.L x), .bool true]) ∧ Below W2.heap.size W2 W') := Lib.hid (hi ▸ KF.out)
  obtain ⟨k, hk⟩ : ∃ k, fndT t.L x = k := ⟨_, rfl⟩
  have HK := Lib.hid hk
  rw [hk] at KF hy hlt
  rw [HN.out] at hlt
  have HKN := Lib.hid hlt
  have hki : (k : Int) < (n : Int) := by omega
  have HY := Lib.hid hy
  obtain ⟨g, o, rfl⟩ : ∃ g o, A = some ⟨g, o, none⟩ := by
    rcases HA.out with ⟨_, h1⟩ | h1
    · omega
    · exact h1
  have hen : y.en = false := by
    have := hne
    simpa only [Tt.ended, hk, hy] using this
  have HEN := Lib.hid hen
  have KO : Hid (∀ w : World, DT w r t (.slice (some ⟨g, o, none⟩) t.L.length c) fv → Calls Try.prog 40 #[.pointer (some ⟨r, 0, none⟩), .agg #[.int .u8 x.n, .int .u16 x.l, .int .u32 x.s, .int .u8 x.d, .int .u8 x.a0, .int .u8 x.a1, .int .u8 x.b0, .int .u8 x.b1, .int .u8 x.c0, .int .u8 x.c1]] w fun e W' => e = .returned (.bool true) ∧ Below w.heap.size w W') := Lib.hid fun w hw => hno ▸ oldT w r t _ fv hw x HRX.out
  obtain ⟨i0, hi0, hz0, hz1, hz2⟩ := info_parts rowIA
  have HI := Lib.hid (And.intro hi0 (And.intro hz0 (And.intro hz1 hz2)))
  clear hen hi hin hy hne hno
  go_wp2_with (first | rw [HW1.out] | rw [HW2.out] | (go_at_call 38; refine KF.out.mono ?_; rintro e w3 ⟨rfl, b⟩; have D3 := Lib.hid (D2.out.below b); have X3 := Lib.hid ((b.block kx (Nat.lt_of_succ_lt S2.out)).trans X2.out); have Y3 := Lib.hid ((b.block (kx + 1) S2.out).trans Y2.out); have Z3 := Lib.hid (Z2.out.trans (b.mono (Nat.le_of_lt (Nat.lt_of_succ_lt S2.out)))); have S3 : Hid (kx + 1 < w3.heap.size) := Lib.hid (Nat.lt_of_lt_of_le S2.out b.size); clear b; clear x0 x1 x2 x3 x4 x5 x6 x7 x8 x9; have b4 : Below w3.heap.size w3 (w3.alloc (.cells #[] 93)) := (Below.refl _ _).alloc (Nat.le_refl _) _; have O4 : Hid (RowO (w3.alloc (.cells #[] 93)) 93 13 (.slice (some ⟨w3.heap.size, 0, none⟩) 0 0) 0 []) := Lib.hid ⟨rfl, .inr ⟨w3.heap.size, 0, 0, #[], rfl, heap_alloc_new _ _, Nat.le_refl _, by unfold maxLen; omega, by simp, fun j u hu => by simp at hu⟩⟩; obtain ⟨w4, hw4⟩ : ∃ Y, w3.alloc (.cells #[] 93) = Y := ⟨_, rfl⟩; rw [hw4] at b4 O4; have HW4 := Lib.hid hw4; have B4 := Lib.hid b4; obtain ⟨e3, he3⟩ : ∃ z, w3.heap.size = z := ⟨_, rfl⟩; rw [he3] at O4; have HE3 := Lib.hid he3; have D4 := Lib.hid (D3.out.below b4); have R4 : Hid (RowO w4 93 13 (.slice (some ⟨g, o, none⟩) n c) n (flat Rw.cs t.L)) := Lib.hid (HN.out ▸ D4.out.rows); have blk := D3.out.blk; rw [HN.out] at blk; have s1 := cell_of blk 1 (.slice (some ⟨g, o, none⟩) n c) rfl; have rows := D3.out.rows; rw [HN.out] at rows; have r10 := (Rw.at_ rows HY.out).2.2.2.2.2.2.2.2.2.2.1; rw [HEN.out] at r10; clear rows blk; have blk4 := D4.out.blk; rw [HN.out] at blk4; have s4 := cell_of blk4 1 (.slice (some ⟨g, o, none⟩) n c) rfl; clear b4 hw4 blk4) | rw [HW4.out] | (at_builtin; refine wpList_appZA rfl 33 rfl (.tmp 28) (.tmp 32) 68 93 rfl i0 _ 13 48 Try.underlying68 hi0 hz0 hz1 hz2 rfl (by decide) (.slice (some ⟨e3, 0, none⟩) 0 0) 0 [] rfl O4.out (some ⟨g, o, none⟩) n c (flat Rw.cs t.L) rfl (by rw [flat_len Rw.sz, HN.out]) (fun _ => ⟨_, rfl, fun j u hu => by rw [addr_add]; exact R4.out.cells j u hu⟩) (flat_one Rw.one _) (by have := D4.out.few.1; have := HN.out; omega) (by decide) ?_; intro v5 w5 O5 g5 f5; rw [Nat.zero_add] at O5; rw [List.nil_append] at O5; have b : Below w3.heap.size w3 w5 := B4.out.grown g5 B4.out.size (fun q hq => Nat.le_of_eq (HE3.out.trans (by simpa [Value.ownBlock] using hq))); have own5 : ∀ q, v5.ownBlock = some q → w3.heap.size ≤ q := fun q hq => f5.elim (fun e => Nat.le_of_eq (HE3.out.trans (by rw [e] at hq; simpa [Value.ownBlock] using hq))) (fun ⟨q', e, hq'⟩ => by rw [e] at hq; cases hq; exact Nat.le_trans B4.out.size hq'); have B5 := Lib.hid b; have D5 := Lib.hid (D3.out.below b); have X5 := Lib.hid ((b.block kx (Nat.lt_of_succ_lt S3.out)).trans X3.out); have Y5 := Lib.hid ((b.block (kx + 1) S3.out).trans Y3.out); have Z5 := Lib.hid (Z3.out.trans (b.mono (Nat.le_of_lt (Nat.lt_of_succ_lt S3.out)))); have S5 : Hid (kx + 1 < w5.heap.size) := Lib.hid (Nat.lt_of_lt_of_le S3.out b.size); clear b; obtain ⟨A2, c2, rfl, hc2, _, hA2⟩ := O5.slice; obtain ⟨g2, o2, rfl⟩ : ∃ g2 o2, A2 = some ⟨g2, o2, none⟩ := hA2.elim (fun h0 => by have := h0.2; have := HKN.out; omega) id; have O5' := Lib.hid O5; have OWN5 := Lib.hid own5; have x0 := cell_of X5.out 0 (.int .u8 x.n) rfl; have x1 := cell_of X5.out 1 (.int .u16 x.l) rfl; have x2 := cell_of X5.out 2 (.int .u32 x.s) rfl; have x3 := cell_of X5.out 3 (.int .u8 x.d) rfl; have x4 := cell_of X5.out 4 (.int .u8 x.a0) rfl; have x5 := cell_of X5.out 5 (.int .u8 x.a1) rfl; have x6 := cell_of X5.out 6 (.int .u8 x.b0) rfl; have x7 := cell_of X5.out 7 (.int .u8 x.b1) rfl; have x8 := cell_of X5.out 8 (.int .u8 x.c0) rfl; have x9 := cell_of X5.out 9 (.int .u8 x.c1) rfl; clear O5 g5 f5 own5 hc2 hA2 hi0 hz0 hz1 hz2 s4) | (go_at_call 40; refine (KO.out _ D5.out).mono ?_; rintro e w6 ⟨rfl, b⟩; have B6 := Lib.hid (B5.out.trans (b.mono B5.out.size)); have O6 := Lib.hid (O5'.out.below b); have D6 := Lib.hid (D5.out.below b); have X6 := Lib.hid ((b.block kx (Nat.lt_of_succ_lt S5.out)).trans X5.out); have Y6 := Lib.hid ((b.block (kx + 1) S5.out).trans Y5.out); have Z6 := Lib.hid (Z5.out.trans (b.mono (Nat.le_of_lt (Nat.lt_of_succ_lt S5.out)))); have S6 : Hid (kx + 1 < w6.heap.size) := Lib.hid (Nat.lt_of_lt_of_le S5.out b.size); clear b; clear x0 x1 x2 x3 x4 x5 x6 x7 x8 x9) | fail)
  have hcc := O6.out.slice
  obtain ⟨A9, c9, e9, hc9, hm9, _⟩ := hcc
  cases e9
  obtain ⟨A3, hsf, hA3⟩ := slFromA (some ⟨g2, o2, none⟩) n c2 (k + 1) HKN.out hc9 (.inr ⟨g2, o2, rfl⟩)
  have hst := slToA (some ⟨g2, o2, none⟩) n c2 k (Nat.le_of_lt HKN.out) hc9 (.inr ⟨g2, o2, rfl⟩)
  rw [show (((k + 1 : Nat)) : Int) = (k : Int) + 1 by omega] at hsf
  have HSF := Lib.hid hsf
  have HST := Lib.hid hst
  have HA3 := Lib.hid hA3
  have HWI : Hid (IntKind.i64.wrap ((k : Int) + 1) = (k : Int) + 1) := Lib.hid (IntWalk.i64_in _ (by have := HKN.out; have := HC.out; unfold maxLen at this; omega))
  have LG := Lib.hid (OWN5.out g2 rfl)
  obtain ⟨w7, hw7⟩ : ∃ Y, w6.drew = Y := ⟨_, rfl⟩
  have b7 : Below w6.heap.size w6 w7 := by rw [← hw7]; exact (Below.refl _ _).drew
  have l6 := D6.out.blk
  rw [HN.out] at l6
  have l7 := (b7.block r (bltA l6)).trans l6
  have L7 := Lib.hid l7
  have O7 := Lib.hid (O6.out.below b7)
  have B7 := Lib.hid (B6.out.trans (b7.mono B6.out.size))
  have HW7 := Lib.hid hw7
  clear hsf hst hA3 hw7 b7 l6 l7 hc9 hm9
  refine region_heldT (S := fun X => X.heap[r]? = some (.cells #[.int .i64 t.win, (.slice (some ⟨g, o, none⟩) n c), fv] 71 (0, 0))) 9 (by kernel_rfl) (by decide) (fun inv => ?_)
  change FirstH _ _ _ _ _ _ _ _ _ _ w6.drew
  rw [HW7.out]
  have HS := L7.out
  refine FirstH.go (i := 0) (v := .pointer (some ⟨r, 0, none⟩)) rfl rfl _ rfl _ rfl (by kernel_rfl) (fun _ _ _ h => h) inv (fun X _ => by unfold bareO; go_simp) HS (fun inv => ?_)
  try simp only [Act.put, List.setIfInBounds_toArray, List.set_cons_zero, List.set_cons_succ]
  refine FirstH.go (i := 1) (v := (.slice (some ⟨g2, o2, none⟩) n c2)) rfl rfl _ rfl _ rfl (by kernel_rfl) (fun _ _ _ h => h) inv (fun X _ => by unfold bareO; go_simp) HS (fun inv => ?_)
  try simp only [Act.put, List.setIfInBounds_toArray, List.set_cons_zero, List.set_cons_succ]
  refine FirstH.go (i := 2) (v := .int .i64 k) rfl rfl _ rfl _ rfl (by kernel_rfl) (fun _ _ _ h => h) inv (fun X _ => by unfold bareO; go_simp) HS (fun inv => ?_)
  try simp only [Act.put, List.setIfInBounds_toArray, List.set_cons_zero, List.set_cons_succ]
  refine FirstH.go (i := 3) (v := .slice (some ⟨g2, o2, none⟩) k c2) rfl rfl _ rfl _ rfl (by kernel_rfl) (fun _ _ _ h => h) inv (fun X _ => run_slA rfl rfl rfl (HST.out X)) HS (fun inv => ?_)
  try simp only [Act.put, List.setIfInBounds_toArray, List.set_cons_zero, List.set_cons_succ]
  refine FirstH.go (i := 4) (v := (.slice (some ⟨g2, o2, none⟩) n c2)) rfl rfl _ rfl _ rfl (by kernel_rfl) (fun _ _ _ h => h) inv (fun X _ => by unfold bareO; go_simp) HS (fun inv => ?_)
  try simp only [Act.put, List.setIfInBounds_toArray, List.set_cons_zero, List.set_cons_succ]
  refine FirstH.go (i := 5) (v := .int .i64 k) rfl rfl _ rfl _ rfl (by kernel_rfl) (fun _ _ _ h => h) inv (fun X _ => by unfold bareO; go_simp) HS (fun inv => ?_)
  try simp only [Act.put, List.setIfInBounds_toArray, List.set_cons_zero, List.set_cons_succ]
  refine FirstH.go (i := 6) (v := .int .i64 ((k : Int) + 1)) rfl rfl _ rfl _ rfl (by kernel_rfl) (fun _ _ _ h => h) inv (fun X _ => by have hwr := HWI.out; unfold bareO; go_simp) HS (fun inv => ?_)
  try simp only [Act.put, List.setIfInBounds_toArray, List.set_cons_zero, List.set_cons_succ]
  refine FirstH.go (i := 7) (v := .slice A3 (n - (k + 1)) (c2 - (k + 1))) rfl rfl _ rfl _ rfl (by kernel_rfl) (fun _ _ _ h => h) inv (fun X _ => run_slA rfl rfl rfl (HSF.out X)) HS (fun inv => ?_)
  try simp only [Act.put, List.setIfInBounds_toArray, List.set_cons_zero, List.set_cons_succ]
  clear HS
  have lt : (t.L.take k).length = k := by rw [List.length_take, HN.out]; have := HKN.out; omega
  have ld : (t.L.drop (k + 1)).length = n - (k + 1) := by rw [List.length_drop, HN.out]
  have HNEW : Hid (n - (k + 1) ≠ 0 → ∃ ad, A3 = some ad ∧ ∀ j u, (flat Rw.cs (t.L.drop (k + 1)))[j]? = some u → w7.cell? (ad.add j) = some u) := Lib.hid fun h0 => by
    obtain ⟨gg, oo, e, e3⟩ := HA3.out h0
    cases e
    refine ⟨_, e3, fun j u hu => ?_⟩
    rw [addr_add]
    have e' : flat Rw.cs t.L = flat Rw.cs (t.L.take (k + 1)) ++ flat Rw.cs (t.L.drop (k + 1)) := by rw [← flat_append, List.take_append_drop]
    have le : (flat Rw.cs (t.L.take (k + 1))).length = (k + 1) * 13 := by rw [flat_len Rw.sz, List.length_take, HN.out]; have := HKN.out; omega
    have := O7.out.cells ((k + 1) * 13 + j) u (by rw [e', List.getElem?_append_right (by omega), le, Nat.add_sub_cancel_left]; exact hu)
    rw [← Nat.add_assoc] at this
    exact this
  have OT := Lib.hid (O7.out.takeA Rw.sz HN.out (Nat.le_of_lt HKN.out))
  have LD := Lib.hid ld
  clear lt ld
  refine FirstH.only (i := 8) (by kernel_rfl) (by decide) inv (fun inv => wpOp_any rfl rfl (wp_appZA 45 rfl (.tmp 40) (.tmp 44) 68 93 rfl i0 _ 13 48 Try.underlying68 HI.out.1 HI.out.2.1 HI.out.2.2.1 HI.out.2.2.2 rfl (by decide) (.slice (some ⟨g2, o2, none⟩) k c2) k _ rfl OT.out A3 (n - (k + 1)) (c2 - (k + 1)) (flat Rw.cs (t.L.drop (k + 1))) rfl (by rw [flat_len Rw.sz, LD.out]) HNEW.out (flat_one Rw.one _) (by have := D3.out.few.1; have := HN.out; have := HKN.out; omega) (by decide) ?_))
  intro v8 w8 O8 g8 f8
  have b8 : Below w3.heap.size w3 w8 := B7.out.grown g8 B7.out.size (fun q hq => by
    have : g2 = q := by simpa [Value.ownBlock] using hq
    have := LG.out
    omega)
  have nr : r ≠ g2 := by have := bltA D3.out.blk; have := LG.out; omega
  have l8 : w8.heap[r]? = some (.cells #[.int .i64 t.win, (.slice (some ⟨g, o, none⟩) n c), fv] 71 (0, 0)) := (g8.block r (bltA L7.out) (fun e => nr (by simpa [Value.ownBlock] using e))).trans L7.out
  refine ⟨l8, ?_⟩
  have own8 : ∀ q, v8.ownBlock = some q → w3.heap.size ≤ q := fun q hq => by
    rcases f8 with e | ⟨q', e, hq'⟩
    · rw [e] at hq
      have : g2 = q := by simpa [Value.ownBlock] using hq
      have := LG.out
      omega
    · rw [e] at hq
      cases hq
      exact Nat.le_trans B7.out.size hq'
  obtain ⟨A8, c8, rfl, _, _, _⟩ := O8.slice
  have O8' := Lib.hid O8
  have B8 := Lib.hid b8
  have L8 := Lib.hid l8
  have OWN8 := Lib.hid own8
  have c1 := cell_of l8 1 (.slice (some ⟨g, o, none⟩) n c) rfl
  have z1 := frz_row 1 l8
  clear O8 g8 b8 f8 l8 own8
  try simp only [Act.put, List.setIfInBounds_toArray, List.set_cons_zero, List.set_cons_succ]
  refine ⟨by kernel_rfl, ?_⟩
  simp only [List.drop_succ_cons, List.drop_zero]
  go_wp2
  go_ret
  have EL : k + (n - (k + 1)) = (delT t.L k).length := by
    have := del_len (L := t.L) (k := k) (by rw [HN.out]; exact HKN.out)
    rw [HN.out] at this
    have := HKN.out
    omega
  refine ⟨rfl, .slice A8 (k + (n - (k + 1))) c8, ?_⟩
  rw [HK.out]
  exact tabT_end Z3.out hkx rfl B8.out D3.out (by rw [HN.out]; exact L8.out) ((flat_append (f := Rw.cs) (t.L.take k) (t.L.drop (k + 1))).symm ▸ O8'.out : RowO w8 93 13 _ _ (flat Rw.cs (delT t.L k))) EL OWN8.out (del_rng D3.out.rng) (by have := del_len (L := t.L) (k := k) (by rw [HN.out]; exact HKN.out); have := D3.out.few.1; omega)

end Go.Proofs.Ytldbmmganicliaa
