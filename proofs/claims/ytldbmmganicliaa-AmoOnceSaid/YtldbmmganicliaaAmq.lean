/-
  The law AmoOnce walked: it answers true. Condition: the acts lie in memory, numbers fit their kinds.
-/
import Derived.Test.YtldbmmganicliaaAmp
import Derived.Test.YtldbmmganicliaaAde
import Derived.Deep.MidRow
import Derived.Great.BuildSlice
namespace Go.Proofs.Ytldbmmganicliaa
set_option linter.unusedSimpArgs false
set_option linter.unusedVariables false
open Go.RowKit Go.Maps Go.Sort

/-- a fact laid by: told apart from those that the loops speak of. -/
structure Kept (p : Prop) : Prop where
  out : p
/-- an identifier's cells. -/
def I10.ca (x : I10) : Array Value := #[.int .u8 x.n, .int .u16 x.l, .int .u32 x.s, .int .u8 x.d, .int .u8 x.a0, .int .u8 x.a1, .int .u8 x.b0, .int .u8 x.b1, .int .u8 x.c0, .int .u8 x.c1]
theorem I10.ca_sz : ∀ x : I10, x.ca.size = 10 := fun _ => rfl
theorem I10.ca_one : ∀ x : I10, ∀ u ∈ x.ca.toList, u.oneCell' = true := by
  intro x u hu
  simp only [I10.ca, List.mem_cons, List.not_mem_nil, or_false] at hu
  rcases hu with rfl | rfl | rfl | rfl | rfl | rfl | rfl | rfl | rfl | rfl <;> rfl
theorem idRI : (Try.prog.info? 43).map (fun i => (i.zero, i.size, i.bytes)) = some (some (.agg #[.int .u8 0, .int .u16 0, .int .u32 0, .int .u8 0, .int .u8 0, .int .u8 0, .int .u8 0, .int .u8 0, .int .u8 0, .int .u8 0]), 10, 16) := by kernel_rfl
theorem eqRB (x z : I10) (h : eqI x z = false) (W : World) : (Op.equalIn (9999 + 1) 43 (.agg #[.int .u8 x.n, .int .u16 x.l, .int .u32 x.s, .int .u8 x.d, .int .u8 x.a0, .int .u8 x.a1, .int .u8 x.b0, .int .u8 x.b1, .int .u8 x.c0, .int .u8 x.c1]) (.agg #[.int .u8 z.n, .int .u16 z.l, .int .u32 z.s, .int .u8 z.d, .int .u8 z.a0, .int .u8 z.a1, .int .u8 z.b0, .int .u8 z.b1, .int .u8 z.c0, .int .u8 z.c1])).run Try.prog W = .ok false W := by
  rw [eqRefrun]
  unfold eqI at h
  rw [h]
theorem fillI (x : I10) : Instr.fill (fun i => some (i * 10, 10)) ((Array.range (1 * 10)).map ((Value.agg #[.int .u8 0, .int .u16 0, .int .u32 0, .int .u8 0, .int .u8 0, .int .u8 0, .int .u8 0, .int .u8 0, .int .u8 0, .int .u8 0]).cells[· % (Value.agg #[.int .u8 0, .int .u16 0, .int .u32 0, .int .u8 0, .int .u8 0, .int .u8 0, .int .u8 0, .int .u8 0, .int .u8 0, .int .u8 0]).cells.size]!)) [(0, Value.agg #[.int .u8 x.n, .int .u16 x.l, .int .u32 x.s, .int .u8 x.d, .int .u8 x.a0, .int .u8 x.a1, .int .u8 x.b0, .int .u8 x.b1, .int .u8 x.c0, .int .u8 x.c1])] = some #[.int .u8 x.n, .int .u16 x.l, .int .u32 x.s, .int .u8 x.d, .int .u8 x.a0, .int .u8 x.a1, .int .u8 x.b0, .int .u8 x.b1, .int .u8 x.c0, .int .u8 x.c1] := by
  obtain ⟨n, l, s, d, a0, a1, b0, b1, c0, c1⟩ := x
  kernel_rfl
theorem wpList_bsI {ops : Array Oper} {rest : List Oper} {o : Oper} {a : Act} {w : World} {Q : Exit → Act → World → Prop} (hg : o.guard = none) (u : Operand) (ho : o.op = .buildSlice 76 1 #[(0, u)]) (x : I10) (hx : a.eval u = .agg #[.int .u8 x.n, .int .u16 x.l, .int .u32 x.s, .int .u8 x.d, .int .u8 x.a0, .int .u8 x.a1, .int .u8 x.b0, .int .u8 x.b1, .int .u8 x.c0, .int .u8 x.c1])
    (h : wpList Try.prog ops Q rest (a.put o.dst (.slice (some ⟨w.heap.size, 0, none⟩) 1 1)) (w.alloc (.cells x.ca 43))) : wpList Try.prog ops Q (o :: rest) a w := by
  obtain ⟨i0, hi0, hz0, hz1, hz2⟩ := info_parts idRI
  refine wpList_buildSlice hg 76 43 1 #[(0, u)] ho #[.int .u8 x.n, .int .u16 x.l, .int .u32 x.s, .int .u8 x.d, .int .u8 x.a0, .int .u8 x.a1, .int .u8 x.b0, .int .u8 x.b1, .int .u8 x.c0, .int .u8 x.c1] i0 _ Try.underlying76 hi0 hz0 (by rw [hz1]; decide) (by rw [hz1]; decide) ?_ h
  have := fillI x
  rw [hz1]
  simpa [hx] using this
theorem app_keep {W W' : World} {b m k c n : Nat} {t : Tt} {v : Value} {xs : List Value} (h : PT W b m k c t) (O : RowO W 43 10 v n xs) (g : W.grownBy W' v.ownBlock) : PT W' b m k c t := by
  refine h.keep (g.block b h.bl fun e => ?_) (g.block m h.ml fun e => ?_) (g.block k h.kl fun e => ?_)
  · obtain ⟨cur, hc⟩ := O.block b e.symm
    rw [h.blk] at hc
    injection hc with hc
    injection hc with hc1 hc2
    exact absurd hc2 (by decide)
  · obtain ⟨cur, hc⟩ := O.block m e.symm
    obtain ⟨_, _, _, ⟨_, _, hm, _⟩, _⟩ := h.rows
    rw [hc] at hm
    cases hm
  · obtain ⟨cur, hc⟩ := O.block k e.symm
    obtain ⟨_, _, _, ⟨_, _, hm, _⟩, _⟩ := h.flo
    rw [hc] at hm
    cases hm
theorem ca_at {W : World} {g o n c : Nat} {B : List I10} (h : RowO W 43 10 (.slice (some ⟨g, o, none⟩) n c) n (flat I10.ca B)) {j : Nat} {y : I10} (hj : B[j]? = some y) : ∀ i, i < 10 → W.cell? ⟨g, o + j * 10 + i, none⟩ = y.ca[i]? := fun i hi => RowO.elem I10.ca_sz h hj hi
/-- between two acts. -/
def RelO (n b m k : Nat) (w1 w2 : World) (bv iv : Value) (wr : World) : Prop :=
  ∃ (i : Nat) (B : List I10) (Ab : Option Addr) (cb : Nat) (t : Tt), i ≤ n ∧ iv = .int .i64 i ∧ bv = .slice Ab B.length cb ∧ Hid (PT wr b m k i t) ∧ Hid (OnceI t B ∧ B.length ≤ i) ∧ Hid (RowO wr 43 10 (.slice Ab B.length cb) B.length (flat I10.ca B)) ∧ Hid (∀ q, (Value.slice Ab B.length cb).ownBlock = some q → w2.heap.size ≤ q) ∧ Hid (Below w1.heap.size w1 wr) ∧ Hid (w2.heap.size ≤ wr.heap.size)
theorem RelO.mk {n b m k : Nat} {w1 w2 : World} (i : Nat) (B : List I10) (Ab : Option Addr) (cb : Nat) (t : Tt) (wr : World) (hi : i ≤ n) (PI : Hid (PT wr b m k i t)) (HI : Hid (OnceI t B ∧ B.length ≤ i)) (RB : Hid (RowO wr 43 10 (.slice Ab B.length cb) B.length (flat I10.ca B))) (OWN : Hid (∀ q, (Value.slice Ab B.length cb).ownBlock = some q → w2.heap.size ≤ q)) (BB : Hid (Below w1.heap.size w1 wr)) (LW : Hid (w2.heap.size ≤ wr.heap.size)) : RelO n b m k w1 w2 (.slice Ab B.length cb) (.int .i64 i) wr :=
  ⟨i, B, Ab, cb, t, hi, rfl, rfl, PI, HI, RB, OWN, BB, LW⟩
theorem relO_num {n b m k : Nat} {w1 w2 wr : World} {bv x y : Value} (h : x = y) (r : RelO n b m k w1 w2 bv y wr) : RelO n b m k w1 w2 bv x wr := h ▸ r
theorem onceN {n i nb : Nat} {B : List I10} (h1 : B.length ≤ i) (h2 : B.length = nb) (h3 : n ≤ 100) (h4 : i < n) : nb + 1 ≤ 100000 := by omega
theorem onceB {t2 : Tt} {B : List I10} {z : I10} (h1 : OnceI t2 B) (h2 : isT t2.L z = true) : OnceI t2 (B ++ [z]) := fun x hx => by
  rcases List.mem_append.1 hx with hx | hx
  · exact h1 x hx
  · obtain rfl : x = z := by simpa using hx
    exact .inl h2
theorem relO_app {n b m k i nb cb : Nat} {w1 w2 v0 w6 w7 : World} {Ab : Option Addr} {B : List I10} {x : I10} {t2 : Tt} {v7 : Value} (hnb : B.length = nb) (P6 : PT w6 b m k (i + 1) t2) (O6 : RowO w6 43 10 (.slice Ab nb cb) nb (flat I10.ca B)) (B6 : Below w1.heap.size w1 w6) (hw : w1.heap.size ≤ w2.heap.size) (OWN1 : ∀ q, (Value.slice Ab nb cb).ownBlock = some q → w2.heap.size ≤ q) (LWV : w2.heap.size ≤ v0.heap.size) (L6 : v0.heap.size ≤ w6.heap.size) (hI7 : OnceI t2 (B ++ [x])) (hin : i < n) (hBi : B.length ≤ i)
    (O7 : RowO w7 43 10 v7 (nb + 1) (flat I10.ca B ++ (I10.ca x).toList)) (g7 : w6.grownBy w7 (Value.slice Ab nb cb).ownBlock) (f7 : v7.ownBlock = (Value.slice Ab nb cb).ownBlock ∨ ∃ k, v7.ownBlock = some k ∧ w6.heap.size ≤ k) : RelO n b m k w1 w2 v7 (.int .i64 ((i + 1 : Nat) : Int)) w7 := by
  obtain ⟨A7, c7, e7, -, -, -⟩ := O7.slice
  subst e7
  have hlb : (B ++ [x]).length = nb + 1 := by rw [List.length_append, hnb]; rfl
  have h := RelO.mk (n := n) (b := b) (m := m) (k := k) (w1 := w1) (w2 := w2) (i + 1) (B ++ [x]) A7 c7 t2 w7 (by omega) (Lib.hid (app_keep P6 O6 g7)) (Lib.hid ⟨hI7, by rw [hlb]; omega⟩) (Lib.hid (by rw [hlb, flat_append]; exact O7)) (Lib.hid (by
    rw [hlb]
    intro q hq
    rcases f7 with e | ⟨q', e, hq'⟩
    · exact OWN1 q (e ▸ hq)
    · rw [e] at hq
      cases hq
      exact Nat.le_trans LWV (Nat.le_trans L6 hq'))) (Lib.hid (B6.grown g7 B6.size (fun q hq => Nat.le_trans hw (OWN1 q hq)))) (Lib.hid (Nat.le_trans LWV (Nat.le_trans L6 g7.size)))
  rw [hlb] at h
  exact h
set_option maxRecDepth 100000 in
set_option maxHeartbeats 4000000 in
theorem walkMO (z : Int) (A : Option Addr) (L : List Ac) (c : Nat) (W : World) (hlc : L.length ≤ c) (hcm : c ≤ maxLen) (hx : arg_actsR W A L) :
    Calls Try.prog 4 #[.int .i64 z, .slice A L.length c] W fun e W' => e = .returned (.bool true) ∧ Below W.heap.size W W' := by
  have KL : Hid (Calls Try.prog 6 #[.slice A L.length c] W fun e W' => e = .returned (.bool (lightB L)) ∧ W = W') := Lib.hid (by
    rcases rowsB_of hx with rfl | ⟨b, o, rfl, hr⟩
    · exact lightIs0 A c W
    · exact lightIs b o c L W hr hcm hlc)
  have HRW : Hid (∀ (i : Nat) (a : Ac), L[i]? = some a → ∃ rb ro, A = some ⟨rb, ro, none⟩ ∧ RowsB W rb ro L) := Lib.hid fun i a ha => by
    rcases rowsB_of hx with e0 | ⟨b, o, e, hr⟩
    · rw [e0] at ha
      exact absurd ha (by rw [List.getElem?_nil]; exact fun h => nomatch h)
    · exact ⟨b, o, e, hr⟩
  obtain ⟨n, hn⟩ : ∃ q, L.length = q := ⟨_, rfl⟩
  have HN := Lib.hid hn
  have HLC := Lib.hid hlc
  have HCM := Lib.hid hcm
  rw [hn] at KL ⊢
  have hnc : n ≤ c := hn ▸ hlc
  have hnci : (n : Int) ≤ (c : Int) := by omega
  have hcap : n ≤ 9223372036854775807 := by unfold maxLen at hcm; omega
  clear hx hlc hn hcm
  cases hlb : lightB L with
  | false =>
    rw [hlb] at KL
    go_enter Try.func4, Try.ntmps4
    go_wp2_with fail
    refine KL.out.mono ?_
    rintro e w1 ⟨rfl, rfl⟩
    go_wp2_with fail
    refine (knowsA _).mono ?_
    rintro e w2 ⟨rfl, b2⟩
    go_wp2_with fail
    go_ret
    exact ⟨rfl, b2⟩
  | true =>
    rw [hlb] at KL
    obtain ⟨hl100, hval⟩ := lightB_each hlb
    have H100 : Hid (n ≤ 100) := Lib.hid (HN.out ▸ hl100)
    clear hlb hl100 hval
    go_enter Try.func4, Try.ntmps4
    go_wp2_with fail
    refine KL.out.mono ?_
    rintro e w1 ⟨rfl, rfl⟩
    go_wp2_with fail
    refine (knowsA _).mono ?_
    rintro e w1 ⟨rfl, b1⟩
    have B1 := Lib.hid b1
    clear b1 KL
    go_wp2_with fail
    refine (aNew z w1).mono ?_
    rintro e w2 ⟨rfl, P2, b2, hs2⟩
    obtain ⟨b, hb⟩ : ∃ q, w1.heap.size + 2 = q := ⟨_, rfl⟩
    obtain ⟨m, hm⟩ : ∃ q, w1.heap.size = q := ⟨_, rfl⟩
    obtain ⟨k, hk⟩ : ∃ q, w1.heap.size + 1 = q := ⟨_, rfl⟩
    have HB : Hid (w1.heap.size ≤ b ∧ w1.heap.size ≤ m ∧ w1.heap.size ≤ k) := Lib.hid (by omega)
    have P2 : Hid (PT w2 b m k 0 ⟨min (max z 1) 16, [], []⟩) := Lib.hid (by rw [← hb, ← hk, ← hm]; exact P2)
    have B2 := Lib.hid b2
    rw [hb]
    clear hs2 b2 hb hm hk
    go_wp2_with fail
    go_loopw [6, 7] (fun bv iv wr => ∃ (i : Nat) (B : List I10) (Ab : Option Addr) (cb : Nat) (t : Tt), i ≤ n ∧ iv = .int .i64 i ∧ bv = .slice Ab B.length cb ∧ Hid (PT wr b m k i t) ∧ Hid (OnceI t B ∧ B.length ≤ i) ∧ Hid (RowO wr 43 10 (.slice Ab B.length cb) B.length (flat I10.ca B)) ∧ Hid (∀ q, (Value.slice Ab B.length cb).ownBlock = some q → w2.heap.size ≤ q) ∧ Hid (Below w1.heap.size w1 wr) ∧ Hid (w2.heap.size ≤ wr.heap.size)) (fun _ iv _ => n - (intOf iv).toNat)
    case atStart => exact ⟨0, [], none, 0, _, by omega, rfl, rfl, P2, Lib.hid ⟨(fun x h => by cases h), by simp⟩, Lib.hid (RowO.nil _ _ _), Lib.hid (fun q hq => by cases hq), B2, Lib.hid (Nat.le_refl _)⟩
    case round =>
      obtain ⟨i, B, Ab, cb, t, hi, rfl, rfl, PI, HI, RB, OWN, BB, LW⟩ := hrel
      obtain ⟨u0, hu0⟩ : ∃ z : World, z = wr := ⟨_, rfl⟩
      subst hu0
      by_cases hin : i < n
      · as_aux_lemma =>
        skip
        obtain ⟨a, ha0⟩ : ∃ a, L[i]? = some a := ⟨_, List.getElem?_eq_getElem (by rw [HN.out]; exact hin)⟩
        obtain ⟨rb, ro, rfl, hrw⟩ := HRW.out i a ha0
        have hr1 : RowsB u0 rb ro L := (hrw.below B1.out).below BB.out
        have hok := (hr1.2 i a ha0).2
        have HROW : Hid (∀ w, KP (fun q => u0.heap.size ≤ q ∨ w1.heap.size ≤ q) u0 w → ∀ j u, (#[.int .i64 a.kd, .int .u8 a.x.n, .int .u16 a.x.l, .int .u32 a.x.s, .int .u8 a.x.d, .int .u8 a.x.a0, .int .u8 a.x.a1, .int .u8 a.x.b0, .int .u8 a.x.b1, .int .u8 a.x.c0, .int .u8 a.x.c1, .int .u8 a.code, .string a.val, .int .u32 a.n] : Array Value)[j]? = some u → w.cell? ⟨rb, ro + i * 14 + j, none⟩ = some u) := Lib.hid fun w hk j u hu => by
          have hlt : rb < w1.heap.size := Nat.lt_of_lt_of_le hrw.1 B1.out.size
          have h1 := (hr1.2 i a ha0).1 j u (by simpa [Ac.cs] using hu)
          have e : w.heap[rb]? = u0.heap[rb]? := hk.block rb hr1.1 (by have := hr1.1; omega)
          exact (World.cell?_of_block (w := u0) (a := ⟨rb, ro + i * 14 + j, none⟩) e).trans h1
        have q0 := HROW.out u0 (KP.refl _ _) 0 (.int .i64 a.kd) rfl; have q1 := HROW.out u0 (KP.refl _ _) 1 (.int .u8 a.x.n) rfl; have q2 := HROW.out u0 (KP.refl _ _) 2 (.int .u16 a.x.l) rfl; have q3 := HROW.out u0 (KP.refl _ _) 3 (.int .u32 a.x.s) rfl; have q4 := HROW.out u0 (KP.refl _ _) 4 (.int .u8 a.x.d) rfl; have q5 := HROW.out u0 (KP.refl _ _) 5 (.int .u8 a.x.a0) rfl; have q6 := HROW.out u0 (KP.refl _ _) 6 (.int .u8 a.x.a1) rfl; have q7 := HROW.out u0 (KP.refl _ _) 7 (.int .u8 a.x.b0) rfl; have q8 := HROW.out u0 (KP.refl _ _) 8 (.int .u8 a.x.b1) rfl; have q9 := HROW.out u0 (KP.refl _ _) 9 (.int .u8 a.x.c0) rfl; have q10 := HROW.out u0 (KP.refl _ _) 10 (.int .u8 a.x.c1) rfl; have q11 := HROW.out u0 (KP.refl _ _) 11 (.int .u8 a.code) rfl; have q12 := HROW.out u0 (KP.refl _ _) 12 (.string a.val) rfl; have q13 := HROW.out u0 (KP.refl _ _) 13 (.int .u32 a.n) rfl
        simp only [Nat.add_zero] at q0
        have KD := doA u0 b m k i t PI.out a hok (by have := H100.out; omega)
        obtain ⟨⟨bo, t2⟩, hact⟩ : ∃ q, t.act a = q := ⟨_, rfl⟩
        rw [hact] at KD
        dsimp only at KD
        have KD : Hid (Calls Try.prog 30 #[.pointer (some ⟨b, 0, none⟩), .agg #[.int .i64 a.kd, .int .u8 a.x.n, .int .u16 a.x.l, .int .u32 a.x.s, .int .u8 a.x.d, .int .u8 a.x.a0, .int .u8 a.x.a1, .int .u8 a.x.b0, .int .u8 a.x.b1, .int .u8 a.x.c0, .int .u8 a.x.c1, .int .u8 a.code, .string a.val, .int .u32 a.n]] u0 fun e W' => e = .returned (.bool bo) ∧ PT W' b m k (i + 1) t2 ∧ KP (fun q => q = m ∨ q = k) u0 W') := Lib.hid KD
        have HACT := Lib.hid hact
        have HIN := Lib.hid hin
        have HOK := Lib.hid hok
        have h1 : (i : Int) < (n : Int) := by omega
        have h3 : (0 : Int) ≤ (i : Int) := by omega
        have HA0 := Lib.hid ha0
        clear hrw hr1 hok hact ha0 hin hi
        go_wp2_with fail
        refine KD.out.mono ?_
        rintro e u1 ⟨rfl, P1, k1⟩
        have hO := OnceI.act (a := a) PI.out.ok (by rw [HACT.out]; exact P1.ok) HI.out.1
        rw [HACT.out] at hO
        have HO := Lib.hid hO
        have RB1 : Hid (RowO u1 43 10 (.slice Ab B.length cb) B.length (flat I10.ca B)) := Lib.hid (RB.out.keepK k1 (fun g hg e => by
          obtain ⟨cur, hc⟩ := RB.out.block g hg
          obtain ⟨_, _, _, ⟨_, _, hm, _⟩, _⟩ := PI.out.rows
          obtain ⟨_, _, _, ⟨_, _, hk, _⟩, _⟩ := PI.out.flo
          rcases e with rfl | rfl
          · rw [hc] at hm; cases hm
          · rw [hc] at hk; cases hk))
        have BB1 : Hid (Below w1.heap.size w1 u1) := Lib.hid (BB.out.trans (k1.below BB.out.size (fun q e => by have := HB.out; rcases e with rfl | rfl <;> omega)))
        have K1 : Hid (KP (fun q => u0.heap.size ≤ q ∨ w1.heap.size ≤ q) u0 u1) := Lib.hid (k1.mono (fun q e => by have := HB.out; rcases e with rfl | rfl <;> omega))
        have P1 := Lib.hid P1
        have LW1 : Hid (w2.heap.size ≤ u1.heap.size) := Lib.hid (Nat.le_trans LW.out k1.size)
        clear hO k1 q0 q1 q2 q3 q4 q5 q6 q7 q8 q9 q10 q11 q12 q13 KD
        cases bo
        · go_wp2_with fail
          go_roundw
          case rel => exact ⟨i + 1, B, Ab, cb, t2, by have := HIN.out; omega, by go_num, rfl, P1, Lib.hid ⟨HO.out.1, by have := HI.out.2; omega⟩, RB1, OWN, BB1, LW1⟩
          case measure => have := HIN.out; simp [intOf]; omega
        · obtain ⟨nb, hnb⟩ : ∃ q, B.length = q := ⟨_, rfl⟩
          have HNB := Lib.hid hnb
          have RB1 : Hid (RowO u1 43 10 (.slice Ab nb cb) nb (flat I10.ca B)) := Lib.hid (hnb ▸ RB1.out)
          have OWN1 : Hid (∀ q, (Value.slice Ab nb cb).ownBlock = some q → w2.heap.size ≤ q) := Lib.hid (hnb ▸ OWN.out)
          obtain ⟨A', c', e', hcb, hcbm, hAb⟩ := RB1.out.slice
          injection e' with e1 _ e2
          subst e1
          subst e2
          have HAB := Lib.hid hAb
          have hcbi : (nb : Int) ≤ (cb : Int) := by omega
          have hnbc : nb ≤ 9223372036854775807 := by have := HI.out.2; have := HNB.out; have := H100.out; have := HIN.out; omega
          rw [hnb]
          clear hnb hAb
          go_wp2_with fail
          rename_i K hK
          have HK := Lib.hid hK
          clear hK
          go_loopw [8] (fun kv wx => ∃ j : Nat, j ≤ nb ∧ kv = .int .i64 j ∧ Hid (Below u1.heap.size u1 wx)) (fun kv _ => nb - (intOf kv).toNat)
          case atStart => exact ⟨0, by omega, rfl, Lib.hid (Below.refl _ _)⟩
          case round =>
            obtain ⟨j, hj, rfl, BX⟩ := hrel
            obtain ⟨v0, hv0⟩ : ∃ z : World, z = wr := ⟨_, rfl⟩
            subst hv0
            by_cases hjn : j < nb
            · as_aux_lemma =>
              skip
              obtain ⟨y, hy⟩ : ∃ y, B[j]? = some y := ⟨_, List.getElem?_eq_getElem (by rw [HNB.out]; exact hjn)⟩
              obtain ⟨g, o, rfl⟩ : ∃ g o, Ab = some ⟨g, o, none⟩ := by
                rcases HAB.out with ⟨_, h1⟩ | h1
                · omega
                · exact h1
              have RBX := RB1.out.below BX.out
              have hne : eqI y a.x = false := by
                cases he : eqI y a.x with
                | false => rfl
                | true => exact absurd (eqI_iff.1 he) ((HO.out.2 (by simp)).2 y (List.mem_of_getElem? hy))
              have heq := eqRB y a.x hne
              have h1j : (j : Int) < (nb : Int) := by omega
              have h3j : (0 : Int) ≤ (j : Int) := by omega
              have HJN := Lib.hid hjn
              have KX : KP (fun q => u0.heap.size ≤ q ∨ w1.heap.size ≤ q) u0 v0 := K1.out.trans (KP.of_below BX.out) (fun i _ e => e)
              have CY := Lib.hid (ca_at RBX hy)
              have CX := Lib.hid (HROW.out v0 KX)
              clear hne RBX KX hy hjn hj
              go_wp2_with fail
              refine region_heldT (S := fun X : World => X = v0.drew) 9 (by kernel_rfl) (by decide) (fun inv => ?_)
              have HS : v0.drew = v0.drew := rfl
              have BXD : Hid (Below u1.heap.size u1 v0.drew) := Lib.hid BX.out.drew
              have CY : Hid (∀ i, i < 10 → v0.drew.cell? ⟨g, o + j * 10 + i, none⟩ = y.ca[i]?) := CY
              have CX : Hid (∀ q u, (#[.int .i64 a.kd, .int .u8 a.x.n, .int .u16 a.x.l, .int .u32 a.x.s, .int .u8 a.x.d, .int .u8 a.x.a0, .int .u8 a.x.a1, .int .u8 a.x.b0, .int .u8 a.x.b1, .int .u8 a.x.c0, .int .u8 a.x.c1, .int .u8 a.code, .string a.val, .int .u32 a.n] : Array Value)[q]? = some u → v0.drew.cell? ⟨rb, ro + i * 14 + q, none⟩ = some u) := CX
              change FirstH _ _ _ _ _ _ _ _ _ _ v0.drew
              generalize v0.drew = wd at *
              refine FirstH.go (i := 0) (v := .slice (some ⟨g, o, none⟩) nb cb) rfl rfl 38 rfl (Op.move (Operand.tmp 6)) rfl (by kernel_rfl) (fun _ _ _ h => h) inv (fun W hS => by unfold bareO; go_simp) HS (fun inv => ?_)
              try simp only [Act.put, List.setIfInBounds_toArray, List.set_cons_zero, List.set_cons_succ]
              refine FirstH.go (i := 1) (v := .int .i64 j) rfl rfl 39 rfl (Op.move (Operand.tmp 8)) rfl (by kernel_rfl) (fun _ _ _ h => h) inv (fun W hS => by unfold bareO; go_simp) HS (fun inv => ?_)
              try simp only [Act.put, List.setIfInBounds_toArray, List.set_cons_zero, List.set_cons_succ]
              refine FirstH.go (i := 2) (v := .pointer (some ⟨g, (o + j * 10), none⟩)) rfl rfl 40 rfl (Op.indexAddr 76 (Operand.tmp 38) (Operand.tmp 39)) rfl (by kernel_rfl) (fun _ _ _ h => h) inv (fun W hS => by unfold bareO; go_simp) HS (fun inv => ?_)
              try simp only [Act.put, List.setIfInBounds_toArray, List.set_cons_zero, List.set_cons_succ]
              refine FirstH.go (i := 3) (v := .agg #[.int .u8 y.n, .int .u16 y.l, .int .u32 y.s, .int .u8 y.d, .int .u8 y.a0, .int .u8 y.a1, .int .u8 y.b0, .int .u8 y.b1, .int .u8 y.c0, .int .u8 y.c1]) rfl rfl 41 rfl (Op.load 43 (Operand.tmp 40)) rfl (by kernel_rfl) (fun _ _ _ h => h) inv (fun W hS => by subst hS; have c0 := CY.out 0 (by decide); have c1 := CY.out 1 (by decide); have c2 := CY.out 2 (by decide); have c3 := CY.out 3 (by decide); have c4 := CY.out 4 (by decide); have c5 := CY.out 5 (by decide); have c6 := CY.out 6 (by decide); have c7 := CY.out 7 (by decide); have c8 := CY.out 8 (by decide); have c9 := CY.out 9 (by decide); simp only [I10.ca, Nat.add_zero] at c0 c1 c2 c3 c4 c5 c6 c7 c8 c9; unfold bareO; go_simp) HS (fun inv => ?_)
              try simp only [Act.put, List.setIfInBounds_toArray, List.set_cons_zero, List.set_cons_succ]
              refine FirstH.go (i := 4) (v := .slice (some ⟨rb, ro, none⟩) n c) rfl rfl 42 rfl (Op.move (Operand.tmp 1)) rfl (by kernel_rfl) (fun _ _ _ h => h) inv (fun W hS => by unfold bareO; go_simp) HS (fun inv => ?_)
              try simp only [Act.put, List.setIfInBounds_toArray, List.set_cons_zero, List.set_cons_succ]
              refine FirstH.go (i := 5) (v := .int .i64 i) rfl rfl 43 rfl (Op.move (Operand.tmp 7)) rfl (by kernel_rfl) (fun _ _ _ h => h) inv (fun W hS => by unfold bareO; go_simp) HS (fun inv => ?_)
              try simp only [Act.put, List.setIfInBounds_toArray, List.set_cons_zero, List.set_cons_succ]
              refine FirstH.go (i := 6) (v := .pointer (some ⟨rb, (ro + i * 14), none⟩)) rfl rfl 44 rfl (Op.indexAddr 22 (Operand.tmp 42) (Operand.tmp 43)) rfl (by kernel_rfl) (fun _ _ _ h => h) inv (fun W hS => by unfold bareO; go_simp) HS (fun inv => ?_)
              try simp only [Act.put, List.setIfInBounds_toArray, List.set_cons_zero, List.set_cons_succ]
              refine FirstH.go (i := 7) (v := .pointer (some ⟨rb, (ro + i * 14 + 1), none⟩)) rfl rfl 45 rfl (Op.fieldAddr 47 (Operand.tmp 44) 1) rfl (by kernel_rfl) (fun _ _ _ h => h) inv (fun W hS => by unfold bareO; go_simp) HS (fun inv => ?_)
              try simp only [Act.put, List.setIfInBounds_toArray, List.set_cons_zero, List.set_cons_succ]
              refine FirstH.go (i := 8) (v := .agg #[.int .u8 a.x.n, .int .u16 a.x.l, .int .u32 a.x.s, .int .u8 a.x.d, .int .u8 a.x.a0, .int .u8 a.x.a1, .int .u8 a.x.b0, .int .u8 a.x.b1, .int .u8 a.x.c0, .int .u8 a.x.c1]) rfl rfl 46 rfl (Op.load 43 (Operand.tmp 45)) rfl (by kernel_rfl) (fun _ _ _ h => h) inv (fun W hS => by subst hS; have c0 := CX.out 1 (.int .u8 a.x.n) rfl; have c1 := CX.out 2 (.int .u16 a.x.l) rfl; have c2 := CX.out 3 (.int .u32 a.x.s) rfl; have c3 := CX.out 4 (.int .u8 a.x.d) rfl; have c4 := CX.out 5 (.int .u8 a.x.a0) rfl; have c5 := CX.out 6 (.int .u8 a.x.a1) rfl; have c6 := CX.out 7 (.int .u8 a.x.b0) rfl; have c7 := CX.out 8 (.int .u8 a.x.b1) rfl; have c8 := CX.out 9 (.int .u8 a.x.c0) rfl; have c9 := CX.out 10 (.int .u8 a.x.c1) rfl; unfold bareO; go_simp) HS (fun inv => ?_)
              try simp only [Act.put, List.setIfInBounds_toArray, List.set_cons_zero, List.set_cons_succ]
              refine ⟨by kernel_rfl, ?_⟩
              simp only [List.drop_succ_cons, List.drop_zero]
              clear inv
              go_wp2_with fail
              go_roundw
              case rel => exact ⟨j + 1, by have := HJN.out; omega, by go_num, BXD⟩
              case measure => have := HJN.out; simp [intOf]; omega
            · have hjn' : ¬ (j : Int) < (nb : Int) := by omega
              have KX : KP (fun q => u0.heap.size ≤ q ∨ w1.heap.size ≤ q) u0 v0 := K1.out.trans (KP.of_below BX.out) (fun i _ e => e)
              have q1 := HROW.out v0 KX 1 (.int .u8 a.x.n) rfl; have q2 := HROW.out v0 KX 2 (.int .u16 a.x.l) rfl; have q3 := HROW.out v0 KX 3 (.int .u32 a.x.s) rfl; have q4 := HROW.out v0 KX 4 (.int .u8 a.x.d) rfl; have q5 := HROW.out v0 KX 5 (.int .u8 a.x.a0) rfl; have q6 := HROW.out v0 KX 6 (.int .u8 a.x.a1) rfl; have q7 := HROW.out v0 KX 7 (.int .u8 a.x.b0) rfl; have q8 := HROW.out v0 KX 8 (.int .u8 a.x.b1) rfl; have q9 := HROW.out v0 KX 9 (.int .u8 a.x.c0) rfl; have q10 := HROW.out v0 KX 10 (.int .u8 a.x.c1) rfl
              have PV := Lib.hid (P1.out.below BX.out)
              have RBV := Lib.hid (RB1.out.below BX.out)
              have BBV : Hid (Below w1.heap.size w1 v0) := Lib.hid (BB1.out.trans (BX.out.mono BB1.out.size))
              have LWV : Hid (w2.heap.size ≤ v0.heap.size) := Lib.hid (Nat.le_trans LW1.out BX.out.size)
              obtain ⟨i0, hi0, hz0, hz1, hz2⟩ := info_parts idRI
              have HIR := Lib.hid (And.intro hi0 (And.intro hz0 (And.intro hz1 hz2)))
              clear hi0 hz0 hz1 hz2 hj hjn
              obtain ⟨w6, hw6⟩ : ∃ Y, v0.alloc (.cells (I10.ca a.x) 43) = Y := ⟨_, rfl⟩
              have r6 : w6.heap[v0.heap.size]? = some (.cells (I10.ca a.x) 43 (0, 0)) := by rw [← hw6]; exact heap_alloc_new _ _
              have b6 : Below v0.heap.size v0 w6 := by rw [← hw6]; exact (Below.refl _ _).alloc (Nat.le_refl _) _
              have O6 := Lib.hid (RBV.out.below b6)
              have B6 := Lib.hid (BBV.out.trans (b6.mono BBV.out.size))
              have P6 := Lib.hid (PV.out.below b6)
              have L6 : Hid (v0.heap.size ≤ w6.heap.size) := Lib.hid b6.size
              have R6 := Lib.hid r6
              have HW6 := Lib.hid hw6
              have HLN : Hid (nb + 1 ≤ 100000) := Lib.hid (onceN HI.out.2 HNB.out H100.out HIN.out)
              clear r6 b6 hw6
              go_wp2_with fail
              refine HK.out _ _ ?_
              clear HK PV RBV BBV P1 RB1 BB1 K1 HROW BX KX PI RB BB OWN HRW HACT
              iterate 19 go_step
              refine wpList_bsI rfl (.tmp 53) rfl a.x rfl ?_
              rw [HW6.out]
              simp only [Act.put, List.setIfInBounds_toArray, List.set_cons_zero, List.set_cons_succ]
              refine wpList_appZA rfl 55 rfl (.tmp 48) (.tmp 54) 76 43 rfl i0 _ 10 16 Try.underlying76 HIR.out.1 HIR.out.2.1 HIR.out.2.2.1 HIR.out.2.2.2 rfl (by decide) (.slice Ab nb cb) nb _ rfl O6.out (some ⟨v0.heap.size, 0, none⟩) 1 1 (I10.ca a.x).toList rfl rfl (fun _ => ⟨_, rfl, fun q z hq => by rw [addr_add, Nat.zero_add, cell_of_row _ _ q _ _ _ R6.out]; simpa using hq⟩) (I10.ca_one a.x) HLN.out (by decide) ?_
              intro v7 w7 O7 g7 f7
              have hk := relO_app HNB.out P6.out O6.out B6.out B2.out.size OWN1.out LWV.out L6.out (onceB HO.out.1 (HO.out.2 (by simp)).1) HIN.out HI.out.2 O7 g7 f7
              obtain ⟨A7, c7, e7, -, -, -⟩ := O7.slice
              subst e7
              clear O7 g7 f7
              go_wp2_with fail
              exact ⟨relO_num (by go_num) hk, by have := HIN.out; simp [intOf]; omega⟩
      · obtain rfl : i = n := by omega
        have BZ : Hid (Below W.heap.size W u0) := Lib.hid (B1.out.trans (BB.out.mono B1.out.size))
        go_wp2_with fail
        go_ret
        exact ⟨rfl, BZ.out⟩

end Go.Proofs.Ytldbmmganicliaa
