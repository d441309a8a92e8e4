/-
  The field of the law LinkOrdered behind some steps, in plain lists. Plain mathematics.
-/
import Derived.Test.YtnagbiicpecamaaJql
import Derived.Deep.Upon
import Derived.Deep.AppendSrc
namespace Go.Proofs.Ytnagbiicpecamaa
set_option linter.unusedSimpArgs false
set_option linter.unusedVariables false
open Go.RowKit Go.Maps Go.Sort

theorem comeP_klen : ∀ (f : Nat) (K : List KPu) (w : Nat), (comeP f K w).1.length ≤ K.length
  | 0, K, w => Nat.le_refl _
  | f + 1, K, w => by
    unfold comeP
    split
    · exact Nat.le_refl _
    · refine Nat.le_trans (comeP_klen f _ _) ?_
      unfold outP
      exact List.length_filter_le _ _
theorem keepP_klen (w : Nat) (K : List KPu) (q : Nat) (B : List UInt8) : (keepP w K q B).length ≤ K.length + 1 := by
  unfold keepP
  split
  · omega
  · simp
theorem hear_klen {α : Type} (s : Sc) (L : List α) (K : List KPu) (p : Hp) : (hearP s L K p).2.2.1.length ≤ K.length + 1 := by
  unfold hearP
  split
  · split
    · exact Nat.le_trans (comeP_klen _ _ _) (keepP_klen _ _ _ _)
    · exact Nat.le_succ _
  · exact Nat.le_succ _
theorem mine_hear {α : Type} {s : Sc} {L : List α} {K : List KPu} {p q : Hp} (h : q.mine s) : q.mine (hearP s L K p).1 := by
  unfold hearP
  split
  · split
    · exact h
    · exact h
  · exact h
theorem mine_send {s : Sc} {n : Nat} {q : Hp} (h : q.mine s) : q.mine (sSend s n) := by
  unfold sSend
  split
  · exact h
  · exact h
theorem again_hear {α : Type} (s : Sc) (L : List α) (K : List KPu) (p : Hp) : (hearP s L K p).1.again = s.again := by
  unfold hearP
  split
  · split <;> rfl
  · rfl
theorem again_send (s : Sc) (n : Nat) : (sSend s n).again = s.again := by
  unfold sSend
  split <;> rfl
theorem fOut_len (s : Sc) (now : Int) (L : List Ls) : (fOut s now L).length ≤ 8 := by
  rw [fOut_lp]
  unfold fOutP
  split
  · simp
  · rw [List.length_map]
    refine Nat.le_trans (List.length_filter_le _ _) ?_
    rw [List.length_take]
    omega
theorem grownRefl (w : World) (r : Option Nat) : w.grownBy w r := World.grownBy.refl w r
/-- an append of whatever lies there, be it nothing. -/
theorem wp_appZ {P : Program} {w : World} {o : Oper} {a : Act} {K : Act → World → Prop} {Q : Exit → Act → World → Prop} (d : Tmp) (hd : o.dst = some d) (s x : Operand) (t e : TypeId)
    (ho : o.op = .call { callee := .builtin .append, args := #[s, x], argTypes := #[t, t] }) (i : TypeInfo) (z : Value) (sz bytes : Nat) (ht : P.underlying t = some (.slice e)) (hi : P.info? e = some i) (hz : i.zero = some z)
    (hsize : i.size = sz) (hby : i.bytes = bytes) (hzs : z.cells.size = sz) (hsz : 0 < sz)
    (v : Value) (n : Nat) (xs : List Value) (hs : a.eval s = v) (hr : RowO w e sz v n xs)
    (sA : Option Addr) (m c : Nat) (news : List Value) (hx : a.eval x = .slice sA m c) (hl : news.length = m * sz) (hnews : m ≠ 0 → ∃ ad, sA = some ad ∧ ∀ j u, news[j]? = some u → w.cell? (ad.add j) = some u) (h1 : ∀ u ∈ news, u.oneCell' = true)
    (hlen : n + m ≤ 100000) (hbytes : bytes ≤ 1000)
    (h : ∀ v' w', RowO w' e sz v' (n + m) (xs ++ news) → w.grownBy w' v.ownBlock → (v'.ownBlock = v.ownBlock ∨ ∃ k, v'.ownBlock = some k ∧ w.heap.size ≤ k) → K (a.put (some d) v') w') : o.wp P a w K Q := by
  by_cases hm : m = 0
  · subst hm
    have hn : news = [] := List.eq_nil_of_length_eq_zero (by simpa using hl)
    subst hn
    obtain ⟨A, cc, rfl, hc, _, _⟩ := hr.slice
    have hrun : (Builtin.append_ #[t, t] o.type #[.slice A n cc, .slice sA 0 c]).run P w = .ok (.slice A n cc) w := by
      refine run_append_nothing w t t o.type e i ht hi A n cc hc _ ?_
      cases sA with
      | none => exact Src.ofNil w ht c
      | some ad => exact Src.ofSlice w ht ad 0 c [] (by simp) (fun j u hu => by cases hu) (fun u hu => by cases hu)
    have hk := h (.slice A n cc) w (by simpa using hr) (grownRefl _ _) (.inl rfl)
    rw [← hd] at hk
    unfold Oper.wp execOp
    simp only [ho, resolve, invoke, builtin, Sem.run_bind, Sem.run_pure, Result.andThen_ok, List.map_toArray, List.map_cons, List.map_nil, hs, hx, hrun]
    exact hk
  · obtain ⟨ad, rfl, hc⟩ := hnews hm
    exact wp_appO d hd s x t e ho i z sz bytes ht hi hz hsize hby hzs hsz v n xs hs hr ad m c news hx hl hc h1 (by omega) hlen hbytes h
theorem fOut_seq {s : Sc} {now : Int} {L : List Ls} {x : Pu} (h : x ∈ fOut s now L) (hh : x.2.2.2.2.2.2.1 = false) : x.2.2.2.2.1 = 0 := by
  rw [fOut_lp] at h
  unfold fOutP at h
  split at h
  · rw [List.mem_singleton] at h
    rw [h]
  · obtain ⟨w, _, rfl⟩ := List.mem_map.1 h
    cases hh
/-- behind n steps; k counts for the maps. -/
structure Fg (F : Nat) (y : Fc) (k n : Nat) : Prop where
  z : ∃ a c a' c', Fz F y a c a' c' ∧ ∀ p ∈ y.P, Fly F y c c' p.hp
  now : 0 ≤ y.now ∧ y.now ≤ n
  P : y.P.length ≤ 120
  q : ∀ p ∈ y.P, p.seq ≤ 18446744073709551615
  S : y.S0.length ≤ n ∧ y.S1.length ≤ n
  K : y.K0.length ≤ k ∧ y.K1.length ≤ k
  k : k ≤ n
  ag : y.s0.again ≤ 6 ∧ y.s1.again ≤ 6
theorem Fg.C {F : Nat} {y : Fc} {k n : Nat} (h : Fg F y k n) : y.C1 = y.S0.take y.C1.length ∧ y.C0 = y.S1.take y.C0.length ∧ y.C0.length ≤ n ∧ y.C1.length ≤ n := by
  obtain ⟨a, c, a', c', hz, _⟩ := h.z
  have e1 := hz.c1
  have e0 := hz.c0
  have l1 : y.C1.length ≤ y.S0.length := by rw [e1, List.length_take]; omega
  have l0 : y.C0.length ≤ y.S1.length := by rw [e0, List.length_take]; omega
  refine ⟨?_, ?_, Nat.le_trans l0 h.S.2, Nat.le_trans l1 h.S.1⟩
  · have hl : y.C1.length = c := by rw [e1, List.length_take]; have := hz.fl.d.cS; omega
    rw [hl]
    exact e1
  · have hl : y.C0.length = c' := by rw [e0, List.length_take]; have := hz.fl.d'.cS; omega
    rw [hl]
    exact e0
theorem Fg.tick {F : Nat} {y y' : Fc} {k n : Nat} (h : Fg F y k n) (hy : y' = { y with now := y.now + 1 }) : Fg F y' k (n + 1) := by
  subst hy
  obtain ⟨a, c, a', c', hz, hf⟩ := h.z
  refine ⟨⟨a, c, a', c', hz.tick (by omega), hf⟩, ?_, h.P, h.q, ⟨Nat.le_succ_of_le h.S.1, Nat.le_succ_of_le h.S.2⟩, h.K, Nat.le_succ_of_le h.k, h.ag⟩
  have := h.now
  show 0 ≤ y.now + 1 ∧ y.now + 1 ≤ ((n + 1 : Nat) : Int)
  omega
theorem Fg.later {F : Nat} {y : Fc} {k n n' : Nat} (h : Fg F y k n) (hn : n ≤ n') : Fg F y k n' :=
  ⟨h.z, ⟨h.now.1, Int.le_trans h.now.2 (by omega)⟩, h.P, h.q, ⟨Nat.le_trans h.S.1 hn, Nat.le_trans h.S.2 hn⟩, h.K, Nat.le_trans h.k hn, h.ag⟩
/-- packets are left out. -/
theorem Fg.fewer {F : Nat} {y y' : Fc} {k n : Nat} (h : Fg F y k n) {P : List Pk} (hP : ∀ p ∈ P, p ∈ y.P) (hl : P.length ≤ 120) (hy : y' = { y with P := P }) : Fg F y' k n := by
  subst hy
  obtain ⟨a, c, a', c', hz, hf⟩ := h.z
  exact ⟨⟨a, c, a', c', hz.fly P, fun p hp => hf p (hP p hp)⟩, h.now, hl, fun p hp => h.q p (hP p hp), h.S, h.K, h.k, h.ag⟩
/-- end 0 sends. -/
theorem Fg.send0 {F : Nat} {y y' : Fc} {k n : Nat} (h : Fg F y k n) {X : List UInt8} (hr : fSendR y.s0 y.L0.length = 0) {L' : List Ls} (eL : L'.map Ls.p = lSend y.s0 (y.L0.map Ls.p) X) (hs : F + n + 1 < 18446744073709551615)
    (hy : y' = { y with s0 := sSend y.s0 y.L0.length, L0 := L', S0 := y.S0 ++ [X] }) : Fg F y' k (n + 1) := by
  obtain ⟨a, c, a', c', hz, hf⟩ := h.z
  have q := hz.send0 h.now.1 hr eL (by have := h.S; omega) hy
  subst hy
  refine ⟨⟨a, c, a', c', q, fun p hp => ?_⟩, ⟨h.now.1, Int.le_trans h.now.2 (by omega)⟩, h.P, h.q, ⟨by show (y.S0 ++ [X]).length ≤ n + 1; rw [List.length_append]; have := h.S.1; simp; omega, Nat.le_succ_of_le h.S.2⟩, h.K, Nat.le_succ_of_le h.k, ⟨by show (sSend _ _).again ≤ 6; rw [again_send]; exact h.ag.1, h.ag.2⟩⟩
  rcases hf p hp with ⟨hg, hm⟩ | ⟨hg, hm⟩
  · exact .inl ⟨hg.grow X, hm⟩
  · exact .inr ⟨hg, mine_send hm⟩
theorem Fg.nosend0 {F : Nat} {y y' : Fc} {k n : Nat} (h : Fg F y k n) {X : List UInt8} (hr : fSendR y.s0 y.L0.length ≠ 0) {L' : List Ls} (eL : L'.map Ls.p = lSend y.s0 (y.L0.map Ls.p) X)
    (hy : y' = { y with s0 := sSend y.s0 y.L0.length, L0 := L' }) : Fg F y' k n := by
  obtain ⟨a, c, a', c', hz, hf⟩ := h.z
  have q := hz.nosend0 hr eL hy
  subst hy
  refine ⟨⟨a, c, a', c', q, fun p hp => ?_⟩, h.now, h.P, h.q, h.S, h.K, h.k, ⟨by show (sSend _ _).again ≤ 6; rw [again_send]; exact h.ag.1, h.ag.2⟩⟩
  rcases hf p hp with ⟨hg, hm⟩ | ⟨hg, hm⟩
  · exact .inl ⟨hg, hm⟩
  · exact .inr ⟨hg, mine_send hm⟩
/-- end 0 tells. -/
theorem Fg.out0 {F : Nat} {y y' : Fc} {k n : Nat} (h : Fg F y k n) (hl : y.P.length < 100) {P : List Pk} (hP : P.map Pk.pu = fOut y.s0 y.now y.L0) (hy : y' = { y with s0 := { y.s0 with owed := false }, L0 := outL y.now y.s0.again y.L0 8, P := y.P ++ P }) : Fg F y' k n := by
  obtain ⟨a, c, a', c', hz, hf⟩ := h.z
  obtain ⟨q, _, _⟩ := hz.out0 rfl
  have ht := hz.told0 hP
  have hpl : P.length ≤ 8 := by
    have := fOut_len y.s0 y.now y.L0
    rw [← hP, List.length_map] at this
    exact this
  subst hy
  refine ⟨⟨a, c, a', c', q.fly _, fun p hp => ?_⟩, h.now, ?_, fun p hp => ?_, h.S, h.K, h.k, h.ag⟩
  · rcases List.mem_append.1 hp with hp | hp
    · rcases hf p hp with ⟨hg, hm⟩ | ⟨hg, hm⟩
      · exact .inl ⟨hg, hm⟩
      · exact .inr ⟨hg, hm⟩
    · obtain ⟨hg, hm⟩ := ht p hp
      exact .inl ⟨hg, hm⟩
  · show (y.P ++ P).length ≤ 120
    rw [List.length_append]
    omega
  · rcases List.mem_append.1 hp with hp | hp
    · exact h.q p hp
    · obtain ⟨hg, _⟩ := ht p hp
      cases hh : p.has with
      | true =>
        obtain ⟨j, e1, e2⟩ := hg.has_ hh
        have e1' : p.seq = F + j := e1
        have hj := (List.getElem?_eq_some_iff.1 e2).1
        have := hz.sm
        omega
      | false =>
        have hm : p.pu ∈ fOut y.s0 y.now y.L0 := by rw [← hP]; exact List.mem_map_of_mem hp
        have h0 : p.seq = 0 := fOut_seq hm hh
        omega
/-- a packet comes to end 0. -/
theorem Fg.hear0 {F : Nat} {y y' : Fc} {k n : Nat} (h : Fg F y k n) {p : Hp} (hp : ∀ a c a' c', Fz F y a c a' c' → (∀ q ∈ y.P, Fly F y c c' q.hp) → Good F y.S1 c p ∧ p.mine y.s0) {K' : List Kr} (eK : K'.map Kr.p = (hearP y.s0 y.L0 (y.K0.map Kr.p) p).2.2.1)
    (hy : y' = { y with s0 := (hearP y.s0 y.L0 (y.K0.map Kr.p) p).1, L0 := (hearP y.s0 y.L0 (y.K0.map Kr.p) p).2.1, K0 := K', C0 := y.C0 ++ (hearP y.s0 y.L0 (y.K0.map Kr.p) p).2.2.2.map (·.2) }) : Fg F y' (k + 1) (n + 1) := by
  obtain ⟨a, c, a', c', hz, hf⟩ := h.z
  obtain ⟨hg, hm⟩ := hp a c a' c' hz hf
  obtain ⟨a2, c2, q, hc, ha, _⟩ := hz.hear0 hm hg eK hy
  have hkl : K'.length ≤ k + 1 := by
    have h1 := congrArg List.length eK
    have h2 := hear_klen y.s0 y.L0 (y.K0.map Kr.p) p
    rw [List.length_map] at h1
    rw [List.length_map] at h2
    have := h.K
    omega
  subst hy
  refine ⟨⟨_, _, _, _, q, fun p hp => ?_⟩, ⟨h.now.1, Int.le_trans h.now.2 (by omega)⟩, h.P, h.q, ⟨Nat.le_succ_of_le h.S.1, Nat.le_succ_of_le h.S.2⟩, ⟨hkl, Nat.le_succ_of_le h.K.2⟩, Nat.succ_le_succ h.k, ⟨by show (hearP _ _ _ _).1.again ≤ 6; rw [again_hear]; exact h.ag.1, h.ag.2⟩⟩
  rcases hf p hp with ⟨hg, hm⟩ | ⟨hg, hm⟩
  · exact .inl ⟨hg.mono hc, hm⟩
  · exact .inr ⟨hg, mine_hear hm⟩
theorem Fg.to0 {F : Nat} {y : Fc} {k n : Nat} (h : Fg F y k n) {p : Pk} (hp : p ∈ y.P) (ht : ¬ p.tn = 2) : ∀ a c a' c', Fz F y a c a' c' → (∀ q ∈ y.P, Fly F y c c' q.hp) → Good F y.S1 c p.hp ∧ p.hp.mine y.s0 := fun a c a' c' hz hf => by
  rcases hf p hp with ⟨hg, hm⟩ | ⟨hg, hm⟩
  · exact absurd ((mine_to hm).trans hz.n1) ht
  · exact ⟨hg, hm⟩
/-- end 1 sends. -/
theorem Fg.send1 {F : Nat} {y y' : Fc} {k n : Nat} (h : Fg F y k n) {X : List UInt8} (hr : fSendR y.s1 y.L1.length = 0) {L' : List Ls} (eL : L'.map Ls.p = lSend y.s1 (y.L1.map Ls.p) X) (hs : F + n + 1 < 18446744073709551615)
    (hy : y' = { y with s1 := sSend y.s1 y.L1.length, L1 := L', S1 := y.S1 ++ [X] }) : Fg F y' k (n + 1) := by
  obtain ⟨a, c, a', c', hz, hf⟩ := h.z
  have q := hz.send1 h.now.1 hr eL (by have := h.S; omega) hy
  subst hy
  refine ⟨⟨a, c, a', c', q, fun p hp => ?_⟩, ⟨h.now.1, Int.le_trans h.now.2 (by omega)⟩, h.P, h.q, ⟨Nat.le_succ_of_le h.S.1, by show (y.S1 ++ [X]).length ≤ n + 1; rw [List.length_append]; have := h.S.2; simp; omega⟩, h.K, Nat.le_succ_of_le h.k, ⟨h.ag.1, by show (sSend _ _).again ≤ 6; rw [again_send]; exact h.ag.2⟩⟩
  rcases hf p hp with ⟨hg, hm⟩ | ⟨hg, hm⟩
  · exact .inl ⟨hg, mine_send hm⟩
  · exact .inr ⟨hg.grow X, hm⟩
theorem Fg.nosend1 {F : Nat} {y y' : Fc} {k n : Nat} (h : Fg F y k n) {X : List UInt8} (hr : fSendR y.s1 y.L1.length ≠ 0) {L' : List Ls} (eL : L'.map Ls.p = lSend y.s1 (y.L1.map Ls.p) X)
    (hy : y' = { y with s1 := sSend y.s1 y.L1.length, L1 := L' }) : Fg F y' k n := by
  obtain ⟨a, c, a', c', hz, hf⟩ := h.z
  have q := hz.nosend1 hr eL hy
  subst hy
  refine ⟨⟨a, c, a', c', q, fun p hp => ?_⟩, h.now, h.P, h.q, h.S, h.K, h.k, ⟨h.ag.1, by show (sSend _ _).again ≤ 6; rw [again_send]; exact h.ag.2⟩⟩
  rcases hf p hp with ⟨hg, hm⟩ | ⟨hg, hm⟩
  · exact .inl ⟨hg, mine_send hm⟩
  · exact .inr ⟨hg, hm⟩
/-- end 1 tells. -/
theorem Fg.out1 {F : Nat} {y y' : Fc} {k n : Nat} (h : Fg F y k n) (hl : y.P.length < 100) {P : List Pk} (hP : P.map Pk.pu = fOut y.s1 y.now y.L1) (hy : y' = { y with s1 := { y.s1 with owed := false }, L1 := outL y.now y.s1.again y.L1 8, P := y.P ++ P }) : Fg F y' k n := by
  obtain ⟨a, c, a', c', hz, hf⟩ := h.z
  obtain ⟨q, _, _⟩ := hz.out1 rfl
  have ht := hz.told1 hP
  have hpl : P.length ≤ 8 := by
    have := fOut_len y.s1 y.now y.L1
    rw [← hP, List.length_map] at this
    exact this
  subst hy
  refine ⟨⟨a, c, a', c', q.fly _, fun p hp => ?_⟩, h.now, ?_, fun p hp => ?_, h.S, h.K, h.k, h.ag⟩
  · rcases List.mem_append.1 hp with hp | hp
    · rcases hf p hp with ⟨hg, hm⟩ | ⟨hg, hm⟩
      · exact .inl ⟨hg, hm⟩
      · exact .inr ⟨hg, hm⟩
    · obtain ⟨hg, hm⟩ := ht p hp
      exact .inr ⟨hg, hm⟩
  · show (y.P ++ P).length ≤ 120
    rw [List.length_append]
    omega
  · rcases List.mem_append.1 hp with hp | hp
    · exact h.q p hp
    · obtain ⟨hg, _⟩ := ht p hp
      cases hh : p.has with
      | true =>
        obtain ⟨j, e1, e2⟩ := hg.has_ hh
        have e1' : p.seq = F + j := e1
        have hj := (List.getElem?_eq_some_iff.1 e2).1
        have := hz.sm
        omega
      | false =>
        have hm : p.pu ∈ fOut y.s1 y.now y.L1 := by rw [← hP]; exact List.mem_map_of_mem hp
        have h0 : p.seq = 0 := fOut_seq hm hh
        omega
/-- a packet comes to end 1. -/
theorem Fg.hear1 {F : Nat} {y y' : Fc} {k n : Nat} (h : Fg F y k n) {p : Hp} (hp : ∀ a c a' c', Fz F y a c a' c' → (∀ q ∈ y.P, Fly F y c c' q.hp) → Good F y.S0 c' p ∧ p.mine y.s1) {K' : List Kr} (eK : K'.map Kr.p = (hearP y.s1 y.L1 (y.K1.map Kr.p) p).2.2.1)
    (hy : y' = { y with s1 := (hearP y.s1 y.L1 (y.K1.map Kr.p) p).1, L1 := (hearP y.s1 y.L1 (y.K1.map Kr.p) p).2.1, K1 := K', C1 := y.C1 ++ (hearP y.s1 y.L1 (y.K1.map Kr.p) p).2.2.2.map (·.2) }) : Fg F y' (k + 1) (n + 1) := by
  obtain ⟨a, c, a', c', hz, hf⟩ := h.z
  obtain ⟨hg, hm⟩ := hp a c a' c' hz hf
  obtain ⟨a2, c2, q, hc, ha, _⟩ := hz.hear1 hm hg eK hy
  have hkl : K'.length ≤ k + 1 := by
    have h1 := congrArg List.length eK
    have h2 := hear_klen y.s1 y.L1 (y.K1.map Kr.p) p
    rw [List.length_map] at h1
    rw [List.length_map] at h2
    have := h.K
    omega
  subst hy
  refine ⟨⟨_, _, _, _, q, fun p hp => ?_⟩, ⟨h.now.1, Int.le_trans h.now.2 (by omega)⟩, h.P, h.q, ⟨Nat.le_succ_of_le h.S.1, Nat.le_succ_of_le h.S.2⟩, ⟨Nat.le_succ_of_le h.K.1, hkl⟩, Nat.succ_le_succ h.k, ⟨h.ag.1, by show (hearP _ _ _ _).1.again ≤ 6; rw [again_hear]; exact h.ag.2⟩⟩
  rcases hf p hp with ⟨hg, hm⟩ | ⟨hg, hm⟩
  · exact .inl ⟨hg, mine_hear hm⟩
  · exact .inr ⟨hg.mono hc, hm⟩
theorem Fg.to1 {F : Nat} {y : Fc} {k n : Nat} (h : Fg F y k n) {p : Pk} (hp : p ∈ y.P) (ht : p.tn = 2) : ∀ a c a' c', Fz F y a c a' c' → (∀ q ∈ y.P, Fly F y c c' q.hp) → Good F y.S0 c' p.hp ∧ p.hp.mine y.s1 := fun a c a' c' hz hf => by
  rcases hf p hp with ⟨hg, hm⟩ | ⟨hg, hm⟩
  · exact ⟨hg, hm⟩
  · exact absurd ((mine_to hm).symm.trans ht) hz.n0

end Go.Proofs.Ytnagbiicpecamaa
