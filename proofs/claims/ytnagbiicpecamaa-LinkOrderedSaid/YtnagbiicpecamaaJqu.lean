/-
  The closing rounds of the law LinkOrdered, in plain lists. Plain mathematics.
-/
import Derived.Test.YtnagbiicpecamaaJqs
namespace Go.Proofs.Ytnagbiicpecamaa
set_option linter.unusedSimpArgs false
set_option linter.unusedVariables false
open Go.RowKit Go.Maps Go.Sort

theorem Fl.uniq {F : Nat} {S S' : List (List UInt8)} {x y : En} {a c a' c' b d b' d' : Nat} {now now2 : Int} (h : Fl F S S' x y a c a' c' now) (k : Fl F S S' x y b d b' d' now2) : a = b ∧ c = d ∧ a' = b' ∧ c' = d' := by
  have h1 := h.d.ln
  have h2 := h.d.wn
  have h3 := h.d'.ln
  have h4 := h.d'.wn
  have k1 := k.d.ln
  have k2 := k.d.wn
  have k3 := k.d'.ln
  have k4 := k.d'.wn
  omega
theorem nodup_leN : ∀ (C M : List Nat), C.Nodup → (∀ x ∈ C, x ∈ M) → C.length ≤ M.length
  | [], _, _, _ => Nat.zero_le _
  | x :: C, M, hn, hs => by
    obtain ⟨h1, h2⟩ := List.nodup_cons.1 hn
    have hx : x ∈ M := hs x (List.mem_cons_self ..)
    have := nodup_leN C (M.erase x) h2 fun y hy => (List.mem_erase_of_ne (fun e : y = x => h1 (by rw [← e]; exact hy))).2 (hs y (List.mem_cons_of_mem _ hy))
    rw [List.length_erase_of_mem hx] at this
    have := List.length_pos_of_mem hx
    rw [List.length_cons]
    omega
theorem keys_few {F lo : Nat} {S : List (List UInt8)} {c : Nat} {K : List Kr} (h : Kp F S lo c (K.map Kr.p)) (hl : c ≤ lo) (ha : K.Pairwise fun x y => x.seq ≠ y.seq) : K.length ≤ 8 := by
  have h1 : (K.map fun x => x.seq).Nodup := List.pairwise_map.2 ha
  have h2 : ∀ q ∈ K.map (fun x => x.seq), q ∈ (List.range 8).map (fun j => F + c + j) := fun q hq => by
    obtain ⟨x, hx, rfl⟩ := List.mem_map.1 hq
    obtain ⟨j, e, h3, h4, _⟩ := h x.p (List.mem_map_of_mem hx)
    have e' : x.seq = F + j := e
    exact List.mem_map.2 ⟨j - c, List.mem_range.2 (by omega), by show F + c + (j - c) = x.seq; omega⟩
  have := nodup_leN _ _ h1 h2
  simpa using this
theorem Fm.few {base : Nat} {W : World} {x : Fa} {y : Fc} {k F a c a' c' : Nat} (h : Fm base W x y k) (z : Fz F y a c a' c') : y.K0.length ≤ 8 ∧ y.K1.length ≤ 8 ∧ y.C0.length ≤ y.S1.length ∧ y.C1.length ≤ y.S0.length := by
  obtain ⟨_, _, _, _, m0⟩ := h.p0.map
  obtain ⟨_, _, _, _, m1⟩ := h.p1.map
  refine ⟨keys_few z.fl.d'.kp (Nat.le_succ _) m0.apart, keys_few z.fl.d.kp (Nat.le_succ _) m1.apart, ?_, ?_⟩
  · rw [z.c0, List.length_take]; omega
  · rw [z.c1, List.length_take]; omega
theorem hear_sub {y : En} {p : Hp} : ∀ z ∈ (y.hear p).L, z ∈ y.L := by
  intro z hz
  have hz' : z ∈ (hearP y.s y.L y.K p).2.1 := hz
  unfold hearP at hz'
  split at hz'
  · split at hz'
    · exact List.mem_of_mem_drop hz'
    · exact List.mem_of_mem_drop hz'
  · exact hz'
/-- few bodies, few ticks between tellings. -/
structure Fx (y : Fc) : Prop where
  S : y.S0.length ≤ 1000 ∧ y.S1.length ≤ 1000
  ag : y.s0.again ≤ 6 ∧ y.s1.again ≤ 6
/-- behind i closing rounds. -/
def Fr (F : Nat) (y : Fc) (i : Nat) : Prop := Fx y ∧ ∃ a c a' c', Fz F y a c a' c' ∧ Rd F y.S0 y.S1 y.e0 y.e1 a c a' c' y.now i
theorem Fg.fr {F : Nat} {y : Fc} {k n : Nat} (h : Fg F y k n) (hn : n ≤ 1000) : Fr F y 0 := by
  obtain ⟨a, c, a', c', hz, _⟩ := h.z
  exact ⟨⟨⟨Nat.le_trans h.S.1 hn, Nat.le_trans h.S.2 hn⟩, h.ag⟩, a, c, a', c', hz, Rd.start hz.fl⟩
/-- .. and the time has gone on. -/
def T0 (F : Nat) (y : Fc) (i : Nat) : Prop := Fx y ∧ ∃ now0, y.now = now0 + 6 ∧ ∃ a c a' c', Fz F y a c a' c' ∧ Rd F y.S0 y.S1 y.e0 y.e1 a c a' c' now0 i
theorem Fr.tick {F : Nat} {y y' : Fc} {i : Nat} (h : Fr F y i) (hy : y' = { y with now := y.now + 6 }) : T0 F y' i := by
  subst hy
  obtain ⟨hx, a, c, a', c', hz, hr⟩ := h
  exact ⟨⟨hx.S, hx.ag⟩, y.now, rfl, a, c, a', c', hz.tick (by omega), hr⟩
/-- the first end has told, and the second one has heard k of it. -/
def Hs0 (F : Nat) (y : Fc) (P : List Pk) (i k : Nat) : Prop := Fx y ∧ ∃ (x0 y0 : En) (now0 : Int) (a c a' c' ck ak : Nat), y.now = now0 + 6 ∧ Rd F y.S0 y.S1 x0 y0 a c a' c' now0 i ∧ Fl F y.S0 y.S1 x0 y0 a c a' c' y.now ∧ x0.due y.now ∧
  Hf F y.S0 y.S1 x0 y0 a c a' c' y.now k y.e1 ck ak ∧ y.e0 = x0.out y.now ∧ Fz F y a ck ak c' ∧ (∀ z ∈ y.e1.L, z.2.2.2 ≤ now0) ∧ P.map Pk.pu = fOutP x0.s y.now x0.L
/-- the second one has heard all. -/
def T1 (F : Nat) (y : Fc) (i : Nat) : Prop := Fx y ∧ ∃ (x0 y0 : En) (now0 : Int) (a c a' c' c2 a2 : Nat), y.now = now0 + 6 ∧ Rd F y.S0 y.S1 x0 y0 a c a' c' now0 i ∧ Hz F y.S0 y.S1 x0 y0 a c a' c' y.now y.e1 c2 a2 ∧ y.e0 = x0.out y.now ∧ Fz F y a c2 a2 c' ∧ (∀ z ∈ y.e1.L, z.2.2.2 ≤ now0)
def Hs1 (F : Nat) (y : Fc) (P : List Pk) (i k : Nat) : Prop := Fx y ∧ ∃ (x0 y0 y2 : En) (now0 : Int) (a c a' c' c2 a2 ck ak : Nat), y.now = now0 + 6 ∧ Rd F y.S0 y.S1 x0 y0 a c a' c' now0 i ∧ Hz F y.S0 y.S1 x0 y0 a c a' c' y.now y2 c2 a2 ∧
  Fl F y.S1 y.S0 y2 (x0.out y.now) a2 c' a c2 y.now ∧ y2.due y.now ∧ Hf F y.S1 y.S0 y2 (x0.out y.now) a2 c' a c2 y.now k y.e0 ck ak ∧ y.e1 = y2.out y.now ∧ Fz F y ak c2 a2 ck ∧ P.map Pk.pu = fOutP y2.s y.now y2.L
theorem told_seq {F : Nat} {S : List (List UInt8)} {s : Sc} {now : Int} {L : List Ls} {P : List Pk} {r : Nat} (hP : P.map Pk.pu = fOut s now L) (hg : ∀ p ∈ P, Good F S r p.hp) (hs : F + S.length < 18446744073709551615) : ∀ p ∈ P, p.seq ≤ 18446744073709551615 := fun p hp => by
  cases hh : p.has with
  | true =>
    obtain ⟨j, e1, e2⟩ := (hg p hp).has_ hh
    have e1' : p.seq = F + j := e1
    have hj := (List.getElem?_eq_some_iff.1 e2).1
    omega
  | false =>
    have hm : p.pu ∈ fOut s now L := by rw [← hP]; exact List.mem_map_of_mem hp
    have h0 : p.seq = 0 := fOut_seq hm hh
    omega
theorem T0.out {F : Nat} {y y' : Fc} {i : Nat} (h : T0 F y i) {P : List Pk} (hP : P.map Pk.pu = fOut y.s0 y.now y.L0) (hy : y' = { y with s0 := { y.s0 with owed := false }, L0 := outL y.now y.s0.again y.L0 8 }) : Hs0 F y' P i 0 ∧ ∀ p ∈ P, p.seq ≤ 18446744073709551615 := by
  obtain ⟨hx, now0, hn, a, c, a', c', hz, hr⟩ := h
  obtain ⟨q, e0, e1⟩ := hz.out0 hy
  have hg := hz.told0 hP
  have hs : y'.S0 = y.S0 ∧ y'.S1 = y.S1 ∧ y'.now = y.now := by rw [hy]; exact ⟨rfl, rfl, rfl⟩
  have hx' : Fx y' := by rw [hy]; exact ⟨hx.S, hx.ag⟩
  refine ⟨⟨hx', y.e0, y.e1, now0, a, c, a', c', c, a', ?_, ?_, ?_, ?_, ?_, ?_, q, ?_, ?_⟩, told_seq hP (fun p hp => (hg p hp).1) hz.sm.1⟩
  · rw [hs.2.2]; exact hn
  · rw [hs.1, hs.2.1]; exact hr
  · rw [hs.1, hs.2.1, hs.2.2]; exact hz.fl
  · rw [hs.2.2]; exact due_later hr.fl.t (by omega) hx.ag.1
  · rw [hs.1, hs.2.1, hs.2.2, e1]; exact Hf.start hz.fl
  · rw [hs.2.2]; exact e0
  · rw [e1]; exact hr.fl.t'
  · rw [hs.2.2, hP, fOut_lp]
    rfl
theorem Hs0.step {F : Nat} {y y' : Fc} {P : List Pk} {i k : Nat} (h : Hs0 F y P i k) {p : Pk} (hp : P[k]? = some p) {K' : List Kr} (eK : K'.map Kr.p = (hearP y.s1 y.L1 (y.K1.map Kr.p) p.hp).2.2.1)
    (hy : y' = { y with s1 := (hearP y.s1 y.L1 (y.K1.map Kr.p) p.hp).1, L1 := (hearP y.s1 y.L1 (y.K1.map Kr.p) p.hp).2.1, K1 := K', C1 := y.C1 ++ (hearP y.s1 y.L1 (y.K1.map Kr.p) p.hp).2.2.2.map (·.2) }) : Hs0 F y' P i (k + 1) := by
  obtain ⟨hx, x0, y0, now0, a, c, a', c', ck, ak, hn, hr, hl, hd, hf, e0, hz, ht, hP⟩ := h
  have hpu : (fOutP x0.s y.now x0.L)[k]? = some p.hp.pu := by
    rw [← hP, List.getElem?_map, hp]
    rfl
  obtain ⟨hm, ak2, ck2, hf2, -, hck⟩ := Hf.step hz.sm.1 hl hd hf hpu
  obtain ⟨hg, _⟩ := hl.told (p := p.hp) (List.mem_of_getElem? hpu)
  obtain ⟨a2, c2, q, _, _, e1⟩ := hz.hear1 hm hg eK hy
  have hs : y'.S0 = y.S0 ∧ y'.S1 = y.S1 ∧ y'.now = y.now ∧ y'.e0 = y.e0 := by rw [hy]; exact ⟨rfl, rfl, rfl, rfl⟩
  have hx' : Fx y' := by
    rw [hy]
    exact ⟨hx.S, hx.ag.1, by show (hearP _ _ _ _).1.again ≤ 6; rw [again_hear]; exact hx.ag.2⟩
  have hfl := hf2.fl
  have hql := q.fl
  rw [hs.1, hs.2.1, hs.2.2.1, hs.2.2.2, e0, e1] at hql
  obtain ⟨_, rfl, rfl, _⟩ := hql.uniq hfl
  refine ⟨hx', x0, y0, now0, a, c, a', c', _, _, ?_, ?_, ?_, ?_, ?_, ?_, q, ?_, ?_⟩
  · rw [hs.2.2.1]; exact hn
  · rw [hs.1, hs.2.1]; exact hr
  · rw [hs.1, hs.2.1, hs.2.2.1]; exact hl
  · rw [hs.2.2.1]; exact hd
  · rw [hs.1, hs.2.1, hs.2.2.1, e1]; exact hf2
  · rw [hs.2.2.1, hs.2.2.2]; exact e0
  · rw [e1]; exact fun z hz => ht z (hear_sub z hz)
  · rw [hs.2.2.1]; exact hP
theorem Hs0.done {F : Nat} {y : Fc} {P : List Pk} {i : Nat} (h : Hs0 F y P i P.length) : T1 F y i := by
  obtain ⟨hx, x0, y0, now0, a, c, a', c', ck, ak, hn, hr, hl, hd, hf, e0, hz, ht, hP⟩ := h
  have hlen : P.length = (fOutP x0.s y.now x0.L).length := by rw [← hP, List.length_map]
  rw [hlen] at hf
  exact ⟨hx, x0, y0, now0, a, c, a', c', ck, ak, hn, hr, Hf.done hd hf, e0, hz, ht⟩
theorem T1.out {F : Nat} {y y' : Fc} {i : Nat} (h : T1 F y i) {P : List Pk} (hP : P.map Pk.pu = fOut y.s1 y.now y.L1) (hy : y' = { y with s1 := { y.s1 with owed := false }, L1 := outL y.now y.s1.again y.L1 8 }) : Hs1 F y' P i 0 ∧ ∀ p ∈ P, p.seq ≤ 18446744073709551615 := by
  obtain ⟨hx, x0, y0, now0, a, c, a', c', c2, a2, hn, hr, h1, e0, hz, ht⟩ := h
  obtain ⟨q, e1, e0'⟩ := hz.out1 hy
  have hg := hz.told1 hP
  have hs : y'.S0 = y.S0 ∧ y'.S1 = y.S1 ∧ y'.now = y.now := by rw [hy]; exact ⟨rfl, rfl, rfl⟩
  have hx' : Fx y' := by rw [hy]; exact ⟨hx.S, hx.ag⟩
  have hsw := hz.fl.swap
  rw [e0] at hsw
  refine ⟨⟨hx', x0, y0, y.e1, now0, a, c, a', c', c2, a2, c', a, ?_, ?_, ?_, ?_, ?_, ?_, ?_, q, ?_⟩, told_seq hP (fun p hp => (hg p hp).1) hz.sm.2⟩
  · rw [hs.2.2]; exact hn
  · rw [hs.1, hs.2.1]; exact hr
  · rw [hs.1, hs.2.1, hs.2.2]; exact h1
  · rw [hs.1, hs.2.1, hs.2.2]; exact hsw
  · rw [hs.2.2]; exact due_later ht (by omega) hx.ag.2
  · rw [hs.1, hs.2.1, hs.2.2, e0', e0]; exact Hf.start hsw
  · rw [hs.2.2]; exact e1
  · rw [hs.2.2, hP, fOut_lp]
    rfl
theorem Hs1.step {F : Nat} {y y' : Fc} {P : List Pk} {i k : Nat} (h : Hs1 F y P i k) {p : Pk} (hp : P[k]? = some p) {K' : List Kr} (eK : K'.map Kr.p = (hearP y.s0 y.L0 (y.K0.map Kr.p) p.hp).2.2.1)
    (hy : y' = { y with s0 := (hearP y.s0 y.L0 (y.K0.map Kr.p) p.hp).1, L0 := (hearP y.s0 y.L0 (y.K0.map Kr.p) p.hp).2.1, K0 := K', C0 := y.C0 ++ (hearP y.s0 y.L0 (y.K0.map Kr.p) p.hp).2.2.2.map (·.2) }) : Hs1 F y' P i (k + 1) := by
  obtain ⟨hx, x0, y0, y2, now0, a, c, a', c', c2, a2, ck, ak, hn, hr, h1, hl, hd, hf, e1, hz, hP⟩ := h
  have hpu : (fOutP y2.s y.now y2.L)[k]? = some p.hp.pu := by
    rw [← hP, List.getElem?_map, hp]
    rfl
  obtain ⟨hm, ak2, ck2, hf2, -, hck⟩ := Hf.step hz.sm.2 hl hd hf hpu
  obtain ⟨hg, _⟩ := hl.told (p := p.hp) (List.mem_of_getElem? hpu)
  obtain ⟨a3, c3, q, _, _, e0⟩ := hz.hear0 hm hg eK hy
  have hs : y'.S0 = y.S0 ∧ y'.S1 = y.S1 ∧ y'.now = y.now ∧ y'.e1 = y.e1 := by rw [hy]; exact ⟨rfl, rfl, rfl, rfl⟩
  have hx' : Fx y' := by
    rw [hy]
    exact ⟨hx.S, by show (hearP _ _ _ _).1.again ≤ 6; rw [again_hear]; exact hx.ag.1, hx.ag.2⟩
  have hfl := hf2.fl
  have hql := q.fl.swap
  rw [hs.1, hs.2.1, hs.2.2.1, hs.2.2.2, e0, e1] at hql
  obtain ⟨_, rfl, rfl, _⟩ := hql.uniq hfl
  refine ⟨hx', x0, y0, y2, now0, a, c, a', c', c2, a2, _, _, ?_, ?_, ?_, ?_, ?_, ?_, ?_, q, ?_⟩
  · rw [hs.2.2.1]; exact hn
  · rw [hs.1, hs.2.1]; exact hr
  · rw [hs.1, hs.2.1, hs.2.2.1]; exact h1
  · rw [hs.1, hs.2.1, hs.2.2.1]; exact hl
  · rw [hs.2.2.1]; exact hd
  · rw [hs.1, hs.2.1, hs.2.2.1, e0]; exact hf2
  · rw [hs.2.2.1, hs.2.2.2]; exact e1
  · rw [hs.2.2.1]; exact hP
theorem Hs1.done {F : Nat} {y : Fc} {P : List Pk} {i : Nat} (h : Hs1 F y P i P.length) : Fr F y (i + 1) := by
  obtain ⟨hx, x0, y0, y2, now0, a, c, a', c', c2, a2, ck, ak, hn, hr, h1, hl, hd, hf, e1, hz, hP⟩ := h
  have hlen : P.length = (fOutP y2.s y.now y2.L).length := by rw [← hP, List.length_map]
  rw [hlen] at hf
  have h2 := Hf.done hd hf
  have r := Rd.step hr h1 h2
  rw [← e1] at r
  exact ⟨hx, _, _, _, _, hz, r⟩
theorem Hs0.to {F : Nat} {y : Fc} {P : List Pk} {i k : Nat} (h : Hs0 F y P i k) {p : Pk} (hp : P[k]? = some p) : p.tn = 2 := by
  obtain ⟨hx, x0, y0, now0, a, c, a', c', ck, ak, hn, hr, hl, hd, hf, e0, hz, ht, hP⟩ := h
  have hpu : (fOutP x0.s y.now x0.L)[k]? = some p.hp.pu := by
    rw [← hP, List.getElem?_map, hp]
    rfl
  obtain ⟨hm, _⟩ := Hf.step hz.sm.1 hl hd hf hpu
  exact (mine_to hm).trans hz.n1
theorem Hs1.to {F : Nat} {y : Fc} {P : List Pk} {i k : Nat} (h : Hs1 F y P i k) {p : Pk} (hp : P[k]? = some p) : ¬ p.tn = 2 := by
  obtain ⟨hx, x0, y0, y2, now0, a, c, a', c', c2, a2, ck, ak, hn, hr, h1, hl, hd, hf, e1, hz, hP⟩ := h
  have hpu : (fOutP y2.s y.now y2.L)[k]? = some p.hp.pu := by
    rw [← hP, List.getElem?_map, hp]
    rfl
  obtain ⟨hm, _⟩ := Hf.step hz.sm.2 hl hd hf hpu
  exact fun e => hz.n0 ((mine_to hm).symm.trans e)
theorem Hs0.few {base : Nat} {W : World} {x : Fa} {kc F : Nat} {y : Fc} {P : List Pk} {i k : Nat} (h : Hs0 F y P i k) (hf : Fm base W x y kc) : y.K1.length ≤ 1000 ∧ y.C1.length ≤ 50000 := by
  obtain ⟨hx, x0, y0, now0, a, c, a', c', ck, ak, hn, hr, hl, hd, hf', e0, hz, ht, hP⟩ := h
  have := hf.few hz
  have := hx.S
  omega
theorem Hs1.few {base : Nat} {W : World} {x : Fa} {kc F : Nat} {y : Fc} {P : List Pk} {i k : Nat} (h : Hs1 F y P i k) (hf : Fm base W x y kc) : y.K0.length ≤ 1000 ∧ y.C0.length ≤ 50000 := by
  obtain ⟨hx, x0, y0, y2, now0, a, c, a', c', c2, a2, ck, ak, hn, hr, h1, hl, hd, hf', e1, hz, hP⟩ := h
  have := hf.few hz
  have := hx.S
  omega
/-- between the two tellings of a round. -/
def StJ (F i j : Nat) (y : Fc) : Prop := (j = 0 ∧ T0 F y i) ∨ (j = 1 ∧ T1 F y i) ∨ (j = 2 ∧ Fr F y (i + 1))
theorem StJ.s0 {F i : Nat} {y : Fc} (h : StJ F i 0 y) : T0 F y i := by
  rcases h with h | h | h
  · exact h.2
  · exact absurd h.1 (by decide)
  · exact absurd h.1 (by decide)
theorem StJ.s1 {F i : Nat} {y : Fc} (h : StJ F i 1 y) : T1 F y i := by
  rcases h with h | h | h
  · exact absurd h.1 (by decide)
  · exact h.2
  · exact absurd h.1 (by decide)
theorem StJ.s2 {F i : Nat} {y : Fc} (h : StJ F i 2 y) : Fr F y (i + 1) := by
  rcases h with h | h | h
  · exact absurd h.1 (by decide)
  · exact absurd h.1 (by decide)
  · exact h.2
theorem Fr.all {F : Nat} {y : Fc} {i : Nat} (h : Fr F y i) (hi : 5 ≤ i) : y.C1 = y.S0 ∧ y.C0 = y.S1 ∧ y.L0 = [] ∧ y.L1 = [] := by
  obtain ⟨hx, a, c, a', c', hz, hr⟩ := h
  obtain ⟨e1, e2, e3, e4⟩ := hr.done hi
  refine ⟨by rw [hz.c1, e1, List.take_length], by rw [hz.c0, e2, List.take_length], ?_, ?_⟩
  · have h : y.L0.map Ls.p = [] := e3
    exact List.map_eq_nil_iff.1 h
  · have h : y.L1.map Ls.p = [] := e4
    exact List.map_eq_nil_iff.1 h

end Go.Proofs.Ytnagbiicpecamaa
