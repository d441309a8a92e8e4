/-
  The wheel's Due: by an exact answer. Condition: the wheel lies in memory, it has at most 100,000 timers.
-/
import Derived.Test.YtfekkfphogjpeaaYse
import Derived.Test.YtfekkfphogjpeaaYin
namespace Go.Proofs.Ytfekkfphogjpeaa
set_option linter.unusedSimpArgs false
set_option linter.unusedVariables false
open Go.RowKit Go.Maps Go.Sort

theorem wpList_appK {w : World} {ops : Array Oper} {rest : List Oper} {o : Oper} {a : Act} {Q : Exit → Act → World → Prop} (hgd : o.guard = none) (d : Tmp) (hd : o.dst = some d) (s xo : Operand)
    (ho : o.op = .call { callee := .builtin .append, args := #[s, xo], argTypes := #[59, 59] })
    (base : Nat) (v : Value) (n : Nat) (xs : List Value) (hs : a.eval s = v) (hown : w.ownsRow base 50 13 v n xs)
    (g : Nat) (cs : Array Value) (c : Nat) (hz : cs.size = 13) (h1 : ∀ u ∈ cs.toList, u.oneCell' = true) (hx : a.eval xo = .slice (some ⟨g, 0, none⟩) 1 c) (hr : w.heap[g]? = some (.cells cs 50 (0, 0)))
    (hlen : n ≤ 100000) (hbase : base ≤ w.heap.size)
    (h : ∀ v' w', w'.ownsRow base 50 13 v' (n + 1) (xs ++ cs.toList) → w.grownBy w' v.ownBlock → wpList Try.prog ops Q rest (a.put (some d) v') w') : wpList Try.prog ops Q (o :: rest) a w := by
  rw [← hd] at h
  obtain ⟨i0, hi0, hz0, hz1, hz2⟩ := info_parts keyI
  refine wpList_append_own w hgd s xo 59 ho base 50 i0 _ 13 24 Try.underlying59 hi0 hz0 hz1 hz2 rfl (by decide) v n xs hs hown ⟨g, 0, none⟩ 1 c cs.toList hx (by simp [hz]) (fun j u hu => ?_) h1
    (by unfold maxLen; omega) (by omega) hbase fun v' w' h2 h3 _ => h v' w' h2 h3
  rw [addr_add, Nat.zero_add, cell_of_row _ _ j _ _ _ hr]
  simpa using hu
theorem wpList_appI {w : World} {ops : Array Oper} {rest : List Oper} {o : Oper} {a : Act} {Q : Exit → Act → World → Prop} (hgd : o.guard = none) (d : Tmp) (hd : o.dst = some d) (s xo : Operand)
    (ho : o.op = .call { callee := .builtin .append, args := #[s, xo], argTypes := #[69, 69] })
    (base : Nat) (v : Value) (n : Nat) (xs : List Value) (hs : a.eval s = v) (hown : w.ownsRow base 3 1 v n xs)
    (g : Nat) (cs : Array Value) (c : Nat) (hz : cs.size = 1) (h1 : ∀ u ∈ cs.toList, u.oneCell' = true) (hx : a.eval xo = .slice (some ⟨g, 0, none⟩) 1 c) (hr : w.heap[g]? = some (.cells cs 3 (0, 0)))
    (hlen : n ≤ 100000) (hbase : base ≤ w.heap.size)
    (h : ∀ v' w', w'.ownsRow base 3 1 v' (n + 1) (xs ++ cs.toList) → w.grownBy w' v.ownBlock → wpList Try.prog ops Q rest (a.put (some d) v') w') : wpList Try.prog ops Q (o :: rest) a w := by
  rw [← hd] at h
  obtain ⟨i0, hi0, hz0, hz1, hz2⟩ := info_parts intI
  refine wpList_append_own w hgd s xo 69 ho base 3 i0 _ 1 8 Try.underlying69 hi0 hz0 hz1 hz2 rfl (by decide) v n xs hs hown ⟨g, 0, none⟩ 1 c cs.toList hx (by simp [hz]) (fun j u hu => ?_) h1
    (by unfold maxLen; omega) (by omega) hbase fun v' w' h2 h3 _ => h v' w' h2 h3
  rw [addr_add, Nat.zero_add, cell_of_row _ _ j _ _ _ hr]
  simpa using hu
/-- what is due; what is not. -/
def due (now : Int) (T : List Tm) : List Tm := T.filter fun t => decide (t.at_ ≤ now)
def late (now : Int) (T : List Tm) : List Tm := T.filter fun t => decide (now < t.at_)
def ints (L : List Tm) : List Value := L.map fun t => .int .i64 t.at_
theorem due_snoc_yes {now : Int} {T : List Tm} {t : Tm} (h : t.at_ ≤ now) : due now (T ++ [t]) = due now T ++ [t] := by simp [due, h]
theorem due_snoc_no {now : Int} {T : List Tm} {t : Tm} (h : ¬ t.at_ ≤ now) : due now (T ++ [t]) = due now T := by simp [due, h]
/-- without those of a list. -/
def outs (T L : List Tm) : List Tm := L.foldl (fun T t => outK T t.k) T
theorem outs_snoc (T L : List Tm) (t : Tm) : outs T (L ++ [t]) = outK (outs T L) t.k := by simp [outs, List.foldl_append]
theorem outs_eq : ∀ (L T : List Tm), outs T L = T.filter fun y => decide (∀ u ∈ L, y.k ≠ u.k)
  | [], T => by
    have : ∀ T : List Tm, T = T.filter fun _ => true := fun T => (List.filter_eq_self.2 (by simp)).symm
    simpa [outs] using this T
  | t :: L, T => by
    show outs (outK T t.k) L = _
    rw [outs_eq L, outK, List.filter_filter]
    apply List.filter_congr
    intro y _
    simp [Bool.and_comm]
theorem outs_due {now : Int} {T L : List Tm} (ha : T.Pairwise fun x y => x.k ≠ y.k) (hL : L.Perm (due now T)) : outs T L = late now T := by
  rw [outs_eq]
  apply List.filter_congr
  intro y hy
  rw [decide_eq_decide]
  constructor
  · intro h
    rcases Int.lt_or_le now y.at_ with h1 | h1
    · exact h1
    · exact absurd rfl (h y (hL.mem_iff.2 (List.mem_filter.2 ⟨hy, by simpa using h1⟩)))
  · intro h u hu e
    have hu' := List.mem_filter.1 (hL.mem_iff.1 hu)
    have := pw_key ha hy hu'.1 e
    subst this
    have h2 := hu'.2
    simp at h2
    omega
theorem nodup_of_apart {T : List Tm} (h : T.Pairwise fun x y => x.k ≠ y.k) : T.Nodup := h.imp fun hne e => hne (by rw [e])
theorem own_form {W : World} {base : Nat} {e : TypeId} {z : Nat} {v : Value} {n : Nat} {xs : List Value} (h : W.ownsRow base e z v n xs) : ∃ A c, v = .slice A n c ∧ n ≤ c ∧ c ≤ maxLen ∧ (0 < n → ∃ g, A = some ⟨g, 0, none⟩ ∧ base ≤ g ∧ g < W.heap.size) ∧ (n = 0 → A = none → c = 0) := by
  rcases h.2 with ⟨rfl, rfl⟩ | ⟨g, cap, cur, rfl, hb, hg, h1, h2, _⟩
  · exact ⟨none, 0, rfl, Nat.le_refl _, by unfold maxLen; omega, fun h => absurd h (by omega), fun _ _ => rfl⟩
  · exact ⟨_, cap, rfl, h1, h2, fun _ => ⟨g, rfl, hb, (Array.getElem?_eq_some_iff.1 hg).1⟩, fun _ e => by cases e⟩
/-- rows of unlike kinds lie apart. -/
theorem own_apart {W : World} {b1 b2 : Nat} {e1 e2 : TypeId} {z1 z2 : Nat} {v1 v2 : Value} {n1 n2 : Nat} {x1 x2 : List Value} (h1 : W.ownsRow b1 e1 z1 v1 n1 x1) (h2 : W.ownsRow b2 e2 z2 v2 n2 x2) (hne : e1 ≠ e2) : v1.ownBlock = none ∨ v1.ownBlock ≠ v2.ownBlock := by
  rcases h1.2 with ⟨rfl, _⟩ | ⟨g, cap, cur, rfl, _, hg, _⟩
  · exact .inl rfl
  · rcases h2.2 with ⟨rfl, _⟩ | ⟨g', cap', cur', rfl, _, hg', _⟩
    · exact .inr (by simp [Value.ownBlock])
    · refine .inr fun e => ?_
      simp [Value.ownBlock] at e
      subst e
      rw [hg] at hg'
      simp at hg'
      exact hne hg'.2
theorem own_grown {W W' : World} {base : Nat} {e : TypeId} {z : Nat} {v : Value} {n : Nat} {xs : List Value} {r : Option Nat} (h : W.ownsRow base e z v n xs) (hg : W.grownBy W' r) (hr : ∀ k, r = some k → k < base) : W'.ownsRow base e z v n xs := by
  refine h.kept hg ?_
  rcases h.2 with ⟨rfl, _⟩ | ⟨g, cap, cur, rfl, hb, _⟩
  · exact .inl rfl
  · refine .inr fun e => ?_
    have := hr g e.symm
    omega

/-- what has come of the map so far. -/
structure DueJ (W : World) (m nn : Nat) (D : DataW Unit) (T : List Tm) (now : Int) (left : Lit → Bool) (cnt : Nat) (vK vT : Value) (C : List Tm) (wr : World) : Prop where
  rg : wr.ranges Try.prog 50 atElem m W.heap.size nn D left cnt
  nd : C.Nodup
  mem : ∀ t, t ∈ C ↔ t ∈ T ∧ left t.k.lit = false
  rk : wr.ownsRow (W.heap.size + 1) 50 13 vK (due now C).length (cellsK ((due now C).map (·.k)))
  rt : wr.ownsRow (W.heap.size + 1) 3 1 vT (due now C).length (ints (due now C))
  b : Below W.heap.size W wr
  nk : due now C = [] → vK = .slice none 0 0 ∧ vT = .slice none 0 0
theorem dueJ_mem {T C : List Tm} {left : Lit → Bool} (hr : ∀ x ∈ T, x.k.Rng) (ha : T.Pairwise fun x y => x.k ≠ y.k) (hm : ∀ t, t ∈ C ↔ t ∈ T ∧ left t.k.lit = false) {x : Tm} (hx : x ∈ T) (hl : left x.k.lit = true) :
    x ∉ C ∧ ∀ t, t ∈ C ++ [x] ↔ t ∈ T ∧ (left t.k.lit && !t.k.lit.sameKey x.k.lit) = false := by
  have hnew : x ∉ C := fun h => by have := ((hm x).1 h).2; rw [hl] at this; cases this
  refine ⟨hnew, fun t => ?_⟩
  by_cases ht : t = x
  · subst ht
    simp [hx, Lit.sameKey, K13.lit]
  · by_cases hT : t ∈ T
    · have hne : ¬ t.k.lit = x.k.lit := fun e => ht (pw_key ha hT hx (lit_inj (hr t hT) (hr x hx) e))
      have hs : t.k.lit.sameKey x.k.lit = false := sameKey_ne hne
      simp [hm t, ht, hT, hs]
    · have : t ∉ C := fun h => hT ((hm t).1 h).1
      simp [this, ht, hT]
theorem sizeT {W : World} {m nn : Nat} {D : DataW Unit} {T C : List Tm} {left : Lit → Bool} {now : Int} {vK vT : Value} {wr : World} {cnt : Nat} (ha : T.Pairwise fun x y => x.k ≠ y.k) (h : DueJ W m nn D T now left cnt vK vT C wr) : (due now C).length ≤ T.length := by
  refine Nat.le_trans (List.length_filter_le _ _) ?_
  have hp : C.Perm (T.filter fun t => decide (t ∈ C)) := (List.perm_ext_iff_of_nodup h.nd (List.Pairwise.filter _ (nodup_of_apart ha))).2 fun t => by
    simp only [List.mem_filter, decide_eq_true_eq]
    exact ⟨fun k => ⟨((h.mem t).1 k).1, k⟩, fun k => k.2⟩
  rw [hp.length_eq]
  exact List.length_filter_le _ _

/-- while what is due is taken out. -/
structure DelJ (W : World) (b m c most : Nat) (T L : List Tm) (A At : Option Addr) (cA cT : Nat) (q : Nat) (wx : World) : Prop where
  pw : PW wx b m c most (outs T (L.take q))
  rk : wx.ownsRow (W.heap.size + 1) 50 13 (.slice A L.length cA) L.length (cellsK (L.map (·.k)))
  rt : wx.ownsRow (W.heap.size + 1) 3 1 (.slice At L.length cT) L.length (ints L)
  g : W.grownBy wx (some m)
theorem rowK_at {W : World} {base n g c : Nat} {L : List Tm} (h : W.ownsRow base 50 13 (.slice (some ⟨g, 0, none⟩) n c) n (cellsK (L.map (·.k)))) {i : Nat} {t : Tm} (hi : L[i]? = some t) : KAt W g (i * 13) t.k := fun j v hv => by
  have hj : j < 13 := by
    have := (Array.getElem?_eq_some_iff.1 hv).1
    simpa [K13.cs] using this
  exact own_cell h _ _ ((cellsK_at (L.map (·.k)) i t.k (by simp [hi]) j hj).trans hv)
theorem rowI_at {W : World} {base n g c : Nat} {L : List Tm} (h : W.ownsRow base 3 1 (.slice (some ⟨g, 0, none⟩) n c) n (ints L)) {i : Nat} {t : Tm} (hi : L[i]? = some t) : W.cell? ⟨g, i, none⟩ = some (.int .i64 t.at_) := own_cell h _ _ (by simp [ints, hi])

set_option maxRecDepth 100000 in
set_option maxHeartbeats 4000000 in
theorem dueW (W : World) (b m c most : Nat) (T : List Tm) (now : Int) (h : PW W b m c most T) (hs : T.length < 100000) :
    Calls Try.prog 19 #[.pointer (some ⟨b, 0, none⟩), .int .i64 now] W fun e W' => ∃ (v : Value) (S : List Tm), e = .returned v ∧ S.Perm (due now T) ∧ (S.Pairwise fun a b => a.cmp b ≤ 0) ∧ W'.ownsRow W.heap.size 50 13 v S.length (cellsK (S.map (·.k))) ∧ PW W' b m c most (late now T) ∧ W.grownBy W' (some m) := by
  have hml := Lib.hid h.ml
  have hbl := Lib.hid h.bl
  have hbm := Lib.hid h.ne
  have HA := Lib.hid h.apart
  have HR := Lib.hid h.rng
  have HS := Lib.hid hs
  have HM := Lib.hid h.most
  have HW := Lib.hid h.whl
  have c1 := cell_of h.whl 1 (.map (some m)) rfl
  obtain ⟨nn, D, hk, O, K⟩ := h.map
  have HK := Lib.hid hk
  have OO := Lib.hid O
  have KK := Lib.hid K
  clear h hs hk O K
  go_enter Try.func19, Try.ntmps19
  go_wp2_with (at_range; refine wpList_range_own _ rfl _ 72 rfl 50 3 kKeyed mapU atElem m nn D rfl OO.out ?_; intro w0 hrg0 hg0 hs0)
  go_frame
  have J0 : Hid (DueJ W m nn D T now (Maps.has D) (Maps.size D) (.slice none 0 0) (.slice none 0 0) [] w0) := Lib.hid ⟨hrg0, List.nodup_nil, fun t => ⟨fun e => (by cases e), fun ⟨h1, h2⟩ => (by rw [KK.out.has_ t h1] at h2; cases h2)⟩, World.ownsRow_nil _ _ _ _, World.ownsRow_nil _ _ _ _, below_grown (Below.refl _ _) hg0 (fun g h => by cases h), fun _ => ⟨rfl, rfl⟩⟩
  clear hrg0 hg0 hs0
  go_loopw [5, 6] (fun vK vT wr => ∃ (left : Lit → Bool) (cnt : Nat) (C : List Tm), Hid (DueJ W m nn D T now left cnt vK vT C wr)) (fun _ _ wr => wr.rangeLeft m W.heap.size)
  case atStart => exact ⟨_, _, [], J0⟩
  case round =>
    obtain ⟨left, cnt, C, J⟩ := hrel
    obtain ⟨vK, hvK⟩ : ∃ v, u5 = v := ⟨_, rfl⟩
    obtain ⟨vT, hvT⟩ : ∃ v, u6 = v := ⟨_, rfl⟩
    subst hvK hvT
    have hrg := J.out.rg
    go_wp2_with (at_next; refine wpList_next_ranges (α := Value) _ rfl _ rfl 50 kKeyed atElem id (Value.int .i64) (fun key kl hk => ⟨key, rfl⟩) (fun v y hv => by obtain ⟨n, rfl, _⟩ := atElem_inv hv; exact ⟨n, rfl⟩) m W.heap.size nn D _ _ rfl hrg ?_ ?_)
    · intro hc0 hl0
      have hp : C.Perm T := (List.perm_ext_iff_of_nodup J.out.nd (nodup_of_apart HA.out)).2 fun t => by rw [J.out.mem t]; simp [hl0]
      have hpL := hp.filter fun t => decide (t.at_ ≤ now)
      change (due now C).Perm (due now T) at hpL
      have rk := J.out.rk
      have rt := J.out.rt
      have nk := J.out.nk
      have hsC : (due now C).length ≤ 100000 := by have := sizeT HA.out J.out; have := HS.out; omega
      have P0 : PW wr b m c most T := ⟨(J.out.b.block b hbl.out).trans HW.out, ⟨nn, D, HK.out, J.out.rg.owns, KK.out⟩, HM.out⟩
      have G0 : W.grownBy wr (some m) := grown_of_below J.out.b (some m)
      generalize due now C = L at hpL rk rt nk hsC
      obtain ⟨A, cA, hA, a1, a2, a3, a4⟩ := own_form rk
      obtain ⟨At, cT, hAt, t1, t2, t3, t4⟩ := own_form rt
      subst hA hAt
      have D0 : Hid (DelJ W b m c most T L A At cA cT 0 wr) := Lib.hid ⟨P0, rk, rt, G0⟩
      have HPL := Lib.hid hpL
      have NK := Lib.hid nk
      have HSC := Lib.hid hsC
      have A1 := Lib.hid (⟨a1, a2, fun h => (let ⟨g, e, h1, _⟩ := a3 h; ⟨g, e, h1⟩), t1, t2, fun h => (let ⟨g, e, h1, _⟩ := t3 h; ⟨g, e, h1⟩)⟩ : L.length ≤ cA ∧ cA ≤ maxLen ∧ (0 < L.length → ∃ g, A = some ⟨g, 0, none⟩ ∧ W.heap.size + 1 ≤ g) ∧ L.length ≤ cT ∧ cT ≤ maxLen ∧ (0 < L.length → ∃ g, At = some ⟨g, 0, none⟩ ∧ W.heap.size + 1 ≤ g))
      obtain ⟨n, hn⟩ : ∃ n, L.length = n := ⟨_, rfl⟩
      have HN := Lib.hid hn
      rw [hn]
      clear hp hpL rk rt nk hsC P0 G0 a1 a2 a3 a4 t1 t2 t3 t4 hn J hc0 hl0 hrg J0
      go_wp2
      go_loopw [36] (fun z wx => ∃ q : Nat, z = .int .i64 q ∧ q ≤ n ∧ Hid (DelJ W b m c most T L A At cA cT q wx)) (fun z _ => n - (intOf z).toNat)
      case atStart => exact ⟨0, rfl, Nat.zero_le _, D0⟩
      case round =>
        obtain ⟨q, rfl, hq, DJ⟩ := hrel
        by_cases hlt : q < n
        · have hkb : q < 100000 := by have := HSC.out; have := HN.out; omega
          have h1 : (q : Int) < (n : Int) := by omega
          have hql : q < L.length := by have := HN.out; omega
          obtain ⟨g, hg, hg0⟩ := A1.out.2.2.1 (by omega)
          subst hg
          have hx : L[q]? = some L[q] := List.getElem?_eq_getElem hql
          have KK2 := rowK_at DJ.out.rk hx
          have hsn : outs T (L.take (q + 1)) = outK (outs T (L.take q)) L[q].k := by
            have e1 : L.take (q + 1) = L.take q ++ [L[q]] := by rw [List.take_add_one, hx]; rfl
            rw [e1, outs_snoc]
          have rx : L[q].k.Rng := HR.out _ (List.mem_filter.1 (HPL.out.mem_iff.1 (List.getElem_mem hql))).1
          obtain ⟨x, hxk⟩ : ∃ x, L[q].k = x := ⟨_, rfl⟩
          rw [hxk] at KK2 hsn rx
          clear hx hxk
          have c0 : wr.cell? ⟨g, q * 13, none⟩ = some (.int .u8 x.k) := KK2 0 _ rfl
          have c1 : wr.cell? ⟨g, q * 13 + 1, none⟩ = some (.int .u8 x.pn) := KK2 1 _ rfl
          have c2 : wr.cell? ⟨g, q * 13 + 2, none⟩ = some (.int .u16 x.pl) := KK2 2 _ rfl
          have c3 : wr.cell? ⟨g, q * 13 + 3, none⟩ = some (.int .u8 x.x.n) := KK2 3 _ rfl
          have c4 : wr.cell? ⟨g, q * 13 + 4, none⟩ = some (.int .u16 x.x.l) := KK2 4 _ rfl
          have c5 : wr.cell? ⟨g, q * 13 + 5, none⟩ = some (.int .u32 x.x.s) := KK2 5 _ rfl
          have c6 : wr.cell? ⟨g, q * 13 + 6, none⟩ = some (.int .u8 x.x.d) := KK2 6 _ rfl
          have c7 : wr.cell? ⟨g, q * 13 + 7, none⟩ = some (.int .u8 x.x.a0) := KK2 7 _ rfl
          have c8 : wr.cell? ⟨g, q * 13 + 8, none⟩ = some (.int .u8 x.x.a1) := KK2 8 _ rfl
          have c9 : wr.cell? ⟨g, q * 13 + 9, none⟩ = some (.int .u8 x.x.b0) := KK2 9 _ rfl
          have c10 : wr.cell? ⟨g, q * 13 + 10, none⟩ = some (.int .u8 x.x.b1) := KK2 10 _ rfl
          have c11 : wr.cell? ⟨g, q * 13 + 11, none⟩ = some (.int .u8 x.x.c0) := KK2 11 _ rfl
          have c12 : wr.cell? ⟨g, q * 13 + 12, none⟩ = some (.int .u8 x.x.c1) := KK2 12 _ rfl
          clear KK2
          obtain ⟨w1, hw1⟩ : ∃ w1, wr.alloc (.cells x.cs 50) = w1 := ⟨_, rfl⟩
          have bb1 : Below wr.heap.size wr w1 := by rw [← hw1]; exact (Below.refl _ _).alloc (Nat.le_refl _) _
          have r1 : w1.heap[wr.heap.size]? = some (.cells x.cs 50 (0, 0)) := by rw [← hw1]; exact heap_alloc_new _ _
          obtain ⟨w2, hw2⟩ : ∃ w2, w1.drew = w2 := ⟨_, rfl⟩
          have bb2 : Below wr.heap.size wr w2 := by rw [← hw2]; exact bb1.drew
          have r2 : w2.heap[wr.heap.size]? = some (.cells x.cs 50 (0, 0)) := by rw [← hw2]; exact r1
          have P2 := DJ.out.pw.below bb2
          obtain ⟨n2, D2, hk2, O2, KM2⟩ := P2.map
          obtain ⟨w3, hrun, O3, hturn⟩ := O2.drop kKeyed mapU (keyCs rx) 0
          have KM3 := KM2.del (O2.tidy kKeyed) rx
          rw [← hsn] at KM3
          have gg : wr.grownBy w3 (some m) := grown_trans bb2 hturn.grown
          have mlt : ∀ k, some m = some k → k < W.heap.size + 1 := fun k e => by cases e; have := hml.out; omega
          have NEW := Lib.hid (show DelJ W b m c most T L (some ⟨g, 0, none⟩) At cA cT (q + 1) w3 from ⟨⟨(hturn.grown.block b P2.bl (by have := hbm.out; simpa using this)).trans P2.whl, ⟨n2, _, hk2, O3, KM3⟩, P2.most⟩, own_grown DJ.out.rk gg mlt, own_grown DJ.out.rt gg mlt, DJ.out.g.trans gg⟩)
          have HHH := Lib.hid (⟨P2.whl, r2⟩ : w2.heap[b]? = some (.cells #[.int .i64 most, .map (some m)] 74 (0, 0)) ∧ w2.heap[wr.heap.size]? = some (.cells x.cs 50 (0, 0)))
          have HW1 := Lib.hid hw1
          have HW2 := Lib.hid hw2
          have HRUN := Lib.hid hrun
          have HZ := Lib.hid (show (Try.prog.info? 50).map (·.size) = some x.cs.size by kernel_rfl)
          unfold K13.cs at HW1 HHH HRUN HZ
          clear bb1 r1 bb2 r2 P2 O2 KM2 O3 KM3 hturn hrun gg hsn rx hw1 hw2 mlt
          go_wp2_with (rw [HW1.out])
          refine region_heldT (S := fun X => X = w2) 5 (by kernel_rfl) (by decide) (fun inv => ?_)
          change FirstH _ _ _ _ _ _ _ _ _ _ w1.drew
          rw [HW2.out]
          have HS : w2 = w2 := rfl
          refine FirstH.go (i := 0) (v := .pointer (some ⟨b, 0, none⟩)) rfl rfl _ rfl _ rfl (by kernel_rfl) (fun _ _ _ h => h) inv (fun X _ => by unfold bareO; go_simp) HS (fun inv => ?_)
          try simp only [Act.put, List.setIfInBounds_toArray, List.set_cons_zero, List.set_cons_succ]
          refine FirstH.go (i := 1) (v := .pointer (some ⟨b, 0, none⟩)) rfl rfl _ rfl _ rfl (by kernel_rfl) (fun _ _ _ h => h) inv (fun X _ => by unfold bareO; go_simp) HS (fun inv => ?_)
          try simp only [Act.put, List.setIfInBounds_toArray, List.set_cons_zero, List.set_cons_succ]
          refine FirstH.go (i := 2) (v := .pointer (some ⟨b, 1, none⟩)) rfl rfl _ rfl _ rfl (by kernel_rfl) (fun _ _ _ h => h) inv (fun X _ => by unfold bareO; go_simp) HS (fun inv => ?_)
          try simp only [Act.put, List.setIfInBounds_toArray, List.set_cons_zero, List.set_cons_succ]
          refine FirstH.go (i := 3) (v := .map (some m)) rfl rfl _ rfl _ rfl (by kernel_rfl) (fun _ _ _ h => h) inv (fun X hS => by subst hS; have c1 := cell_of HHH.out.1 1 (.map (some m)) rfl; unfold bareO; go_simp) HS (fun inv => ?_)
          try simp only [Act.put, List.setIfInBounds_toArray, List.set_cons_zero, List.set_cons_succ]
          refine FirstH.go (i := 4) (v := .agg #[.int .u8 x.k, .int .u8 x.pn, .int .u16 x.pl, .int .u8 x.x.n, .int .u16 x.x.l, .int .u32 x.x.s, .int .u8 x.x.d, .int .u8 x.x.a0, .int .u8 x.x.a1, .int .u8 x.x.b0, .int .u8 x.x.b1, .int .u8 x.x.c0, .int .u8 x.x.c1]) rfl rfl _ rfl _ rfl (by kernel_rfl) (fun _ _ _ h => h) inv (fun X hS => by subst hS; exact run_load_row 50 _ _ wr.heap.size rfl _ _ _ _ HHH.out.2 Try.underlying50 rfl HZ.out) HS (fun inv => ?_)
          try simp only [Act.put, List.setIfInBounds_toArray, List.set_cons_zero, List.set_cons_succ]
          clear HS
          refine ⟨by kernel_rfl, ?_⟩
          simp only [List.drop_succ_cons, List.drop_zero]
          have hr := HRUN.out
          go_wp2
          go_roundw
          case rel => exact ⟨q + 1, by go_num, by omega, NEW⟩
          case measure => simp [intOf]; omega
        · obtain rfl : q = n := by omega
          have et : L.take q = L := List.take_of_length_le (by have := HN.out; omega)
          have eo := outs_due HA.out HPL.out
          have PF : PW wr b m c most (late now T) := by
            have := DJ.out.pw
            rwa [et, eo] at this
          have hlen := HN.out
          by_cases hL : L = []
          · have e0 : q = 0 := by rw [← hlen, hL]; rfl
            obtain ⟨e1, e2⟩ := NK.out hL
            rw [hlen] at e1 e2
            subst e0
            injection e1 with ea eb ec
            injection e2 with ea' eb' ec'
            subst ea ec ea' ec'
            have IN := Lib.hid (inOrder_nil wr)
            have PFH := Lib.hid PF
            clear PF
            go_wp2_with fail
            refine IN.out.mono ?_
            rintro e W7 ⟨v, rfl, hO7, b7⟩
            have O7 := Lib.hid hO7
            have B7 := Lib.hid b7
            clear hO7 b7
            go_wp2
            go_ret
            refine ⟨v, [], rfl, ?_, List.Pairwise.nil, own_lower O7.out DJ.out.g.size, PFH.out.below B7.out, DJ.out.g.trans (grown_of_below B7.out _)⟩
            have := HPL.out
            rwa [hL] at this
          · have hpos : 0 < L.length := List.length_pos_iff.2 hL
            obtain ⟨kg, ekg, hk1⟩ := A1.out.2.2.1 hpos
            obtain ⟨tg, etg, ht1⟩ := A1.out.2.2.2.2.2 hpos
            subst ekg etg
            have rng : ∀ t ∈ L, t.k.Rng := fun t ht => HR.out t (List.mem_filter.1 (HPL.out.mem_iff.1 ht)).1
            have nd : L.Nodup := HPL.out.symm.nodup (List.Pairwise.filter _ (nodup_of_apart HA.out))
            have IN := inOrder_yes wr L hL rng nd HSC.out kg tg cA cT (DJ.out.rk.lt kg rfl).2 (DJ.out.rt.lt tg rfl).2 A1.out.1 A1.out.2.2.2.1 (fun i t hi => rowK_at DJ.out.rk hi) (fun i t hi => rowI_at DJ.out.rt hi)
            rw [hlen] at IN
            have INH := Lib.hid IN
            have PFH := Lib.hid PF
            clear PF IN rng nd hpos
            go_wp2_with fail
            refine INH.out.mono ?_
            rintro e W7 ⟨v, S, rfl, hP7, hA7, hO7, b7⟩
            have HP7 := Lib.hid (⟨hP7, hA7⟩ : S.Perm L ∧ S.Pairwise fun a b => a.cmp b ≤ 0)
            have O7 := Lib.hid hO7
            have B7 := Lib.hid b7
            clear hO7 b7 hP7 hA7
            go_wp2
            go_ret
            refine ⟨v, S, rfl, HP7.out.1.trans HPL.out, HP7.out.2, ?_, PFH.out.below B7.out, DJ.out.g.trans (grown_of_below B7.out _)⟩
            rw [HP7.out.1.length_eq, hlen]
            exact own_lower O7.out DJ.out.g.size
    · intro xv at_ kl yd yp w2 cnt2 hkey hlk hv hat hrg2 hlt hg2 hs2 hen
      obtain ⟨t, ht, rfl⟩ := KK.out.all kl (has_true_of_atKey hat)
      have hyd : yd = atDat t.at_ := (hat (atDat 0)).symm.trans (KK.out.at_ t ht _)
      obtain rfl : at_ = t.at_ := by
        have e : atDat at_ = yd := congrArg Prod.fst (Option.some.inj hv)
        exact atDat_inj (e.trans hyd)
      obtain rfl : xv = .agg t.k.cs := kKeyed.inj hkey (keyCs (HR.out t ht))
      have hmem := dueJ_mem HR.out HA.out J.out.mem ht hlk
      have HLT := Lib.hid hlt
      have NK := Lib.hid J.out.nk
      have hneW : ∀ k, u5.ownBlock = some k ∨ u6.ownBlock = some k → W.heap.size < k := fun k hk => by
        rcases hk with hk | hk
        · exact (J.out.rk.lt k hk).1
        · exact (J.out.rt.lt k hk).1
      have rk2 : w2.ownsRow (W.heap.size + 1) 50 13 u5 (due now C).length (cellsK ((due now C).map (·.k))) := own_grown J.out.rk hg2 (fun k e => by cases e; omega)
      have rt2 : w2.ownsRow (W.heap.size + 1) 3 1 u6 (due now C).length (ints (due now C)) := own_grown J.out.rt hg2 (fun k e => by cases e; omega)
      have b2 : Below W.heap.size W w2 := below_grown J.out.b hg2 (fun k e => by cases e; exact Nat.le_refl _)
      have hsC := Lib.hid (show (due now C).length ≤ 100000 by have := sizeT HA.out J.out; have := HS.out; omega)
      have nd2 := Lib.hid (show (C ++ [t]).Nodup from List.nodup_append.2 ⟨J.out.nd, by simp, fun a ha b hb => by simp at hb; subst hb; exact fun e => hmem.1 (e ▸ ha)⟩)
      have mem2 := Lib.hid hmem.2
      obtain ⟨x, hx⟩ : ∃ x, t.k = x := ⟨_, rfl⟩
      have hlm := J.out.rg.left_eq
      obtain ⟨w3, hw3⟩ : ∃ w3, w2.alloc (.cells x.cs 50) = w3 := ⟨_, rfl⟩
      have g3 : w2.grownBy w3 none := by rw [← hw3]; exact World.grownBy_alloc _ _ none
      have rk3 := own_grown rk2 g3 (fun k e => by cases e)
      have rt3 := own_grown rt2 g3 (fun k e => by cases e)
      have rg3 := hrg2.kept g3 (by simp) (by simp)
      have b3 := below_grown b2 g3 (fun k e => by cases e)
      have r3 : w3.heap[w2.heap.size]? = some (.cells x.cs 50 (0, 0)) := by rw [← hw3]; exact heap_alloc_new _ _
      have l3 : W.heap.size + 1 ≤ w3.heap.size := by have := rg3.lt; omega
      have ne1 : ∀ k, u5.ownBlock = some k ∨ u6.ownBlock = some k → k < w2.heap.size := fun k hk => by
        rcases hk with hk | hk
        · exact (rk2.lt k hk).2
        · exact (rt2.lt k hk).2
      by_cases hd : t.at_ ≤ now
      · have HCS := Lib.hid (show (due now (C ++ [t])) = due now C ++ [t] from due_snoc_yes hd)
        obtain ⟨w4, hw4⟩ : ∃ w4, w3.alloc (.cells x.cs 50) = w4 := ⟨_, rfl⟩
        have g4 : w3.grownBy w4 none := by rw [← hw4]; exact World.grownBy_alloc _ _ none
        have rk4 := Lib.hid (own_grown rk3 g4 (fun k e => by cases e))
        have rt4 := Lib.hid (own_grown rt3 g4 (fun k e => by cases e))
        have rg4 := Lib.hid (rg3.kept g4 (by simp) (by simp))
        have b4 := Lib.hid (below_grown b3 g4 (fun k e => by cases e))
        have r4 := Lib.hid (show w4.heap[w3.heap.size]? = some (.cells x.cs 50 (0, 0)) by rw [← hw4]; exact heap_alloc_new _ _)
        have l4 := Lib.hid (show W.heap.size + 1 ≤ w4.heap.size from Nat.le_trans l3 g4.size)
        have HX := Lib.hid hx
        have HW3 := Lib.hid hw3
        have HW4 := Lib.hid hw4
        have R3 := Lib.hid r3
        have HZ := Lib.hid (show (Try.prog.info? 50).map (·.size) = some x.cs.size by kernel_rfl)
        have HO := Lib.hid (show ∀ u ∈ x.cs.toList, u.oneCell' = true from fun u hu => cellsK_one [x] u (by simpa [cellsK] using hu))
        have HLM := Lib.hid hlm
        rw [hx] at hen
        have e3 : w2.alloc (.cells #[.int .u8 x.k, .int .u8 x.pn, .int .u16 x.pl, .int .u8 x.x.n, .int .u16 x.x.l, .int .u32 x.x.s, .int .u8 x.x.d, .int .u8 x.x.a0, .int .u8 x.x.a1, .int .u8 x.x.b0, .int .u8 x.x.b1, .int .u8 x.x.c0, .int .u8 x.x.c1] 50) = w3 := hw3
        have E3 := Lib.hid e3
        have hsz : Hid ((#[.int .u8 x.k, .int .u8 x.pn, .int .u16 x.pl, .int .u8 x.x.n, .int .u16 x.x.l, .int .u32 x.x.s, .int .u8 x.x.d, .int .u8 x.x.a0, .int .u8 x.x.a1, .int .u8 x.x.b0, .int .u8 x.x.b1, .int .u8 x.x.c0, .int .u8 x.x.c1] : Array Value).size = 13) := Lib.hid rfl
        unfold K13.cs at HZ HO R3 HW4 r4
        simp only [id_eq, K13.cs] at hen
        clear hrg hrg2 hs2 hat hkey hv hyd hg2 rk2 rt2 b2 hmem g3 rk3 rt3 rg3 b3 r3 l3 hw3 hw4 g4 hneW ne1 hlt hlm hx e3 J0
        go_wp2_with (first
          | (rw [E3.out])
          | (refine wpList_load_row rfl 50 (.tmp 7) rfl w2.heap.size (by rfl) 50 #[.int .u8 x.k, .int .u8 x.pn, .int .u16 x.pl, .int .u8 x.x.n, .int .u16 x.x.l, .int .u32 x.x.s, .int .u8 x.x.d, .int .u8 x.x.a0, .int .u8 x.x.a1, .int .u8 x.x.b0, .int .u8 x.x.b1, .int .u8 x.x.c0, .int .u8 x.x.c1] (0, 0) _ R3.out Try.underlying50 rfl HZ.out ?_)
          | (rw [HW4.out])
          | (refine wpList_appK rfl 29 rfl (.tmp 26) (.tmp 28) rfl (W.heap.size + 1) u5 _ _ rfl rk4.out w3.heap.size #[.int .u8 x.k, .int .u8 x.pn, .int .u16 x.pl, .int .u8 x.x.n, .int .u16 x.x.l, .int .u32 x.x.s, .int .u8 x.x.d, .int .u8 x.x.a0, .int .u8 x.x.a1, .int .u8 x.x.b0, .int .u8 x.x.b1, .int .u8 x.x.c0, .int .u8 x.x.c1] 1 hsz.out HO.out rfl r4.out hsC.out l4.out ?_
             intro v' w5 rk5 g5
             have RK5 := Lib.hid rk5
             have rt5 := rt4.out.kept g5 (own_apart rt4.out rk4.out (by decide))
             have ne5 : ∀ k, u5.ownBlock = some k → W.heap.size < k := fun k hk => (rk4.out.lt k hk).1
             have RT5 := Lib.hid rt5
             have RG5 := Lib.hid (rg4.out.kept g5 (fun e => by have := ne5 m e.symm; have := hml.out; omega) (fun e => by have := ne5 _ e.symm; omega))
             have B5 := Lib.hid (below_grown b4.out g5 (fun k e => by have := ne5 k e; omega))
             have L5 := Lib.hid (Nat.le_trans l4.out g5.size)
             clear rk5 g5 rt5 ne5)
          | (refine wpList_appI rfl 33 rfl (.tmp 30) (.tmp 32) rfl (W.heap.size + 1) u6 _ _ rfl (own_grown RT5.out (World.grownBy_alloc _ _ none) (fun k e => by cases e)) w5.heap.size #[.int .i64 t.at_] 1 rfl (by simp [Value.oneCell']) rfl (heap_alloc_new _ _) hsC.out (by have := L5.out; simp; omega) ?_
             intro v'' w7 rt7 g7
             have g6 : w5.grownBy (w5.alloc (.cells #[.int .i64 t.at_] 3)) none := World.grownBy_alloc _ _ none
             have ne7 : ∀ k, u6.ownBlock = some k → W.heap.size < k := fun k hk => (RT5.out.lt k hk).1
             have rk7 := Lib.hid ((own_grown RK5.out g6 (fun k e => by cases e)).kept g7 (own_apart (own_grown RK5.out g6 (fun k e => by cases e)) (own_grown RT5.out g6 (fun k e => by cases e)) (by decide)))
             have RG7 := Lib.hid ((RG5.out.kept g6 (by simp) (by simp)).kept g7 (fun e => by have := ne7 m e.symm; have := hml.out; omega) (fun e => by have := ne7 _ e.symm; omega))
             have B7 := Lib.hid (below_grown (below_grown B5.out g6 (fun k e => by cases e)) g7 (fun k e => by have := ne7 k e; omega))
             have RT7 := Lib.hid rt7
             clear rt7 g7 g6 ne7))
        go_roundw
        case rel =>
          refine ⟨_, _, C ++ [t], Lib.hid ⟨RG7.out, nd2.out, mem2.out, ?_, ?_, B7.out, fun e => by rw [HCS.out] at e; simp at e⟩⟩
          · rw [HCS.out, List.length_append, List.map_append, cellsK_append]
            have := rk7.out
            simpa [cellsK, K13.cs, HX.out] using this
          · rw [HCS.out, List.length_append]
            have := RT7.out
            unfold ints at this ⊢
            simpa using this
        case measure => rw [RG7.out.left_eq, HLM.out]; exact HLT.out
      · have HCS := Lib.hid (show (due now (C ++ [t])) = due now C from due_snoc_no hd)
        have RK3 := Lib.hid rk3
        have RT3 := Lib.hid rt3
        have RG3 := Lib.hid rg3
        have B3 := Lib.hid b3
        have HLM := Lib.hid hlm
        rw [hx] at hen
        have e3 : w2.alloc (.cells #[.int .u8 x.k, .int .u8 x.pn, .int .u16 x.pl, .int .u8 x.x.n, .int .u16 x.x.l, .int .u32 x.x.s, .int .u8 x.x.d, .int .u8 x.x.a0, .int .u8 x.x.a1, .int .u8 x.x.b0, .int .u8 x.x.b1, .int .u8 x.x.c0, .int .u8 x.x.c1] 50) = w3 := hw3
        have E3 := Lib.hid e3
        simp only [id_eq, K13.cs] at hen
        clear hrg hrg2 hs2 hat hkey hv hyd hg2 rk2 rt2 b2 hmem g3 rk3 rt3 rg3 b3 r3 l3 hw3 hneW ne1 hlt hlm hx e3 J0
        go_wp2_with (rw [E3.out])
        go_roundw
        case rel =>
          exact ⟨_, _, C ++ [t], Lib.hid ⟨RG3.out, nd2.out, mem2.out, by rw [HCS.out]; exact RK3.out, by rw [HCS.out]; exact RT3.out, B3.out, by rw [HCS.out]; exact NK.out⟩⟩
        case measure => rw [RG3.out.left_eq, HLM.out]; exact HLT.out

end Go.Proofs.Ytfekkfphogjpeaa
