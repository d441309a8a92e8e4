/-
  Both bags side by side: what each act does to lists of parcels, the program's calls and the document's by one form of contract. Condition: the bags lie in memory.
-/
import Derived.Test.YteaafpgkifmdeaaBds
import Derived.Test.YteaafpgkifmdeaaBap
namespace Go.Proofs.Yteaafpgkifmdeaa
set_option linter.unusedSimpArgs false
set_option linter.unusedVariables false
open Go.RowKit Go.Sort

def zPc : Pc := ⟨0, 0, 0, 0, [], false⟩
def zLp : Lp := ⟨zPc, none, 0⟩
theorem z6_is : Z6 = zLp.cs := rfl
/-- a parcel that may be read. -/
structure Lp.Rd (x : Lp) (W : World) : Prop where
  at_ : BytesAt W W.heap.size x.A x.p.B
  len : x.p.B.length ≤ 140737488351232
  nn : x.A = none → x.p.B.length = 0 ∧ x.c = 0
theorem Lp.Ok.rd {x : Lp} {W : World} {base : Nat} (h : x.Ok W base) : x.Rd W := ⟨h.own.at_, h.len, h.nn⟩
theorem zOk (W : World) (base : Nat) : zLp.Ok W base := ⟨fun h => absurd rfl h, Nat.le_refl _, by show 0 ≤ maxLen; unfold maxLen; omega, fun _ => ⟨rfl, rfl⟩, by show 0 ≤ _; omega⟩
theorem Lp.Ok.below {x : Lp} {W W' : World} {base : Nat} (h : x.Ok W base) (hb : Below W.heap.size W W') : x.Ok W' base := h.keep fun k cur _ _ _ hc => (hb.block k (Array.getElem?_eq_some_iff.1 hc).1).trans hc
theorem zRd (W : World) : zLp.Rd W := ⟨fun h => absurd rfl h, by show 0 ≤ _; omega, fun _ => ⟨rfl, rfl⟩⟩
theorem Lp.Rd.below {x : Lp} {W W' : World} (h : x.Rd W) (hb : Below W.heap.size W W') : x.Rd W' := ⟨h.at_.below hb (Nat.le_refl _) hb.size, h.len, h.nn⟩

/-- is there such a place? -/
def inP (i : Int) (ps : List Pc) : Prop := 0 ≤ i ∧ i < ps.length
instance (i : Int) (ps : List Pc) : Decidable (inP i ps) := inferInstanceAs (Decidable (_ ∧ _))
def fPut (most : Nat) (p : Pc) (ps : List Pc) : List Pc × Int := if ps.length < most then (ps ++ [p], 0) else (ps, 11)
def fTwice (most : Nat) (i : Int) (ps : List Pc) : List Pc × Int := if inP i ps then fPut most (ps.getD i.toNat zPc) ps else (ps, 3)
def fLook (i : Int) (ps : List Pc) : Pc × Int := if inP i ps then (ps.getD i.toNat zPc, 0) else (zPc, 3)
def fTake (i : Int) (ps : List Pc) : List Pc := if inP i ps then ps.take i.toNat ++ ps.drop (i.toNat + 1) else ps
def Pc.spoil (x : Pc) (i m : Nat) : Pc := ⟨x.fn, x.fl, x.tn, x.tl, xorAt x.B i (maskB m) 4, true⟩
def pErr (x : Pc) (a : Int) (m : Nat) : Nat := if x.bad = true then 4 else if m = 0 then 1 else if a < 0 ∨ (x.B.length : Int) - 4 < a then 2 else 0
def fSpoil (i a : Int) (m : Nat) (ps : List Pc) : List Pc × Int :=
  if inP i ps then (if pErr (ps.getD i.toNat zPc) a m = 0 then (ps.set i.toNat ((ps.getD i.toNat zPc).spoil a.toNat m), 0) else (ps, pErr (ps.getD i.toNat zPc) a m)) else (ps, 3)
theorem getD_at {L : List Lp} {i : Nat} (h : i < L.length) : (L.map Lp.p).getD i zPc = L[i].p := by
  rw [List.getD_eq_getElem?_getD, List.getElem?_map, List.getElem?_eq_getElem h]
  rfl

/-- where the bytes come from. -/
def Prov (W : World) (L L' : List Lp) : Prop := ∀ x ∈ L', x.p.B ≠ [] → (∃ z ∈ L, z.p.B ≠ [] ∧ z.g = x.g) ∨ W.heap.size ≤ x.g
theorem Prov.refl (W : World) (L : List Lp) : Prov W L L := fun x hx h => .inl ⟨x, hx, h, rfl⟩
theorem Prov.snoc {W W' : World} {L : List Lp} {y : Lp} (hy : y.Ok W' W.heap.size) : Prov W L (L ++ [y]) := fun x hx h => by
  rcases List.mem_append.1 hx with h1 | h1
  · exact .inl ⟨x, h1, h, rfl⟩
  · obtain rfl : x = y := by simpa using h1
    exact .inr (hy.lt h).1
theorem Prov.sub {W : World} {L L' : List Lp} (h : L'.Sublist L) : Prov W L L' := fun x hx hn => .inl ⟨x, h.subset hx, hn, rfl⟩

/-- what the program's calls may change. -/
def PS (l : Nat) (v : Value) (L : List Lp) (k : Nat) : Prop := k = l ∨ v.ownBlock = some k ∨ ∃ x ∈ L, x.p.B ≠ [] ∧ x.g = k
def DS (r : Nat) (u : Value) (k : Nat) : Prop := k = r ∨ u.ownBlock = some k
/-- behind a call of the program's bag. -/
def PStep (base b l most : Nat) (v : Value) (L : List Lp) (ps : List Pc) (W W' : World) : Prop :=
  ∃ v' L', PB base W' b l most v' L' ∧ L'.map Lp.p = ps ∧ Prov W L L' ∧ KP (PS l v L) W W'
/-- behind a call of the document's. -/
def DStep (base r most : Nat) (u : Value) (M : List Lp) (ps : List Pc) (W W' : World) : Prop :=
  ∃ u' M', DB base W' r most u' M' ∧ M'.map Lp.p = ps ∧ Prov W M M' ∧ KP (DS r u) W W'
section
variable {base b l r most : Nat} {v u : Value} {L M : List Lp} {W : World}
theorem pstep_same {W' : World} (h : PB base W b l most v L) (hb : Below W.heap.size W W') : PStep base b l most v L (L.map Lp.p) W W' := ⟨v, L, h.below hb, rfl, Prov.refl _ _, KP.of_below hb⟩
theorem dstep_same {W' : World} (h : DB base W r most u M) (hb : Below W.heap.size W W') : DStep base r most u M (M.map Lp.p) W W' := ⟨u, M, h.below hb, rfl, Prov.refl _ _, KP.of_below hb⟩

theorem putP (x : Lp) (h : PB base W b l most v L) (hx : x.Rd W) (hc : x.p.B.length ≤ x.c) (hm : x.c ≤ maxLen) :
    Calls Try.prog 17 #[.pointer (some ⟨b, 0, none⟩), .agg x.cs] W fun e W' => e = .returned (.int .i64 (fPut most x.p (L.map Lp.p)).2) ∧ PStep base b l most v L (fPut most x.p (L.map Lp.p)).1 W W' := by
  unfold fPut
  rw [List.length_map]
  by_cases hf : L.length < most
  · rw [if_pos hf]
    refine (put_ok base b l most v L x W h hf hx.at_ hx.len hc hm).mono ?_
    rintro e W' ⟨rfl, y, v', h1, h2, h3, h4⟩
    refine ⟨rfl, v', _, h3, by rw [List.map_append, ← h1]; rfl, Prov.snoc h2, h4.mono fun k hk => ?_⟩
    rcases hk with hk | hk
    · exact .inl hk
    · exact .inr (.inl hk)
  · rw [if_neg hf]
    refine (put_full base b l most v L x W h (by omega)).mono ?_
    rintro e W' ⟨rfl, hb⟩
    exact ⟨rfl, pstep_same h hb⟩
theorem putDP (x : Lp) (h : DB base W r most u M) (hx : x.Rd W) :
    Calls Try.prog 25 #[.pointer (some ⟨r, 0, none⟩), .agg x.cs] W fun e W' => e = .returned (.int .i64 (fPut most x.p (M.map Lp.p)).2) ∧ DStep base r most u M (fPut most x.p (M.map Lp.p)).1 W W' := by
  unfold fPut
  rw [List.length_map]
  by_cases hf : M.length < most
  · rw [if_pos hf]
    refine (putD_ok base r most u M x W h hf hx.at_ hx.len hx.nn).mono ?_
    rintro e W' ⟨rfl, y, v', h1, h2, h3, h4⟩
    exact ⟨rfl, v', _, h3, by rw [List.map_append, ← h1]; rfl, Prov.snoc h2, h4⟩
  · rw [if_neg hf]
    refine (putD_full base r most u M x W h (by omega)).mono ?_
    rintro e W' ⟨rfl, hb⟩
    exact ⟨rfl, dstep_same h hb⟩
theorem inP_yes {i : Int} {L : List Lp} (h : inP i (L.map Lp.p)) : ∃ k : Nat, i = k ∧ k < L.length ∧ i.toNat = k := by
  unfold inP at h
  rw [List.length_map] at h
  exact ⟨i.toNat, by omega, by omega, rfl⟩
theorem inP_no {i : Int} {L : List Lp} (h : ¬ inP i (L.map Lp.p)) : i < 0 ∨ (L.length : Int) ≤ i := by
  unfold inP at h
  rw [List.length_map] at h
  omega
theorem twiceP (i : Int) (h : PB base W b l most v L) :
    Calls Try.prog 20 #[.pointer (some ⟨b, 0, none⟩), .int .i64 i] W fun e W' => e = .returned (.int .i64 (fTwice most i (L.map Lp.p)).2) ∧ PStep base b l most v L (fTwice most i (L.map Lp.p)).1 W W' := by
  unfold fTwice
  by_cases hi : inP i (L.map Lp.p)
  · rw [if_pos hi]
    obtain ⟨k, rfl, hk, e⟩ := inP_yes hi
    rw [e, getD_at hk]
    unfold fPut
    rw [List.length_map]
    by_cases hf : L.length < most
    · rw [if_pos hf]
      refine (twice_ok base b l most v L k W h hk hf).mono ?_
      rintro e W' ⟨rfl, y, v', h1, h2, h3, h4⟩
      refine ⟨rfl, v', _, h3, by rw [List.map_append, ← h1]; rfl, Prov.snoc h2, h4.mono fun k hk => ?_⟩
      rcases hk with hk | hk
      · exact .inl hk
      · exact .inr (.inl hk)
    · rw [if_neg hf]
      refine (twice_full base b l most v L k W h hk (by omega)).mono ?_
      rintro e W' ⟨rfl, hb⟩
      exact ⟨rfl, pstep_same h hb⟩
  · rw [if_neg hi]
    refine (twice_no base b l most v L i W h (inP_no hi)).mono ?_
    rintro e W' ⟨rfl, rfl⟩
    exact ⟨rfl, pstep_same h (Below.refl _ _)⟩
theorem twiceDP (i : Int) (h : DB base W r most u M) :
    Calls Try.prog 28 #[.pointer (some ⟨r, 0, none⟩), .int .i64 i] W fun e W' => e = .returned (.int .i64 (fTwice most i (M.map Lp.p)).2) ∧ DStep base r most u M (fTwice most i (M.map Lp.p)).1 W W' := by
  unfold fTwice
  by_cases hi : inP i (M.map Lp.p)
  · rw [if_pos hi]
    obtain ⟨k, rfl, hk, e⟩ := inP_yes hi
    rw [e, getD_at hk]
    unfold fPut
    rw [List.length_map]
    by_cases hf : M.length < most
    · rw [if_pos hf]
      refine (twiceD_ok base r most u M k W h hk hf).mono ?_
      rintro e W' ⟨rfl, y, v', h1, h2, h3, h4⟩
      exact ⟨rfl, v', _, h3, by rw [List.map_append, ← h1]; rfl, Prov.snoc h2, h4⟩
    · rw [if_neg hf]
      refine (twiceD_full base r most u M k W h hk (by omega)).mono ?_
      rintro e W' ⟨rfl, hb⟩
      exact ⟨rfl, dstep_same h hb⟩
  · rw [if_neg hi]
    refine (twiceD_no base r most u M i W h (inP_no hi)).mono ?_
    rintro e W' ⟨rfl, rfl⟩
    exact ⟨rfl, dstep_same h (Below.refl _ _)⟩
theorem lookP (i : Int) (h : PB base W b l most v L) :
    Calls Try.prog 13 #[.pointer (some ⟨b, 0, none⟩), .int .i64 i] W fun e W' => ∃ y : Lp, e = .returned (.tuple #[.agg y.cs, .int .i64 (fLook i (L.map Lp.p)).2]) ∧ y.p = (fLook i (L.map Lp.p)).1 ∧ y.Ok W' base ∧ PStep base b l most v L (L.map Lp.p) W W' := by
  unfold fLook
  by_cases hi : inP i (L.map Lp.p)
  · rw [if_pos hi]
    obtain ⟨k, rfl, hk, e⟩ := inP_yes hi
    rw [e, getD_at hk]
    refine (look_yes base b l most v L k W h hk).mono ?_
    rintro e W' ⟨y, rfl, h1, h2, h3⟩
    exact ⟨y, rfl, h1, h2.lower (by have := h.hl; have := (Array.getElem?_eq_some_iff.1 h.lst).1; omega), pstep_same h h3⟩
  · rw [if_neg hi]
    refine (look_no base b l most v L i W h (inP_no hi)).mono ?_
    rintro e W' ⟨rfl, h3⟩
    exact ⟨zLp, rfl, rfl, zOk _ _, pstep_same h h3⟩
theorem lookDP (i : Int) (h : DB base W r most u M) :
    Calls Try.prog 26 #[.pointer (some ⟨r, 0, none⟩), .int .i64 i] W fun e W' => ∃ y : Lp, e = .returned (.tuple #[.agg y.cs, .int .i64 (fLook i (M.map Lp.p)).2]) ∧ y.p = (fLook i (M.map Lp.p)).1 ∧ y.Ok W' base ∧ DStep base r most u M (M.map Lp.p) W W' := by
  unfold fLook
  by_cases hi : inP i (M.map Lp.p)
  · rw [if_pos hi]
    obtain ⟨k, rfl, hk, e⟩ := inP_yes hi
    rw [e, getD_at hk]
    refine (lookD_yes base r most u M k W h hk).mono ?_
    rintro e W' ⟨rfl, h3⟩
    exact ⟨M[k], rfl, rfl, (h.ok _ (List.getElem_mem hk)).below h3, dstep_same h h3⟩
  · rw [if_neg hi]
    refine (lookD_no base r most u M i W h (inP_no hi)).mono ?_
    rintro e W' ⟨rfl, h3⟩
    exact ⟨zLp, rfl, rfl, zOk _ _, dstep_same h h3⟩
theorem takeP (i : Int) (h : PB base W b l most v L) :
    Calls Try.prog 19 #[.pointer (some ⟨b, 0, none⟩), .int .i64 i] W fun e W' => ∃ y : Lp, e = .returned (.tuple #[.agg y.cs, .int .i64 (fLook i (L.map Lp.p)).2]) ∧ y.p = (fLook i (L.map Lp.p)).1 ∧ y.Ok W' base ∧ PStep base b l most v L (fTake i (L.map Lp.p)) W W' := by
  unfold fLook fTake
  by_cases hi : inP i (L.map Lp.p)
  · rw [if_pos hi, if_pos hi]
    obtain ⟨k, rfl, hk, e⟩ := inP_yes hi
    rw [e, getD_at hk]
    refine (take_yes base b l most v L k W h hk).mono ?_
    rintro e W' ⟨rfl, h1, v', h2, h3⟩
    have e2 : (L.take k ++ L.drop (k + 1)).Sublist L := by
      have := List.eraseIdx_sublist L k
      rwa [List.eraseIdx_eq_take_drop_succ] at this
    refine ⟨L[k], rfl, rfl, h1, v', _, h2, by rw [List.map_append, List.map_take, List.map_drop], Prov.sub e2, h3.mono fun k hk => ?_⟩
    rcases hk with hk | hk
    · exact .inl hk
    · exact .inr (.inl hk)
  · rw [if_neg hi, if_neg hi]
    refine (take_no base b l most v L i W h (inP_no hi)).mono ?_
    rintro e W' ⟨rfl, h3⟩
    exact ⟨zLp, rfl, rfl, zOk _ _, pstep_same h h3⟩
theorem takeDP (i : Int) (h : DB base W r most u M) :
    Calls Try.prog 27 #[.pointer (some ⟨r, 0, none⟩), .int .i64 i] W fun e W' => ∃ y : Lp, e = .returned (.tuple #[.agg y.cs, .int .i64 (fLook i (M.map Lp.p)).2]) ∧ y.p = (fLook i (M.map Lp.p)).1 ∧ y.Ok W' base ∧ DStep base r most u M (fTake i (M.map Lp.p)) W W' := by
  unfold fLook fTake
  by_cases hi : inP i (M.map Lp.p)
  · rw [if_pos hi, if_pos hi]
    obtain ⟨k, rfl, hk, e⟩ := inP_yes hi
    rw [e, getD_at hk]
    refine (takeD_yes base r most u M k W h hk).mono ?_
    rintro e W' ⟨rfl, h1, v', h2, h3⟩
    have e2 : (M.take k ++ M.drop (k + 1)).Sublist M := by
      have := List.eraseIdx_sublist M k
      rwa [List.eraseIdx_eq_take_drop_succ] at this
    exact ⟨M[k], rfl, rfl, h1, v', _, h2, by rw [List.map_append, List.map_take, List.map_drop], Prov.sub e2, h3.mono fun k hk => .inl hk⟩
  · rw [if_neg hi, if_neg hi]
    refine (takeD_no base r most u M i W h (inP_no hi)).mono ?_
    rintro e W' ⟨rfl, h3⟩
    exact ⟨zLp, rfl, rfl, zOk _ _, dstep_same h h3⟩
theorem pErr_is (x : Lp) (a : Int) (m : Nat) : pErr x.p a m = spErr x a m := rfl
theorem spErr_a {x : Lp} {a : Int} {m : Nat} (h : spErr x a m = 0) : ∃ k : Nat, a = k := by
  unfold spErr at h
  split at h
  · omega
  · split at h
    · omega
    · split at h
      · omega
      · rename_i h3
        exact ⟨a.toNat, by omega⟩
theorem spErr_ne {x : Lp} {a : Int} {m : Nat} (h : spErr x a m = 0) : x.p.B ≠ [] := fun e => by
  unfold spErr at h
  rw [e] at h
  split at h
  · omega
  · split at h
    · omega
    · split at h
      · omega
      · rename_i h3
        simp at h3
        omega
theorem spoilP (i a : Int) (m : Nat) (h : PB base W b l most v L) (hm : m < 4294967296) (h0 : -9223372036854775808 ≤ a) (h1 : a ≤ 9223372036854775807) :
    Calls Try.prog 21 #[.pointer (some ⟨b, 0, none⟩), .int .i64 i, .int .i64 a, .int .u32 m] W fun e W' => e = .returned (.int .i64 (fSpoil i a m (L.map Lp.p)).2) ∧ PStep base b l most v L (fSpoil i a m (L.map Lp.p)).1 W W' := by
  unfold fSpoil
  by_cases hi : inP i (L.map Lp.p)
  · rw [if_pos hi]
    obtain ⟨k, rfl, hk, e⟩ := inP_yes hi
    rw [e, getD_at hk, pErr_is]
    by_cases he : spErr L[k] a m = 0
    · rw [if_pos he]
      obtain ⟨n, rfl⟩ := spErr_a he
      refine (spoil_ok base b l most v L k m n W h hk hm he).mono ?_
      rintro e W' ⟨rfl, h2, h3⟩
      refine ⟨rfl, v, _, h2, by rw [List.map_set]; rfl, fun x hx hn => ?_, h3.mono fun j hj => ?_⟩
      · rcases List.mem_or_eq_of_mem_set hx with h4 | h4
        · exact .inl ⟨x, h4, hn, rfl⟩
        · rw [h4]
          exact .inl ⟨L[k], List.getElem_mem hk, spErr_ne he, rfl⟩
      · rcases hj with hj | hj
        · exact .inr (.inl hj)
        · exact .inr (.inr ⟨L[k], List.getElem_mem hk, spErr_ne he, hj.symm⟩)
    · rw [if_neg he]
      refine (spoil_err base b l most v L k m a W h hk h0 h1 he).mono ?_
      rintro e W' ⟨rfl, rfl⟩
      exact ⟨rfl, pstep_same h (Below.refl _ _)⟩
  · rw [if_neg hi]
    refine (spoil_no base b l most v L i a m W h (inP_no hi)).mono ?_
    rintro e W' ⟨rfl, rfl⟩
    exact ⟨rfl, pstep_same h (Below.refl _ _)⟩
theorem spoilDP (i a : Int) (m : Nat) (h : DB base W r most u M) (hm : m < 4294967296) (h0 : -9223372036854775808 ≤ a) (h1 : a ≤ 9223372036854775807) :
    Calls Try.prog 29 #[.pointer (some ⟨r, 0, none⟩), .int .i64 i, .int .i64 a, .int .u32 m] W fun e W' => e = .returned (.int .i64 (fSpoil i a m (M.map Lp.p)).2) ∧ DStep base r most u M (fSpoil i a m (M.map Lp.p)).1 W W' := by
  unfold fSpoil
  by_cases hi : inP i (M.map Lp.p)
  · rw [if_pos hi]
    obtain ⟨k, rfl, hk, e⟩ := inP_yes hi
    rw [e, getD_at hk, pErr_is]
    by_cases he : spErr M[k] a m = 0
    · rw [if_pos he]
      obtain ⟨n, rfl⟩ := spErr_a he
      refine (spoilD_ok base r most u M k m n W h hk hm he).mono ?_
      rintro e W' ⟨rfl, y, v', hy, h2, h3, h4⟩
      refine ⟨rfl, v', _, h3, by rw [List.map_set, hy]; rfl, fun x hx hn => ?_, h4.mono fun j hj => .inl hj⟩
      rcases List.mem_or_eq_of_mem_set hx with h4 | h4
      · exact .inl ⟨x, h4, hn, rfl⟩
      · rw [h4] at hn ⊢
        exact .inr (h2.lt hn).1
    · rw [if_neg he]
      refine (spoilD_err base r most u M k m a W h hk h0 h1 he).mono ?_
      rintro e W' ⟨rfl, hb⟩
      exact ⟨rfl, dstep_same h hb⟩
  · rw [if_neg hi]
    refine (spoilD_no base r most u M i a m W h (inP_no hi)).mono ?_
    rintro e W' ⟨rfl, rfl⟩
    exact ⟨rfl, dstep_same h (Below.refl _ _)⟩
end

/-- both bags. -/
structure JB (base : Nat) (W : World) (b l r most : Nat) (v u : Value) (L M : List Lp) : Prop where
  pb : PB base W b l most v L
  db : DB base W r most u M
  sep : ∀ x ∈ L, ∀ y ∈ M, x.p.B ≠ [] → y.p.B ≠ [] → x.g ≠ y.g
theorem JB.below {base b l r most : Nat} {v u : Value} {L M : List Lp} {W W' : World} (h : JB base W b l r most v u L M) (hb : Below W.heap.size W W') : JB base W' b l r most v u L M := ⟨h.pb.below hb, h.db.below hb, h.sep⟩
theorem JB.prog {base b l r most : Nat} {v u : Value} {L M : List Lp} {ps : List Pc} {W W' : World} (h : JB base W b l r most v u L M) (hs : PStep base b l most v L ps W W') :
    ∃ v' L', JB base W' b l r most v' u L' M ∧ L'.map Lp.p = ps ∧ Below base W W' ∧ (∀ (k : Nat) (c : Array Value) (t : TypeId), W.heap[k]? = some (.cells c t (0, 0)) → t ≠ 67 → t ≠ 45 → t ≠ 5 → W'.heap[k]? = some (.cells c t (0, 0))) := by
  obtain ⟨v', L', h1, h2, h3, h4⟩ := hs
  have hbase : ∀ k, PS l v L k → base ≤ k := fun k hk => by
    rcases hk with hk | hk | ⟨x, hx, hn, hk⟩
    · rw [hk]; exact h.pb.hl
    · exact (h.pb.row.lt k hk).1
    · rw [← hk]; exact ((h.pb.ok x hx).lt hn).1
  have hW : base ≤ W.heap.size := by have := h.pb.hl; have := (Array.getElem?_eq_some_iff.1 h.pb.lst).1; omega
  have typ : ∀ (k : Nat) (c : Array Value) (t : TypeId), W.heap[k]? = some (.cells c t (0, 0)) → t ≠ 67 → t ≠ 45 → t ≠ 5 → ¬ PS l v L k := fun k c t hk h5 h6 h7 hs => by
    rcases hs with hs | hs | ⟨x, hx, hn, hs⟩
    · exact apart_of hk h.pb.lst h5 hs
    · obtain ⟨cv, hcv⟩ := row_block h.pb.row hs
      exact apart_of hk hcv h6 rfl
    · obtain ⟨cv, hcv⟩ := (h.pb.ok x hx).block hn
      exact apart_of hk hcv h7 hs.symm
  have lt : ∀ {k : Nat} {o : Obj}, W.heap[k]? = some o → k < W.heap.size := fun h => (Array.getElem?_eq_some_iff.1 h).1
  refine ⟨v', L', ⟨h1, h.db.keep fun k hk hs => h4.block k hk fun hp => ?_, fun x hx y hy hn hm => ?_⟩, h2, h4.below hW hbase, fun k c t hk h5 h6 h7 => (h4.block k (lt hk) (typ k c t hk h5 h6 h7)).trans hk⟩
  · rcases hs with hs | hs | ⟨y, hy, hn, hs⟩
    · rw [hs] at hp
      exact typ _ _ _ h.db.bag (by decide) (by decide) (by decide) hp
    · obtain ⟨cv, hcv⟩ := row_block h.db.row hs
      exact typ _ _ _ hcv (by decide) (by decide) (by decide) hp
    · obtain ⟨cv, hcv⟩ := (h.db.ok y hy).block hn
      rw [hs] at hcv
      rcases hp with hp | hp | ⟨x, hx, hxn, hp⟩
      · exact apart_of hcv h.pb.lst (by decide) hp
      · obtain ⟨cw, hcw⟩ := row_block h.pb.row hp
        exact apart_of hcv hcw (by decide) rfl
      · exact h.sep x hx y hy hxn hn (hp.trans hs.symm)
  · rcases h3 x hx hn with ⟨z, hz, hzn, hzg⟩ | hge
    · rw [← hzg]
      exact h.sep z hz y hy hzn hm
    · have := ((h.db.ok y hy).lt hm).2
      omega
theorem JB.doc {base b l r most : Nat} {v u : Value} {L M : List Lp} {ps : List Pc} {W W' : World} (h : JB base W b l r most v u L M) (hs : DStep base r most u M ps W W') :
    ∃ u' M', JB base W' b l r most v u' L M' ∧ M'.map Lp.p = ps ∧ Below base W W' ∧ (∀ (k : Nat) (c : Array Value) (t : TypeId), W.heap[k]? = some (.cells c t (0, 0)) → t ≠ 42 → t ≠ 36 → W'.heap[k]? = some (.cells c t (0, 0))) := by
  obtain ⟨u', M', h1, h2, h3, h4⟩ := hs
  have hbase : ∀ k, DS r u k → base ≤ k := fun k hk => by
    rcases hk with hk | hk
    · rw [hk]; exact h.db.hr
    · exact (h.db.row.lt k hk).1
  have hW : base ≤ W.heap.size := by have := h.pb.hl; have := (Array.getElem?_eq_some_iff.1 h.pb.lst).1; omega
  have typ : ∀ (k : Nat) (c : Array Value) (t : TypeId), W.heap[k]? = some (.cells c t (0, 0)) → t ≠ 42 → t ≠ 36 → ¬ DS r u k := fun k c t hk h5 h6 hs => by
    rcases hs with hs | hs
    · exact apart_of hk h.db.bag h5 hs
    · obtain ⟨cv, hcv⟩ := row_block h.db.row hs
      exact apart_of hk hcv h6 rfl
  have lt : ∀ {k : Nat} {o : Obj}, W.heap[k]? = some o → k < W.heap.size := fun h => (Array.getElem?_eq_some_iff.1 h).1
  refine ⟨u', M', ⟨h.pb.keep fun k hk hs => h4.block k hk fun hp => ?_, h1, fun x hx y hy hn hm => ?_⟩, h2, h4.below hW hbase, fun k c t hk h5 h6 => (h4.block k (lt hk) (typ k c t hk h5 h6)).trans hk⟩
  · rcases hs with hs | hs | hs | ⟨x, hx, hn, hs⟩
    · rw [hs] at hp
      exact typ _ _ _ h.pb.bag (by decide) (by decide) hp
    · rw [hs] at hp
      exact typ _ _ _ h.pb.lst (by decide) (by decide) hp
    · obtain ⟨cv, hcv⟩ := row_block h.pb.row hs
      exact typ _ _ _ hcv (by decide) (by decide) hp
    · obtain ⟨cv, hcv⟩ := (h.pb.ok x hx).block hn
      rw [hs] at hcv
      exact typ _ _ _ hcv (by decide) (by decide) hp
  · rcases h3 y hy hm with ⟨z, hz, hzn, hzg⟩ | hge
    · rw [← hzg]
      exact h.sep x hx z hz hn hzn
    · have := ((h.pb.ok x hx).lt hn).2
      omega

end Go.Proofs.Yteaafpgkifmdeaa
