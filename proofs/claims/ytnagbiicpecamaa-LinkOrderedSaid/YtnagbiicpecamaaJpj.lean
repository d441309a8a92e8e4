/-
  Both ends, the program's and the document's, side by side: what each call does to both. Condition: the links lie in memory.
-/
import Derived.Test.YtnagbiicpecamaaJpa
import Derived.Test.YtnagbiicpecamaaJdi
namespace Go.Proofs.Ytnagbiicpecamaa
set_option linter.unusedSimpArgs false
set_option linter.unusedVariables false
open Go.RowKit Go.Maps Go.Sort
abbrev LPu := Nat × List UInt8 × Bool × Int
def Ls.p (x : Ls) : LPu := (x.seq, x.b.B, x.told, x.at_)
def fSendR (s : Sc) (n : Nat) : Int := if s.next = 18446744073709551615 then 11 else if 32 ≤ n then 10 else 0
def sSend (s : Sc) (n : Nat) : Sc := if fSendR s n = 0 then { s with next := s.next + 1 } else s
def lSend (s : Sc) (L : List LPu) (X : List UInt8) : List LPu := if fSendR s L.length = 0 then L ++ [(s.next, X, false, 0)] else L
theorem sendPW (base : Nat) (W : World) (b m : Nat) (v : Value) (c : Nat) (s : Sc) (L : List Ls) (K : List Kr) (h : PL base W b m v c s L K) (XA : Option Addr) (X : List UInt8) (xc : Nat) (hx : BytesAt W W.heap.size XA X) (hl : X.length ≤ 1000000) (hc : X.length ≤ xc) (hm : xc ≤ maxLen) :
    Calls Try.prog 11 #[.pointer (some ⟨b, 0, none⟩), .slice XA X.length xc] W fun e W' => e = .returned (.int .i64 (fSendR s L.length)) ∧ ∃ v' L', PL base W' b m v' c (sSend s L.length) L' K ∧ KP (FP b m v) W W' ∧ L'.map Ls.p = lSend s (L.map Ls.p) X := by
  by_cases h1 : s.next = 18446744073709551615
  · refine (send_full base W b m v c s L K h XA X xc h1).mono fun e W' ⟨he, hw⟩ => ?_
    subst hw
    have e1 : fSendR s L.length = 11 := by unfold fSendR; rw [if_pos h1]
    refine ⟨by rw [he, e1], v, L, ?_, KP.refl _ _, ?_⟩
    · unfold sSend
      rw [e1, if_neg (by decide)]
      exact h
    · unfold lSend
      rw [List.length_map, e1, if_neg (by decide)]
  · by_cases h2 : 32 ≤ L.length
    · refine (send_busy base W b m v c s L K h XA X xc ⟨h1, h2⟩).mono fun e W' ⟨he, hw⟩ => ?_
      subst hw
      have e1 : fSendR s L.length = 10 := by unfold fSendR; rw [if_neg h1, if_pos h2]
      refine ⟨by rw [he, e1], v, L, ?_, KP.refl _ _, ?_⟩
      · unfold sSend
        rw [e1, if_neg (by decide)]
        exact h
      · unfold lSend
        rw [List.length_map, e1, if_neg (by decide)]
    · refine (send_ok base W b m v c s L K h XA X xc hx hl hc hm h1 (by omega)).mono fun e W' ⟨he, x, v', x1, x2, x3, x4, hp, hk, _⟩ => ?_
      have e1 : fSendR s L.length = 0 := by unfold fSendR; rw [if_neg h1, if_neg h2]
      refine ⟨by rw [he, e1], v', L ++ [x], ?_, hk, ?_⟩
      · unfold sSend
        rw [e1, if_pos rfl]
        exact hp
      · unfold lSend
        rw [List.length_map, e1, if_pos rfl, List.map_append]
        simp [Ls.p, x1, x2, x3, x4]
theorem lp_len {L L2 : List Ls} (h : L.map Ls.p = L2.map Ls.p) : L.length = L2.length := by have := congrArg List.length h; simpa using this
theorem due_p {now again : Int} {L L2 : List Ls} (h : L.map Ls.p = L2.map Ls.p) (k : Nat) : (dueL' now again L k).map Ls.p = (dueL' now again L2 k).map Ls.p := by
  have hf : ∀ M : List Ls, (dueL' now again M k).map Ls.p = ((M.map Ls.p).take k).filter fun y => dueB y.2.2.1 y.2.2.2 now again := fun M => by
    unfold dueL'
    rw [← List.map_take, List.filter_map]
    rfl
  rw [hf, hf, h]
theorem fOut_p {s : Sc} {now : Int} {L L2 : List Ls} (h : L.map Ls.p = L2.map Ls.p) : fOut s now L = fOut s now L2 := by
  have h1 := due_p (now := now) (again := s.again) h 8
  have h2 := lp_len h1
  have hp : ∀ M : List Ls, M.map (puOf s) = (M.map Ls.p).map fun y => (s.mn, s.ml, s.pn, s.pl, y.1, s.want, true, y.2.1) := fun M => by rw [List.map_map]; rfl
  unfold fOut
  rw [h2, hp, hp, h1]
theorem outL_p {now again : Int} {L L2 : List Ls} (h : L.map Ls.p = L2.map Ls.p) (k : Nat) : (outL now again L k).map Ls.p = (outL now again L2 k).map Ls.p := by
  have hu : ∀ x : Ls, (upd now again x).p = (fun y : LPu => if dueB y.2.2.1 y.2.2.2 now again then (y.1, y.2.1, true, now) else y) x.p := fun x => by
    unfold upd
    show _ = if dueB x.told x.at_ now again = true then _ else _
    split <;> rfl
  have hf : ∀ M : List Ls, (outL now again M k).map Ls.p = ((M.map Ls.p).take k).map (fun y : LPu => if dueB y.2.2.1 y.2.2.2 now again then (y.1, y.2.1, true, now) else y) ++ (M.map Ls.p).drop k := fun M => by
    unfold outL
    rw [List.map_append, List.map_drop, List.map_map, ← List.map_take, List.map_map]
    congr 1
    apply List.map_congr_left
    intro x _
    exact hu x
  rw [hf, hf, h]
theorem hear_p {s : Sc} {L L2 : List Ls} {K : List KPu} {p : Hp} (h : L.map Ls.p = L2.map Ls.p) : (hearP s L K p).1 = (hearP s L2 K p).1 ∧ (hearP s L K p).2.1.map Ls.p = (hearP s L2 K p).2.1.map Ls.p ∧ (hearP s L K p).2.2 = (hearP s L2 K p).2.2 := by
  have hl := lp_len h
  unfold hearP
  split
  · split
    · refine ⟨rfl, ?_, rfl⟩
      show (L.drop _).map Ls.p = (L2.drop _).map Ls.p
      rw [List.map_drop, List.map_drop, h, hl]
    · refine ⟨rfl, ?_, rfl⟩
      show (L.drop _).map Ls.p = (L2.drop _).map Ls.p
      rw [List.map_drop, List.map_drop, h, hl]
  · exact ⟨rfl, h, rfl⟩
/-- what is kept stays as it should be. -/
theorem hear_KW {s : Sc} {L : List Ls} {K K' : List Kr} {p : Hp} (hK : KW s.want K) (hw : s.want ≤ 18446744073709551615) (hq : p.seq ≤ 18446744073709551615) (he : K'.map Kr.p = (hearP s L (K.map Kr.p) p).2.2.1) : KW (hearP s L (K.map Kr.p) p).1.want K' ∧ K'.length ≤ K.length + 1 := by
  have move : ∀ (w : Nat) (A B : List Kr), A.map Kr.p = B.map Kr.p → KW w B → KW w A := fun w A B h hB => by
    have hs : A.map Kr.seq = B.map Kr.seq := by
      have := congrArg (List.map Prod.fst) h
      simpa [List.map_map, Function.comp_def, Kr.p] using this
    refine ⟨?_, fun x hx => ?_⟩
    · have h1 : (B.map Kr.seq).Pairwise (· ≠ ·) := List.pairwise_map.2 hB.ap
      rw [← hs] at h1
      exact List.pairwise_map.1 h1
    · have h1 : x.seq ∈ B.map Kr.seq := by rw [← hs]; exact List.mem_map_of_mem hx
      obtain ⟨y, hy, e⟩ := List.mem_map.1 h1
      rw [← e]
      exact hB.rg y hy
  have hlen : ∀ (A B : List Kr), A.map Kr.p = B.map Kr.p → A.length = B.length := fun A B h => by have := congrArg List.length h; simpa using this
  by_cases hm : p.mine s
  · cases hh : p.has with
    | false =>
      rw [hear_bare hm hh] at he ⊢
      exact ⟨move _ _ _ he hK, by have := hlen _ _ he; omega⟩
    | true =>
      by_cases hs : p.seq < s.want ∨ 8 ≤ p.seq - s.want ∨ (fK K p.seq).isSome = true
      · rw [hear_same hm hh hK hs] at he ⊢
        exact ⟨move _ _ _ he hK, by have := hlen _ _ he; omega⟩
      · have h1 : ¬ p.seq < s.want := fun h => hs (Or.inl h)
        have h2 : ¬ 8 ≤ p.seq - s.want := fun h => hs (Or.inr (Or.inl h))
        have h3 : fK K p.seq = none := by
          cases hf : fK K p.seq with
          | none => rfl
          | some x => exact absurd (Or.inr (Or.inr (by rw [hf]; rfl))) hs
        by_cases h4 : p.seq = s.want
        · rw [hear_come hm hh hK h4 ⟨p.seq, ⟨p.B, none, 0⟩⟩ rfl] at he ⊢
          obtain ⟨r1, r2, r3⟩ := comeF_KW K.length 0 s.want (inc s.want) K (Nat.le_refl _) hK.cw (by unfold inc; omega) hw
          exact ⟨move _ _ _ he r1, by have := hlen _ _ he; omega⟩
        · rw [hear_keep hm hh hK (by omega) (by omega) h3 ⟨p.seq, ⟨p.B, none, 0⟩⟩ rfl] at he ⊢
          have hK2 : KW s.want (K ++ [(⟨p.seq, ⟨p.B, none, 0⟩⟩ : Kr)]) := by
            refine ⟨List.pairwise_append.2 ⟨hK.ap, List.pairwise_singleton _ _, fun y hy z hz => ?_⟩, fun y hy => ?_⟩
            · obtain rfl : z = ⟨p.seq, ⟨p.B, none, 0⟩⟩ := by simpa using hz
              exact fK_none h3 y hy
            · rcases List.mem_append.1 hy with hy | hy
              · exact hK.rg y hy
              · obtain rfl : y = ⟨p.seq, ⟨p.B, none, 0⟩⟩ := by simpa using hy
                exact ⟨by show s.want < p.seq; omega, by show p.seq < s.want + 8; omega, hq⟩
          exact ⟨move _ _ _ he hK2, by have := hlen _ _ he; simp at this; omega⟩
  · rw [hear_no hm] at he ⊢
    exact ⟨move _ _ _ he hK, by have := hlen _ _ he; omega⟩

theorem KW.of_p {w : Nat} {A B : List Kr} (h : A.map Kr.p = B.map Kr.p) (hB : KW w B) : KW w A := by
  have hs : A.map Kr.seq = B.map Kr.seq := by
    have := congrArg (List.map Prod.fst) h
    simpa [List.map_map, Function.comp_def, Kr.p] using this
  refine ⟨?_, fun x hx => ?_⟩
  · have h1 : (B.map Kr.seq).Pairwise (· ≠ ·) := List.pairwise_map.2 hB.ap
    rw [← hs] at h1
    exact List.pairwise_map.1 h1
  · have h1 : x.seq ∈ B.map Kr.seq := by rw [← hs]; exact List.mem_map_of_mem hx
    obtain ⟨y, hy, e⟩ := List.mem_map.1 h1
    rw [← e]
    exact hB.rg y hy
end Go.Proofs.Ytnagbiicpecamaa
