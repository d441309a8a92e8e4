/-
  The wheel's Next: by an exact answer. Condition: the wheel lies in memory.
-/
import Derived.Test.YtfekkfphogjpeaaYdu
namespace Go.Proofs.Ytfekkfphogjpeaa
set_option linter.unusedSimpArgs false
set_option linter.unusedVariables false
open Go.RowKit Go.Maps Go.Sort

/-- the least time of a list, if there is one. -/
def Least (C : List Tm) (l : Int) (f : Bool) : Prop := (C = [] ∧ l = 0 ∧ f = false) ∨ (f = true ∧ (∃ t ∈ C, t.at_ = l) ∧ ∀ u ∈ C, l ≤ u.at_)
theorem Least.perm {C T : List Tm} {l : Int} {f : Bool} (h : Least C l f) (hp : C.Perm T) : Least T l f := by
  rcases h with ⟨rfl, r⟩ | ⟨h1, ⟨t, ht, h2⟩, h3⟩
  · exact .inl ⟨List.nil_perm.1 hp, r⟩
  · exact .inr ⟨h1, ⟨t, hp.mem_iff.1 ht, h2⟩, fun u hu => h3 u (hp.mem_iff.2 hu)⟩
theorem Least.yes {C : List Tm} {l : Int} {f : Bool} {t : Tm} (h : Least C l f) (hc : f = false ∨ t.at_ < l) : Least (C ++ [t]) t.at_ true := by
  refine .inr ⟨rfl, ⟨t, by simp, rfl⟩, fun u hu => ?_⟩
  rcases List.mem_append.1 hu with hu | hu
  · rcases h with ⟨rfl, _⟩ | ⟨h1, _, h3⟩
    · cases hu
    · rcases hc with hc | hc
      · rw [h1] at hc; cases hc
      · have := h3 u hu
        omega
  · simp at hu
    subst hu
    exact Int.le_refl _
theorem Least.no {C : List Tm} {l : Int} {t : Tm} (h : Least C l true) (hc : l ≤ t.at_) : Least (C ++ [t]) l true := by
  rcases h with ⟨_, _, h⟩ | ⟨h1, ⟨t', ht, h2⟩, h3⟩
  · cases h
  · refine .inr ⟨rfl, ⟨t', by simp [ht], h2⟩, fun u hu => ?_⟩
    rcases List.mem_append.1 hu with hu | hu
    · exact h3 u hu
    · simp at hu
      subst hu
      exact hc
structure NxJ (W : World) (m nn : Nat) (D : DataW Unit) (T : List Tm) (left : Lit → Bool) (cnt : Nat) (l : Int) (f : Bool) (C : List Tm) (wr : World) : Prop where
  rg : wr.ranges Try.prog 50 atElem m W.heap.size nn D left cnt
  nd : C.Nodup
  mem : ∀ t, t ∈ C ↔ t ∈ T ∧ left t.k.lit = false
  lst : Least C l f
  b : Below W.heap.size W wr

set_option maxRecDepth 100000 in
set_option maxHeartbeats 4000000 in
theorem nextW (W : World) (b m c most : Nat) (T : List Tm) (h : PW W b m c most T) :
    Calls Try.prog 21 #[.pointer (some ⟨b, 0, none⟩)] W fun e W' => ∃ (l : Int) (f : Bool), e = .returned (.tuple #[.int .i64 l, .bool f]) ∧ Least T l f ∧ Below W.heap.size W W' := by
  have HA := Lib.hid h.apart
  have HR := Lib.hid h.rng
  have c1 := cell_of h.whl 1 (.map (some m)) rfl
  obtain ⟨nn, D, hk, O, K⟩ := h.map
  have OO := Lib.hid O
  have KK := Lib.hid K
  clear h hk O K
  go_enter Try.func21, Try.ntmps21
  go_wp2_with (at_range; refine wpList_range_own _ rfl _ 72 rfl 50 3 kKeyed mapU atElem m nn D rfl OO.out ?_; intro w0 hrg0 hg0 hs0)
  go_frame
  have J0 : Hid (NxJ W m nn D T (Maps.has D) (Maps.size D) 0 false [] w0) := Lib.hid ⟨hrg0, List.nodup_nil, fun t => ⟨fun e => (by cases e), fun ⟨h1, h2⟩ => (by rw [KK.out.has_ t h1] at h2; cases h2)⟩, .inl ⟨rfl, rfl, rfl⟩, below_grown (Below.refl _ _) hg0 (fun g h => by cases h)⟩
  clear hrg0 hg0 hs0
  go_loopw [4, 5] (fun v4 v5 wr => ∃ (l : Int) (f : Bool) (left : Lit → Bool) (cnt : Nat) (C : List Tm), v4 = .int .i64 l ∧ v5 = .bool f ∧ Hid (NxJ W m nn D T left cnt l f C wr)) (fun _ _ wr => wr.rangeLeft m W.heap.size)
  case atStart => exact ⟨_, _, _, _, [], rfl, rfl, J0⟩
  case round =>
    obtain ⟨l, f, left, cnt, C, rfl, rfl, J⟩ := hrel
    have hrg := J.out.rg
    go_wp2_with (at_next; refine wpList_next_ranges (α := Value) _ rfl _ rfl 50 kKeyed atElem id (Value.int .i64) (fun key kl hk => ⟨key, rfl⟩) (fun v y hv => by obtain ⟨n, rfl, _⟩ := atElem_inv hv; exact ⟨n, rfl⟩) m W.heap.size nn D _ _ rfl hrg ?_ ?_)
    · intro hc0 hl0
      have hp : C.Perm T := (List.perm_ext_iff_of_nodup J.out.nd (nodup_of_apart HA.out)).2 fun t => by rw [J.out.mem t]; simp [hl0]
      have HL := Lib.hid (J.out.lst.perm hp)
      have HB := Lib.hid J.out.b
      clear hp hrg hc0 hl0
      go_wp2
      exact bodyPost_ret (results_tmp2 rfl _ _ _) rfl ⟨_, _, rfl, HL.out, HB.out⟩
    · intro xv at_ kl yd yp w2 cnt2 hkey hlk hv hat hrg2 hlt hg2 hs2 hen
      obtain ⟨t, ht, rfl⟩ := KK.out.all kl (has_true_of_atKey hat)
      have hyd : yd = atDat t.at_ := (hat (atDat 0)).symm.trans (KK.out.at_ t ht _)
      obtain rfl : at_ = t.at_ := by
        have e : atDat at_ = yd := congrArg Prod.fst (Option.some.inj hv)
        exact atDat_inj (e.trans hyd)
      have hmem := dueJ_mem HR.out HA.out J.out.mem ht hlk
      have HLT := Lib.hid hlt
      have B2 := Lib.hid (below_grown J.out.b hg2 (fun k e => by cases e; exact Nat.le_refl _))
      have nd2 := Lib.hid (show (C ++ [t]).Nodup from List.nodup_append.2 ⟨J.out.nd, by simp, fun a ha b hb => by simp at hb; subst hb; exact fun e => hmem.1 (e ▸ ha)⟩)
      have mem2 := Lib.hid hmem.2
      have HLM := Lib.hid J.out.rg.left_eq
      have RG2 := Lib.hid hrg2
      have LS := Lib.hid J.out.lst
      clear hrg hrg2 hs2 hat hkey hv hyd hg2 hmem hlt J0
      by_cases hc : f = false
      · subst hc
        have NEW := Lib.hid (LS.out.yes (t := t) (.inl rfl))
        clear J
        go_wp2
        go_roundw
        case rel => exact ⟨_, _, _, _, C ++ [t], rfl, rfl, Lib.hid ⟨RG2.out, nd2.out, mem2.out, NEW.out, B2.out⟩⟩
        case measure => rw [RG2.out.left_eq, HLM.out]; exact HLT.out
      · obtain rfl : f = true := by simpa using hc
        clear hc
        by_cases hd : t.at_ < l
        · have NEW := Lib.hid (LS.out.yes (t := t) (.inr hd))
          clear J
          go_wp2
          go_roundw
          case rel => exact ⟨_, _, _, _, C ++ [t], rfl, rfl, Lib.hid ⟨RG2.out, nd2.out, mem2.out, NEW.out, B2.out⟩⟩
          case measure => rw [RG2.out.left_eq, HLM.out]; exact HLT.out
        · have NEW := Lib.hid (LS.out.no (t := t) (by omega))
          clear J
          go_wp2
          go_roundw
          case rel => exact ⟨_, _, _, _, C ++ [t], rfl, rfl, Lib.hid ⟨RG2.out, nd2.out, mem2.out, NEW.out, B2.out⟩⟩
          case measure => rw [RG2.out.left_eq, HLM.out]; exact HLT.out

end Go.Proofs.Ytfekkfphogjpeaa
