/-
  Plain: what an act keeps: begun calls are noted or old; roots stand within the window. No condition on any program.
-/
import Derived.Test.YtldbmmganicliaaAmn
namespace Go.Proofs.Ytldbmmganicliaa
set_option linter.unusedSimpArgs false
set_option linter.unusedVariables false
open Go.RowKit Go.Maps Go.Sort

theorem floor_nF (F : List Fw) (n l u n' l' : Int) : floorF (nF F n l u) n' l' = if n' = n ∧ l' = l then u else floorF F n' l' := by
  have e : nF F n l u = ⟨n, l, u⟩ :: F.filter (keepF n l) := by
    unfold nF FJ
    rw [List.take_length]
  rw [e]
  unfold floorF
  rw [List.find?_cons]
  by_cases h : n' = n ∧ l' = l
  · rw [if_pos h]
    simp [h.1, h.2]
  · rw [if_neg h]
    have h2 : (decide (n = n') && decide (l = l')) = false := by
      by_cases h3 : n = n'
      · have : ¬ l = l' := fun e => h ⟨h3.symm, e.symm⟩
        simp [this]
      · simp [h3]
    simp only [h2]
    have h4 : (F.filter (keepF n l)).find? (fun f => decide (f.n = n') && decide (f.l = l')) = F.find? (fun f => decide (f.n = n') && decide (f.l = l')) := by
      rw [List.find?_filter]
      congr 1
      funext f
      by_cases hf : f.n = n' ∧ f.l = l'
      · have hk : keepF n l f = true := by
          unfold keepF
          rw [hf.1, hf.2]
          by_cases h5 : n' = n
          · have : ¬ l' = l := fun e => h ⟨h5, e⟩
            simp [this]
          · simp [h5]
        simp [hk]
      · have : (decide (f.n = n') && decide (f.l = l')) = false := by
          by_cases h6 : f.n = n'
          · have : ¬ f.l = l' := fun e => hf ⟨h6, e⟩
            simp [this]
          · simp [h6]
        rw [this]
        simp
    rw [h4]
theorem Tt.state_new {t : Tt} {x : I10} (h : t.state x = 0) : isT t.L x = false ∧ t.old x = false ∧ t.far x = false := by
  have hi := state_fresh h
  rw [Tt.state_as] at h
  have hr : (t.row x).en = false := by rw [Tt.row_no hi]; rfl
  rw [hr, hi] at h
  simp only [Bool.false_eq_true, if_false] at h
  refine ⟨hi, ?_, ?_⟩
  · cases ho : t.old x with
    | false => rfl
    | true => rw [ho] at h; simp at h
  · cases ho : t.old x with
    | true => rw [ho] at h; simp at h
    | false =>
      cases hf : t.far x with
      | false => rfl
      | true => rw [ho, hf] at h; simp at h
/-- every begun call is noted or old. -/
def OnceI (t : Tt) (B : List I10) : Prop := ∀ x ∈ B, isT t.L x = true ∨ t.old x = true
theorem Tt.beg_cases (t : Tt) (x : I10) : ((t.beg x).1 = 0 ∧ x.ok = true ∧ t.state x = 0 ∧ (t.beg x).2 = { t with L := insT t.L x }) ∨ ((t.beg x).1 ≠ 0 ∧ (t.beg x).2 = t) := by
  unfold Tt.beg
  cases hk : x.ok with
  | false => right; simp
  | true =>
    simp only [Bool.true_eq_false, if_false]
    split
    · left; exact ⟨rfl, trivial, by assumption, rfl⟩
    · split
      · right; simp
      · split <;> (right; simp)
theorem Tt.old_rse {t : Tt} {n l u : Int} {x : I10} (h : t.old x = true) : (t.rse n l u).old x = true := by
  unfold Tt.rse
  split
  · exact h
  · rename_i hc
    obtain ⟨h1, h2⟩ := Tt.old_floor h
    have e : floorF (nF t.F n l u) x.n x.l = if x.n = n ∧ x.l = l then u else floorF t.F x.n x.l := floor_nF ..
    unfold Tt.old
    dsimp only
    rw [e]
    split
    · rename_i hx
      have : ¬ u ≤ floorF t.F n l := fun hu => hc (.inr (.inr hu))
      rw [hx.1, hx.2] at h2
      simp [h1]
      omega
    · simp [h1, h2]
theorem isT_mem {t : Tt} (h : t.Ok) {x : I10} (hi : isT t.L x = true) : ∃ y ∈ t.L, y.id = x := (h.is_iff x).1 hi
theorem OnceI.act {t : Tt} {B : List I10} {a : Ac} (h : t.Ok) (h' : (t.act a).2.Ok) (hI : OnceI t B) : OnceI (t.act a).2 B ∧ ((t.act a).1 = true → isT (t.act a).2.L a.x = true ∧ ∀ x ∈ B, x ≠ a.x) := by
  have key : ∀ t' : Tt, t'.Ok → (∀ x, (isT t.L x = true ∨ t.old x = true) → isT t'.L x = true ∨ t'.old x = true) → OnceI t' B := fun t' _ hh x hx => hh x (hI x hx)
  unfold Tt.act at h' ⊢
  split at h'
  · rename_i hk
    rw [if_pos hk]
    rcases t.beg_cases a.x with ⟨h1, hok, hs, h2⟩ | ⟨h1, h2⟩
    · rw [h2] at h' ⊢
      obtain ⟨hn, ho, _⟩ := Tt.state_new hs
      have hin : isT (insT t.L a.x) a.x = true := (h'.is_iff a.x).2 ⟨⟨a.x, false, 0, ⟨#[]⟩⟩, (ins_perm t.L a.x).mem_iff.2 (List.mem_cons_self ..), rfl⟩
      refine ⟨key _ h' fun x hx => ?_, fun _ => ⟨hin, fun x hx e => ?_⟩⟩
      · rcases hx with hx | hx
        · obtain ⟨y, hy, e⟩ := isT_mem h hx
          exact .inl ((h'.is_iff x).2 ⟨y, (ins_perm t.L a.x).mem_iff.2 (List.mem_cons_of_mem _ hy), e⟩)
        · exact .inr hx
      · rcases hI x hx with hx | hx
        · rw [e, hn] at hx
          cases hx
        · rw [e, ho] at hx
          cases hx
    · rw [h2]
      refine ⟨hI, fun e => ?_⟩
      simp only [decide_eq_true_eq] at e
      exact absurd e h1
  · rename_i hk
    rw [if_neg hk]
    split at h'
    · rename_i hk2
      rw [if_pos hk2]
      refine ⟨?_, fun e => by cases e⟩
      dsimp only at h' ⊢
      unfold Tt.fin at h' ⊢
      split at h'
      · rename_i hs
        rw [if_pos hs]
        obtain ⟨y, hy, hyid, _⟩ := Tt.state_one hs
        dsimp only at h' ⊢
        split at h'
        · rename_i ho
          rw [if_pos ho]
          refine key _ h' fun x hx => ?_
          rcases hx with hx | hx
          · obtain ⟨z, hz, e⟩ := isT_mem h hx
            rcases List.mem_cons.1 ((del_perm hy).mem_iff.1 hz) with e2 | hz
            · right
              show t.old x = true
              rw [← e, e2, hyid]
              exact ho
            · exact .inl ((h'.is_iff x).2 ⟨z, hz, e⟩)
          · exact .inr hx
        · rename_i ho
          rw [if_neg ho]
          refine key _ h' fun x hx => ?_
          rcases hx with hx | hx
          · obtain ⟨z, hz, e⟩ := isT_mem h hx
            left
            refine (h'.is_iff x).2 ?_
            rw [hy] at h' ⊢
            have hp := setE_perm hy a.code a.val
            rcases List.mem_cons.1 ((del_perm hy).mem_iff.1 hz) with e2 | hz
            · exact ⟨⟨y.id, true, a.code, a.val⟩, hp.mem_iff.2 (List.mem_cons_self ..), by rw [← e, e2]⟩
            · exact ⟨z, hp.mem_iff.2 (List.mem_cons_of_mem _ hz), e⟩
          · exact .inr hx
      · rename_i hs
        rw [if_neg hs]
        exact hI
    · rename_i hk2
      rw [if_neg hk2]
      split at h'
      · rename_i hk3
        rw [if_pos hk3]
        refine ⟨?_, fun e => by cases e⟩
        dsimp only at h' ⊢
        refine key _ h' fun x hx => ?_
        rcases hx with hx | hx
        · obtain ⟨z, hz, e⟩ := isT_mem h hx
          by_cases hm : z ∈ (t.rse a.x.n a.x.l a.n).L
          · exact .inl ((h'.is_iff x).2 ⟨z, hm, e⟩)
          · right
            unfold Tt.rse at hm ⊢
            split at hm
            · exact absurd hz hm
            · rename_i hc
              rw [if_neg hc]
              have hk : keepR { t with F := nF t.F a.x.n a.x.l a.n } a.x.n a.x.l z = false := by
                cases hq : keepR { t with F := nF t.F a.x.n a.x.l a.n } a.x.n a.x.l z with
                | false => rfl
                | true => exact absurd (List.mem_filter.2 ⟨hz, hq⟩) hm
              unfold keepR at hk
              simp only [Bool.or_eq_false_iff, Bool.not_eq_false'] at hk
              rw [← e]
              exact hk.2
        · exact .inr (Tt.old_rse hx)
      · rename_i hk3
        rw [if_neg hk3]
        exact ⟨hI, fun e => by cases e⟩
/-- roots stand within the window; those that have ended are not old. -/
def FewI (t : Tt) : Prop := ∀ y ∈ t.L, y.id.d = 0 → y.id.s ≤ floorF t.F y.id.n y.id.l + t.win ∧ (y.en = true → floorF t.F y.id.n y.id.l < y.id.s)
theorem FewI.act {t : Tt} {a : Ac} (hF : FewI t) : FewI (t.act a).2 ∧ (t.act a).2.win = t.win := by
  unfold Tt.act
  split
  · rcases t.beg_cases a.x with ⟨h1, hok, hs, h2⟩ | ⟨h1, h2⟩
    · dsimp only
      rw [h2]
      refine ⟨fun y hy hd => ?_, rfl⟩
      rcases List.mem_cons.1 ((ins_perm t.L a.x).mem_iff.1 hy) with rfl | hy
      · obtain ⟨_, _, hf⟩ := Tt.state_new hs
        refine ⟨?_, fun e => by cases e⟩
        unfold Tt.far at hf
        dsimp only at hd ⊢
        simp [hd] at hf
        omega
      · exact hF y hy hd
    · dsimp only
      rw [h2]
      exact ⟨hF, rfl⟩
  · split
    · dsimp only
      unfold Tt.fin
      split
      · rename_i hs
        obtain ⟨y, hy, hyid, _⟩ := Tt.state_one hs
        dsimp only
        split
        · exact ⟨fun z hz hd => hF z ((del_sub _ _).subset hz) hd, rfl⟩
        · rename_i ho
          rw [hy]
          refine ⟨fun z hz hd => ?_, rfl⟩
          rcases List.mem_cons.1 ((setE_perm hy a.code a.val).mem_iff.1 hz) with rfl | hz
          · have h1 := hF y (List.mem_of_getElem? hy) hd
            refine ⟨h1.1, fun _ => ?_⟩
            dsimp only at hd ⊢
            have h2 : t.old y.id = false := by rw [hyid]; simpa using ho
            unfold Tt.old at h2
            simp [hd] at h2
            exact h2
          · exact hF z ((del_sub _ _).subset hz) hd
      · exact ⟨hF, rfl⟩
    · split
      · dsimp only
        unfold Tt.rse
        split
        · exact ⟨hF, rfl⟩
        · rename_i hc
          refine ⟨fun y hy hd => ?_, rfl⟩
          obtain ⟨hy, hk⟩ := List.mem_filter.1 hy
          have h1 := hF y hy hd
          have e := floor_nF t.F a.x.n a.x.l a.n y.id.n y.id.l
          dsimp only
          rw [e]
          split
          · rename_i hx
            have hu : ¬ a.n ≤ floorF t.F a.x.n a.x.l := fun hu => hc (.inr (.inr hu))
            rw [hx.1, hx.2] at h1
            refine ⟨by omega, fun he => ?_⟩
            unfold keepR Tt.old at hk
            dsimp only at hk
            rw [e, if_pos hx] at hk
            simp [hx.1, hx.2, he, hd] at hk
            exact hk
          · exact h1
      · exact ⟨hF, rfl⟩

end Go.Proofs.Ytldbmmganicliaa
