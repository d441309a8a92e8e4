/-
  The store's Do as the law needs it: whatever it answers, a sorted list is left.
-/
import Derived.Test.YthmdnbgfnaokkaaDoorQknw
import Derived.Test.YthmdnbgfnaokkaaDoorQlst
namespace Go.Proofs.YthmdnbgfnaokkaaDoor
set_option linter.unusedSimpArgs false
set_option linter.unusedVariables false
open Go.RowKit Go.Sort


theorem outN_val {k m : Int} {key val : ByteArray} {x : W3} {c : Int} {v : ByteArray} {t : W3} (h : outN k m key val x = (c, v, t)) (h2 : k ≠ 0) (h3 : c = 0) (hv : val.size ≤ 64) : t.val.size ≤ 64 := by
  have hd : ∀ n, (digN (plusN x n).1).size ≤ 64 := fun n => Nat.le_trans (digN_size _ (plusN_bd x n).1 (plusN_bd x n).2) (by omega)
  unfold outN at h
  subst h3
  repeat' split at h
  all_goals first
    | exact absurd ‹k = 0› h2
    | (injection h with e1 e2; injection e2 with e2 e3; subst e3; first | exact hv | exact Nat.zero_le _ | exact hd _)
    | (injection h with e1 e2; exact absurd e1 (by decide))
theorem doN_some {g k m : Int} {key val : ByteArray} {L : List W3} {t : W3} (h : (doN g k m key val L).2.2 = some t) : t.key.size ≤ 16 ∧ t.val.size ≤ 64 := by
  unfold doN at h
  split at h
  · cases h
  · rename_i hr
    have hr' : rP g k m key val = true := by simpa using hr
    simp only [rP, Bool.and_eq_true, decide_eq_true_eq] at hr'
    split at h
    · cases h
    · rename_i hc
      split at h
      · cases h
      · have hk0 : k ≠ 0 := fun e => hc (.inr e)
        have hc0 : (outN k m key val (getW L key)).1 = 0 := by
          by_cases e : (outN k m key val (getW L key)).1 = 0
          · exact e
          · exact absurd (.inl e) hc
        injection h with h
        subst h
        exact ⟨outN_key (c := (outN k m key val (getW L key)).1) (v := (outN k m key val (getW L key)).2.1) rfl hk0 hc0 hr'.1.1.1.1.2, outN_val (c := (outN k m key val (getW L key)).1) (v := (outN k m key val (getW L key)).2.1) rfl hk0 hc0 hr'.1.1.1.2⟩
/-- the law's need of Do. -/
theorem doW (b bm kk : Nat) (g k m : Int) (key val : ByteArray) (L : List W3) (w : World) (B : Nat) (h : PSt b bm kk L w) (hO : OrdW L) (hb : b ≠ bm) (hkk : kk < maxLen) (hL : ∀ x ∈ L, x.val.size ≤ 3000) (hk0 : 0 ≤ k) (hm : m ≤ 9223372036854775807) (ht : Env B w) :
    Calls Tryd.prog 10 #[.pointer (some ⟨b, 0, none⟩), .agg #[.int .u8 g, .int .u8 k, .string key, .string val, .int .i64 m]] w fun e w' => ∃ v L', e = .returned v ∧ OrdW L' ∧ L'.length ≤ L.length + 1 ∧ (∀ x ∈ L', x.val.size ≤ 3000) ∧ PSt b bm (kk + 1) L' w' ∧ w.grownBy w' (some bm) := by
  refine (doS b bm kk g k m key val L w B h hb hkk hL hk0 hm ht).mono ?_
  rintro e w' ⟨sl, rfl, _, P, G⟩
  cases ho : (doN g k m key val L).2.2 with
  | none =>
    rw [ho] at P
    exact ⟨_, L, rfl, hO, Nat.le_succ _, hL, P, G⟩
  | some t =>
    rw [ho] at P
    obtain ⟨tk, tv⟩ := doN_some ho
    refine ⟨_, apR L t, rfl, ord_apR hO t, apR_len L t, fun y hy => ?_, P.perm (perm_apR hO t), G⟩
    rcases mem_apR hy with rfl | hm
    · omega
    · exact hL y hm

end Go.Proofs.YthmdnbgfnaokkaaDoor
