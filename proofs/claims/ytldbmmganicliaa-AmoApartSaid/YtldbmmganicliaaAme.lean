/-
  The program's table: what a change of one of its maps makes of it; plain: what Begin, End, Raise make of a table keep it right. Condition: the table lies in memory, numbers fit their kinds.
-/
import Derived.Test.YtldbmmganicliaaAmd
import Derived.Test.YtldbmmganicliaaAdb
import Derived.Test.YtldbmmganicliaaAde
import Derived.Test.YtldbmmganicliaaAdw
namespace Go.Proofs.Ytldbmmganicliaa
set_option linter.unusedSimpArgs false
set_option linter.unusedVariables false
open Go.RowKit Go.Maps Go.Sort

theorem Tt.old_floor {t : Tt} {x : I10} (h : t.old x = true) : x.d = 0 ∧ x.s ≤ floorF t.F x.n x.l := by
  unfold Tt.old at h
  simpa using h
theorem cmp_lt_trans {x y z : I10} (hx : x.Fit) (hy : y.Fit) (hz : z.Fit) (h1 : x.cmp y < 0) (h2 : y.cmp z < 0) : x.cmp z < 0 := by
  have h := cmp_trans hx hy hz (by omega) (by omega)
  rcases Int.lt_or_eq_of_le h with h | h
  · exact h
  · have e := (cmp_zero hx hz).1 h
    subst e
    have := cmp_anti hx hy
    omega
theorem cmp_lt_of {x y : I10} (hx : x.Fit) (hy : y.Fit) (h : ¬ x.cmp y < 0) (hne : x ≠ y) : y.cmp x < 0 := by
  have e := cmp_anti hx hy
  have : x.cmp y ≠ 0 := fun e => hne ((cmp_zero hx hy).1 e)
  omega
theorem fndT_pre {L : List Rw} {x : I10} : ∀ y ∈ L.take (fndT L x), y.id.cmp x < 0 := by
  intro y hy
  have e : L.take (fndT L x) = L.takeWhile fun y => decide (y.id.cmp x < 0) := by
    unfold fndT
    clear hy
    induction L with
    | nil => rfl
    | cons a L ih =>
      rw [List.takeWhile_cons]
      split
      · rw [List.length_cons, List.take_succ_cons, ih]
      · rfl
  rw [e] at hy
  have := List.all_takeWhile (p := fun y : Rw => decide (y.id.cmp x < 0)) (l := L)
  rw [List.all_eq_true] at this
  simpa using this y hy
theorem fndT_at {L : List Rw} {x : I10} {y : Rw} (h : L[fndT L x]? = some y) : ¬ y.id.cmp x < 0 := by
  unfold fndT at h
  induction L with
  | nil => cases h
  | cons a L ih =>
    rw [List.takeWhile_cons] at h
    split at h
    · rw [List.length_cons, List.getElem?_cons_succ] at h
      exact ih h
    · rename_i hn
      simp only [List.length_nil, List.getElem?_cons_zero, Option.some.injEq] at h
      subst h
      simpa using hn
theorem ins_perm (L : List Rw) (x : I10) : (insT L x).Perm (⟨x, false, 0, ⟨#[]⟩⟩ :: L) := by
  unfold insT
  have e : (⟨x, false, 0, ⟨#[]⟩⟩ :: L : List Rw) = ⟨x, false, 0, ⟨#[]⟩⟩ :: (L.take (fndT L x) ++ L.drop (fndT L x)) := by rw [List.take_append_drop]
  rw [e, List.append_assoc]
  exact List.perm_middle
theorem Tt.Ok.ins {t : Tt} (h : t.Ok) {x : I10} (rx : x.Rng) (hok : x.ok = true) (hn : isT t.L x = false) : ({t with L := insT t.L x} : Tt).Ok := by
  have fx : x.Fit := fit_of_ok rx.d.1 hok
  have hm : ∀ y ∈ insT t.L x, y = ⟨x, false, 0, ⟨#[]⟩⟩ ∨ y ∈ t.L := fun y hy => by simpa using (ins_perm t.L x).mem_iff.1 hy
  have hne : ∀ y ∈ t.L, y.id ≠ x := fun y hy e => by
    rw [(h.is_iff x).2 ⟨y, hy, e⟩] at hn
    cases hn
  refine ⟨fun y hy => ?_, ?_, fun y hy he => ?_, h.frng, h.fmax, h.fap, h.win⟩
  · rcases hm y hy with rfl | hy
    · exact ⟨rx, hok, by simp⟩
    · exact h.rng y hy
  · have hpost : ∀ y ∈ t.L.drop (fndT t.L x), x.cmp y.id < 0 := by
      intro y hy
      obtain ⟨j, hj, e⟩ := List.getElem_of_mem hy
      rw [List.getElem_drop] at e
      have hjl : fndT t.L x + j < t.L.length := by rw [List.length_drop] at hj; omega
      have h0 : fndT t.L x < t.L.length := by omega
      obtain ⟨z, hz⟩ : ∃ z, t.L[fndT t.L x]? = some z := ⟨_, List.getElem?_eq_getElem h0⟩
      have hzm : z ∈ t.L := List.mem_of_getElem? hz
      have h1 : x.cmp z.id < 0 := cmp_lt_of (h.fit hzm) fx (fndT_at hz) (hne z hzm)
      have hym : y ∈ t.L := List.mem_of_mem_drop hy
      rcases Nat.eq_zero_or_pos j with rfl | hp
      · obtain ⟨h0', hz'⟩ := List.getElem?_eq_some_iff.1 hz
        simp only [Nat.add_zero] at e
        rw [← e, hz']
        exact h1
      · obtain ⟨h0', hz'⟩ := List.getElem?_eq_some_iff.1 hz
        have := List.pairwise_iff_getElem.1 h.rise (fndT t.L x) (fndT t.L x + j) h0 hjl (by omega)
        rw [e, hz'] at this
        exact cmp_lt_trans fx (h.fit hzm) (h.fit hym) h1 this
    have hr := h.rise
    rw [← List.take_append_drop (fndT t.L x) t.L] at hr
    obtain ⟨p1, p2, p3⟩ := List.pairwise_append.1 hr
    unfold insT
    rw [List.append_assoc]
    refine List.pairwise_append.2 ⟨p1, List.pairwise_append.2 ⟨by simp, p2, fun a ha y hy => ?_⟩, fun a ha y hy => ?_⟩
    · obtain rfl : a = ⟨x, false, 0, ⟨#[]⟩⟩ := by simpa using ha
      exact hpost y hy
    · rcases List.mem_append.1 hy with hy | hy
      · obtain rfl : y = ⟨x, false, 0, ⟨#[]⟩⟩ := by simpa using hy
        exact fndT_pre a ha
      · exact p3 a ha y hy
  · rcases hm y hy with rfl | hy
    · exact ⟨rfl, rfl⟩
    · exact h.run y hy he
theorem Tt.Ok.sub {t : Tt} (h : t.Ok) {L' : List Rw} (hs : L'.Sublist t.L) : ({t with L := L'} : Tt).Ok :=
  ⟨fun y hy => h.rng y (hs.subset hy), h.rise.sublist hs, fun y hy => h.run y (hs.subset hy), h.frng, h.fmax, h.fap, h.win⟩
theorem del_sub (L : List Rw) (k : Nat) : (delT L k).Sublist L := by
  have e : delT L k = L.eraseIdx k := by
    unfold delT
    rw [List.eraseIdx_eq_take_drop_succ]
  rw [e]
  exact List.eraseIdx_sublist ..
theorem del_perm {L : List Rw} {k : Nat} {y : Rw} (h : L[k]? = some y) : L.Perm (y :: delT L k) := by
  obtain ⟨hk, e⟩ := List.getElem?_eq_some_iff.1 h
  have e1 : L = L.take k ++ y :: L.drop (k + 1) := by
    rw [← e, ← List.drop_eq_getElem_cons hk, List.take_append_drop]
  have e2 : (L.take k ++ y :: L.drop (k + 1)).Perm (y :: (L.take k ++ L.drop (k + 1))) := List.perm_middle
  unfold delT
  rw [← e1] at e2
  exact e2
theorem setE_perm {L : List Rw} {k : Nat} {y : Rw} (h : L[k]? = some y) (code : Int) (val : ByteArray) : (setE L k y code val).Perm (⟨y.id, true, code, val⟩ :: delT L k) := by
  obtain ⟨hk, e⟩ := List.getElem?_eq_some_iff.1 h
  unfold setE delT
  rw [List.set_eq_take_append_cons_drop, if_pos hk]
  exact List.perm_middle
theorem Tt.Ok.setE {t : Tt} (h : t.Ok) {k : Nat} {y : Rw} (hy : t.L[k]? = some y) {code : Int} {val : ByteArray} (rc : 0 ≤ code ∧ code ≤ 255) : ({t with L := Go.Proofs.Ytldbmmganicliaa.setE t.L k y code val} : Tt).Ok := by
  obtain ⟨hk, e⟩ := List.getElem?_eq_some_iff.1 hy
  have hm : ∀ z ∈ Go.Proofs.Ytldbmmganicliaa.setE t.L k y code val, z = ⟨y.id, true, code, val⟩ ∨ z ∈ t.L := fun z hz => by
    rcases List.mem_or_eq_of_mem_set hz with h | h
    · exact .inr h
    · exact .inl h
  have hym := List.mem_of_getElem? hy
  refine ⟨fun z hz => ?_, ?_, fun z hz he => ?_, h.frng, h.fmax, h.fap, h.win⟩
  · rcases hm z hz with rfl | hz
    · exact ⟨(h.rng y hym).1, (h.rng y hym).2.1, rc⟩
    · exact h.rng z hz
  · have e2 : (Go.Proofs.Ytldbmmganicliaa.setE t.L k y code val).map (·.id) = t.L.map (·.id) := by
      unfold Go.Proofs.Ytldbmmganicliaa.setE
      rw [List.map_set]
      refine List.ext_getElem? fun i => ?_
      rw [List.getElem?_set]
      split
      · rename_i hik
        subst hik
        rw [List.length_map, if_pos hk, List.getElem?_map, hy]
        rfl
      · rfl
    have h1 : (t.L.map (·.id)).Pairwise fun a b => a.cmp b < 0 := List.pairwise_map.2 h.rise
    rw [← e2] at h1
    exact List.pairwise_map.1 h1
  · rcases hm z hz with rfl | hz
    · cases he
    · exact h.run z hz he
theorem nF_mem {F : List Fw} {n l u : Int} {y : Fw} (h : y ∈ nF F n l u) : y = ⟨n, l, u⟩ ∨ (y ∈ F ∧ ¬ (y.n = n ∧ y.l = l)) := by
  unfold nF FJ at h
  rw [List.take_length] at h
  rcases List.mem_cons.1 h with h | h
  · exact .inl h
  · obtain ⟨h1, h2⟩ := List.mem_filter.1 h
    refine .inr ⟨h1, fun e => ?_⟩
    simp [keepF, e.1, e.2] at h2
theorem Tt.Ok.nF {t : Tt} (h : t.Ok) {n l u : Int} (rn : 0 ≤ n ∧ n ≤ 255) (rl : 0 ≤ l ∧ l ≤ 65535) (ru : 0 ≤ u ∧ u ≤ 1048576) : ({t with F := Go.Proofs.Ytldbmmganicliaa.nF t.F n l u} : Tt).Ok := by
  refine ⟨h.rng, h.rise, h.run, nF_rng rn rl ⟨ru.1, by omega⟩ h.frng, fun y hy => ?_, ?_, h.win⟩
  · rcases nF_mem hy with rfl | ⟨hy, _⟩
    · exact ru.2
    · exact h.fmax y hy
  · unfold Go.Proofs.Ytldbmmganicliaa.nF FJ
    rw [List.take_length]
    refine List.pairwise_cons.2 ⟨fun y hy e => ?_, h.fap.filter _⟩
    have h2 := (List.mem_filter.1 hy).2
    have e1 : y.n = n := e.1.symm
    have e2 : y.l = l := e.2.symm
    simp [keepF, e1, e2] at h2
theorem lt_maxLenA {n : Nat} (h : n ≤ 1000000) : n < maxLen := by
  unfold maxLen
  omega
section
variable {W : World} {b m k c : Nat} {t : Tt}
theorem keyne (h : t.Ok) {x : I10} (rx : x.Rng) (hn : isT t.L x = false) : ∀ y ∈ t.L, y.key ≠ x.lit := fun y hy e => by
  have := ilit_inj (h.rng y hy).1 rx e
  rw [(h.is_iff x).2 ⟨y, hy, this⟩] at hn
  cases hn
theorem PT.ins (h : PT W b m k c t) (x : I10) (rx : x.Rng) (hok : x.ok = true) (hn : isT t.L x = false) (hc : c ≤ 1000000) :
    ∃ W', (Instr.mapUpdate 82 (.map (some m)) (.agg #[.int .u8 x.n, .int .u16 x.l, .int .u32 x.s, .int .u8 x.d, .int .u8 x.a0, .int .u8 x.a1, .int .u8 x.b0, .int .u8 x.b1, .int .u8 x.c0, .int .u8 x.c1]) (.agg #[.int .u8 x.n, .int .u16 x.l, .int .u32 x.s, .int .u8 x.d, .int .u8 x.a0, .int .u8 x.a1, .int .u8 x.b0, .int .u8 x.b1, .int .u8 x.c0, .int .u8 x.c1, .bool false, .int .u8 0, .string ⟨#[]⟩])).run Try.prog W = .ok () W' ∧ PT W' b m k (c + 1) {t with L := insT t.L x} ∧ KP (fun q => q = m) W W' := by
  obtain ⟨nn, D, hk, O, M⟩ := h.rows
  obtain ⟨W', hrun, O', ht⟩ := O.store idKeyed mapR (lt_maxLenA (Nat.le_trans hk hc)) (idKey x rx) (rwElem_mk ⟨x, false, 0, ⟨#[]⟩⟩)
  have hp : KP (fun q => q = m) W W' := KP.grown ht.grown fun k e => (Option.some.inj e).symm
  refine ⟨W', hrun, ⟨(hp.block b h.bl h.bm).trans h.blk, ⟨nn + 1, _, by omega, O', ?_⟩, ?_, h.ne, h.ok.ins rx hok hn⟩, hp⟩
  · have := M.putNew (O.tidy idKeyed) O.isMap ⟨x, false, 0, ⟨#[]⟩⟩ (idKeyed.key (idKey x rx)) (keyne h.ok rx hn)
    exact this.perm (ins_perm t.L x)
  · obtain ⟨nn', D', hk', ⟨es', cl', hm', F', hs', hD'⟩, M'⟩ := h.flo
    exact ⟨nn', D', by omega, ⟨es', cl', (hp.block k h.kl (fun e => h.ne e.symm)).trans hm', F', hs', hD'⟩, M'⟩
theorem PT.setE (h : PT W b m k c t) {j : Nat} {y : Rw} (hy : t.L[j]? = some y) (code : Int) (val : ByteArray) (rc : 0 ≤ code ∧ code ≤ 255) (hc : c ≤ 1000000) :
    ∃ W', (Instr.mapUpdate 82 (.map (some m)) (.agg #[.int .u8 y.id.n, .int .u16 y.id.l, .int .u32 y.id.s, .int .u8 y.id.d, .int .u8 y.id.a0, .int .u8 y.id.a1, .int .u8 y.id.b0, .int .u8 y.id.b1, .int .u8 y.id.c0, .int .u8 y.id.c1]) (.agg #[.int .u8 y.id.n, .int .u16 y.id.l, .int .u32 y.id.s, .int .u8 y.id.d, .int .u8 y.id.a0, .int .u8 y.id.a1, .int .u8 y.id.b0, .int .u8 y.id.b1, .int .u8 y.id.c0, .int .u8 y.id.c1, .bool true, .int .u8 code, .string val])).run Try.prog W = .ok () W' ∧ PT W' b m k (c + 1) {t with L := Go.Proofs.Ytldbmmganicliaa.setE t.L j y code val} ∧ KP (fun q => q = m) W W' := by
  obtain ⟨nn, D, hk, O, M⟩ := h.rows
  have rx := (h.ok.rng y (List.mem_of_getElem? hy)).1
  obtain ⟨W', hrun, O', ht⟩ := O.store idKeyed mapR (lt_maxLenA (Nat.le_trans hk hc)) (idKey y.id rx) (rwElem_mk ⟨y.id, true, code, val⟩)
  have hp : KP (fun q => q = m) W W' := KP.grown ht.grown fun k e => (Option.some.inj e).symm
  refine ⟨W', hrun, ⟨(hp.block b h.bl h.bm).trans h.blk, ⟨nn + 1, _, by omega, O', ?_⟩, ?_, h.ne, h.ok.setE hy rc⟩, hp⟩
  · have := (M.perm (del_perm hy).symm).putOld (O.tidy idKeyed) O.isMap ⟨y.id, true, code, val⟩ (idKeyed.key (idKey y.id rx)) rfl
    exact this.perm (setE_perm hy code val)
  · obtain ⟨nn', D', hk', ⟨es', cl', hm', F', hs', hD'⟩, M'⟩ := h.flo
    exact ⟨nn', D', by omega, ⟨es', cl', (hp.block k h.kl (fun e => h.ne e.symm)).trans hm', F', hs', hD'⟩, M'⟩
theorem PT.delR (h : PT W b m k c t) {j : Nat} {y : Rw} (hy : t.L[j]? = some y) (ty : TypeId) :
    ∃ W', (Builtin.delete_ #[82, 37] ty #[.map (some m), .agg #[.int .u8 y.id.n, .int .u16 y.id.l, .int .u32 y.id.s, .int .u8 y.id.d, .int .u8 y.id.a0, .int .u8 y.id.a1, .int .u8 y.id.b0, .int .u8 y.id.b1, .int .u8 y.id.c0, .int .u8 y.id.c1]]).run Try.prog W = .ok (.tuple #[]) W' ∧ PT W' b m k c {t with L := delT t.L j} ∧ KP (fun q => q = m) W W' := by
  obtain ⟨nn, D, hk, O, M⟩ := h.rows
  have rx := (h.ok.rng y (List.mem_of_getElem? hy)).1
  obtain ⟨W', hrun, O', ht⟩ := O.drop idKeyed mapR (idKey y.id rx) ty
  have hp : KP (fun q => q = m) W W' := KP.grown ht.grown fun k e => (Option.some.inj e).symm
  refine ⟨W', hrun, ⟨(hp.block b h.bl h.bm).trans h.blk, ⟨nn, _, hk, O', (M.perm (del_perm hy).symm).del (O.tidy idKeyed)⟩, ?_, h.ne, h.ok.sub (del_sub _ _)⟩, hp⟩
  obtain ⟨nn', D', hk', ⟨es', cl', hm', F', hs', hD'⟩, M'⟩ := h.flo
  exact ⟨nn', D', hk', ⟨es', cl', (hp.block k h.kl (fun e => h.ne e.symm)).trans hm', F', hs', hD'⟩, M'⟩
theorem PT.putF (h : PT W b m k c t) (n l u : Int) (rn : 0 ≤ n ∧ n ≤ 255) (rl : 0 ≤ l ∧ l ≤ 65535) (ru : 0 ≤ u ∧ u ≤ 1048576) (hc : c ≤ 1000000) :
    ∃ W', (Instr.mapUpdate 83 (.map (some k)) (.agg #[.int .u8 n, .int .u16 l]) (.int .u32 u)).run Try.prog W = .ok () W' ∧ PT W' b m k (c + 1) {t with F := Go.Proofs.Ytldbmmganicliaa.nF t.F n l u} ∧ KP (fun q => q = k) W W' := by
  obtain ⟨nn, D, hk, O, M⟩ := h.flo
  obtain ⟨W', hrun, O', ht⟩ := O.store prKeyed mapF (lt_maxLenA (Nat.le_trans hk hc)) (prKey n l rn rl) (fElem_mk u)
  have hp : KP (fun q => q = k) W W' := KP.grown ht.grown fun k e => (Option.some.inj e).symm
  refine ⟨W', hrun, ⟨(hp.block b h.bl h.bk).trans h.blk, ?_, ⟨nn + 1, _, by omega, O', ?_⟩, h.ne, h.ok.nF rn rl ru⟩, hp⟩
  · obtain ⟨nn', D', hk', ⟨es', cl', hm', F', hs', hD'⟩, M'⟩ := h.rows
    exact ⟨nn', D', by omega, ⟨es', cl', (hp.block m h.ml h.ne).trans hm', F', hs', hD'⟩, M'⟩
  · have e : Go.Proofs.Ytldbmmganicliaa.nF t.F n l u = ⟨n, l, u⟩ :: t.F.filter (keepF n l) := by
      unfold Go.Proofs.Ytldbmmganicliaa.nF FJ
      rw [List.take_length]
    show MapG Fw.key Fw.dat _ (Go.Proofs.Ytldbmmganicliaa.nF t.F n l u)
    rw [e]
    have hkey := prKeyed.key (prKey n l rn rl)
    by_cases hx : ∃ y ∈ t.F, y.n = n ∧ y.l = l
    · obtain ⟨y, hy, e1, e2⟩ := hx
      have hp : t.F.Perm (y :: t.F.filter (keepF n l)) := by
        have hfr := h.ok.fap
        clear hp M O O' hrun ht e
        generalize t.F = F at hy hfr
        induction F with
        | nil => cases hy
        | cons a F ih =>
          obtain ⟨h1, h2⟩ := List.pairwise_cons.1 hfr
          by_cases ha : a.n = n ∧ a.l = l
          · have ea : a = y := by
              rcases List.mem_cons.1 hy with e | hy
              · exact e.symm
              · exact absurd ⟨ha.1.trans e1.symm, ha.2.trans e2.symm⟩ (h1 y hy)
            subst ea
            rw [List.filter_cons, if_neg (by simp [keepF, ha.1, ha.2])]
            refine List.Perm.cons _ ?_
            rw [List.filter_eq_self.2 fun z hz => ?_]
            have := h1 z hz
            simp only [keepF, Bool.not_eq_true', Bool.and_eq_false_iff, decide_eq_false_iff_not]
            by_cases hzn : z.n = n
            · right
              intro hzl
              exact this ⟨ha.1.trans hzn.symm, ha.2.trans hzl.symm⟩
            · left
              exact hzn
          · have hy' : y ∈ F := by
              rcases List.mem_cons.1 hy with e | hy
              · subst e
                exact absurd ⟨e1, e2⟩ ha
              · exact hy
            rw [List.filter_cons, if_pos (by
              simp only [keepF, Bool.not_eq_true', Bool.and_eq_false_iff, decide_eq_false_iff_not]
              by_cases hzn : a.n = n
              · right
                intro hzl
                exact ha ⟨hzn, hzl⟩
              · left
                exact hzn)]
            exact ((ih hy' h2).cons a).trans (List.Perm.swap ..)
      exact (M.perm hp.symm).putOld (O.tidy prKeyed) O.isMap ⟨n, l, u⟩ hkey (by show lit2 y.n y.l = lit2 n l; rw [e1, e2])
    · have hn : ∀ y ∈ t.F, ¬ (y.n = n ∧ y.l = l) := fun y hy e => hx ⟨y, hy, e⟩
      have e3 : t.F.filter (keepF n l) = t.F := List.filter_eq_self.2 fun z hz => by
        have := hn z hz
        simp only [keepF, Bool.not_eq_true', Bool.and_eq_false_iff, decide_eq_false_iff_not]
        by_cases hzn : z.n = n
        · right
          intro hzl
          exact this ⟨hzn, hzl⟩
        · left
          exact hzn
      rw [e3]
      exact M.putNew (O.tidy prKeyed) O.isMap ⟨n, l, u⟩ hkey (fun y hy e => hn y hy (lit2_inj (h.ok.frng y hy).n (h.ok.frng y hy).l rn rl e))
end

end Go.Proofs.Ytldbmmganicliaa
