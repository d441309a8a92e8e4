/-
  The law's field of proposers and acceptors in memory; what calls and stores may change. No condition.
-/
import Derived.Test.YtfkmodmgihadkaaGzc
import Derived.Test.YtfkmodmgihadkaaGp6
import Derived.Deep.MidRow
namespace Go.Proofs.Ytfkmodmgihadkaa
set_option linter.unusedSimpArgs false
set_option linter.unusedVariables false
open Go.RowKit Go.Maps Go.Sort
open V (P2)
open Z (up up_same up_ne)

/-- where all lies. -/
structure Fc where
  bf : Nat
  n : Nat
  ab : Nat → Nat
  pb : Nat → Option (Nat × Nat)
  vl : Nat → Vl
  w : Nat → Bool
def Fc.ap (c : Fc) (i : Nat) : Value := .pointer (some ⟨c.ab i, 0, none⟩)
def ptO (o : Option (Nat × Nat)) : Value := .pointer (o.map fun z => ⟨z.1, 0, none⟩)
def Fc.row (c : Fc) : Array Value := #[.int .i64 c.n, c.ap 0, c.ap 1, c.ap 2, c.ap 3, c.ap 4, ptO (c.pb 0), ptO (c.pb 1), ptO (c.pb 2), ptO (c.pb 3), ptO (c.pb 4),
  (c.vl 0).m, (c.vl 0).t, (c.vl 1).m, (c.vl 1).t, (c.vl 2).m, (c.vl 2).t, (c.vl 3).m, (c.vl 3).t, (c.vl 4).m, (c.vl 4).t, .bool (c.w 0), .bool (c.w 1), .bool (c.w 2), .bool (c.w 3), .bool (c.w 4)]
theorem five_cases {x : Nat} (h : x < 5) : x = 0 ∨ x = 1 ∨ x = 2 ∨ x = 3 ∨ x = 4 := by omega
theorem Fc.row_a (c : Fc) {x : Nat} (h : x < 5) : c.row[1 + x]? = some (c.ap x) := by
  rcases five_cases h with rfl | rfl | rfl | rfl | rfl <;> rfl
theorem Fc.row_p (c : Fc) {x : Nat} (h : x < 5) : c.row[6 + x]? = some (ptO (c.pb x)) := by
  rcases five_cases h with rfl | rfl | rfl | rfl | rfl <;> rfl
theorem Fc.row_m (c : Fc) {x : Nat} (h : x < 5) : c.row[11 + x * 2]? = some (c.vl x).m := by
  rcases five_cases h with rfl | rfl | rfl | rfl | rfl <;> rfl
theorem Fc.row_t (c : Fc) {x : Nat} (h : x < 5) : c.row[11 + x * 2 + 1]? = some (c.vl x).t := by
  rcases five_cases h with rfl | rfl | rfl | rfl | rfl <;> rfl
theorem Fc.row_w (c : Fc) {x : Nat} (h : x < 5) : c.row[21 + x]? = some (.bool (c.w x)) := by
  rcases five_cases h with rfl | rfl | rfl | rfl | rfl <;> rfl
theorem Fc.set_p (c : Fc) {x : Nat} (h : x < 5) (o : Option (Nat × Nat)) : c.row.setIfInBounds (6 + x) (ptO o) = { c with pb := up c.pb x o }.row := by
  rcases five_cases h with rfl | rfl | rfl | rfl | rfl <;> simp [Fc.row, up, Fc.ap]
theorem Fc.set_a (c : Fc) {x : Nat} (h : x < 5) (k : Nat) : c.row.setIfInBounds (1 + x) (.pointer (some ⟨k, 0, none⟩)) = { c with ab := up c.ab x k }.row := by
  rcases five_cases h with rfl | rfl | rfl | rfl | rfl <;> simp [Fc.row, up, Fc.ap]
theorem Fc.set_w (c : Fc) {x : Nat} (h : x < 5) (b : Bool) : c.row.setIfInBounds (21 + x) (.bool b) = { c with w := up c.w x b }.row := by
  rcases five_cases h with rfl | rfl | rfl | rfl | rfl <;> simp [Fc.row, up, Fc.ap]
theorem Fc.set_v (c : Fc) {x : Nat} (h : x < 5) (v : Vl) : (c.row.setIfInBounds (11 + x * 2) v.m).setIfInBounds (11 + x * 2 + 1) v.t = { c with vl := up c.vl x v }.row := by
  rcases five_cases h with rfl | rfl | rfl | rfl | rfl <;> simp [Fc.row, up, Fc.ap]
/-- the field in memory. -/
structure FQ (base : Nat) (W : World) (c : Fc) (A : Nat → Ad) (Q : Nat → Option Pd) : Prop where
  fld : W.heap[c.bf]? = some (.cells c.row 36 (0, 0))
  acc : ∀ i, i < 5 → AP W (c.ab i) (A i)
  pro : ∀ i, i < 5 → (c.pb i = none ∧ Q i = none) ∨ ∃ b m d, c.pb i = some (b, m) ∧ Q i = some d ∧ PP base W b m d
  vok : ∀ i, i < 5 → (c.vl i).Ok W
  da : ∀ i j, i < 5 → j < 5 → c.ab i = c.ab j → i = j
  dp : ∀ i j b m b' m', i < 5 → j < 5 → c.pb i = some (b, m) → c.pb j = some (b', m') → (b = b' ∨ m = m') → i = j
  lo : base ≤ c.bf ∧ ∀ i, i < 5 → base ≤ c.ab i
theorem field_ty {W : World} {g k : Nat} {c1 c2 : Array Value} {t1 t2 : TypeId} (h1 : W.heap[g]? = some (.cells c1 t1 (0, 0))) (h2 : W.heap[k]? = some (.cells c2 t2 (0, 0))) (hne : t1 ≠ t2) : g ≠ k := apart_of h1 h2 hne
theorem field_map {W : World} {g k cl : Nat} {c1 : Array Value} {t1 : TypeId} {es : Array MapEntry} (h1 : W.heap[g]? = some (.cells c1 t1 (0, 0))) (h2 : W.heap[k]? = some (.map es cl)) : g ≠ k := fun e => by
  subst e
  rw [h1] at h2
  cases h2
theorem PP.pieces {base : Nat} {W : World} {b m : Nat} {d : Pd} (h : PP base W b m d) : (∃ cs, W.heap[b]? = some (.cells cs 73 (0, 0))) ∧ ∃ es cl, W.heap[m]? = some (.map es cl) := by
  obtain ⟨w, h⟩ := h
  exact ⟨⟨_, h.blk⟩, h.ct.lt⟩
theorem AP.piece {W : World} {b : Nat} {d : Ad} (h : AP W b d) : ∃ cs, W.heap[b]? = some (.cells cs 67 (0, 0)) := by
  obtain ⟨x, h, _⟩ := h
  exact ⟨_, h⟩
theorem PP.keep {base : Nat} {W W' : World} {b m : Nat} {d : Pd} (h : PP base W b m d) (k1 : W'.heap[b]? = W.heap[b]?) (k2 : W'.heap[m]? = W.heap[m]?) (k : Keeps W W') : PP base W' b m d := by
  obtain ⟨w, h⟩ := h
  exact ⟨w, h.keep k1 k2 k⟩
theorem FQ.below {base : Nat} {W W' : World} {c : Fc} {A : Nat → Ad} {Q : Nat → Option Pd} (h : FQ base W c A Q) (hb : Below W.heap.size W W') : FQ base W' c A Q :=
  ⟨(hb.block c.bf (heap_lt h.fld)).trans h.fld, fun i hi => (h.acc i hi).below hb, fun i hi => by
    rcases h.pro i hi with e | ⟨b, m, d, e1, e2, hp⟩
    · exact .inl e
    · exact .inr ⟨b, m, d, e1, e2, hp.below hb⟩, fun i hi => (h.vok i hi).keep (Keeps.of_below hb), h.da, h.dp, h.lo⟩
/-- an acceptor is called. -/
theorem FQ.acall {base : Nat} {W W' : World} {c : Fc} {A : Nat → Ad} {Q : Nat → Option Pd} (h : FQ base W c A Q) {x : Nat} (hx : x < 5) (a : Ad) (k : KP (fun j => j = c.ab x) W W') (ha : AP W' (c.ab x) a) : FQ base W' c (up A x a) Q := by
  have ks := (h.acc x hx).keeps k
  obtain ⟨cs, hcs⟩ := (h.acc x hx).piece
  refine ⟨(k.block c.bf (heap_lt h.fld) (field_ty h.fld hcs (by decide))).trans h.fld, fun i hi => ?_, fun i hi => ?_, fun i hi => (h.vok i hi).keep ks, h.da, h.dp, h.lo⟩
  · by_cases e : i = x
    · subst e
      rw [up_same]
      exact ha
    · rw [up_ne _ _ e]
      obtain ⟨cs', hcs'⟩ := (h.acc i hi).piece
      exact (h.acc i hi).keep (k.block _ (heap_lt hcs') fun eb => e (h.da i x hi hx eb)) ks
  · rcases h.pro i hi with e | ⟨b, m, d, e1, e2, hp⟩
    · exact .inl e
    · obtain ⟨⟨cs', h1⟩, es, cl, h2⟩ := hp.pieces
      exact .inr ⟨b, m, d, e1, e2, hp.keep (k.block b (heap_lt h1) (field_ty h1 hcs (by decide))) (k.block m (heap_lt h2) fun em => field_map hcs h2 em.symm) ks⟩
/-- a proposer is called. -/
theorem FQ.pcall {base : Nat} {W W' : World} {c : Fc} {A : Nat → Ad} {Q : Nat → Option Pd} (h : FQ base W c A Q) {x : Nat} (hx : x < 5) {b m : Nat} {d : Pd} (hb : c.pb x = some (b, m)) (hd : Q x = some d) (d' : Pd) (k : KP (FP b m) W W') (hp : PP base W' b m d') : FQ base W' c A (up Q x (some d')) := by
  have hp0 : PP base W b m d := by
    rcases h.pro x hx with ⟨e, _⟩ | ⟨b', m', d0, e1, e2, hp⟩
    · rw [e] at hb
      cases hb
    · rw [e1] at hb
      rw [e2] at hd
      cases hb
      cases hd
      exact hp
  have ks : Keeps W W' := by
    obtain ⟨w, hw⟩ := hp0
    exact hw.keeps k
  obtain ⟨⟨cs, hcs⟩, es, cl, hm⟩ := hp0.pieces
  refine ⟨(k.block c.bf (heap_lt h.fld) ?_).trans h.fld, fun i hi => ?_, fun i hi => ?_, fun i hi => (h.vok i hi).keep ks, h.da, h.dp, h.lo⟩
  · rintro (e | e)
    · exact field_ty h.fld hcs (by decide) e
    · exact field_map h.fld hm e
  · obtain ⟨cs', hcs'⟩ := (h.acc i hi).piece
    refine (h.acc i hi).keep (k.block _ (heap_lt hcs') ?_) ks
    rintro (e | e)
    · exact field_ty hcs' hcs (by decide) e
    · exact field_map hcs' hm e
  · by_cases e : i = x
    · subst e
      rw [up_same]
      exact .inr ⟨b, m, d', hb, rfl, hp⟩
    · rw [up_ne _ _ e]
      rcases h.pro i hi with e0 | ⟨b', m', d0, e1, e2, hp'⟩
      · exact .inl e0
      · obtain ⟨⟨cs', h1⟩, es', cl', h2⟩ := hp'.pieces
        refine .inr ⟨b', m', d0, e1, e2, hp'.keep (k.block b' (heap_lt h1) ?_) (k.block m' (heap_lt h2) ?_) ks⟩
        · rintro (e' | e')
          · exact e (h.dp i x b' m' b m hi hx e1 hb (.inl e'))
          · exact field_map h1 hm e'
        · rintro (e' | e')
          · exact field_map hcs h2 e'.symm
          · exact e (h.dp i x b' m' b m hi hx e1 hb (.inr e'))
/-- the field's own row is set. -/
theorem field_not : ¬ Ty 36 := by simp [Ty]
theorem FQ.keepsF {base : Nat} {W W' : World} {c : Fc} {A : Nat → Ad} {Q : Nat → Option Pd} (h : FQ base W c A Q) (k : KP (fun j => j = c.bf) W W') : Keeps W W' :=
  Keeps.of_KP k fun g cur t hg ht e => by
    have e' : g = c.bf := e
    rw [e'] at hg
    rw [h.fld] at hg
    injection hg with hg
    injection hg with _ e2 _
    exact field_not (e2 ▸ ht)
theorem FQ.fset {base : Nat} {W W' : World} {c c' : Fc} {A : Nat → Ad} {Q : Nat → Option Pd} (h : FQ base W c A Q) (k : KP (fun j => j = c.bf) W W') (hb : c'.bf = c.bf) (ha : c'.ab = c.ab) (hf : W'.heap[c.bf]? = some (.cells c'.row 36 (0, 0))) (Q' : Nat → Option Pd)
    (hp : ∀ i, i < 5 → (c'.pb i = none ∧ Q' i = none) ∨ ∃ b m d, c'.pb i = some (b, m) ∧ Q' i = some d ∧ PP base W b m d) (hv : ∀ i, i < 5 → (c'.vl i).Ok W)
    (dp : ∀ i j b m b' m', i < 5 → j < 5 → c'.pb i = some (b, m) → c'.pb j = some (b', m') → (b = b' ∨ m = m') → i = j) : FQ base W' c' A Q' := by
  have ks := h.keepsF k
  refine ⟨by rw [hb]; exact hf, fun i hi => ?_, fun i hi => ?_, fun i hi => (hv i hi).keep ks, by rw [ha]; exact h.da, dp, by rw [hb, ha]; exact h.lo⟩
  · rw [ha]
    obtain ⟨cs', hcs'⟩ := (h.acc i hi).piece
    exact (h.acc i hi).keep (k.block _ (heap_lt hcs') fun e => field_ty hcs' h.fld (by decide) e) ks
  · rcases hp i hi with e | ⟨b, m, d, e1, e2, hp'⟩
    · exact .inl e
    · obtain ⟨⟨cs', h1⟩, es', cl', h2⟩ := hp'.pieces
      exact .inr ⟨b, m, d, e1, e2, hp'.keep (k.block b (heap_lt h1) fun e => field_ty h1 h.fld (by decide) e) (k.block m (heap_lt h2) fun e => field_map h.fld h2 e.symm) ks⟩
/-- whom it asks now. -/
theorem FQ.setp {base : Nat} {W : World} {c : Fc} {A : Nat → Ad} {Q : Nat → Option Pd} (h : FQ base W c A Q) {x : Nat} (hx : x < 5) {b m : Nat} {d : Pd} (hp : PP base W b m d) (hf : ∀ i b' m', i < 5 → c.pb i = some (b', m') → b' ≠ b ∧ m' ≠ m) :
    FQ base (W.setCell ⟨c.bf, 6 + x, none⟩ (.pointer (some ⟨b, 0, none⟩))) { c with pb := up c.pb x (some (b, m)) } A (up Q x (some d)) := by
  refine h.fset (c' := { c with pb := up c.pb x (some (b, m)) }) (KP.set (S := fun j => j = c.bf) W c.bf _ _ rfl) rfl rfl ((row_set (i := 6 + x) h.fld (.pointer (some ⟨b, 0, none⟩))).trans (congrArg (fun r => some (Obj.cells r 36 (0, 0))) (Fc.set_p c hx (some (b, m))))) _ (fun i hi => ?_) h.vok (fun i j b1 m1 b2 m2 hi hj e1 e2 hor => ?_)
  · by_cases e : i = x
    · subst e
      exact .inr ⟨b, m, d, up_same _ _ _, up_same _ _ _, hp⟩
    · show (up c.pb x (some (b, m)) i = none ∧ _) ∨ ∃ b' m' d', up c.pb x (some (b, m)) i = _ ∧ _
      rw [up_ne _ _ e, up_ne _ _ e]
      exact h.pro i hi
  · have e1' : up c.pb x (some (b, m)) i = some (b1, m1) := e1
    have e2' : up c.pb x (some (b, m)) j = some (b2, m2) := e2
    by_cases ei : i = x <;> by_cases ej : j = x
    · omega
    · rw [ei, up_same] at e1'
      cases e1'
      rw [up_ne _ _ ej] at e2'
      have := hf j b2 m2 hj e2'
      rcases hor with e | e
      · exact absurd e.symm this.1
      · exact absurd e.symm this.2
    · rw [ej, up_same] at e2'
      cases e2'
      rw [up_ne _ _ ei] at e1'
      have := hf i b1 m1 hi e1'
      rcases hor with e | e
      · exact absurd e this.1
      · exact absurd e this.2
    · rw [up_ne _ _ ei] at e1'
      rw [up_ne _ _ ej] at e2'
      exact h.dp i j b1 m1 b2 m2 hi hj e1' e2' hor
theorem FQ.setw {base : Nat} {W : World} {c : Fc} {A : Nat → Ad} {Q : Nat → Option Pd} (h : FQ base W c A Q) {x : Nat} (hx : x < 5) (b : Bool) :
    FQ base (W.setCell ⟨c.bf, 21 + x, none⟩ (.bool b)) { c with w := up c.w x b } A Q :=
  h.fset (c' := { c with w := up c.w x b }) (KP.set (S := fun j => j = c.bf) W c.bf _ _ rfl) rfl rfl ((row_set (i := 21 + x) h.fld (.bool b)).trans (congrArg (fun r => some (Obj.cells r 36 (0, 0))) (Fc.set_w c hx b))) Q h.pro h.vok h.dp
theorem FQ.setv {base : Nat} {W : World} {c : Fc} {A : Nat → Ad} {Q : Nat → Option Pd} (h : FQ base W c A Q) {x : Nat} (hx : x < 5) (v : Vl) (hv : v.Ok W) :
    FQ base (W.setCells c.bf (11 + x * 2) [v.m, v.t]) { c with vl := up c.vl x v } A Q := by
  refine h.fset (c' := { c with vl := up c.vl x v }) (KP.setCells (S := fun j => j = c.bf) rfl [v.m, v.t] (11 + x * 2) W) rfl rfl ((row_set (i := 11 + x * 2 + 1) (row_set (i := 11 + x * 2) h.fld v.m) v.t).trans (congrArg (fun r => some (Obj.cells r 36 (0, 0))) (Fc.set_v c hx v))) Q h.pro (fun i hi => ?_) h.dp
  show (up c.vl x v i).Ok W
  by_cases e : i = x
  · subst e
    rw [up_same]
    exact hv
  · rw [up_ne _ _ e]
    exact h.vok i hi
theorem FQ.belowA {base : Nat} {W W' : World} {c : Fc} {A : Nat → Ad} {Q : Nat → Option Pd} (h : FQ base W c A Q) {x : Nat} (hx : x < 5) (k : KP (fun j => j = c.ab x) W W') (hs : base ≤ W.heap.size) : Below base W W' :=
  k.below hs fun j hj => by
    have e : j = c.ab x := hj
    rw [e]
    exact h.lo.2 x hx
theorem FQ.belowP {base : Nat} {W W' : World} {c : Fc} {A : Nat → Ad} {Q : Nat → Option Pd} (h : FQ base W c A Q) {x : Nat} (hx : x < 5) {b m : Nat} (hb : c.pb x = some (b, m)) (k : KP (FP b m) W W') (hs : base ≤ W.heap.size) : Below base W W' := by
  rcases h.pro x hx with ⟨e, _⟩ | ⟨b', m', d0, e1, e2, w, hw⟩
  · rw [e] at hb
    cases hb
  · rw [e1] at hb
    cases hb
    exact k.below hs hw.foot
theorem FQ.belowF {base : Nat} {W W' : World} {c : Fc} {A : Nat → Ad} {Q : Nat → Option Pd} (h : FQ base W c A Q) (k : KP (fun j => j = c.bf) W W') (hs : base ≤ W.heap.size) : Below base W W' :=
  k.below hs fun j hj => by
    have e : j = c.bf := hj
    rw [e]
    exact h.lo.1
theorem FQ.fresh {base : Nat} {W W' : World} {c : Fc} {A : Nat → Ad} {Q : Nat → Option Pd} (h : FQ base W c A Q) {b m s : Nat} (hs : W.heap.size ≤ s) (hb : s ≤ b) (hm : s ≤ m) : ∀ i b' m', i < 5 → c.pb i = some (b', m') → b' ≠ b ∧ m' ≠ m := fun i b' m' hi e => by
  rcases h.pro i hi with ⟨e0, _⟩ | ⟨b2, m2, d0, e1, e2, hp⟩
  · rw [e0] at e
    cases e
  · rw [e1] at e
    cases e
    obtain ⟨⟨cs', h1⟩, es', cl', h2⟩ := hp.pieces
    have := heap_lt h1
    have := heap_lt h2
    exact ⟨by omega, by omega⟩

end Go.Proofs.Ytfkmodmgihadkaa
