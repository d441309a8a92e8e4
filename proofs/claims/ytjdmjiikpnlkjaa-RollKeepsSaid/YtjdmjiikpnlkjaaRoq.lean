/-
  The law's field in memory: the orders, what is on its way; what calls may change. No condition.
-/
import Derived.Test.YtjdmjiikpnlkjaaRop
namespace Go.Proofs.Ytjdmjiikpnlkjaa
set_option linter.unusedSimpArgs false
set_option linter.unusedVariables false
open Go.RowKit Go.Maps Go.Sort
open V (P2)

/-- what is told, in memory. -/
structure Tl where
  to : Nat
  fr : Nat
  co : Nat
  A : Option Addr
  c : Nat
  L : List Le
def Tl.v (t : Tl) : Value := .slice t.A t.L.length t.c
def Tl.cs (t : Tl) : Array Value := #[.int .i64 t.to, .int .i64 t.fr, .int .i64 t.co, .slice t.A t.L.length t.c]
def Tl.p (t : Tl) : Tp := ⟨t.to, t.fr, t.co, t.L.map Le.v⟩
/-- where all lies. -/
structure Fa where
  bf : Nat
  n : Nat
  vr : Value
  bs : Nat → Nat
  ms : Nat → Nat
  lbs : Nat → Option Nat
  vf : Value
structure FM (base : Nat) (W : World) (a : Fa) (R : Nat → Rd) (F : List Tl) (c : Nat) : Prop where
  fld : W.heap[a.bf]? = some (.cells #[a.vr, a.vf, .int .i64 c] 35 (0, 0))
  rr : RowO W 36 1 a.vr a.n ((List.range a.n).map fun i => Value.pointer (some ⟨a.bs i, 0, none⟩))
  ff : RowO W 84 4 a.vf F.length (flat Tl.cs F)
  rolls : ∀ i, i < a.n → RP W (a.bs i) (a.ms i) (a.lbs i) (R i)
  db : ∀ i j, i < a.n → j < a.n → a.bs i = a.bs j → i = j
  dm : ∀ i j, i < a.n → j < a.n → a.ms i = a.ms j → i = j
  dl : ∀ i j k, i < a.n → j < a.n → a.lbs i = some k → a.lbs j = some k → i = j
  fl : ∀ t ∈ F, EnO W t.v t.L ∧ ∀ g i, t.v.ownBlock = some g → i < a.n → a.lbs i ≠ some g
  lo : base ≤ a.bf ∧ (∀ i, i < a.n → base ≤ a.bs i ∧ base ≤ a.ms i ∧ ∀ k, a.lbs i = some k → base ≤ k) ∧ ∀ g, a.vf.ownBlock = some g → base ≤ g
  few : F.length ≤ 100
theorem heap_ty {W : World} {g : Nat} {c1 c2 : Array Value} {t1 t2 : TypeId} (h1 : W.heap[g]? = some (.cells c1 t1 (0, 0))) (h2 : W.heap[g]? = some (.cells c2 t2 (0, 0))) : t1 = t2 := by
  rw [h1] at h2
  injection h2 with h2
  injection h2
theorem heap_nomap {W : World} {g cl : Nat} {c1 : Array Value} {t1 : TypeId} {es : Array MapEntry} (h1 : W.heap[g]? = some (.cells c1 t1 (0, 0))) (h2 : W.heap[g]? = some (.map es cl)) : False := by
  rw [h1] at h2
  cases h2
/-- blocks of other types are none of an order's. -/
theorem RQ.notFR {W : World} {b m : Nat} {d : Rd} {w : Rw} (h : RQ W b m d w) {g : Nat} {cur : Array Value} {t : TypeId} (hg : W.heap[g]? = some (.cells cur t (0, 0))) (h1 : t ≠ 81) (h2 : t ≠ 63) : ¬ FR b m w.lv.ownBlock g := by
  obtain ⟨es, cl, hm⟩ := h.tl.lt
  rintro (rfl | rfl | e)
  · exact h1 (heap_ty hg h.blk)
  · exact heap_nomap hg hm
  · obtain ⟨cur', hg'⟩ := RowO.block h.row g e
    exact h2 (heap_ty hg hg')
theorem FM.below {base : Nat} {W W' : World} {a : Fa} {R : Nat → Rd} {F : List Tl} {c : Nat} (h : FM base W a R F c) (hb : Below W.heap.size W W') : FM base W' a R F c :=
  ⟨(hb.block a.bf (heap_lt h.fld)).trans h.fld, h.rr.below hb, h.ff.below hb, fun i hi => (h.rolls i hi).below hb, h.db, h.dm, h.dl, fun t ht => ⟨(h.fl t ht).1.keep (Keeps.of_below hb), (h.fl t ht).2⟩, h.lo, h.few⟩
theorem FM.roll {base : Nat} {W W' : World} {a : Fa} {R : Nat → Rd} {F : List Tl} {c : Nat} (h : FM base W a R F c) {x : Nat} (hx : x < a.n) (lb : Option Nat) (d : Rd) (k : KP (FR (a.bs x) (a.ms x) (a.lbs x)) W W') (hp : RP W' (a.bs x) (a.ms x) lb d) (hl : lb = a.lbs x ∨ ∃ j, lb = some j ∧ W.heap.size ≤ j) (hs : base ≤ W.heap.size) :
    FM base W' { a with lbs := up a.lbs x lb } (up R x d) F c := by
  obtain ⟨wx, ex, qx⟩ := h.rolls x hx
  rw [← ex] at k
  have k3 := qx.keep3 k
  obtain ⟨esx, clx, hmx⟩ := qx.tl.lt
  have keepT : ∀ (g : Nat) (cur : Array Value) (t : TypeId), W.heap[g]? = some (.cells cur t (0, 0)) → t ≠ 81 → t ≠ 63 → W'.heap[g]? = W.heap[g]? := fun g cur t hg h1 h2 => k.block g (heap_lt hg) (qx.notFR hg h1 h2)
  have hlb : ∀ i g, i < a.n → a.lbs i = some g → g < W.heap.size ∧ ∃ cur, W.heap[g]? = some (.cells cur 63 (0, 0)) := fun i g hi e => by
    obtain ⟨wi, ei, qi⟩ := h.rolls i hi
    have e2 : wi.lv.ownBlock = some g := ei.trans e
    exact ⟨RowO.lt qi.row g e2, RowO.block qi.row g e2⟩
  refine ⟨(keepT _ _ _ h.fld (by decide) (by decide)).trans h.fld, h.rr.keepB fun g hg => ?_, h.ff.keepB fun g hg => ?_, fun i hi => ?_, h.db, h.dm, fun i j q hi hj e1 e2 => ?_, fun t ht => ⟨?_, fun g i hg hi => ?_⟩, ⟨h.lo.1, fun i hi => ⟨(h.lo.2.1 i hi).1, (h.lo.2.1 i hi).2.1, fun q hq => ?_⟩, h.lo.2.2⟩, h.few⟩
  · obtain ⟨cur, hc⟩ := RowO.block h.rr g hg
    exact keepT g cur _ hc (by decide) (by decide)
  · obtain ⟨cur, hc⟩ := RowO.block h.ff g hg
    exact keepT g cur _ hc (by decide) (by decide)
  · show RP W' (a.bs i) (a.ms i) (up a.lbs x lb i) (up R x d i)
    by_cases e : i = x
    · subst e
      rw [up_same, up_same]
      exact hp
    · rw [up_ne _ _ e, up_ne _ _ e]
      obtain ⟨wi, ei, qi⟩ := h.rolls i hi
      obtain ⟨esi, cli, hmi⟩ := qi.tl.lt
      refine ⟨wi, ei, qi.keep (k.block _ qi.ltb ?_) (k.block _ qi.ltm ?_) (fun j hj => k.block j (RowO.lt qi.row j hj) ?_) k3⟩
      · rintro (e1 | e1 | e1)
        · exact e (h.db i x hi hx e1)
        · exact heap_nomap (e1 ▸ qi.blk) hmx
        · obtain ⟨cur', hg'⟩ := RowO.block qx.row _ e1
          exact absurd (heap_ty qi.blk hg') (by decide)
      · rintro (e1 | e1 | e1)
        · exact heap_nomap (e1 ▸ qx.blk) hmi
        · exact e (h.dm i x hi hx e1)
        · obtain ⟨cur', hg'⟩ := RowO.block qx.row _ e1
          exact heap_nomap hg' hmi
      · obtain ⟨cur, hc⟩ := RowO.block qi.row j hj
        rintro (e1 | e1 | e1)
        · exact absurd (heap_ty (e1 ▸ hc) qx.blk) (by decide)
        · exact heap_nomap (e1 ▸ hc) hmx
        · exact e (h.dl i x j hi hx (ei ▸ hj) (ex ▸ e1))
  · have fresh : ∀ r, r < a.n → lb = some q → a.lbs r = some q → r = x := fun r hr e3 e4 => by
      rcases hl with h1 | ⟨j, h1, h2⟩
      · exact h.dl r x q hr hx e4 (h1 ▸ e3)
      · rw [h1] at e3
        injection e3 with e3
        have := (hlb r q hr e4).1
        omega
    change up a.lbs x lb i = some q at e1
    change up a.lbs x lb j = some q at e2
    by_cases ei : i = x
    · subst ei
      rw [up_same] at e1
      by_cases ej : j = i
      · exact ej.symm
      · rw [up_ne _ _ ej] at e2
        exact (fresh j hj e1 e2).symm
    · rw [up_ne _ _ ei] at e1
      by_cases ej : j = x
      · subst ej
        rw [up_same] at e2
        exact fresh i hi e2 e1
      · rw [up_ne _ _ ej] at e2
        exact h.dl i j q hi hj e1 e2
  · refine ⟨RowO.keepB (h.fl t ht).1.row fun g hg => ?_, fun e he => ((h.fl t ht).1.all e he).keepL k3.l⟩
    obtain ⟨cur, hc⟩ := RowO.block (h.fl t ht).1.row g hg
    refine k.block g (heap_lt hc) ?_
    rintro (e1 | e1 | e1)
    · exact absurd (heap_ty (e1 ▸ hc) qx.blk) (by decide)
    · exact heap_nomap (e1 ▸ hc) hmx
    · exact (h.fl t ht).2 g x hg hx (ex ▸ e1)
  · show up a.lbs x lb i ≠ some g
    by_cases e : i = x
    · subst e
      rw [up_same]
      rcases hl with h1 | ⟨j, h1, h2⟩
      · rw [h1]
        exact (h.fl t ht).2 g i hg hi
      · intro e3
        rw [h1] at e3
        injection e3 with e3
        have := RowO.lt (h.fl t ht).1.row g hg
        omega
    · rw [up_ne _ _ e]
      exact (h.fl t ht).2 g i hg hi
  · change up a.lbs x lb i = some q at hq
    by_cases e : i = x
    · subst e
      rw [up_same] at hq
      rcases hl with h1 | ⟨j, h1, h2⟩
      · exact (h.lo.2.1 i hi).2.2 q (h1 ▸ hq)
      · rw [h1] at hq
        injection hq with hq
        omega
    · rw [up_ne _ _ e] at hq
      exact (h.lo.2.1 i hi).2.2 q hq
theorem FM.belowR {base : Nat} {W W' : World} {a : Fa} {R : Nat → Rd} {F : List Tl} {c : Nat} (h : FM base W a R F c) {x : Nat} (hx : x < a.n) (k : KP (FR (a.bs x) (a.ms x) (a.lbs x)) W W') (hs : base ≤ W.heap.size) : Below base W W' :=
  k.belowR hs (h.lo.2.1 x hx).1 (h.lo.2.1 x hx).2.1 (h.lo.2.1 x hx).2.2
theorem FM.belowF {base : Nat} {W W' : World} {a : Fa} {R : Nat → Rd} {F : List Tl} {c : Nat} (h : FM base W a R F c) (k : KP (fun j => a.vf.ownBlock = some j ∨ j = a.bf) W W') (hs : base ≤ W.heap.size) : Below base W W' :=
  k.below hs fun j hj => by
    rcases hj with e | rfl
    · exact h.lo.2.2 j e
    · exact h.lo.1
/-- the field's own cells, and what is on its way, set anew. -/
theorem FM.fly {base : Nat} {W W' : World} {a : Fa} {R : Nat → Rd} {F F' : List Tl} {c c' : Nat} (h : FM base W a R F c) (vf : Value) (k : KP (fun j => a.vf.ownBlock = some j ∨ j = a.bf) W W') (hf : W'.heap[a.bf]? = some (.cells #[a.vr, vf, .int .i64 c'] 35 (0, 0))) (hr : RowO W' 84 4 vf F'.length (flat Tl.cs F'))
    (hl : ∀ t ∈ F', EnO W t.v t.L ∧ ∀ g i, t.v.ownBlock = some g → i < a.n → a.lbs i ≠ some g) (hb : ∀ g, vf.ownBlock = some g → base ≤ g) (hc : F'.length ≤ 100) : FM base W' { a with vf := vf } R F' c' := by
  have keepT : ∀ (g : Nat) (cur : Array Value) (t : TypeId), W.heap[g]? = some (.cells cur t (0, 0)) → t ≠ 84 → t ≠ 35 → W'.heap[g]? = W.heap[g]? := fun g cur t hg h1 h2 => k.block g (heap_lt hg) (by
    rintro (e | rfl)
    · obtain ⟨cur', hg'⟩ := RowO.block h.ff g e
      exact h1 (heap_ty hg hg')
    · exact h2 (heap_ty hg h.fld))
  have keepM : ∀ (g cl : Nat) (es : Array MapEntry), W.heap[g]? = some (.map es cl) → W'.heap[g]? = W.heap[g]? := fun g cl es hg => k.block g (heap_lt hg) (by
    rintro (e | rfl)
    · obtain ⟨cur', hg'⟩ := RowO.block h.ff g e
      exact heap_nomap hg' hg
    · exact heap_nomap h.fld hg)
  have k3 : Keep3 W W' := fun g cur t hg ht => (keepT g cur t hg (by rcases ht with rfl | rfl | rfl <;> decide) (by rcases ht with rfl | rfl | rfl <;> decide)).trans hg
  refine ⟨hf, h.rr.keepB fun g hg => ?_, hr, fun i hi => ?_, h.db, h.dm, h.dl, fun t ht => ⟨⟨RowO.keepB (hl t ht).1.row fun g hg => ?_, fun e he => ((hl t ht).1.all e he).keepL k3.l⟩, (hl t ht).2⟩, ⟨h.lo.1, h.lo.2.1, hb⟩, hc⟩
  · obtain ⟨cur, hc⟩ := RowO.block h.rr g hg
    exact keepT g cur _ hc (by decide) (by decide)
  · obtain ⟨wi, ei, qi⟩ := h.rolls i hi
    obtain ⟨esi, cli, hmi⟩ := qi.tl.lt
    exact ⟨wi, ei, qi.keep (keepT _ _ _ qi.blk (by decide) (by decide)) (keepM _ _ _ hmi) (fun j hj => by
      obtain ⟨cur, hc⟩ := RowO.block qi.row j hj
      exact keepT j cur _ hc (by decide) (by decide)) k3⟩
  · obtain ⟨cur, hc⟩ := RowO.block (hl t ht).1.row g hg
    exact keepT g cur _ hc (by decide) (by decide)
/-- the time is one more. -/
theorem FM.tick {base : Nat} {W : World} {a : Fa} {R : Nat → Rd} {F : List Tl} {c : Nat} (h : FM base W a R F c) (c' : Nat) : FM base (W.setCell ⟨a.bf, 2, none⟩ (.int .i64 c')) a R F c' := by
  have kp : KP (fun j => a.vf.ownBlock = some j ∨ j = a.bf) W (W.setCell ⟨a.bf, 2, none⟩ (.int .i64 c')) := KP.set W a.bf 2 _ (.inr rfl)
  refine h.fly a.vf kp ((row_set (i := 2) h.fld _).trans rfl) (h.ff.keepB fun g hg => ?_) h.fl h.lo.2.2 h.few
  obtain ⟨cur, hc⟩ := RowO.block h.ff g hg
  refine (KP.set (S := fun j => j = a.bf) W a.bf 2 _ rfl).block g (heap_lt hc) fun e => ?_
  exact absurd (heap_ty (e ▸ hc) h.fld) (by decide)
/-- the cell of an order's pointer. -/
theorem FM.ptr {base : Nat} {W : World} {a : Fa} {R : Nat → Rd} {F : List Tl} {c : Nat} (h : FM base W a R F c) {g o cp : Nat} (e : a.vr = .slice (some ⟨g, o, none⟩) a.n cp) {i : Nat} (hi : i < a.n) : W.cell? ⟨g, o + i, none⟩ = some (.pointer (some ⟨a.bs i, 0, none⟩)) := by
  have := h.rr
  rw [e] at this
  exact RowO.cells this i _ (by simp [hi])
theorem FM.rs {base : Nat} {W : World} {a : Fa} {R : Nat → Rd} {F : List Tl} {c : Nat} (h : FM base W a R F c) (hn : 0 < a.n) : ∃ g o cp, a.vr = .slice (some ⟨g, o, none⟩) a.n cp ∧ a.n ≤ cp ∧ cp ≤ maxLen := by
  obtain ⟨A, cp, e, h1, h2, h3⟩ := RowO.slice h.rr
  rcases h3 with ⟨_, h4⟩ | ⟨g, o, h4⟩
  · omega
  · exact ⟨g, o, cp, h4 ▸ e, h1, h2⟩

end Go.Proofs.Ytjdmjiikpnlkjaa
