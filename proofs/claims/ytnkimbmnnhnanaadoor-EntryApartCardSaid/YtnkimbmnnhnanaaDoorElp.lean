/-
  What the loops of the law EntryApart keep. No condition.
-/
import Derived.Test.YtnkimbmnnhnanaaDoorEcn
namespace Go.Proofs.YtnkimbmnnhnanaaDoor
set_option linter.unusedSimpArgs false
set_option linter.unusedVariables false
open Go.RowKit Go.Sort

/-- a list of texts is written in place: what is left of it as it was. -/
structure Lp (w W wr : World) (v : Value) (st off : Nat) (S : List ByteArray) (k : Nat) : Prop where
  below : Below w.heap.size w wr
  size : wr.heap.size = W.heap.size
  same : ∀ j, v.ownBlock ≠ some j → wr.heap[j]? = W.heap[j]?
  cell : ∀ g, v.ownBlock = some g → ∀ i s, k ≤ i → S[i]? = some s → wr.cell? ⟨g, i * st + off, none⟩ = some (.string s)
  fro : ∀ g, v.ownBlock = some g → ∀ i, wr.frozen? ⟨g, i, none⟩ = false
theorem frozen_set (W : World) (a : Addr) (u : Value) (g i : Nat) (h : W.frozen? ⟨g, i, none⟩ = false) : (W.setCell a u).frozen? ⟨g, i, none⟩ = false := by
  first | (simpa using h) | (go_simp) | (simp [World.frozen?, World.setCell] at *; exact h)
theorem Lp.step {w W wr : World} {v : Value} {st off : Nat} {S : List ByteArray} {k g : Nat} (h : Lp w W wr v st off S k) (hg : v.ownBlock = some g) (hw : w.heap.size ≤ g) (hof : off < st) (u : Value) :
    Lp w W (wr.drew.setCell ⟨g, k * st + off, none⟩ u) v st off S (k + 1) where
  below := h.below.drew.setCell hw u
  size := by simpa [World.setCell] using h.size
  same := fun j hj => by
    have hne : j ≠ g := by rintro rfl; exact hj hg
    rw [Below.heap_setCell _ _ _ j hne]
    exact h.same j hj
  cell := fun g' hg' i s hi hs => by
    rw [hg] at hg'
    obtain rfl : g = g' := Option.some.inj hg'
    have hne : (⟨g, k * st + off, none⟩ : Addr) ≠ ⟨g, i * st + off, none⟩ := by
      intro e
      have e2 : k * st + off = i * st + off := congrArg Addr.off e
      have : k * st < i * st := Nat.mul_lt_mul_of_pos_right (by omega) (by omega)
      omega
    rw [World.cell?_setCell_other _ _ _ _ hne]
    exact h.cell g hg i s (by omega) hs
  fro := fun g' hg' i => frozen_set _ _ _ _ _ (h.fro g' hg' i)
theorem lp_parts {w W : World} {v : Value} {X : List P5} {base : Nat} {e : TypeId} (h : W.ownsRow base e 5 v X.length (cellsP X)) (hb : Below w.heap.size w W) : Lp w W W v 5 2 (X.map P5.key) 0 where
  below := hb
  size := rfl
  same := fun _ _ => rfl
  cell := fun g hg i s _ hs => by
    rw [List.getElem?_map] at hs
    obtain ⟨x, hx, rfl⟩ := Option.map_eq_some_iff.1 hs
    have := h.cells hg (i * 5 + 2) (.string x.key) ((cellsP_at X i x hx 2 (by omega)).trans rfl)
    simpa [Addr.add] using this
  fro := fun g hg i => by
    rcases h.2 with ⟨rfl, _⟩ | ⟨g', cap, cur, rfl, _, hgg, _⟩
    · simp [Value.ownBlock] at hg
    · simp [Value.ownBlock] at hg
      subst hg
      exact frozen_row hgg i
theorem lp_writes {w W : World} {v : Value} {X : List W3} {base : Nat} {e : TypeId} (h : W.ownsRow base e 3 v X.length (cellsW X)) (hb : Below w.heap.size w W) : Lp w W W v 3 1 (X.map W3.val) 0 where
  below := hb
  size := rfl
  same := fun _ _ => rfl
  cell := fun g hg i s _ hs => by
    rw [List.getElem?_map] at hs
    obtain ⟨x, hx, rfl⟩ := Option.map_eq_some_iff.1 hs
    have := h.cells hg (i * 3 + 1) (.string x.val) ((cellsW_at X i x hx 1 (by omega)).trans rfl)
    simpa [Addr.add] using this
  fro := fun g hg i => by
    rcases h.2 with ⟨rfl, _⟩ | ⟨g', cap, cur, rfl, _, hgg, _⟩
    · simp [Value.ownBlock] at hg
    · simp [Value.ownBlock] at hg
      subst hg
      exact frozen_row hgg i
/-- a row whose block is as it was. -/
theorem own_same {W W' : World} {base : Nat} {e : TypeId} {z : Nat} {v : Value} {n : Nat} {xs : List Value} (h : W.ownsRow base e z v n xs) (hb : ∀ g, v.ownBlock = some g → W'.heap[g]? = W.heap[g]?) : W'.ownsRow base e z v n xs := by
  refine ⟨h.1, ?_⟩
  rcases h.2 with hn | ⟨g, cap, cur, hv, h0, hg, r⟩
  · exact .inl hn
  · exact .inr ⟨g, cap, cur, hv, h0, (hb g (by rw [hv]; rfl)).trans hg, r⟩
theorem own_some {W : World} {base : Nat} {e : TypeId} {z : Nat} {A : Option Addr} {n c : Nat} {xs : List Value} (h : W.ownsRow base e z (.slice A n c) n xs) (hn : 0 < n) : ∃ g, A = some ⟨g, 0, none⟩ ∧ base ≤ g ∧ n ≤ c ∧ c ≤ maxLen := by
  rcases h.2 with ⟨_, h0⟩ | ⟨g, cap, cur, hv, hb, _, h1, h2, _⟩
  · omega
  · cases hv
    exact ⟨g, rfl, hb, h1, h2⟩
theorem run_load_row {P : Program} {a : Act} {W : World} (ty t0 : TypeId) (x : Operand) (g : Nat) (hx : a.eval x = .pointer (some ⟨g, 0, none⟩)) (t : TypeId) (cs : Array Value) (fr : Nat × Nat) (d : TypeDesc) (hg : W.heap[g]? = some (.cells cs t fr))
    (hu : P.underlying ty = some d) (hd : (match d with | .struct _ | .array _ _ => true | _ => false) = true) (hi : (P.info? ty).map (·.size) = some cs.size) :
    (execOp a.eval (bareO (Op.load ty x) t0)).run P W = .ok (.value (.agg cs)) W := by
  unfold execOp bareO
  simp only [hx, Instr.loadAt, Instr.sureAddr, Sem.run_bind, Sem.run_pure, Result.andThen_ok, run_loadVar_row W g t ty cs fr d hg hu hd hi]

end Go.Proofs.YtnkimbmnnhnanaaDoor
