/-
  Entries side by side in memory, each with its two lists; the law's Owns: the same entries, lists of their own. Condition: the lists take at most 2^47 bytes, at most 1000 entries.
-/
import Derived.Test.YtfkmodmgihadkaaEown
import Derived.LoopN
import Derived.Laws.OwnMore
import Derived.Maps.AppendAt
import Derived.OwnWalk
namespace Go.Proofs.Ytfkmodmgihadkaa
set_option linter.unusedSimpArgs false
set_option linter.unusedVariables false
open Go.RowKit Go.Sort

/-- an entry in memory. -/
structure Le where
  x : E18
  A : Option Addr
  X : List P5
  c : Nat
  B : Option Addr
  Y : List W3
  d : Nat
def Le.v (e : Le) : E18 × List P5 × List W3 := (e.x, e.X, e.Y)
def Le.cs (e : Le) : Array Value := #[.int .u8 e.x.k, .int .u8 e.x.n, .int .u16 e.x.l, .int .u32 e.x.s, .int .u8 e.x.d, .int .u8 e.x.a0, .int .u8 e.x.a1, .int .u8 e.x.b0, .int .u8 e.x.b1, .int .u8 e.x.c0, .int .u8 e.x.c1, .int .u32 e.x.fl, .slice e.A e.X.length e.c, .int .u8 e.x.rc, .string e.x.rv, .slice e.B e.Y.length e.d, .int .u8 e.x.vn, .int .u16 e.x.vl]
def cellsE : List Le → List Value
  | [] => []
  | e :: L => e.cs.toList ++ cellsE L
theorem cellsE_append (L M : List Le) : cellsE (L ++ M) = cellsE L ++ cellsE M := by
  induction L with
  | nil => rfl
  | cons e L ih => show e.cs.toList ++ cellsE (L ++ M) = _; rw [ih, ← List.append_assoc]; rfl
theorem cellsE_length (L : List Le) : (cellsE L).length = L.length * 18 := by
  induction L with
  | nil => rfl
  | cons e L ih =>
    show (e.cs.toList ++ cellsE L).length = _
    rw [List.length_append, ih, List.length_cons]
    have : e.cs.toList.length = 18 := rfl
    omega
theorem cellsE_one (e : Le) : ∀ u ∈ e.cs.toList, u.oneCell' = true := by
  intro u hu
  simp [Le.cs] at hu
  rcases hu with rfl | rfl | rfl | rfl | rfl | rfl | rfl | rfl | rfl | rfl | rfl | rfl | rfl | rfl | rfl | rfl | rfl | rfl
  all_goals rfl
/-- its lists may be read. -/
structure Le.At (e : Le) (W : World) (hi : Nat) : Prop where
  rp : RowsP W hi e.A e.X
  rw_ : RowsW W hi e.B e.Y
  hX : e.X.length * 48 ≤ 140737488355328
  hY : e.Y.length * 40 ≤ 140737488355328
  hc : e.X.length ≤ e.c
  hm : e.c ≤ maxLen
  hd : e.Y.length ≤ e.d
  hn : e.d ≤ maxLen
theorem Le.At.below {e : Le} {W W' : World} {B B' C : Nat} (h : e.At W B) (hb : Below C W W') (hC : B ≤ C) (hB : B ≤ B') : e.At W' B' :=
  ⟨h.rp.below hb hC hB, h.rw_.below hb hC hB, h.hX, h.hY, h.hc, h.hm, h.hd, h.hn⟩
/-- its lists are its own. -/
structure Le.Own (e : Le) (W : World) (base : Nat) : Prop where
  op : W.ownsRow base 108 5 (.slice e.A e.X.length e.c) e.X.length (cellsP e.X)
  ow : W.ownsRow base 103 3 (.slice e.B e.Y.length e.d) e.Y.length (cellsW e.Y)
  hX : e.X.length * 48 ≤ 140737488355328
  hY : e.Y.length * 40 ≤ 140737488355328
theorem Le.Own.at_ {e : Le} {W : World} {base : Nat} (h : e.Own W base) : e.At W W.heap.size := by
  obtain ⟨A, c, h1, h2, h3, h4⟩ := rowsP_of_own h.op
  obtain ⟨B, d, h5, h6, h7, h8⟩ := rowsW_of_own h.ow
  cases h1
  cases h5
  exact ⟨h2, h6, h.hX, h.hY, h3, h4, h7, h8⟩
theorem row_keepT {W W' : World} {base : Nat} {e : TypeId} {s : Nat} {v : Value} {n : Nat} {xs : List Value} (h : W.ownsRow base e s v n xs) (hk : ∀ (k : Nat) (c : Array Value), W.heap[k]? = some (.cells c e (0, 0)) → W'.heap[k]? = some (.cells c e (0, 0))) : W'.ownsRow base e s v n xs := by
  refine ⟨h.1, ?_⟩
  rcases h.2 with hn | ⟨g, cap, cur, rfl, hb, hgg, rest⟩
  · exact .inl hn
  · exact .inr ⟨g, cap, cur, rfl, hb, hk g cur hgg, rest⟩
theorem row_lowT {W : World} {base base' : Nat} {e : TypeId} {s : Nat} {v : Value} {n : Nat} {xs : List Value} (h : W.ownsRow base e s v n xs) (hb : base' ≤ base) : W.ownsRow base' e s v n xs := by
  refine ⟨h.1, ?_⟩
  rcases h.2 with hn | ⟨g, cap, cur, rfl, h1, rest⟩
  · exact .inl hn
  · exact .inr ⟨g, cap, cur, rfl, Nat.le_trans hb h1, rest⟩
theorem row_blockT {W : World} {base : Nat} {e : TypeId} {s : Nat} {v : Value} {n : Nat} {xs : List Value} (h : W.ownsRow base e s v n xs) {g : Nat} (hg : v.ownBlock = some g) : ∃ cur, W.heap[g]? = some (.cells cur e (0, 0)) := by
  rcases h.2 with ⟨rfl, _⟩ | ⟨g', cap, cur, rfl, _, hgb, _⟩
  · simp [Value.ownBlock] at hg
  · have : g' = g := by simpa [Value.ownBlock] using hg
    subst this
    exact ⟨_, hgb⟩
theorem apartT {W : World} {k j : Nat} {c d : Array Value} {t u : TypeId} {f g : Nat × Nat} (h : W.heap[k]? = some (.cells c t f)) (h' : W.heap[j]? = some (.cells d u g)) (hne : t ≠ u) : k ≠ j := fun e => by
  subst e
  rw [h] at h'
  injection h' with h'
  injection h' with h1 h2 h3
  exact hne h2
theorem Le.Own.keep {e : Le} {W W' : World} {base : Nat} (h : e.Own W base) (hk : ∀ (k : Nat) (c : Array Value) (t : TypeId), W.heap[k]? = some (.cells c t (0, 0)) → t ≠ 93 → W'.heap[k]? = some (.cells c t (0, 0))) : e.Own W' base :=
  ⟨row_keepT h.op fun k c hc => hk k c _ hc (by decide), row_keepT h.ow fun k c hc => hk k c _ hc (by decide), h.hX, h.hY⟩
/-- entries side by side. -/
def RowsE (W : World) (hi : Nat) (A : Option Addr) (L : List Le) : Prop := L ≠ [] → ∃ b o, A = some ⟨b, o, none⟩ ∧ b < hi ∧ ∀ i e, L[i]? = some e → (∀ j u, e.cs[j]? = some u → W.cell? ⟨b, o + i * 18 + j, none⟩ = some u) ∧ e.At W hi
theorem addE (b o j : Nat) : (⟨b, o, none⟩ : Addr).add j = ⟨b, o + j, none⟩ := by
  unfold Addr.add
  by_cases h : j = 0
  · subst h; rfl
  · simp [h]
theorem entI : (Try.prog.info? 93).map (fun i => (i.zero, i.size, i.bytes)) = some (some (.agg #[.int .u8 0, .int .u8 0, .int .u16 0, .int .u32 0, .int .u8 0, .int .u8 0, .int .u8 0, .int .u8 0, .int .u8 0, .int .u8 0, .int .u8 0, .int .u32 0, .slice none 0 0, .int .u8 0, .string ByteArray.empty, .slice none 0 0, .int .u8 0, .int .u16 0]), 18, 104) := by kernel_rfl

end Go.Proofs.Ytfkmodmgihadkaa
