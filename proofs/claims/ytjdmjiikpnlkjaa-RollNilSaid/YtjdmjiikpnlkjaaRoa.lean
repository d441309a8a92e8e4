/-
  An order of the program in memory as a plain state: its cells, its entries' row, its map of numbers. Condition: numbers fit their kinds.
-/
import Derived.Test.YtjdmjiikpnlkjaaGkm
import Derived.Test.YtjdmjiikpnlkjaaGcl
namespace Go.Proofs.Ytjdmjiikpnlkjaa
set_option linter.unusedSimpArgs false
set_option linter.unusedVariables false
open Go.RowKit Go.Maps Go.Sort
open V (P2)

theorem intZero (W : World) : (zeroValue 3).run Try.prog W = .ok (.int .i64 0) W := by kernel_rfl
theorem mapT : Try.prog.underlying 79 = some (.map 49 3) := Try.underlying79
/-- how a number reads, as an element of a map. -/
def nDat (n : Int) : DataW Unit := .lit (.int .i64 n)
def nElem : Value → Option (DataW Unit × List MemPlace)
  | .int .i64 n => some (nDat n, [])
  | _ => none
theorem nElem_mk (n : Int) : nElem (.int .i64 n) = some (nDat n, []) := rfl
theorem nDat_inj {m n : Int} (h : nDat m = nDat n) : m = n := by
  unfold nDat at h
  injection h with h
  injection h
theorem nElem_inv {v : Value} {z : DataW Unit × List MemPlace} (h : nElem v = some z) : ∃ n : Int, v = .int .i64 n ∧ z = (nDat n, []) := by
  unfold nElem at h
  split at h
  · rename_i n
    exact ⟨n, rfl, by injection h with h; exact h.symm⟩
  · cases h
/-- the map of numbers in memory: block m; k bounds what was ever put. -/
def TlAt (W : World) (m : Nat) (T : P2 → Nat) (k : Nat) : Prop := ∃ (nn : Nat) (D : DataW Unit), nn ≤ k ∧ W.ownsMap Try.prog 49 nElem m nn D ∧ ∀ x, Rg2 x → D.atKey (lit2 x) (nDat 0) = nDat (T x)
theorem TlAt.lt {W : World} {m k : Nat} {T : P2 → Nat} (h : TlAt W m T k) : ∃ es clock, W.heap[m]? = some (.map es clock) := by
  obtain ⟨nn, D, _, ⟨es, cl, hm, _⟩, _⟩ := h
  exact ⟨es, cl, hm⟩
theorem TlAt.keep {W W' : World} {m k : Nat} {T : P2 → Nat} (h : TlAt W m T k) (e : W'.heap[m]? = W.heap[m]?) : TlAt W' m T k := by
  obtain ⟨nn, D, hk, ⟨es, cl, hm, F, hs, hD⟩, M⟩ := h
  exact ⟨nn, D, hk, ⟨es, cl, e.trans hm, F, hs, hD⟩, M⟩
theorem TlAt.made (w : World) : TlAt (w.alloc (.map #[] 0)) w.heap.size (fun _ => 0) 0 := ⟨0, .map [], Nat.le_refl _, World.ownsMap_made w _ _ _, fun x _ => rfl⟩
theorem TlAt.look {W : World} {m k : Nat} {T : P2 → Nat} (h : TlAt W m T k) (x : P2) (rx : Rg2 x) :
    ∃ es clock, W.heap[m]? = some (.map es clock) ∧ ∀ W' : World, W'.heap[m]? = some (.map es clock) → (Instr.lookup 79 (.map (some m)) (.agg #[.int .u8 x.n, .int .u16 x.l]) false).run Try.prog W' = .ok (.int .i64 (T x)) W' := by
  obtain ⟨nn, D, _, ⟨es, clock, hb, F, hs, hD⟩, M⟩ := h
  refine ⟨es, clock, hb, fun W' hW => ?_⟩
  have hown : W'.ownsMap Try.prog 49 nElem m nn D := ⟨es, clock, hW, F, hs, hD⟩
  obtain ⟨v, ps, hrun, hv⟩ := hown.lookup prKeyed mapT (intZero W') (nElem_mk 0) (prKey x rx)
  rw [M x rx] at hv
  obtain ⟨n, rfl, e⟩ := nElem_inv hv
  rw [nDat_inj (congrArg Prod.fst e)]
  exact hrun
def setT (T : P2 → Nat) (x : P2) (n : Nat) : P2 → Nat := fun y => if y = x then n else T y
theorem TlAt.put {W : World} {m k : Nat} {T : P2 → Nat} (h : TlAt W m T k) (x : P2) (rx : Rg2 x) (n : Nat) (hl : k ≤ 100000) :
    ∃ W', (Instr.mapUpdate 79 (.map (some m)) (.agg #[.int .u8 x.n, .int .u16 x.l]) (.int .i64 n)).run Try.prog W = .ok () W' ∧ TlAt W' m (setT T x n) (k + 1) ∧ KP (fun j => j = m) W W' := by
  obtain ⟨nn, D, hnn, O, M⟩ := h
  have hI := O.isMap
  obtain ⟨W', hrun, O', ht⟩ := O.store prKeyed mapT (show nn < maxLen by unfold maxLen; omega) (prKey x rx) (nElem_mk n)
  refine ⟨W', hrun, ⟨nn + 1, _, Nat.succ_le_succ hnn, O', fun y ry => ?_⟩, KP.grown ht.grown fun k e => (Option.some.inj e).symm⟩
  unfold setT
  by_cases e : y = x
  · subst e
    rw [if_pos rfl]
    exact atKey_put_same hI (prKeyed.key (prKey y ry)) _ _
  · rw [if_neg e, atKey_put_other fun e' => e (lit2_inj ry rx e')]
    exact M y ry
theorem heap_lt {W : World} {b : Nat} {o : Obj} (h : W.heap[b]? = some o) : b < W.heap.size := (Array.getElem?_eq_some_iff.1 h).1

/-- what an entry says. -/
abbrev EV := E18 × List P5 × List W3
/-- an order's plain state. -/
structure Rd where
  g : Int
  N : Int
  M : List P2
  me : P2
  L : List EV
  base : Nat
  commit : Nat
  shut : Bool
  T : P2 → Nat
  k : Nat
def Rd.lead (d : Rd) : Bool := decide (d.M.head? = some d.me)
def Rd.has (d : Rd) (p : P2) : Nat := if p = d.me then d.L.length else max d.base (d.T p)
def Rd.cnt (d : Rd) (y : Nat) : Nat := (d.M.filter fun p => decide (y ≤ d.has p)).length
def Rd.maj (d : Rd) : Nat := d.M.length / 2 + 1
def topN (f : Nat → Bool) : Nat → Nat
  | 0 => 0
  | n + 1 => if f (n + 1) then n + 1 else topN f n
def Rd.top (d : Rd) : Nat := topN (fun y => decide (d.maj ≤ d.cnt y)) 400
def Rd.counted (d : Rd) : Rd := { d with commit := max d.commit d.top }
/-- where its rows lie. -/
structure Rw where
  mv : Value
  lv : Value
  Lg : List Le
def Rd.cs (d : Rd) (w : Rw) (m : Nat) : Array Value := #[.int .u8 d.g, .int .u32 d.N, w.mv, .int .u8 d.me.n, .int .u16 d.me.l, w.lv, .int .i64 d.base, .int .i64 d.commit, .bool d.shut, .map (some m)]
/-- the order: block b; its map: block m. -/
structure RQ (W : World) (b m : Nat) (d : Rd) (w : Rw) : Prop where
  blk : W.heap[b]? = some (.cells (d.cs w m) 81 (0, 0))
  tl : TlAt W m d.T d.k
  mem : PrO W w.mv d.M
  row : RowO W 63 18 w.lv w.Lg.length (cellsE w.Lg)
  all : ∀ e ∈ w.Lg, LeO e W
  lgd : w.Lg.map Le.v = d.L
  right : V.vR d.g d.N d.M = true
  few : d.L.length ≤ 400
  hb : d.base ≤ d.L.length
  hc : d.commit ≤ d.L.length
  ht : ∀ p, d.T p ≤ d.L.length
  rm : Rg2 d.me
  rM : ∀ p ∈ d.M, Rg2 p
def RP (W : World) (b m : Nat) (lb : Option Nat) (d : Rd) : Prop := ∃ w : Rw, w.lv.ownBlock = lb ∧ RQ W b m d w
/-- what a call may change. -/
def FR (b m : Nat) (lb : Option Nat) (k : Nat) : Prop := k = b ∨ k = m ∨ lb = some k
/-- members, parts and writes lie as they lay. -/
def Keep3 (W W' : World) : Prop := ∀ (g : Nat) (cur : Array Value) (t : TypeId), W.heap[g]? = some (.cells cur t (0, 0)) → (t = 49 ∨ t = 114 ∨ t = 117) → W'.heap[g]? = some (.cells cur t (0, 0))
theorem Keep3.l {W W' : World} (k : Keep3 W W') : KeepL W W' := fun g cur t h ht => k g cur t h (.inr ht)
theorem Keep3.of_below {W W' : World} (h : Below W.heap.size W W') : Keep3 W W' := fun g cur t hg _ => (h.block g (Array.getElem?_eq_some_iff.1 hg).1).trans hg
theorem RQ.keep {W W' : World} {b m : Nat} {d : Rd} {w : Rw} (h : RQ W b m d w) (k1 : W'.heap[b]? = W.heap[b]?) (k2 : W'.heap[m]? = W.heap[m]?) (k3 : ∀ j, w.lv.ownBlock = some j → W'.heap[j]? = W.heap[j]?) (k : Keep3 W W') : RQ W' b m d w :=
  ⟨k1.trans h.blk, h.tl.keep k2, RowO.keepB h.mem fun g hg => by
    obtain ⟨cur, hc⟩ := RowO.block h.mem g hg
    exact (k g cur _ hc (.inl rfl)).trans hc.symm, RowO.keepB h.row k3, fun e he => (h.all e he).keepL k.l, h.lgd, h.right, h.few, h.hb, h.hc, h.ht, h.rm, h.rM⟩
theorem RQ.below {W W' : World} {b m : Nat} {d : Rd} {w : Rw} (h : RQ W b m d w) (hb : Below W.heap.size W W') : RQ W' b m d w := by
  obtain ⟨es, cl, hm⟩ := h.tl.lt
  exact h.keep (hb.block b (heap_lt h.blk)) (hb.block m (heap_lt hm)) (fun j hj => hb.block j (RowO.lt h.row j hj)) (Keep3.of_below hb)
theorem RP.below {W W' : World} {b m : Nat} {lb : Option Nat} {d : Rd} (h : RP W b m lb d) (hb : Below W.heap.size W W') : RP W' b m lb d := by
  obtain ⟨w, e, h⟩ := h
  exact ⟨w, e, h.below hb⟩
theorem RQ.ne {W : World} {b m : Nat} {d : Rd} {w : Rw} (h : RQ W b m d w) : b ≠ m := by
  obtain ⟨es, cl, hm⟩ := h.tl.lt
  rintro rfl
  rw [h.blk] at hm
  cases hm
theorem RQ.ltb {W : World} {b m : Nat} {d : Rd} {w : Rw} (h : RQ W b m d w) : b < W.heap.size := heap_lt h.blk
theorem RQ.ltm {W : World} {b m : Nat} {d : Rd} {w : Rw} (h : RQ W b m d w) : m < W.heap.size := by
  obtain ⟨es, cl, hm⟩ := h.tl.lt
  exact heap_lt hm
theorem RQ.nel {W : World} {b m : Nat} {d : Rd} {w : Rw} (h : RQ W b m d w) : w.lv.ownBlock ≠ some b ∧ w.lv.ownBlock ≠ some m := by
  obtain ⟨es, cl, hm⟩ := h.tl.lt
  refine ⟨fun e => ?_, fun e => ?_⟩
  · obtain ⟨cur, hg⟩ := RowO.block h.row b e
    rw [h.blk] at hg
    injection hg with hg
    injection hg with _ e _
    revert e
    decide
  · obtain ⟨cur, hg⟩ := RowO.block h.row m e
    rw [hm] at hg
    cases hg
theorem RQ.len {W : World} {b m : Nat} {d : Rd} {w : Rw} (h : RQ W b m d w) : w.Lg.length = d.L.length := by rw [← h.lgd, List.length_map]
theorem RQ.mem8 {W : World} {b m : Nat} {d : Rd} {w : Rw} (h : RQ W b m d w) : 1 ≤ d.M.length ∧ d.M.length ≤ 8 := by
  have hr := h.right
  simp only [V.vR, Bool.and_eq_true, decide_eq_true_eq] at hr
  exact ⟨hr.1.1.2, hr.1.2⟩
/-- a frame around a roll's own blocks turns no member, part or write. -/
theorem RQ.keep3 {W W' : World} {b m : Nat} {d : Rd} {w : Rw} (h : RQ W b m d w) (k : KP (FR b m w.lv.ownBlock) W W') : Keep3 W W' := fun g cur t hg ht => (k.block g (heap_lt hg) (by
  obtain ⟨es, cl, hm⟩ := h.tl.lt
  rintro (rfl | rfl | e)
  · rw [h.blk] at hg
    injection hg with hg
    injection hg with _ e _
    revert ht
    rw [← e]
    decide
  · rw [hm] at hg
    cases hg
  · obtain ⟨cur', hg'⟩ := RowO.block h.row g e
    rw [hg'] at hg
    injection hg with hg
    injection hg with _ e _
    revert ht
    rw [← e]
    decide)).trans hg
/-- cells of the order set anew, its rows as they were. -/
theorem RQ.set {W W' : World} {b m : Nat} {d d' : Rd} {w : Rw} (h : RQ W b m d w) (k : KP (fun j => j = b) W W') (hblk : W'.heap[b]? = some (.cells (d'.cs w m) 81 (0, 0)))
    (hM : d'.M = d.M) (hg : d'.g = d.g) (hN : d'.N = d.N) (hme : d'.me = d.me) (hL : d'.L = d.L) (hB : d'.base = d.base) (hT : d'.T = d.T) (hk : d'.k = d.k) (hC : d'.commit ≤ d.L.length) : RQ W' b m d' w := by
  have kk : KP (FR b m w.lv.ownBlock) W W' := k.mono fun i e => .inl e
  have k3 := h.keep3 kk
  have h2 := h
  have hr := h.keep (W' := W') (b := b) (m := m) (d := d) (w := w)
  obtain ⟨es, cl, hm⟩ := h.tl.lt
  exact ⟨hblk, hT ▸ hk ▸ h.tl.keep (k.block m (heap_lt hm) (Ne.symm h.ne)), hM ▸ RowO.keepB h.mem fun g hg => by
    obtain ⟨cur, hc⟩ := RowO.block h.mem g hg
    exact (k3 g cur _ hc (.inl rfl)).trans hc.symm, RowO.keepB h.row fun j hj => k.block j (RowO.lt h.row j hj) fun e => h.nel.1 (e ▸ hj), fun e he => (h.all e he).keepL k3.l, hL ▸ h.lgd, by rw [hg, hN, hM]; exact h.right, by rw [hL]; exact h.few, by rw [hL, hB]; exact h.hb, by rw [hL]; exact hC, by rw [hL, hT]; exact h.ht, hme ▸ h.rm, by rw [hM]; exact h.rM⟩

end Go.Proofs.Ytjdmjiikpnlkjaa
