/-
  A proposer and an acceptor of the program in memory as plain states; what each call makes of them. Condition: numbers fit their kinds.
-/
import Derived.Test.YtfkmodmgihadkaaGkm
import Derived.Test.YtfkmodmgihadkaaGvl
namespace Go.Proofs.Ytfkmodmgihadkaa
set_option linter.unusedSimpArgs false
set_option linter.unusedVariables false
open Go.RowKit Go.Maps Go.Sort
open V (P2)

/-- what an entry says; what a value says. -/
abbrev EV := E18 × List P5 × List W3
abbrev VD := List P2 × List EV
/-- a proposer's plain state. -/
structure Pd where
  g : Int
  N : Int
  M : List P2
  bal : Int
  ph : Int
  C : List P2
  Lg : List EV
  hb : Int
  hd : VD
  hh : Bool
  vd : VD
def Pd.cnt (d : Pd) (x : P2) : Bool := decide (x ∉ d.C) && decide (x ∈ d.M)
def Pd.enough (d : Pd) : Bool := decide (d.M.length / 2 + 1 ≤ d.C.length)
def Pd.add (d : Pd) (x : P2) : Pd := { d with C := d.C ++ [x] }
def Pd.counted (d : Pd) (x : P2) : Pd := if d.cnt x = true then d.add x else d
theorem Pd.counted_yes {d : Pd} {x : P2} (h : d.cnt x = true) : d.counted x = d.add x := by simp [Pd.counted, h]
theorem Pd.counted_no {d : Pd} {x : P2} (h : d.cnt x = false) : d.counted x = d := by simp [Pd.counted, h]
def Pd.longer (d : Pd) (L : List EV) : Pd := if d.Lg.length < L.length then { d with Lg := L } else d
def Pd.hold (d : Pd) (acc : Int) (y : VD) (has : Bool) : Pd := if (has && (!d.hh || decide (d.hb < acc))) = true then { d with hb := acc, hd := y, hh := true } else d
def Pd.promise (d : Pd) (x : P2) (L : List EV) (acc : Int) (y : VD) (has : Bool) : Pd :=
  if (decide (d.ph = 0) && d.cnt x) = true then ((d.add x).longer L).hold acc y has else d
def Pd.ready (d : Pd) : Bool := decide (d.ph = 0) && d.enough
def Pd.choose (d : Pd) (wish : List P2) : VD := if d.hh then d.hd else (wish, d.Lg)
def Pd.propose (d : Pd) (wish : List P2) : Pd := { d with vd := d.choose wish, ph := 1, C := [], Lg := [], hb := 0, hd := ([], []), hh := false }
def Pd.accept1 (d : Pd) (x : P2) : Pd := if (decide (d.ph = 1) && d.cnt x) = true then d.add x else d
def Pd.accepted (d : Pd) (x : P2) : Pd := if (decide (d.ph = 1) && d.cnt x && (d.add x).enough) = true then { d.add x with ph := 2 } else d.accept1 x
def Pd.missing (d : Pd) : List P2 := if d.ph = 2 then [] else d.M.filter fun x => decide (x ∉ d.C)

/-- where a state's rows lie. -/
structure Pw where
  mv : Value
  lv : Value
  Lg : List Le
  hv : Vl
  vl : Vl
def Pd.cs (d : Pd) (w : Pw) (m : Nat) : Array Value := #[.int .u8 d.g, .int .u32 d.N, w.mv, .int .u64 d.bal, .int .i64 d.ph, .map (some m), w.lv, .int .u64 d.hb, w.hv.m, w.hv.t, .bool d.hh, w.vl.m, w.vl.t]
/-- the proposer: block b; its map: block m. -/
structure PQ (base : Nat) (W : World) (b m : Nat) (d : Pd) (w : Pw) : Prop where
  hb : base ≤ b
  hm : base ≤ m
  blk : W.heap[b]? = some (.cells (d.cs w m) 73 (0, 0))
  ct : CtAt W m d.C
  mem : PrO W w.mv d.M
  lg : EnO W w.lv w.Lg
  lgd : w.Lg.map Le.v = d.Lg
  lgl : w.Lg.length ≤ 1000
  hv : w.hv.Ok W
  hvd : w.hv.d = d.hd
  vl : w.vl.Ok W
  vld : w.vl.d = d.vd
  right : V.vR d.g d.N d.M = true
  cin : ∀ x ∈ d.C, x ∈ d.M
def PP (base : Nat) (W : World) (b m : Nat) (d : Pd) : Prop := ∃ w, PQ base W b m d w
/-- what a call may change. -/
def FP (b m k : Nat) : Prop := k = b ∨ k = m
theorem heap_lt {W : World} {b : Nat} {o : Obj} (h : W.heap[b]? = some o) : b < W.heap.size := (Array.getElem?_eq_some_iff.1 h).1
theorem not_ty {t : TypeId} (h : Ty t) (n : TypeId) (hn : ¬ Ty n) : t ≠ n := fun e => hn (e ▸ h)
theorem pr_not : ¬ Ty 73 := by simp [Ty]
theorem ac_not : ¬ Ty 67 := by simp [Ty]
theorem PQ.keep {base : Nat} {W W' : World} {b m : Nat} {d : Pd} {w : Pw} (h : PQ base W b m d w) (k1 : W'.heap[b]? = W.heap[b]?) (k2 : W'.heap[m]? = W.heap[m]?) (k : Keeps W W') : PQ base W' b m d w :=
  ⟨h.hb, h.hm, k1.trans h.blk, h.ct.keep k2, h.mem.keep k, h.lg.keep k, h.lgd, h.lgl, h.hv.keep k, h.hvd, h.vl.keep k, h.vld, h.right, h.cin⟩
theorem PQ.below {base : Nat} {W W' : World} {b m : Nat} {d : Pd} {w : Pw} (h : PQ base W b m d w) (hb : Below W.heap.size W W') : PQ base W' b m d w := by
  obtain ⟨es, cl, hm⟩ := h.ct.lt
  exact h.keep (hb.block b (heap_lt h.blk)) (hb.block m (heap_lt hm)) (Keeps.of_below hb)
theorem PP.below {base : Nat} {W W' : World} {b m : Nat} {d : Pd} (h : PP base W b m d) (hb : Below W.heap.size W W') : PP base W' b m d := by
  obtain ⟨w, h⟩ := h
  exact ⟨w, h.below hb⟩
theorem PQ.ne {base : Nat} {W : World} {b m : Nat} {d : Pd} {w : Pw} (h : PQ base W b m d w) : b ≠ m := by
  obtain ⟨es, cl, hm⟩ := h.ct.lt
  rintro rfl
  rw [h.blk] at hm
  cases hm
theorem PQ.keeps {base : Nat} {W W' : World} {b m : Nat} {d : Pd} {w : Pw} (h : PQ base W b m d w) (k : KP (FP b m) W W') : Keeps W W' :=
  Keeps.of_KP k fun g cur t hg ht => by
    rintro (rfl | rfl)
    · rw [h.blk] at hg
      injection hg with hg
      injection hg with _ e _
      exact pr_not (e ▸ ht)
    · obtain ⟨es, cl, hm⟩ := h.ct.lt
      rw [hg] at hm
      cases hm
theorem PQ.foot {base : Nat} {W : World} {b m : Nat} {d : Pd} {w : Pw} (h : PQ base W b m d w) : ∀ k, FP b m k → base ≤ k := by
  rintro k (rfl | rfl)
  · exact h.hb
  · exact h.hm
theorem nodup_le : ∀ (C M : List P2), C.Nodup → (∀ x ∈ C, x ∈ M) → C.length ≤ M.length
  | [], _, _, _ => Nat.zero_le _
  | x :: C, M, hn, hs => by
    obtain ⟨h1, h2⟩ := List.nodup_cons.1 hn
    have hx : x ∈ M := hs x (List.mem_cons_self ..)
    have := nodup_le C (M.erase x) h2 fun y hy => (List.mem_erase_of_ne (fun e : y = x => h1 (by rw [← e]; exact hy))).2 (hs y (List.mem_cons_of_mem _ hy))
    rw [List.length_erase_of_mem hx] at this
    have := List.length_pos_of_mem hx
    rw [List.length_cons]
    omega
theorem PQ.few {base : Nat} {W : World} {b m : Nat} {d : Pd} {w : Pw} (h : PQ base W b m d w) : d.M.length ≤ 8 ∧ 1 ≤ d.M.length ∧ d.C.length ≤ d.M.length := by
  have hr := h.right
  simp only [V.vR, Bool.and_eq_true, decide_eq_true_eq] at hr
  obtain ⟨⟨⟨⟨_, _⟩, h1⟩, h2⟩, _⟩ := hr
  refine ⟨h2, h1, ?_⟩
  obtain ⟨nn, D, _, _, M⟩ := h.ct
  exact nodup_le _ _ M.nodup h.cin
/-- one cell or more of the proposer set anew. -/
theorem PQ.set {base : Nat} {W W' : World} {b m : Nat} {d d' : Pd} {w w' : Pw} (h : PQ base W b m d w) (k : KP (fun j => j = b) W W') (hblk : W'.heap[b]? = some (.cells (d'.cs w' m) 73 (0, 0)))
    (hC : d'.C = d.C) (hM : d'.M = d.M) (hg : d'.g = d.g) (hN : d'.N = d.N) (hmv : w'.mv = w.mv)
    (lg : EnO W w'.lv w'.Lg) (lgd : w'.Lg.map Le.v = d'.Lg) (lgl : w'.Lg.length ≤ 1000) (hv : w'.hv.Ok W) (hvd : w'.hv.d = d'.hd) (vl : w'.vl.Ok W) (vld : w'.vl.d = d'.vd) : PQ base W' b m d' w' := by
  have kk : KP (FP b m) W W' := k.mono fun i e => .inl e
  have ks := h.keeps kk
  obtain ⟨es, cl, hm⟩ := h.ct.lt
  have hne := h.ne
  exact ⟨h.hb, h.hm, hblk, hC ▸ h.ct.keep (k.block m (heap_lt hm) (Ne.symm hne)), hM ▸ hmv ▸ h.mem.keep ks, lg.keep ks, lgd, lgl, hv.keep ks, hvd, vl.keep ks, vld, by rw [hg, hN, hM]; exact h.right, by rw [hC, hM]; exact h.cin⟩

/-- an acceptor's plain state. -/
structure Ad where
  made : Bool
  pr : Int
  bal : Int
  vd : VD
  has : Bool
def A0 : Ad := ⟨false, 0, 0, ([], []), false⟩
def A1 : Ad := ⟨true, 0, 0, ([], []), false⟩
def Ad.may (d : Ad) (b : Int) : Bool := d.made && decide (b ≠ 0) && decide (d.pr ≤ b)
def Ad.cs (d : Ad) (x : Vl) : Array Value := #[.bool d.made, .int .u64 d.pr, .int .u64 d.bal, x.m, x.t, .bool d.has]
def AP (W : World) (b : Nat) (d : Ad) : Prop := ∃ x : Vl, W.heap[b]? = some (.cells (d.cs x) 67 (0, 0)) ∧ x.Ok W ∧ x.d = d.vd
theorem AP.lt {W : World} {b : Nat} {d : Ad} (h : AP W b d) : b < W.heap.size := by
  obtain ⟨x, h, _⟩ := h
  exact heap_lt h
theorem AP.keep {W W' : World} {b : Nat} {d : Ad} (h : AP W b d) (k1 : W'.heap[b]? = W.heap[b]?) (k : Keeps W W') : AP W' b d := by
  obtain ⟨x, h1, h2, h3⟩ := h
  exact ⟨x, k1.trans h1, h2.keep k, h3⟩
theorem AP.below {W W' : World} {b : Nat} {d : Ad} (h : AP W b d) (hb : Below W.heap.size W W') : AP W' b d := h.keep (hb.block b h.lt) (Keeps.of_below hb)
theorem AP.keeps {W W' : World} {b : Nat} {d : Ad} (h : AP W b d) (k : KP (fun j => j = b) W W') : Keeps W W' := by
  obtain ⟨x, h1, h2, h3⟩ := h
  refine Keeps.of_KP k fun g cur t hg ht => ?_
  rintro rfl
  rw [h1] at hg
  injection hg with hg
  injection hg with _ e _
  exact ac_not (e ▸ ht)

end Go.Proofs.Ytfkmodmgihadkaa
