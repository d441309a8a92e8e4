/-
  A step of the law's field of proposers and acceptors. Condition: few steps before it.
-/
import Derived.Test.YtfkmodmgihadkaaGzh
import Derived.Deep.MidRow
import Derived.LoopN
import Derived.Great.BuildSlice
namespace Go.Proofs.Ytfkmodmgihadkaa
set_option linter.unusedSimpArgs false
set_option linter.unusedVariables false
open Go.RowKit Go.Maps Go.Sort
open V (P2)

open Z (up up_same up_ne)
/-- what stays: all that lies below, and every value that is laid apart. -/
structure BV (base : Nat) (W W' : World) : Prop where
  b : Below base W W'
  v : ∀ (j : Nat) (cs : Array Value) (t : TypeId), (t = 32 ∨ t = 40) → W.heap[j]? = some (.cells cs t (0, 0)) → W'.heap[j]? = some (.cells cs t (0, 0))
  k : Keeps W W'
theorem BV.trans {base : Nat} {W W1 W2 : World} (h : BV base W W1) (k : BV base W1 W2) : BV base W W2 := ⟨h.b.trans k.b, fun j cs t ht e => k.v j cs t ht (h.v j cs t ht e), h.k.trans k.k⟩
theorem BV.drew {base : Nat} {W W1 : World} (h : BV base W W1) : BV base W W1.drew := ⟨h.b.drew, h.v, h.k.trans (Keeps.of_below (Below.refl _ _).drew)⟩
theorem BV.size {base : Nat} {W W1 : World} (h : BV base W W1) : W.heap.size ≤ W1.heap.size := h.b.size
theorem _root_.Go.RowKit.Below.bv {base : Nat} {W W1 : World} (h : Below W.heap.size W W1) (hs : base ≤ W.heap.size) : BV base W W1 := ⟨h.mono hs, fun j cs t ht e => (h.block j (heap_lt e)).trans e, Keeps.of_below h⟩
theorem FQ.bvA {base : Nat} {W W' : World} {c : Fc} {A : Nat → Ad} {Q : Nat → Option Pd} (h : FQ base W c A Q) {x : Nat} (hx : x < 5) (k : KP (fun j => j = c.ab x) W W') (hs : base ≤ W.heap.size) : BV base W W' := ⟨h.belowA hx k hs, fun j cs t ht e => by
  obtain ⟨cs', hcs'⟩ := (h.acc x hx).piece
  exact (k.block j (heap_lt e) (field_ty e hcs' (by rcases ht with rfl | rfl <;> decide))).trans e, (h.acc x hx).keeps k⟩
theorem FQ.bvP {base : Nat} {W W' : World} {c : Fc} {A : Nat → Ad} {Q : Nat → Option Pd} (h : FQ base W c A Q) {x : Nat} (hx : x < 5) {b m : Nat} (hb : c.pb x = some (b, m)) (k : KP (FP b m) W W') (hs : base ≤ W.heap.size) : BV base W W' := ⟨h.belowP hx hb k hs, fun j cs t ht e => by
  rcases h.pro x hx with ⟨e0, _⟩ | ⟨b', m', d0, e1, e2, hp⟩
  · rw [e0] at hb
    cases hb
  · rw [e1] at hb
    cases hb
    obtain ⟨⟨cs', h1⟩, es, cl, h2⟩ := hp.pieces
    refine (k.block j (heap_lt e) ?_).trans e
    rintro (e' | e')
    · exact field_ty e h1 (by rcases ht with rfl | rfl <;> decide) e'
    · exact field_map e h2 e', by
  rcases h.pro x hx with ⟨e0, _⟩ | ⟨b', m', d0, e1, e2, w, hw⟩
  · rw [e0] at hb
    cases hb
  · rw [e1] at hb
    cases hb
    exact hw.keeps k⟩
theorem FQ.bvF {base : Nat} {W W' : World} {c : Fc} {A : Nat → Ad} {Q : Nat → Option Pd} (h : FQ base W c A Q) (k : KP (fun j => j = c.bf) W W') (hs : base ≤ W.heap.size) : BV base W W' := ⟨h.belowF k hs, fun j cs t ht e => (k.block j (heap_lt e) (field_ty e h.fld (by rcases ht with rfl | rfl <;> decide))).trans e, h.keepsF k⟩
theorem keepsV {W W' : World} {k : Nat} {cs : Array Value} (h : W.heap[k]? = some (.cells cs 32 (0, 0))) (kp : KP (fun j => j = k) W W') : Keeps W W' :=
  Keeps.of_KP kp fun g cur t hg ht => apart_of hg h (by
    intro e
    rw [e] at ht
    revert ht
    simp [Ty])
theorem FQ.offV {base : Nat} {W W' : World} {c : Fc} {A : Nat → Ad} {Q : Nat → Option Pd} (h : FQ base W c A Q) {k : Nat} {cs : Array Value} (hk : W.heap[k]? = some (.cells cs 32 (0, 0))) (kp : KP (fun j => j = k) W W') : FQ base W' c A Q := by
  have ks := keepsV hk kp
  refine ⟨(kp.block c.bf (heap_lt h.fld) (field_ty h.fld hk (by decide))).trans h.fld, fun i hi => ?_, fun i hi => ?_, fun i hi => (h.vok i hi).keep ks, h.da, h.dp, h.lo⟩
  · obtain ⟨cs', hcs'⟩ := (h.acc i hi).piece
    exact (h.acc i hi).keep (kp.block _ (heap_lt hcs') (field_ty hcs' hk (by decide))) ks
  · rcases h.pro i hi with e | ⟨b, m, d, e1, e2, hp⟩
    · exact .inl e
    · obtain ⟨⟨cs', h1⟩, es, cl, h2⟩ := hp.pieces
      exact .inr ⟨b, m, d, e1, e2, hp.keep (kp.block b (heap_lt h1) (field_ty h1 hk (by decide))) (kp.block m (heap_lt h2) fun e => field_map hk h2 e.symm) ks⟩
theorem BV.setV {base : Nat} {W W1 W2 : World} (h : BV base W W1) {k : Nat} (hs : base ≤ W1.heap.size) (kp : KP (fun j => j = k) W1 W2) (hk : base ≤ k ∧ W.heap.size ≤ k) {cs : Array Value} (hr : W1.heap[k]? = some (.cells cs 32 (0, 0))) : BV base W W2 :=
  ⟨h.b.trans (kp.below hs fun j hj => by have e : j = k := hj; omega), fun j cs t ht e => by
    have e1 := h.v j cs t ht e
    exact (kp.block j (heap_lt e1) (fun e2 => by have e3 : j = k := e2; have := heap_lt e; omega)).trans e1, h.k.trans (keepsV hr kp)⟩
/-- what Propose makes of the field. -/
def ProZ (base : Nat) (W : World) (c : Fc) (A : Nat → Ad) (Q : Nat → Option Pd) (x : Nat) (X : List P2) (e : Ending) (W' : World) : Prop :=
  ∃ (z : Vl) (ok : Bool) (Q' : Nat → Option Pd), e = .returned (.tuple #[.agg z.cs, .bool ok]) ∧ z.Ok W' ∧ FQ base W' c A Q' ∧ BV base W W' ∧
    ((ok = false ∧ Q' = Q ∧ ∀ d, Q x = some d → d.ready = false) ∨ (ok = true ∧ ∃ d, Q x = some d ∧ d.ready = true ∧ z.d = d.choose X ∧ Q' = up Q x (some (d.propose X))))
theorem propZ (base : Nat) (W : World) (c : Fc) (A : Nat → Ad) (Q : Nat → Option Pd) (h : FQ base W c A Q) {x : Nat} (hx : x < 5) (hs : base ≤ W.heap.size) (wv : Value) (X : List P2) (hw : PrO W wv X) (hX : X.length ≤ 1000) :
    Calls Try.prog 18 #[ptO (c.pb x), wv] W fun e W' => ProZ base W c A Q x X e W' := by
  rcases h.pro x hx with ⟨h1, h2⟩ | ⟨b, m, d, h1, h2, hp⟩
  · rw [h1]
    refine (propN W none (.inl rfl) wv).mono fun e W' ⟨he, hb⟩ => ?_
    exact ⟨⟨.slice none 0 0, [], .slice none 0 0, []⟩, false, Q, he, ⟨PrO.nil _, EnO.nil _, by decide, by decide⟩, h.below hb, hb.bv hs, .inl ⟨rfl, rfl, fun d hd => by rw [h2] at hd; cases hd⟩⟩
  · rw [h1]
    refine (pPropose base W b m d hp wv X hw hX).mono fun e W' hr => ?_
    obtain ⟨z, he, hz, hzd, hp', hk⟩ := hr
    by_cases hrd : d.ready = true
    · rw [hrd] at he
      rw [if_pos hrd] at hzd hp'
      exact ⟨z, true, _, he, hz, h.pcall hx h1 h2 _ hk hp', h.bvP hx h1 hk hs, .inr ⟨rfl, d, h2, hrd, hzd, rfl⟩⟩
    · have hrd' := Bool.eq_false_iff.2 hrd
      rw [hrd'] at he
      rw [if_neg hrd] at hzd hp'
      have h3 := h.pcall hx h1 h2 _ hk hp'
      rw [← h2, up_id] at h3
      exact ⟨z, false, Q, he, hz, h3, h.bvP hx h1 hk hs, .inl ⟨rfl, rfl, fun d' hd => by rw [h2] at hd; cases hd; exact hrd'⟩⟩
theorem PrO.one (W : World) (x : P2) : PrO (W.alloc (.cells #[.int .u8 x.n, .int .u16 x.l] 54)) (.slice (some ⟨W.heap.size, 0, none⟩) 1 1) [x] := by
  refine ⟨rfl, .inr ⟨W.heap.size, 0, 1, #[.int .u8 x.n, .int .u16 x.l], rfl, heap_alloc_new _ _, Nat.le_refl _, by unfold maxLen; omega, Nat.le_refl _, ?_⟩⟩
  intro j u hu
  simpa [V.cellsV, V.P2.cells] using hu
theorem vl_up (v : Nat → Vl) (x : Nat) (y : Vl) : (fun i => (up v x y i).d) = up (fun i => (v i).d) x y.d := by
  funext i
  by_cases h : i = x
  · subst h; simp [up_same]
  · simp [up_ne _ _ h]
theorem vR_mem {n : Nat} (h : 0 < n) (h5 : n ≤ 5) : V.vR 0 1 (memP n) = true := by
  have : n = 1 ∨ n = 2 ∨ n = 3 ∨ n = 4 ∨ n = 5 := by omega
  rcases this with rfl | rfl | rfl | rfl | rfl <;> decide
theorem PP.mono {base base' : Nat} {W : World} {b m : Nat} {d : Pd} (h : PP base' W b m d) (hb : base ≤ base') : PP base W b m d := by
  obtain ⟨w, h⟩ := h
  exact ⟨w, Nat.le_trans hb h.hb, Nat.le_trans hb h.hm, h.blk, h.ct, h.mem, h.lg, h.lgd, h.lgl, h.hv, h.hvd, h.vl, h.vld, h.right, h.cin⟩
theorem PP.froms {base : Nat} {W : World} {b m : Nat} {d : Pd} (h : PP base W b m d) : base ≤ b ∧ base ≤ m := by
  obtain ⟨w, h⟩ := h
  exact ⟨h.hb, h.hm⟩
theorem prpI : (Try.prog.info? 54).map (fun i => (i.zero, i.size, i.bytes)) = some (some (.agg #[.int .u8 0, .int .u16 0]), 2, 4) := by kernel_rfl
/-- what a step leaves. -/
def StepZ (base : Nat) (W : World) (c : Fc) (A : Nat → Ad) (Q : Nat → Option Pd) (top ta : Nat) (g : Z.Xg VD) (kd X Y : Int) (e : Ending) (W' : World) : Prop :=
  ∃ (c' : Fc) (A' : Nat → Ad) (Q' : Nat → Option Pd) (g' : Z.Xg VD) (top' ta' : Nat), (ta = top → ta' = top') ∧ e = .returned (.int .i64 ta') ∧ FQ base W' c' A' Q' ∧ c'.bf = c.bf ∧ c'.n = c.n ∧ PInv c.n A' Q' (fun i => (c'.vl i).d) c'.w top' g' ∧ (∀ b y, Z.Chosen c.n g b y → Z.Chosen c.n g' b y) ∧ top' ≤ top + 1 ∧ BV base W W' ∧ ∃ x y : Nat, (X.tmod c.n + c.n).tmod c.n = x ∧ (Y.tmod c.n + c.n).tmod c.n = y ∧ StR c.n kd x y (fun i => (c.vl i).d) c.w A Q top (fun i => (c'.vl i).d) c'.w A' Q' top'
theorem rem_in' (z : Int) (n : Nat) (hn : 0 < n) : ∃ (r : Int) (x : Nat), z.tmod n = r ∧ -(n : Int) < r ∧ r < n ∧ (r + n).tmod n = x ∧ x < n := by
  have h1 := Int.lt_tmod_of_pos z (show (0 : Int) < n by omega)
  have h2 := Int.tmod_lt_of_pos z (show (0 : Int) < n by omega)
  have h3 := Int.tmod_nonneg (a := z.tmod n + n) n (by omega)
  have h4 := Int.tmod_lt_of_pos (z.tmod n + n) (show (0 : Int) < n by omega)
  exact ⟨z.tmod n, ((z.tmod n + n).tmod n).toNat, rfl, by omega, h2, by omega, by omega⟩
theorem wrapI {n : Int} (h1 : -9223372036854775808 ≤ n) (h2 : n ≤ 9223372036854775807) : IntKind.i64.wrap n = n := by
  rw [IntKind.wrap_i64]
  omega
set_option maxRecDepth 100000 in
set_option maxHeartbeats 2000000 in
theorem stepZ {kd : Int} (base : Nat) (W : World) (c : Fc) (A : Nat → Ad) (Q : Nat → Option Pd) (top ta : Nat) (hta : kd = 0 → ta = top) (g : Z.Xg VD) (h : FQ base W c A Q) (hI : PInv c.n A Q (fun i => (c.vl i).d) c.w top g) (X Y Zz Rr : Int) (ht : top ≤ 1000) (hs : base ≤ W.heap.size) :
    Calls Try.prog 7 #[.pointer (some ⟨c.bf, 0, none⟩), .agg #[.int .i64 kd, .int .i64 X, .int .i64 Y, .int .i64 Zz, .int .i64 Rr], .int .i64 ta] W fun e W' => StepZ base W c A Q top ta g kd X Y e W' := by
  have HI := Lib.hid hI
  have HT := Lib.hid ht
  have HTA := Lib.hid hta
  clear hta
  have h5 := hI.five
  have h0n := hI.pos
  obtain ⟨bf, hbf⟩ : ∃ z, c.bf = z := ⟨_, rfl⟩
  obtain ⟨n, hn⟩ : ∃ z, c.n = z := ⟨_, rfl⟩
  obtain ⟨row, hrow⟩ : ∃ z, c.row = z := ⟨_, rfl⟩
  have hr0 : row[0]? = some (.int .i64 n) := by rw [← hrow, ← hn]; rfl
  rw [hn] at h5 h0n
  have HBF := Lib.hid hbf
  have HNN := Lib.hid hn
  have HRO := Lib.hid hrow
  obtain ⟨k0, hk0⟩ : ∃ k, W.heap.size = k := ⟨_, rfl⟩
  obtain ⟨w1, hw1⟩ : ∃ z, W.alloc (.cells #[.int .i64 kd, .int .i64 X, .int .i64 Y, .int .i64 Zz, .int .i64 Rr] 40) = z := ⟨_, rfl⟩
  have b1 : Below W.heap.size W w1 := by rw [← hw1]; exact (Below.refl _ _).alloc (Nat.le_refl _) _
  have r1 : w1.heap[k0]? = some (.cells #[.int .i64 kd, .int .i64 X, .int .i64 Y, .int .i64 Zz, .int .i64 Rr] 40 (0, 0)) := by rw [← hw1, ← hk0]; exact heap_alloc_new _ _
  have F1 := Lib.hid (h.below b1)
  have B1 : Hid (BV base W w1) := Lib.hid (b1.bv hs)
  have S1 : Hid (base ≤ w1.heap.size) := Lib.hid (Nat.le_trans hs b1.size)
  have R1 := Lib.hid r1
  have Sd : Hid (w1.drew.heap[bf]? = some (.cells row 36 (0, 0)) ∧ w1.drew.heap[k0]? = some (.cells #[.int .i64 kd, .int .i64 X, .int .i64 Y, .int .i64 Zz, .int .i64 Rr] 40 (0, 0))) := Lib.hid ⟨by rw [← hbf, ← hrow]; exact F1.out.fld, R1.out⟩
  have HW1 := Lib.hid hw1
  have HK0 := Lib.hid hk0
  obtain ⟨r1', x, hr1, hra, hrb, hx, hxn⟩ := rem_in' X n h0n
  obtain ⟨r2', y, hr2, hsa, hsb, hy, hyn⟩ := rem_in' Y n h0n
  have hw1' : IntKind.i64.wrap r1' = r1' := wrapI (by omega) (by omega)
  have hw2' : IntKind.i64.wrap (r1' + (n : Int)) = r1' + (n : Int) := wrapI (by omega) (by omega)
  have hw3' : IntKind.i64.wrap (x : Int) = (x : Int) := wrapI (by omega) (by omega)
  have hw4' : IntKind.i64.wrap r2' = r2' := wrapI (by omega) (by omega)
  have hw5' : IntKind.i64.wrap (r2' + (n : Int)) = r2' + (n : Int) := wrapI (by omega) (by omega)
  have hw6' : IntKind.i64.wrap (y : Int) = (y : Int) := wrapI (by omega) (by omega)
  have hn0 : ¬ ((n : Int) = 0) := by omega
  have HX := Lib.hid hxn
  have HY := Lib.hid hyn
  have HXE : Hid ((X.tmod n + n).tmod n = (x : Int)) := Lib.hid (by rw [hr1]; exact hx)
  have HYE : Hid ((Y.tmod n + n).tmod n = (y : Int)) := Lib.hid (by rw [hr2]; exact hy)
  rw [hbf]
  clear h hI hbf hn hrow hw1 hk0 b1 r1
  go_enter Try.func7, Try.ntmps7
  go_wp2_with (rw [HW1.out, HK0.out])
  refine region_heldT (S := fun u => u.heap[bf]? = some (.cells row 36 (0, 0)) ∧ u.heap[k0]? = some (.cells #[.int .i64 kd, .int .i64 X, .int .i64 Y, .int .i64 Zz, .int .i64 Rr] 40 (0, 0))) 17 (by kernel_rfl) (by decide) (fun inv => ?_)
  have HS := Sd.out
  change FirstH _ _ _ _ _ _ _ _ _ _ w1.drew
  refine FirstH.go (i := 0) (v := .pointer (some ⟨k0, 1, none⟩)) rfl rfl 17 rfl (Op.fieldAddr 40 (Operand.tmp 4) 1) rfl (by kernel_rfl) (fun _ _ _ h => h) inv (fun W hS => by unfold bareO; go_simp) HS (fun inv => ?_)
  try simp only [Act.put, List.setIfInBounds_toArray, List.set_cons_zero, List.set_cons_succ]
  refine FirstH.go (i := 1) (v := .int .i64 X) rfl rfl 18 rfl (Op.load 3 (Operand.tmp 17)) rfl (by kernel_rfl) (fun _ _ _ h => h) inv (fun W hS => by have q0 := cell_of hS.1 0 (.int .i64 n) hr0; have q1 := cell_of hS.2 1 (.int .i64 X) rfl; have q2 := cell_of hS.2 2 (.int .i64 Y) rfl; unfold bareO; go_simp) HS (fun inv => ?_)
  try simp only [Act.put, List.setIfInBounds_toArray, List.set_cons_zero, List.set_cons_succ]
  refine FirstH.go (i := 2) (v := .pointer (some ⟨bf, 0, none⟩)) rfl rfl 19 rfl (Op.move (Operand.tmp 0)) rfl (by kernel_rfl) (fun _ _ _ h => h) inv (fun W hS => by unfold bareO; go_simp) HS (fun inv => ?_)
  try simp only [Act.put, List.setIfInBounds_toArray, List.set_cons_zero, List.set_cons_succ]
  refine FirstH.go (i := 3) (v := .pointer (some ⟨bf, 0, none⟩)) rfl rfl 20 rfl (Op.nilCheck (Operand.tmp 19)) rfl (by kernel_rfl) (fun _ _ _ h => h) inv (fun W hS => by unfold bareO; go_simp) HS (fun inv => ?_)
  try simp only [Act.put, List.setIfInBounds_toArray, List.set_cons_zero, List.set_cons_succ]
  refine FirstH.go (i := 4) (v := .pointer (some ⟨bf, 0, none⟩)) rfl rfl 21 rfl (Op.fieldAddr 36 (Operand.tmp 20) 0) rfl (by kernel_rfl) (fun _ _ _ h => h) inv (fun W hS => by unfold bareO; go_simp) HS (fun inv => ?_)
  try simp only [Act.put, List.setIfInBounds_toArray, List.set_cons_zero, List.set_cons_succ]
  refine FirstH.go (i := 5) (v := .int .i64 n) rfl rfl 22 rfl (Op.load 3 (Operand.tmp 21)) rfl (by kernel_rfl) (fun _ _ _ h => h) inv (fun W hS => by have q0 := cell_of hS.1 0 (.int .i64 n) hr0; have q1 := cell_of hS.2 1 (.int .i64 X) rfl; have q2 := cell_of hS.2 2 (.int .i64 Y) rfl; unfold bareO; go_simp) HS (fun inv => ?_)
  try simp only [Act.put, List.setIfInBounds_toArray, List.set_cons_zero, List.set_cons_succ]
  refine FirstH.go (i := 6) (v := .int .i64 r1') rfl rfl 23 rfl (Op.binOp BinOp.rem 3 (Operand.tmp 18) (Operand.tmp 22) 3) rfl (by kernel_rfl) (fun _ _ _ h => h) inv (fun W hS => by have h1 := hn0; have h2 := hr1; have h3 := hw1'; unfold bareO; go_simp; try omega) HS (fun inv => ?_)
  try simp only [Act.put, List.setIfInBounds_toArray, List.set_cons_zero, List.set_cons_succ]
  refine FirstH.go (i := 7) (v := .pointer (some ⟨bf, 0, none⟩)) rfl rfl 24 rfl (Op.move (Operand.tmp 0)) rfl (by kernel_rfl) (fun _ _ _ h => h) inv (fun W hS => by unfold bareO; go_simp) HS (fun inv => ?_)
  try simp only [Act.put, List.setIfInBounds_toArray, List.set_cons_zero, List.set_cons_succ]
  refine FirstH.go (i := 8) (v := .pointer (some ⟨bf, 0, none⟩)) rfl rfl 25 rfl (Op.nilCheck (Operand.tmp 24)) rfl (by kernel_rfl) (fun _ _ _ h => h) inv (fun W hS => by unfold bareO; go_simp) HS (fun inv => ?_)
  try simp only [Act.put, List.setIfInBounds_toArray, List.set_cons_zero, List.set_cons_succ]
  refine FirstH.go (i := 9) (v := .pointer (some ⟨bf, 0, none⟩)) rfl rfl 26 rfl (Op.fieldAddr 36 (Operand.tmp 25) 0) rfl (by kernel_rfl) (fun _ _ _ h => h) inv (fun W hS => by unfold bareO; go_simp) HS (fun inv => ?_)
  try simp only [Act.put, List.setIfInBounds_toArray, List.set_cons_zero, List.set_cons_succ]
  refine FirstH.go (i := 10) (v := .int .i64 n) rfl rfl 27 rfl (Op.load 3 (Operand.tmp 26)) rfl (by kernel_rfl) (fun _ _ _ h => h) inv (fun W hS => by have q0 := cell_of hS.1 0 (.int .i64 n) hr0; have q1 := cell_of hS.2 1 (.int .i64 X) rfl; have q2 := cell_of hS.2 2 (.int .i64 Y) rfl; unfold bareO; go_simp) HS (fun inv => ?_)
  try simp only [Act.put, List.setIfInBounds_toArray, List.set_cons_zero, List.set_cons_succ]
  refine FirstH.go (i := 11) (v := .int .i64 (r1' + (n : Int))) rfl rfl 28 rfl (Op.binOp BinOp.add 3 (Operand.tmp 23) (Operand.tmp 27) 3) rfl (by kernel_rfl) (fun _ _ _ h => h) inv (fun W hS => by have h3 := hw2'; unfold bareO; go_simp) HS (fun inv => ?_)
  try simp only [Act.put, List.setIfInBounds_toArray, List.set_cons_zero, List.set_cons_succ]
  refine FirstH.go (i := 12) (v := .pointer (some ⟨bf, 0, none⟩)) rfl rfl 29 rfl (Op.move (Operand.tmp 0)) rfl (by kernel_rfl) (fun _ _ _ h => h) inv (fun W hS => by unfold bareO; go_simp) HS (fun inv => ?_)
  try simp only [Act.put, List.setIfInBounds_toArray, List.set_cons_zero, List.set_cons_succ]
  refine FirstH.go (i := 13) (v := .pointer (some ⟨bf, 0, none⟩)) rfl rfl 30 rfl (Op.nilCheck (Operand.tmp 29)) rfl (by kernel_rfl) (fun _ _ _ h => h) inv (fun W hS => by unfold bareO; go_simp) HS (fun inv => ?_)
  try simp only [Act.put, List.setIfInBounds_toArray, List.set_cons_zero, List.set_cons_succ]
  refine FirstH.go (i := 14) (v := .pointer (some ⟨bf, 0, none⟩)) rfl rfl 31 rfl (Op.fieldAddr 36 (Operand.tmp 30) 0) rfl (by kernel_rfl) (fun _ _ _ h => h) inv (fun W hS => by unfold bareO; go_simp) HS (fun inv => ?_)
  try simp only [Act.put, List.setIfInBounds_toArray, List.set_cons_zero, List.set_cons_succ]
  refine FirstH.go (i := 15) (v := .int .i64 n) rfl rfl 32 rfl (Op.load 3 (Operand.tmp 31)) rfl (by kernel_rfl) (fun _ _ _ h => h) inv (fun W hS => by have q0 := cell_of hS.1 0 (.int .i64 n) hr0; have q1 := cell_of hS.2 1 (.int .i64 X) rfl; have q2 := cell_of hS.2 2 (.int .i64 Y) rfl; unfold bareO; go_simp) HS (fun inv => ?_)
  try simp only [Act.put, List.setIfInBounds_toArray, List.set_cons_zero, List.set_cons_succ]
  refine FirstH.go (i := 16) (v := .int .i64 x) rfl rfl 33 rfl (Op.binOp BinOp.rem 3 (Operand.tmp 28) (Operand.tmp 32) 3) rfl (by kernel_rfl) (fun _ _ _ h => h) inv (fun W hS => by have h1 := hn0; have h2 := hx; have h3 := hw3'; unfold bareO; go_simp; try omega) HS (fun inv => ?_)
  try simp only [Act.put, List.setIfInBounds_toArray, List.set_cons_zero, List.set_cons_succ]
  refine ⟨by kernel_rfl, ?_⟩
  simp only [List.drop_succ_cons, List.drop_zero]
  clear HS inv
  have Sd2 : Hid (w1.drew.drew.heap[bf]? = some (.cells row 36 (0, 0)) ∧ w1.drew.drew.heap[k0]? = some (.cells #[.int .i64 kd, .int .i64 X, .int .i64 Y, .int .i64 Zz, .int .i64 Rr] 40 (0, 0))) := Lib.hid Sd.out
  go_wp2_with fail
  refine region_heldT (S := fun u => u.heap[bf]? = some (.cells row 36 (0, 0)) ∧ u.heap[k0]? = some (.cells #[.int .i64 kd, .int .i64 X, .int .i64 Y, .int .i64 Zz, .int .i64 Rr] 40 (0, 0))) 17 (by kernel_rfl) (by decide) (fun inv => ?_)
  have HS := Sd2.out
  change FirstH _ _ _ _ _ _ _ _ _ _ w1.drew.drew
  refine FirstH.go (i := 0) (v := .pointer (some ⟨k0, 2, none⟩)) rfl rfl 34 rfl (Op.fieldAddr 40 (Operand.tmp 4) 2) rfl (by kernel_rfl) (fun _ _ _ h => h) inv (fun W hS => by unfold bareO; go_simp) HS (fun inv => ?_)
  try simp only [Act.put, List.setIfInBounds_toArray, List.set_cons_zero, List.set_cons_succ]
  refine FirstH.go (i := 1) (v := .int .i64 Y) rfl rfl 35 rfl (Op.load 3 (Operand.tmp 34)) rfl (by kernel_rfl) (fun _ _ _ h => h) inv (fun W hS => by have q0 := cell_of hS.1 0 (.int .i64 n) hr0; have q1 := cell_of hS.2 1 (.int .i64 X) rfl; have q2 := cell_of hS.2 2 (.int .i64 Y) rfl; unfold bareO; go_simp) HS (fun inv => ?_)
  try simp only [Act.put, List.setIfInBounds_toArray, List.set_cons_zero, List.set_cons_succ]
  refine FirstH.go (i := 2) (v := .pointer (some ⟨bf, 0, none⟩)) rfl rfl 36 rfl (Op.move (Operand.tmp 0)) rfl (by kernel_rfl) (fun _ _ _ h => h) inv (fun W hS => by unfold bareO; go_simp) HS (fun inv => ?_)
  try simp only [Act.put, List.setIfInBounds_toArray, List.set_cons_zero, List.set_cons_succ]
  refine FirstH.go (i := 3) (v := .pointer (some ⟨bf, 0, none⟩)) rfl rfl 37 rfl (Op.nilCheck (Operand.tmp 36)) rfl (by kernel_rfl) (fun _ _ _ h => h) inv (fun W hS => by unfold bareO; go_simp) HS (fun inv => ?_)
  try simp only [Act.put, List.setIfInBounds_toArray, List.set_cons_zero, List.set_cons_succ]
  refine FirstH.go (i := 4) (v := .pointer (some ⟨bf, 0, none⟩)) rfl rfl 38 rfl (Op.fieldAddr 36 (Operand.tmp 37) 0) rfl (by kernel_rfl) (fun _ _ _ h => h) inv (fun W hS => by unfold bareO; go_simp) HS (fun inv => ?_)
  try simp only [Act.put, List.setIfInBounds_toArray, List.set_cons_zero, List.set_cons_succ]
  refine FirstH.go (i := 5) (v := .int .i64 n) rfl rfl 39 rfl (Op.load 3 (Operand.tmp 38)) rfl (by kernel_rfl) (fun _ _ _ h => h) inv (fun W hS => by have q0 := cell_of hS.1 0 (.int .i64 n) hr0; have q1 := cell_of hS.2 1 (.int .i64 X) rfl; have q2 := cell_of hS.2 2 (.int .i64 Y) rfl; unfold bareO; go_simp) HS (fun inv => ?_)
  try simp only [Act.put, List.setIfInBounds_toArray, List.set_cons_zero, List.set_cons_succ]
  refine FirstH.go (i := 6) (v := .int .i64 r2') rfl rfl 40 rfl (Op.binOp BinOp.rem 3 (Operand.tmp 35) (Operand.tmp 39) 3) rfl (by kernel_rfl) (fun _ _ _ h => h) inv (fun W hS => by have h1 := hn0; have h2 := hr2; have h3 := hw4'; unfold bareO; go_simp; try omega) HS (fun inv => ?_)
  try simp only [Act.put, List.setIfInBounds_toArray, List.set_cons_zero, List.set_cons_succ]
  refine FirstH.go (i := 7) (v := .pointer (some ⟨bf, 0, none⟩)) rfl rfl 41 rfl (Op.move (Operand.tmp 0)) rfl (by kernel_rfl) (fun _ _ _ h => h) inv (fun W hS => by unfold bareO; go_simp) HS (fun inv => ?_)
  try simp only [Act.put, List.setIfInBounds_toArray, List.set_cons_zero, List.set_cons_succ]
  refine FirstH.go (i := 8) (v := .pointer (some ⟨bf, 0, none⟩)) rfl rfl 42 rfl (Op.nilCheck (Operand.tmp 41)) rfl (by kernel_rfl) (fun _ _ _ h => h) inv (fun W hS => by unfold bareO; go_simp) HS (fun inv => ?_)
  try simp only [Act.put, List.setIfInBounds_toArray, List.set_cons_zero, List.set_cons_succ]
  refine FirstH.go (i := 9) (v := .pointer (some ⟨bf, 0, none⟩)) rfl rfl 43 rfl (Op.fieldAddr 36 (Operand.tmp 42) 0) rfl (by kernel_rfl) (fun _ _ _ h => h) inv (fun W hS => by unfold bareO; go_simp) HS (fun inv => ?_)
  try simp only [Act.put, List.setIfInBounds_toArray, List.set_cons_zero, List.set_cons_succ]
  refine FirstH.go (i := 10) (v := .int .i64 n) rfl rfl 44 rfl (Op.load 3 (Operand.tmp 43)) rfl (by kernel_rfl) (fun _ _ _ h => h) inv (fun W hS => by have q0 := cell_of hS.1 0 (.int .i64 n) hr0; have q1 := cell_of hS.2 1 (.int .i64 X) rfl; have q2 := cell_of hS.2 2 (.int .i64 Y) rfl; unfold bareO; go_simp) HS (fun inv => ?_)
  try simp only [Act.put, List.setIfInBounds_toArray, List.set_cons_zero, List.set_cons_succ]
  refine FirstH.go (i := 11) (v := .int .i64 (r2' + (n : Int))) rfl rfl 45 rfl (Op.binOp BinOp.add 3 (Operand.tmp 40) (Operand.tmp 44) 3) rfl (by kernel_rfl) (fun _ _ _ h => h) inv (fun W hS => by have h3 := hw5'; unfold bareO; go_simp) HS (fun inv => ?_)
  try simp only [Act.put, List.setIfInBounds_toArray, List.set_cons_zero, List.set_cons_succ]
  refine FirstH.go (i := 12) (v := .pointer (some ⟨bf, 0, none⟩)) rfl rfl 46 rfl (Op.move (Operand.tmp 0)) rfl (by kernel_rfl) (fun _ _ _ h => h) inv (fun W hS => by unfold bareO; go_simp) HS (fun inv => ?_)
  try simp only [Act.put, List.setIfInBounds_toArray, List.set_cons_zero, List.set_cons_succ]
  refine FirstH.go (i := 13) (v := .pointer (some ⟨bf, 0, none⟩)) rfl rfl 47 rfl (Op.nilCheck (Operand.tmp 46)) rfl (by kernel_rfl) (fun _ _ _ h => h) inv (fun W hS => by unfold bareO; go_simp) HS (fun inv => ?_)
  try simp only [Act.put, List.setIfInBounds_toArray, List.set_cons_zero, List.set_cons_succ]
  refine FirstH.go (i := 14) (v := .pointer (some ⟨bf, 0, none⟩)) rfl rfl 48 rfl (Op.fieldAddr 36 (Operand.tmp 47) 0) rfl (by kernel_rfl) (fun _ _ _ h => h) inv (fun W hS => by unfold bareO; go_simp) HS (fun inv => ?_)
  try simp only [Act.put, List.setIfInBounds_toArray, List.set_cons_zero, List.set_cons_succ]
  refine FirstH.go (i := 15) (v := .int .i64 n) rfl rfl 49 rfl (Op.load 3 (Operand.tmp 48)) rfl (by kernel_rfl) (fun _ _ _ h => h) inv (fun W hS => by have q0 := cell_of hS.1 0 (.int .i64 n) hr0; have q1 := cell_of hS.2 1 (.int .i64 X) rfl; have q2 := cell_of hS.2 2 (.int .i64 Y) rfl; unfold bareO; go_simp) HS (fun inv => ?_)
  try simp only [Act.put, List.setIfInBounds_toArray, List.set_cons_zero, List.set_cons_succ]
  refine FirstH.go (i := 16) (v := .int .i64 y) rfl rfl 50 rfl (Op.binOp BinOp.rem 3 (Operand.tmp 45) (Operand.tmp 49) 3) rfl (by kernel_rfl) (fun _ _ _ h => h) inv (fun W hS => by have h1 := hn0; have h2 := hy; have h3 := hw6'; unfold bareO; go_simp; try omega) HS (fun inv => ?_)
  try simp only [Act.put, List.setIfInBounds_toArray, List.set_cons_zero, List.set_cons_succ]
  refine ⟨by kernel_rfl, ?_⟩
  simp only [List.drop_succ_cons, List.drop_zero]
  clear HS inv hr1 hra hrb hx hr2 hsa hsb hy hw1' hw2' hw3' hw4' hw5' hw6' hn0
  obtain ⟨u0, hu0⟩ : ∃ z, w1.drew.drew = z := ⟨_, rfl⟩
  have F2 : Hid (FQ base u0 c A Q) := Lib.hid (hu0 ▸ (F1.out.below (Below.refl _ _).drew).below (Below.refl _ _).drew)
  have B2 : Hid (BV base W u0) := Lib.hid (hu0 ▸ B1.out.drew.drew)
  have S2 : Hid (base ≤ u0.heap.size) := Lib.hid (hu0 ▸ S1.out)
  have R2 : Hid (u0.heap[k0]? = some (.cells #[.int .i64 kd, .int .i64 X, .int .i64 Y, .int .i64 Zz, .int .i64 Rr] 40 (0, 0))) := Lib.hid (hu0 ▸ R1.out)
  rw [hu0]
  clear hu0 Sd Sd2 F1 B1 S1 R1
  go_wp2_with fail
  obtain ⟨kb, hkb⟩ : ∃ z, u0.heap.size = z := ⟨_, rfl⟩
  have HKB := Lib.hid hkb
  have HN5 : Hid (n ≤ 5) := Lib.hid h5
  clear hkb
  go_loopw [9, 10] (fun v i wx => ∃ (j : Nat), i = .int .i64 j ∧ j ≤ n ∧ Hid (wx.ownsRow kb 54 2 v j (V.cellsV (memP j))) ∧ Hid (Below kb u0 wx)) (fun _ i _ => n - (intOf i).toNat)
  case atStart => exact ⟨0, rfl, Nat.zero_le _, Lib.hid ⟨rfl, .inl ⟨rfl, rfl⟩⟩, Lib.hid (HKB.out ▸ Below.refl _ _)⟩
  case round =>
    obtain ⟨j, rfl, hj, O, BJ⟩ := hrel
    obtain ⟨x0, hx0⟩ : ∃ z : World, z = wr := ⟨_, rfl⟩
    subst hx0
    have SX : Hid (kb ≤ x0.heap.size) := Lib.hid (by have := BJ.out.size; have := HKB.out; omega)
    have FX := Lib.hid (F2.out.below (HKB.out.symm ▸ BJ.out))
    have kx0 : x0.cell? ⟨bf, 0, none⟩ = some (.int .i64 n) := cell_of (by rw [← HBF.out, ← HRO.out]; exact FX.out.fld) 0 _ hr0
    by_cases hjn : j < n
    · as_aux_lemma =>
      skip
      have hji : (j : Int) < (n : Int) := by omega
      have HJ := Lib.hid (And.intro hj hjn)
      have hjb : j < 5 := by omega
      obtain ⟨i0, hi0, hz0, hz1, hz2⟩ := info_parts prpI
      clear hj hjn
      go_wp2_with fail
      refine (procC (j : Int) (by omega) x0).mono ?_
      rintro e x1 ⟨rfl, bx1⟩
      have BX1 := Lib.hid (BJ.out.trans (bx1.mono SX.out))
      have OX1 := Lib.hid (own_belowR O.out bx1)
      obtain ⟨ka, hka⟩ : ∃ z, x1.heap.size = z := ⟨_, rfl⟩
      have hsz : kb ≤ ka := by have := bx1.size; have := SX.out; omega
      obtain ⟨x2, hx2⟩ : ∃ z, x1.alloc (.cells #[.int .u8 j, .int .u16 1] 54) = z := ⟨_, rfl⟩
      have bx2 : Below x1.heap.size x1 x2 := by rw [← hx2]; exact (Below.refl _ _).alloc (Nat.le_refl _) _
      have rx2 : x2.heap[ka]? = some (.cells #[.int .u8 j, .int .u16 1] 54 (0, 0)) := by rw [← hx2, ← hka]; exact heap_alloc_new _ _
      have BX2 := Lib.hid (BX1.out.trans (bx2.mono (by omega)))
      have OX2 := Lib.hid (own_belowR OX1.out bx2)
      have RX2 := Lib.hid rx2
      have HX2 := Lib.hid hx2
      have HKA := Lib.hid hka
      have SX2 : Hid (kb ≤ x2.heap.size) := Lib.hid (Nat.le_trans (by omega) bx2.size)
      clear bx1 bx2 rx2 hx2 hka hsz
      go_wp2_with (first
        | (rw [HX2.out, HKA.out])
        | (at_builtin
           refine wpList_append_own _ rfl (.tmp 59) (.tmp 62) 29 rfl kb 54 i0 _ 2 4 Try.underlying29 hi0 hz0 hz1 hz2 rfl (by decide) _ j _ rfl OX2.out ⟨ka, 0, none⟩ 1 1 (V.cellsV [prp j]) rfl rfl (fun q y hq => ?qc) (by intro v hv; simp [V.cellsV, V.P2.cells] at hv; rcases hv with rfl | rfl <;> rfl) (by have := HJ.out; have := HN5.out; unfold maxLen; omega) (by have := HJ.out; have := HN5.out; omega) SX2.out ?_
           case qc =>
             rw [addr_add, Nat.zero_add, cell_of_row _ _ q _ _ _ RX2.out]
             simpa [V.cellsV, V.P2.cells, prp] using hq
           rintro v4 x4 o4 g4 -
           have O4 := Lib.hid o4
           have B4 : Hid (Below kb u0 x4) := Lib.hid (BX2.out.grown g4 SX2.out fun q hq => (OX2.out.lt q hq).1)
           clear o4 g4)
        | fail)
      go_roundw
      case rel => exact ⟨j + 1, by have := HJ.out; have := HN5.out; go_num, by have := HJ.out; omega, Lib.hid (by
        have e : V.cellsV (memP (j + 1)) = V.cellsV (memP j) ++ V.cellsV [prp j] := by
          rw [memP_succ]
          simp [V.cellsV]
        rw [e]
        exact O4.out), B4⟩
      case measure => have := HJ.out; simp [intOf]; omega
    · obtain rfl : n = j := by omega
      have hji : ¬ (n : Int) < (n : Int) := by omega
      have BX : Hid (BV base W x0) := Lib.hid (B2.out.trans ((HKB.out.symm ▸ BJ.out : Below u0.heap.size u0 x0).bv S2.out))
      have SXB : Hid (base ≤ x0.heap.size) := Lib.hid (by have := HKB.out; have := S2.out; have := SX.out; omega)
      have RX : Hid (x0.heap[k0]? = some (.cells #[.int .i64 kd, .int .i64 X, .int .i64 Y, .int .i64 Zz, .int .i64 Rr] 40 (0, 0))) := Lib.hid ((BJ.out.block k0 (by have := heap_lt R2.out; have := HKB.out; omega)).trans R2.out)
      obtain ⟨Al, cl, rfl, hcl, hml, -⟩ := (RowO.of_owns O.out).slice
      have hpl : PrO x0 (.slice Al n cl) (memP n) := by
        unfold PrO
        rw [memP_len]
        exact RowO.of_owns O.out
      have PL := Lib.hid hpl
      have HCL := Lib.hid (And.intro hcl hml)
      have k1 := cell_of RX.out 0 (.int .i64 kd) rfl
      clear hj hjn hcl hml hpl F2 B2 S2 R2 BJ O
      by_cases e0 : kd = 0
      · as_aux_lemma =>
        skip
        have n0 : (kd == 0) = true := by simp [e0]
        have m0 : decide (kd = 0) = true := by simp [e0]
        have HKD := Lib.hid e0
        obtain rfl : top = ta := (HTA.out e0).symm
        have hT1 := HT.out
        have hxb := HX.out
        have hn5 := HN5.out
        have hw7 : IntKind.i64.wrap ((top : Int) + 1) = (top : Int) + 1 := wrapI (by omega) (by omega)
        have hw8 : IntKind.u32.wrap ((top : Int) + 1) = (top : Int) + 1 := by
          unfold IntKind.wrap
          simp [IntKind.signed, IntKind.bits]
          omega
        have hw9 : IntKind.u8.wrap (x : Int) = (x : Int) := by
          unfold IntKind.wrap
          simp [IntKind.signed, IntKind.bits]
          omega
        have Fd := Lib.hid (FX.out.below (Below.refl _ _).drew)
        have Bd : Hid (BV base W x0.drew) := Lib.hid BX.out.drew
        have SZd : Hid (base ≤ x0.drew.heap.size) := Lib.hid SXB.out
        have PLd : Hid (PrO x0.drew (.slice Al n cl) (memP n)) := Lib.hid (PL.out.keep (Keeps.of_below (Below.refl _ _).drew))
        have Rd : Hid (x0.drew.heap[bf]? = some (.cells row 36 (0, 0))) := Lib.hid (by rw [← HBF.out, ← HRO.out]; exact Fd.out.fld)
        have hxc : (x : Int) < 5 := by omega
        have hxc0 : (0 : Int) ≤ (x : Int) := by omega
        clear e0
        go_wp2_with fail
        refine region_heldT (S := fun u => u.heap[bf]? = some (.cells row 36 (0, 0))) 13 (by kernel_rfl) (by decide) (fun inv => ?_)
        have HS := Rd.out
        change FirstH _ _ _ _ _ _ _ _ _ _ x0.drew
        generalize x0.drew = v1 at *
        obtain ⟨A', c', e', hrw, hc', hm', -⟩ := PrO.rows PLd.out
        injection e' with e1 e2 e3
        subst e1 e3
        have KST := Lib.hid (pStartYes 0 1 (((top : Int) + 1) * 256 + (x : Int)) Al (memP n) cl v1 hrw hc' hm' (vR_mem (Nat.lt_of_le_of_lt (Nat.zero_le _) hxb) hn5) (by omega))
        rw [← e2] at KST
        clear hrw hc' hm' e2
        refine FirstH.go (i := 0) (v := .pointer (some ⟨bf, 0, none⟩)) rfl rfl 70 rfl (Op.move (Operand.tmp 0)) rfl (by kernel_rfl) (fun _ _ _ h => h) inv (fun W hS => by unfold bareO; go_simp) HS (fun inv => ?_)
        try simp only [Act.put, List.setIfInBounds_toArray, List.set_cons_zero, List.set_cons_succ]
        refine FirstH.go (i := 1) (v := .int .i64 x) rfl rfl 71 rfl (Op.move (Operand.tmp 7)) rfl (by kernel_rfl) (fun _ _ _ h => h) inv (fun W hS => by unfold bareO; go_simp) HS (fun inv => ?_)
        try simp only [Act.put, List.setIfInBounds_toArray, List.set_cons_zero, List.set_cons_succ]
        refine FirstH.go (i := 2) (v := .slice Al n cl) rfl rfl 72 rfl (Op.move (Operand.tmp 9)) rfl (by kernel_rfl) (fun _ _ _ h => h) inv (fun W hS => by unfold bareO; go_simp) HS (fun inv => ?_)
        try simp only [Act.put, List.setIfInBounds_toArray, List.set_cons_zero, List.set_cons_succ]
        refine FirstH.go (i := 3) (v := .agg #[.int .u8 0, .int .u32 1, .slice Al n cl]) rfl rfl 73 rfl (Op.build 57 #[(1, Operand.const (Value.int IntKind.u32 1)), (2, Operand.tmp 72)]) rfl (by kernel_rfl) (fun _ _ _ h => h) inv (fun W hS => by unfold bareO; go_simp) HS (fun inv => ?_)
        try simp only [Act.put, List.setIfInBounds_toArray, List.set_cons_zero, List.set_cons_succ]
        refine FirstH.go (i := 4) (v := .int .i64 ((top : Int) + 1)) rfl rfl 74 rfl (Op.move (Operand.tmp 2)) rfl (by kernel_rfl) (fun _ _ _ h => h) inv (fun W hS => by unfold bareO; go_simp) HS (fun inv => ?_)
        try simp only [Act.put, List.setIfInBounds_toArray, List.set_cons_zero, List.set_cons_succ]
        refine FirstH.go (i := 5) (v := .int .u32 ((top : Int) + 1)) rfl rfl 75 rfl (Op.convert 3 51 (Operand.tmp 74)) rfl (by kernel_rfl) (fun _ _ _ h => h) inv (fun W hS => by have h1 := hw8; unfold bareO; go_simp; try omega) HS (fun inv => ?_)
        try simp only [Act.put, List.setIfInBounds_toArray, List.set_cons_zero, List.set_cons_succ]
        refine FirstH.go (i := 6) (v := .int .i64 x) rfl rfl 76 rfl (Op.move (Operand.tmp 7)) rfl (by kernel_rfl) (fun _ _ _ h => h) inv (fun W hS => by unfold bareO; go_simp) HS (fun inv => ?_)
        try simp only [Act.put, List.setIfInBounds_toArray, List.set_cons_zero, List.set_cons_succ]
        refine FirstH.go (i := 7) (v := .int .u8 x) rfl rfl 77 rfl (Op.convert 3 5 (Operand.tmp 76)) rfl (by kernel_rfl) (fun _ _ _ h => h) inv (fun W hS => by have h1 := hw9; unfold bareO; go_simp; try omega) HS (fun inv => ?_)
        try simp only [Act.put, List.setIfInBounds_toArray, List.set_cons_zero, List.set_cons_succ]
        refine FirstH.go (i := 10) (v := .pointer (some ⟨bf, 0, none⟩)) rfl rfl 80 rfl (Op.nilCheck (Operand.tmp 70)) rfl (by kernel_rfl) (fun _ _ _ h => h) inv (fun W hS => by unfold bareO; go_simp) HS (fun inv => ?_)
        try simp only [Act.put, List.setIfInBounds_toArray, List.set_cons_zero, List.set_cons_succ]
        refine FirstH.go (i := 11) (v := .pointer (some ⟨bf, 6, none⟩)) rfl rfl 81 rfl (Op.fieldAddr 36 (Operand.tmp 80) 2) rfl (by kernel_rfl) (fun _ _ _ h => h) inv (fun W hS => by unfold bareO; go_simp) HS (fun inv => ?_)
        try simp only [Act.put, List.setIfInBounds_toArray, List.set_cons_zero, List.set_cons_succ]
        refine FirstH.only (i := 8) (by kernel_rfl) (by decide) inv (fun inv => wpOp_call (i := 8) rfl rfl 78 rfl (Op.call { callee := Callee.value (.func 15), args := #[Operand.tmp 75, Operand.tmp 77], argTypes := #[51, 5] }) rfl 15 #[.int .u32 ((top : Int) + 1), .int .u8 x] (by unfold bareO; go_simp) (ballotC ((top : Int) + 1) x (by omega) (by omega) v1) ?_)
        rintro e v2 ⟨rfl, rfl⟩
        refine ⟨_, rfl, HS, ?_⟩
        try simp only [Act.put, List.setIfInBounds_toArray, List.set_cons_zero, List.set_cons_succ]
        refine FirstH.only (i := 9) (by kernel_rfl) (by decide) inv (fun inv => wpOp_call (i := 9) rfl rfl 79 rfl (Op.call { callee := Callee.value (.func 13), args := #[Operand.tmp 73, Operand.tmp 78], argTypes := #[57, 45] }) rfl 13 #[.agg #[.int .u8 0, .int .u32 1, .slice Al n cl], .int .u64 (((top : Int) + 1) * 256 + (x : Int))] (by unfold bareO; go_simp) (KST.out) ?_)
        rintro e v3 ⟨b, rfl, m, hp, b3⟩
        have F3 := Lib.hid (Fd.out.below b3)
        have B3 := Lib.hid (Bd.out.trans (b3.bv SZd.out))
        have S3 : Hid (base ≤ v3.heap.size) := Lib.hid (Nat.le_trans SZd.out b3.size)
        have R3 : v3.heap[bf]? = some (.cells row 36 (0, 0)) := (b3.block bf (heap_lt HS)).trans HS
        have hx5 : x < 5 := by omega
        have FR3 := Lib.hid (Fd.out.fresh (W' := v1) (Nat.le_refl _) hp.froms.1 hp.froms.2)
        obtain ⟨w10, hw10⟩ : ∃ z, v3.setCell ⟨bf, 6 + x, none⟩ (.pointer (some ⟨b, 0, none⟩)) = z := ⟨_, rfl⟩
        obtain ⟨c1, hc1⟩ : ∃ z : Fc, { c with pb := up c.pb x (some (b, m)) } = z := ⟨_, rfl⟩
        have F10 := Lib.hid (F3.out.setp hx5 (hp.mono SZd.out) FR3.out)
        rw [hc1] at F10
        rw [HBF.out, hw10] at F10
        have kp10 : KP (fun j => j = c.bf) v3 w10 := by rw [← hw10, HBF.out]; exact KP.set (S := fun j => j = bf) v3 bf _ _ rfl
        have B10 := Lib.hid (B3.out.trans (F3.out.bvF kp10 S3.out))
        have S10 : Hid (base ≤ w10.heap.size) := Lib.hid (Nat.le_trans S3.out kp10.size)
        have HW10 := Lib.hid hw10
        have c6 : v3.cell? ⟨bf, 6 + x, none⟩ = some (ptO (c.pb x)) := cell_of R3 _ _ (by rw [← HRO.out]; exact c.row_p hx5)
        have f6 := frz_row (6 + x) R3
        refine ⟨_, rfl, R3, ?_⟩
        try simp only [Act.put, List.setIfInBounds_toArray, List.set_cons_zero, List.set_cons_succ]
        refine FirstH.go (i := 12) (v := .pointer (some ⟨bf, 6 + x, none⟩)) rfl rfl 82 rfl (Op.indexAddr 28 (Operand.tmp 81) (Operand.tmp 71)) rfl (by kernel_rfl) (fun _ _ _ h => h) inv (fun W hS => by have h1 := hxc; have h2 := hxc0; unfold bareO; go_simp; try omega) R3 (fun inv => ?_)
        try simp only [Act.put, List.setIfInBounds_toArray, List.set_cons_zero, List.set_cons_succ]
        refine ⟨by kernel_rfl, ?_⟩
        simp only [List.drop_succ_cons, List.drop_zero]
        clear HS inv b3 kp10 hw10
        have C1 : Hid (c1.bf = bf ∧ c1.n = n ∧ c1.vl = c.vl ∧ c1.w = c.w) := Lib.hid (by rw [← hc1]; exact ⟨HBF.out, HNN.out, rfl, rfl⟩)
        have R10 : w10.heap[bf]? = some (.cells c1.row 36 (0, 0)) := by
          have h := F10.out.fld
          rw [C1.out.1] at h
          exact h
        have c21 : w10.cell? ⟨bf, 21 + x, none⟩ = some (.bool (c1.w x)) := cell_of R10 _ _ (c1.row_w hx5)
        have f21 := frz_row (21 + x) R10
        obtain ⟨w11, hw11⟩ : ∃ z, w10.setCell ⟨bf, 21 + x, none⟩ (.bool false) = z := ⟨_, rfl⟩
        obtain ⟨c2, hc2⟩ : ∃ z : Fc, { c1 with w := up c1.w x false } = z := ⟨_, rfl⟩
        have F11 := Lib.hid (F10.out.setw hx5 false)
        rw [hc2] at F11
        rw [C1.out.1, hw11] at F11
        have C2 : Hid (c2.bf = bf ∧ c2.n = n ∧ c2.vl = c.vl ∧ c2.w = up c.w x false) := Lib.hid (by rw [← hc2]; exact ⟨C1.out.1, C1.out.2.1, C1.out.2.2.1, by rw [← C1.out.2.2.2]⟩)
        have kp11 : KP (fun j => j = c1.bf) w10 w11 := by rw [← hw11, C1.out.1]; exact KP.set (S := fun j => j = bf) w10 bf _ _ rfl
        have B11 := Lib.hid (B10.out.trans (F10.out.bvF kp11 S10.out))
        have HW11 := Lib.hid hw11
        have HEND : Hid (∀ e, e = Ending.returned (.int .i64 ((top : Int) + 1)) → StepZ base W c A Q top top g kd X Y e w11) := Lib.hid fun e he => ⟨_, A, _, g, top + 1, top + 1, fun _ => rfl, he, F11.out, C2.out.1.trans HBF.out.symm, C2.out.2.1.trans HNN.out.symm, by
          have h := HI.out.begin x (by rw [HNN.out]; exact hxb)
          rw [show ((((top + 1) * 256 + x : Nat) : Int)) = ((top : Int) + 1) * 256 + (x : Int) by omega, HNN.out] at h
          rw [C2.out.2.2.1, C2.out.2.2.2, HNN.out]
          exact h, fun b y h => h, Nat.le_refl _, B11.out, x, y, by rw [HNN.out]; exact HXE.out, by rw [HNN.out]; exact HYE.out, ⟨fun _ => ⟨rfl, by rw [show ((((top + 1) * 256 + x : Nat) : Int)) = ((top : Int) + 1) * 256 + (x : Int) by omega, HNN.out], rfl⟩, fun h => absurd (HKD.out.symm.trans h) (by decide), fun h => absurd (HKD.out.symm.trans h) (by decide), fun h => absurd (HKD.out.symm.trans h) (by decide), fun h => h.rise⟩⟩
        clear hc1 hc2 hw11 kp11 hp
        go_wp2_with (first
          | (rw [HW10.out])
          | (rw [HW11.out])
          | fail)
        go_ret
        exact HEND.out _ rfl
      by_cases e1 : kd = 1
      · as_aux_lemma =>
        skip
        have n0 : (kd == 0) = false := by simp [e1]
        have m0 : decide (kd = 0) = false := by simp [e1]
        have n1 : (kd == 1) = true := by simp [e1]
        have m1 : decide (kd = 1) = true := by simp [e1]
        have HKD := Lib.hid e1
        have hxb := HX.out
        have hyb := HY.out
        have hn5 := HN5.out
        have hx5 : x < 5 := by omega
        have hy5 : y < 5 := by omega
        have hxc : (x : Int) < 5 := by omega
        have hyc : (y : Int) < 5 := by omega
        have RW : x0.heap[bf]? = some (.cells c.row 36 (0, 0)) := by rw [← HBF.out]; exact FX.out.fld
        have hq : ∃ b : Int, Calls Try.prog 20 #[ptO (c.pb y)] x0 (fun e W' => e = .returned (.int .u64 b) ∧ x0 = W') ∧ ((Q y = none ∧ b = 0) ∨ ∃ b1 m1 d1, c.pb y = some (b1, m1) ∧ Q y = some d1 ∧ b = d1.bal ∧ PP base x0 b1 m1 d1) := by
          rcases FX.out.pro y hy5 with ⟨h1, h2⟩ | ⟨b1, m1, d1, h1, h2, hp⟩
          · refine ⟨0, ?_, .inl ⟨h2, rfl⟩⟩
            rw [h1]
            exact ballotN x0 none (.inl rfl)
          · refine ⟨d1.bal, ?_, .inr ⟨b1, m1, d1, h1, h2, rfl, hp⟩⟩
            rw [h1]
            exact pBallot base x0 b1 m1 d1 hp
        obtain ⟨b, hKB, hbq⟩ := hq
        have k6 : x0.cell? ⟨bf, 6 + y, none⟩ = some (ptO (c.pb y)) := cell_of RW _ _ (c.row_p hy5)
        have k7 : x0.cell? ⟨bf, 1 + x, none⟩ = some (.pointer (some ⟨c.ab x, 0, none⟩)) := cell_of RW _ _ (c.row_a hx5)
        obtain ⟨ax, hax⟩ : ∃ z, c.ab x = z := ⟨_, rfl⟩
        have HAX := Lib.hid hax
        rw [hax] at k7
        have KB := Lib.hid hKB
        have KP1 : Hid (Calls Try.prog 21 #[.pointer (some ⟨ax, 0, none⟩), .int .u64 b] x0 fun e W' => e = .returned (.bool ((A x).may b)) ∧ AP W' ax ((A x).prep b) ∧ KP (fun j => j = ax) x0 W') := Lib.hid (hax ▸ prepA x0 (c.ab x) (A x) (FX.out.acc x hx5) b)
        have HBQ := Lib.hid hbq
        have HBB : Hid (b ≤ ((top * 256 + 255 : Nat) : Int)) := Lib.hid (by
          rcases hbq with ⟨_, h⟩ | ⟨b1, m1, d1, _, h, h2, _⟩
          · omega
          · rw [h2]; exact HI.out.bal h)
        obtain ⟨pv, hpv⟩ : ∃ z, ptO (c.pb y) = z := ⟨_, rfl⟩
        rw [hpv] at k6 KB
        clear e0 e1 hKB hbq hpv hax
        go_wp2_with fail
        refine KB.out.mono ?_
        rintro e z ⟨rfl, rfl⟩
        go_wp2_with fail
        refine KP1.out.mono ?_
        rintro e z1 ⟨rfl, ha1, kp1⟩
        have F1 := Lib.hid (FX.out.acall hx5 _ (HAX.out.symm ▸ kp1) (HAX.out.symm ▸ ha1))
        have B1 := Lib.hid (BX.out.trans (FX.out.bvA hx5 (HAX.out.symm ▸ kp1) SXB.out))
        have S1 : Hid (base ≤ z1.heap.size) := Lib.hid (Nat.le_trans SXB.out kp1.size)
        have I1 := Lib.hid (HI.out.prep x b)
        obtain ⟨mb, hmb⟩ : ∃ z, (A x).may b = z := ⟨_, rfl⟩
        rw [hmb]
        have HMB := Lib.hid hmb
        clear ha1 kp1 hmb KP1 KB
        cases mb with
        | false =>
          have HEND : Hid (∀ e, e = Ending.returned (.int .i64 ta) → StepZ base W c A Q top ta g kd X Y e z1) := Lib.hid fun e he => ⟨c, _, Q, g, top, ta, fun h => h, he, F1.out, rfl, rfl, I1.out, fun b y h => h, Nat.le_succ _, B1.out, x, y, by rw [HNN.out]; exact HXE.out, by rw [HNN.out]; exact HYE.out, ⟨fun h => absurd (HKD.out.symm.trans h) (by decide), fun _ d hd hm => (by
            rcases HBQ.out with ⟨h, _⟩ | ⟨b1, m1, d1, _, h, h2, _⟩
            · rw [h] at hd
              cases hd
            · rw [h] at hd
              cases hd
              rw [← h2, HMB.out] at hm
              cases hm), fun h => absurd (HKD.out.symm.trans h) (by decide), fun h => absurd (HKD.out.symm.trans h) (by decide), fun h => h.prep x HBB.out⟩⟩
          go_wp2_with fail
          go_ret
          exact HEND.out _ rfl
        | true =>
          skip
          have hb0 : b ≠ 0 := fun e => by
            have h := HMB.out
            rw [e] at h
            simp [Ad.may] at h
          obtain ⟨b1, m1, d1, hpb, hQy, hbd, -⟩ := HBQ.out.resolve_left fun h => hb0 h.2
          have HPB := Lib.hid hpb
          have HQY := Lib.hid hQy
          have HBD := Lib.hid hbd
          have RW1 : z1.heap[bf]? = some (.cells c.row 36 (0, 0)) := by rw [← HBF.out]; exact F1.out.fld
          have k7 : z1.cell? ⟨bf, 1 + x, none⟩ = some (.pointer (some ⟨ax, 0, none⟩)) := by
            rw [← HAX.out]
            exact cell_of RW1 _ _ (c.row_a hx5)
          have KH : Hid (Calls Try.prog 11 #[.pointer (some ⟨ax, 0, none⟩)] z1 fun e W' => ∃ v : Vl, e = .returned (.tuple #[.int .u64 ((A x).prep b).bal, .agg v.cs, .bool ((A x).prep b).has]) ∧ v.Ok W' ∧ v.d = ((A x).prep b).vd ∧ Below z1.heap.size z1 W') := Lib.hid (heldA z1 ax _ (by
            have h := F1.out.acc x hx5
            rw [up_same, HAX.out] at h
            exact h))
          clear hb0 hpb hQy hbd
          go_wp2_with fail
          refine KH.out.mono ?_
          rintro e z2 ⟨v, rfl, hok, hvd, b2⟩
          have F2 := Lib.hid (F1.out.below b2)
          have B2 := Lib.hid (B1.out.trans (b2.bv S1.out))
          have S2 : Hid (base ≤ z2.heap.size) := Lib.hid (Nat.le_trans S1.out b2.size)
          obtain ⟨vm, HX_, vt, HL_⟩ := v
          obtain ⟨A1, c1, e1', -, -, -, -⟩ := hok.m.rows
          obtain ⟨A2, c2, e2', -, -, -, -⟩ := hok.t.rows
          dsimp only at e1' e2'
          subst e1' e2'
          obtain ⟨n1, hn1⟩ : ∃ z, HX_.length = z := ⟨_, rfl⟩
          obtain ⟨n2, hn2⟩ : ∃ z, HL_.length = z := ⟨_, rfl⟩
          dsimp only [Vl.cs]
          have HN1 := Lib.hid hn1
          have HN2 := Lib.hid hn2
          have HOK := Lib.hid hok
          have HVD := Lib.hid hvd
          rw [hn1, hn2]
          obtain ⟨kh, hkh⟩ : ∃ z, z2.heap.size = z := ⟨_, rfl⟩
          obtain ⟨z3, hz3⟩ : ∃ z, z2.alloc (.cells #[.slice none 0 0, .slice none 0 0] 32) = z := ⟨_, rfl⟩
          have r3 : z3.heap[kh]? = some (.cells #[.slice none 0 0, .slice none 0 0] 32 (0, 0)) := by rw [← hz3, ← hkh]; exact heap_alloc_new _ _
          obtain ⟨z4, hz4⟩ : ∃ z, z3.setRow kh #[.slice A1 n1 c1, .slice A2 n2 c2] = z := ⟨_, rfl⟩
          have b4 : Below z2.heap.size z2 z4 := by
            rw [← hz4, ← hz3, ← hkh]
            exact ((Below.refl _ _).alloc (Nat.le_refl _) _).trans ⟨rfl, rfl, rfl, by simp [World.setRow], fun k hk => setRow_other _ z2.heap.size k _ (by omega)⟩
          have F4 := Lib.hid (F2.out.below b4)
          have B4 := Lib.hid (B2.out.trans (b4.bv S2.out))
          have S4 : Hid (base ≤ z4.drew.heap.size) := Lib.hid (Nat.le_trans S2.out b4.size)
          have OK4 := Lib.hid (HOK.out.keep (Keeps.of_below b4))
          have R4 : Hid (z4.heap[kh]? = some (.cells #[.slice A1 n1 c1, .slice A2 n2 c2] 32 (0, 0))) := Lib.hid (by rw [← hz4]; exact setRow_heapG _ _ _ _ _ _ r3)
          have HZ3 := Lib.hid hz3
          have HZ4 := Lib.hid hz4
          have HKH := Lib.hid hkh
          have RH3 := Lib.hid r3
          clear hok hvd b2 hn1 hn2 hkh hz3 r3 hz4 b4 KH k6 k7 RW RW1
          go_wp2_with (first
            | (rw [HZ3.out, HKH.out])
            | (refine wpList_store_row rfl 32 (.tmp 13) (.tmp 114) rfl kh #[.slice A1 n1 c1, .slice A2 n2 c2] (by rfl) (by rfl) 32 _ RH3.out (by kernel_rfl) rfl (by simp [Value.oneCell']) ?_; rw [HZ4.out])
            | fail)
          obtain ⟨z5, hz5⟩ : ∃ z, z4.drew = z := ⟨_, rfl⟩
          have F5 : Hid (FQ base z5 c (up A x ((A x).prep b)) Q) := Lib.hid (hz5 ▸ F4.out.below (Below.refl _ _).drew)
          have B5 : Hid (BV base W z5) := Lib.hid (hz5 ▸ B4.out.drew)
          have S5 : Hid (base ≤ z5.heap.size) := Lib.hid (hz5 ▸ S4.out)
          have OK5 := Lib.hid (hz5 ▸ OK4.out.keep (Keeps.of_below (Below.refl _ _).drew))
          have R5 : Hid (z5.heap[bf]? = some (.cells c.row 36 (0, 0)) ∧ z5.heap[kh]? = some (.cells #[.slice A1 n1 c1, .slice A2 n2 c2] 32 (0, 0))) := Lib.hid ⟨by rw [← HBF.out]; exact F5.out.fld, hz5 ▸ R4.out⟩
          have hpy : c.row[6 + y]? = some (.pointer (some ⟨b1, 0, none⟩)) := by
            have h := c.row_p hy5
            rw [HPB.out] at h
            exact h
          refine region_heldT (S := fun u => u.heap[bf]? = some (.cells c.row 36 (0, 0)) ∧ u.heap[kh]? = some (.cells #[.slice A1 n1 c1, .slice A2 n2 c2] 32 (0, 0))) 13 (by kernel_rfl) (by decide) (fun inv => ?_)
          have HS := R5.out
          change FirstH _ _ _ _ _ _ _ _ _ _ z4.drew
          rw [hz5]
          clear hz5 F4 B4 S4 OK4 R4 F2 B2 S2
          obtain ⟨acc, hacc⟩ : ∃ z, ((A x).prep b).bal = z := ⟨_, rfl⟩
          obtain ⟨hs, hhs⟩ : ∃ z, ((A x).prep b).has = z := ⟨_, rfl⟩
          have HACC := Lib.hid hacc
          have HHS := Lib.hid hhs
          rw [hacc, hhs]
          clear hacc hhs
          refine FirstH.go (i := 0) (v := .pointer (some ⟨bf, 0, none⟩)) rfl rfl 116 rfl (Op.move (Operand.tmp 0)) rfl (by kernel_rfl) (fun _ _ _ h => h) inv (fun W hS => by unfold bareO; go_simp) HS (fun inv => ?_)
          try simp only [Act.put, List.setIfInBounds_toArray, List.set_cons_zero, List.set_cons_succ]
          refine FirstH.go (i := 1) (v := .int .i64 y) rfl rfl 117 rfl (Op.move (Operand.tmp 8)) rfl (by kernel_rfl) (fun _ _ _ h => h) inv (fun W hS => by unfold bareO; go_simp) HS (fun inv => ?_)
          try simp only [Act.put, List.setIfInBounds_toArray, List.set_cons_zero, List.set_cons_succ]
          refine FirstH.go (i := 2) (v := .pointer (some ⟨bf, 0, none⟩)) rfl rfl 118 rfl (Op.nilCheck (Operand.tmp 116)) rfl (by kernel_rfl) (fun _ _ _ h => h) inv (fun W hS => by unfold bareO; go_simp) HS (fun inv => ?_)
          try simp only [Act.put, List.setIfInBounds_toArray, List.set_cons_zero, List.set_cons_succ]
          refine FirstH.go (i := 3) (v := .pointer (some ⟨bf, 6, none⟩)) rfl rfl 119 rfl (Op.fieldAddr 36 (Operand.tmp 118) 2) rfl (by kernel_rfl) (fun _ _ _ h => h) inv (fun W hS => by unfold bareO; go_simp) HS (fun inv => ?_)
          try simp only [Act.put, List.setIfInBounds_toArray, List.set_cons_zero, List.set_cons_succ]
          refine FirstH.go (i := 4) (v := .pointer (some ⟨bf, 6 + y, none⟩)) rfl rfl 120 rfl (Op.indexAddr 28 (Operand.tmp 119) (Operand.tmp 117)) rfl (by kernel_rfl) (fun _ _ _ h => h) inv (fun W hS => by have h1 := hyc; unfold bareO; go_simp; try omega) HS (fun inv => ?_)
          try simp only [Act.put, List.setIfInBounds_toArray, List.set_cons_zero, List.set_cons_succ]
          refine FirstH.go (i := 5) (v := .pointer (some ⟨b1, 0, none⟩)) rfl rfl 121 rfl (Op.load 27 (Operand.tmp 120)) rfl (by kernel_rfl) (fun _ _ _ h => h) inv (fun W hS => by have q := cell_of hS.1 _ _ hpy; unfold bareO; go_simp) HS (fun inv => ?_)
          try simp only [Act.put, List.setIfInBounds_toArray, List.set_cons_zero, List.set_cons_succ]
          refine FirstH.go (i := 6) (v := .int .i64 x) rfl rfl 122 rfl (Op.move (Operand.tmp 7)) rfl (by kernel_rfl) (fun _ _ _ h => h) inv (fun W hS => by unfold bareO; go_simp) HS (fun inv => ?_)
          try simp only [Act.put, List.setIfInBounds_toArray, List.set_cons_zero, List.set_cons_succ]
          refine FirstH.go (i := 8) (v := .int .i64 x) rfl rfl 124 rfl (Op.move (Operand.tmp 7)) rfl (by kernel_rfl) (fun _ _ _ h => h) inv (fun W hS => by unfold bareO; go_simp) HS (fun inv => ?_)
          try simp only [Act.put, List.setIfInBounds_toArray, List.set_cons_zero, List.set_cons_succ]
          refine FirstH.go (i := 10) (v := .int .u64 acc) rfl rfl 126 rfl (Op.move (Operand.tmp 12)) rfl (by kernel_rfl) (fun _ _ _ h => h) inv (fun W hS => by unfold bareO; go_simp) HS (fun inv => ?_)
          try simp only [Act.put, List.setIfInBounds_toArray, List.set_cons_zero, List.set_cons_succ]
          refine FirstH.go (i := 11) (v := .agg #[.slice A1 n1 c1, .slice A2 n2 c2]) rfl rfl 127 rfl (Op.load 32 (Operand.tmp 13)) rfl (by kernel_rfl) (fun _ _ _ h => h) inv (fun W hS => by have q0 := cell_of hS.2 0 (.slice A1 n1 c1) rfl; have q1 := cell_of hS.2 1 (.slice A2 n2 c2) rfl; unfold bareO; go_simp) HS (fun inv => ?_)
          try simp only [Act.put, List.setIfInBounds_toArray, List.set_cons_zero, List.set_cons_succ]
          refine FirstH.go (i := 12) (v := .bool hs) rfl rfl 128 rfl (Op.move (Operand.tmp 14)) rfl (by kernel_rfl) (fun _ _ _ h => h) inv (fun W hS => by unfold bareO; go_simp) HS (fun inv => ?_)
          try simp only [Act.put, List.setIfInBounds_toArray, List.set_cons_zero, List.set_cons_succ]
          refine FirstH.only (i := 7) (by kernel_rfl) (by decide) inv (fun inv => wpOp_call (i := 7) rfl rfl 123 rfl (Op.call { callee := Callee.value (.func 14), args := #[Operand.tmp 122], argTypes := #[3] }) rfl 14 #[.int .i64 x] (by unfold bareO; go_simp) (procC (x : Int) (by omega) z5) ?_)
          rintro e z6 ⟨rfl, b⟩
          have F6 := Lib.hid (F5.out.below b)
          have B6 := Lib.hid (B5.out.trans (b.bv S5.out))
          have S6 : Hid (base ≤ z6.heap.size) := Lib.hid (Nat.le_trans S5.out b.size)
          have OK6 := Lib.hid (OK5.out.keep (Keeps.of_below b))
          have R6 : Hid (z6.heap[bf]? = some (.cells c.row 36 (0, 0)) ∧ z6.heap[kh]? = some (.cells #[.slice A1 n1 c1, .slice A2 n2 c2] 32 (0, 0))) := Lib.hid ⟨(b.block bf (heap_lt R5.out.1)).trans R5.out.1, (b.block kh (heap_lt R5.out.2)).trans R5.out.2⟩
          clear b HS
          have HS := R6.out
          refine ⟨_, rfl, R6.out, ?_⟩
          try simp only [Act.put, List.setIfInBounds_toArray, List.set_cons_zero, List.set_cons_succ]
          refine FirstH.only (i := 9) (by kernel_rfl) (by decide) inv (fun inv => wpOp_call (i := 9) rfl rfl 125 rfl (Op.call { callee := Callee.value (.func 22), args := #[Operand.tmp 124], argTypes := #[3] }) rfl 22 #[.int .i64 x] (by unfold bareO; go_simp) (tailC x (by omega) z6) ?_)
          rintro e z7 ⟨tv, TL, rfl, hen, hln, b⟩
          have F7 := Lib.hid (F6.out.below b)
          have B7 := Lib.hid (B6.out.trans (b.bv S6.out))
          have S7 : Hid (base ≤ z7.heap.size) := Lib.hid (Nat.le_trans S6.out b.size)
          have OK7 := Lib.hid (OK6.out.keep (Keeps.of_below b))
          have R7 : Hid (z7.heap[bf]? = some (.cells c.row 36 (0, 0)) ∧ z7.heap[kh]? = some (.cells #[.slice A1 n1 c1, .slice A2 n2 c2] 32 (0, 0))) := Lib.hid ⟨(b.block bf (heap_lt R6.out.1)).trans R6.out.1, (b.block kh (heap_lt R6.out.2)).trans R6.out.2⟩
          have HEN := Lib.hid hen
          have HTL := Lib.hid hln
          have HLN : Hid (TL.length ≤ 1000) := Lib.hid (by omega)
          clear hen hln
          clear b HS
          have HS := R7.out
          refine ⟨_, rfl, R7.out, ?_⟩
          try simp only [Act.put, List.setIfInBounds_toArray, List.set_cons_zero, List.set_cons_succ]
          refine ⟨by kernel_rfl, ?_⟩
          simp only [List.drop_succ_cons, List.drop_zero]
          clear HS inv
          obtain ⟨yv, hyv⟩ : ∃ z : Vl, (⟨.slice A1 n1 c1, HX_, .slice A2 n2 c2, HL_⟩ : Vl) = z := ⟨_, rfl⟩
          have OKY : Hid (yv.Ok z7 ∧ yv.d = ((A x).prep b).vd) := Lib.hid (by
            have h := OK7.out
            have h2 := HVD.out
            rw [HN1.out, HN2.out] at h h2
            rw [hyv] at h h2
            exact ⟨h, h2⟩)
          have hp : PP base z7 b1 m1 d1 := by
            rcases F7.out.pro y hy5 with ⟨h1, _⟩ | ⟨b', m', d', h1, h2, hp⟩
            · rw [HPB.out] at h1
              cases h1
            · rw [HPB.out] at h1
              rw [HQY.out] at h2
              cases h1
              cases h2
              exact hp
          have KPR := Lib.hid (pPromise base z7 b1 m1 d1 hp (prp x) ⟨by show (0 : Int) ≤ (x : Int) ∧ (x : Int) ≤ 255; omega, by show (0 : Int) ≤ 1 ∧ (1 : Int) ≤ 65535; omega⟩ tv TL HEN.out HLN.out acc yv OKY.out.1 hs)
          have KPR2 : Hid (Calls Try.prog 16 #[.pointer (some ⟨b1, 0, none⟩), .agg #[.int .u8 x, .int .u16 1], tv, .int .u64 acc, .agg #[.slice A1 n1 c1, .slice A2 n2 c2], .bool hs] z7 fun e W' => e = .returned (.tuple #[]) ∧ PP base W' b1 m1 (d1.promise (prp x) (TL.map Le.v) acc yv.d hs) ∧ KP (FP b1 m1) z7 W') := Lib.hid (by
            have h := KPR.out
            rw [← hyv] at h ⊢
            exact h)
          clear hp KPR hyv
          go_wp2_with fail
          refine KPR2.out.mono ?_
          rintro e z8 ⟨rfl, hp8, kp8⟩
          have F8 := Lib.hid (F7.out.pcall hy5 HPB.out HQY.out _ kp8 hp8)
          have B8 := Lib.hid (B7.out.trans (F7.out.bvP hy5 HPB.out kp8 S7.out))
          have HEND : Hid (∀ e, e = Ending.returned (.int .i64 ta) → StepZ base W c A Q top ta g kd X Y e z8) := Lib.hid fun e he => ⟨c, _, _, g, top, ta, fun h => h, he, F8.out, rfl, rfl, by
            have h := I1.out.promise x y (by rw [HNN.out]; exact hxb) d1 HQY.out (by rw [up_same, Ad.prep_yes HMB.out]; exact HBD.out) (TL.map Le.v)
            rw [up_same, HACC.out, HHS.out, ← OKY.out.2] at h
            exact h, fun b y h => h, Nat.le_succ _, B8.out, x, y, by rw [HNN.out]; exact HXE.out, by rw [HNN.out]; exact HYE.out, ⟨fun h => absurd (HKD.out.symm.trans h) (by decide), fun _ d hd hm => (by
              rw [HQY.out] at hd
              cases hd
              refine ⟨by rw [HBD.out], TL.map Le.v, by rw [List.length_map]; exact HTL.out, acc, yv.d, ?_⟩
              rw [← HHS.out, Ad.prep_has]), fun h => absurd (HKD.out.symm.trans h) (by decide), fun h => absurd (HKD.out.symm.trans h) (by decide), fun h => h.prep x HBB.out⟩⟩
          clear hp8 kp8
          go_wp2_with fail
          go_ret
          exact HEND.out _ rfl
      by_cases e2 : kd = 2
      · as_aux_lemma =>
        skip
        have n0 : (kd == 0) = false := by simp [e0]
        have m0 : decide (kd = 0) = false := by simp [e0]
        have n1 : (kd == 1) = false := by simp [e1]
        have m1' : decide (kd = 1) = false := by simp [e1]
        have n2 : (kd == 2) = true := by simp [e2]
        have m2' : decide (kd = 2) = true := by simp [e2]
        have HKD := Lib.hid e2
        have hxb := HX.out
        have hn5 := HN5.out
        have hx5 : x < 5 := by omega
        have hxc : (x : Int) < 5 := by omega
        have RW : x0.heap[bf]? = some (.cells c.row 36 (0, 0)) := by rw [← HBF.out]; exact FX.out.fld
        have F0 := Lib.hid (FX.out.below (Below.refl _ _).drew)
        have B0 : Hid (BV base W x0.drew) := Lib.hid BX.out.drew
        have S0 : Hid (base ≤ x0.drew.heap.size) := Lib.hid SXB.out
        have Rd : Hid (x0.drew.heap[bf]? = some (.cells c.row 36 (0, 0)) ∧ x0.drew.heap[k0]? = some (.cells #[.int .i64 kd, .int .i64 X, .int .i64 Y, .int .i64 Zz, .int .i64 Rr] 40 (0, 0))) := Lib.hid ⟨RW, RX.out⟩
        obtain ⟨pv, hpv⟩ : ∃ z, ptO (c.pb x) = z := ⟨_, rfl⟩
        have hpy : c.row[6 + x]? = some pv := by rw [← hpv]; exact c.row_p hx5
        have HPV := Lib.hid hpv
        obtain ⟨r3, zz, hr3, hz3a, hz3b, hz3, hzn⟩ := rem_in' Zz 9 (by decide)
        have hr3' : Zz.tmod 9 = r3 := hr3
        have hz3' : (r3 + 9).tmod 9 = (zz : Int) := hz3
        have hz3a' : -9 < r3 := hz3a
        have hz3b' : r3 < 9 := hz3b
        have hv3 : IntKind.i64.wrap r3 = r3 := wrapI (by omega) (by omega)
        have hv4 : IntKind.i64.wrap (r3 + 9) = r3 + 9 := wrapI (by omega) (by omega)
        have hv5 : IntKind.i64.wrap (zz : Int) = (zz : Int) := wrapI (by omega) (by omega)
        have hv6 : IntKind.i64.wrap ((zz : Int) + 1) = (zz : Int) + 1 := wrapI (by omega) (by omega)
        have HZN := Lib.hid hzn
        clear e0 e1 e2 RW hpv hr3 hz3 hz3a hz3b hzn
        go_wp2_with fail
        refine region_heldT (S := fun u => u.heap[bf]? = some (.cells c.row 36 (0, 0)) ∧ u.heap[k0]? = some (.cells #[.int .i64 kd, .int .i64 X, .int .i64 Y, .int .i64 Zz, .int .i64 Rr] 40 (0, 0))) 20 (by kernel_rfl) (by decide) (fun inv => ?_)
        have HS0 := Rd.out
        change FirstH _ _ _ _ _ _ _ _ _ _ x0.drew
        generalize x0.drew = y0 at *
        refine FirstH.go (i := 0) (v := .pointer (some ⟨bf, 0, none⟩)) rfl rfl 133 rfl (Op.move (Operand.tmp 0)) rfl (by kernel_rfl) (fun _ _ _ h => h) inv (fun W hS => by unfold bareO; go_simp) HS0 (fun inv => ?_)
        try simp only [Act.put, List.setIfInBounds_toArray, List.set_cons_zero, List.set_cons_succ]
        refine FirstH.go (i := 1) (v := .int .i64 x) rfl rfl 134 rfl (Op.move (Operand.tmp 7)) rfl (by kernel_rfl) (fun _ _ _ h => h) inv (fun W hS => by unfold bareO; go_simp) HS0 (fun inv => ?_)
        try simp only [Act.put, List.setIfInBounds_toArray, List.set_cons_zero, List.set_cons_succ]
        refine FirstH.go (i := 2) (v := .pointer (some ⟨bf, 0, none⟩)) rfl rfl 135 rfl (Op.nilCheck (Operand.tmp 133)) rfl (by kernel_rfl) (fun _ _ _ h => h) inv (fun W hS => by unfold bareO; go_simp) HS0 (fun inv => ?_)
        try simp only [Act.put, List.setIfInBounds_toArray, List.set_cons_zero, List.set_cons_succ]
        refine FirstH.go (i := 3) (v := .pointer (some ⟨bf, 6, none⟩)) rfl rfl 136 rfl (Op.fieldAddr 36 (Operand.tmp 135) 2) rfl (by kernel_rfl) (fun _ _ _ h => h) inv (fun W hS => by unfold bareO; go_simp) HS0 (fun inv => ?_)
        try simp only [Act.put, List.setIfInBounds_toArray, List.set_cons_zero, List.set_cons_succ]
        refine FirstH.go (i := 4) (v := .pointer (some ⟨bf, 6 + x, none⟩)) rfl rfl 137 rfl (Op.indexAddr 28 (Operand.tmp 136) (Operand.tmp 134)) rfl (by kernel_rfl) (fun _ _ _ h => h) inv (fun W hS => by have h1 := hxc; unfold bareO; go_simp; try omega) HS0 (fun inv => ?_)
        try simp only [Act.put, List.setIfInBounds_toArray, List.set_cons_zero, List.set_cons_succ]
        refine FirstH.go (i := 5) (v := pv) rfl rfl 138 rfl (Op.load 27 (Operand.tmp 137)) rfl (by kernel_rfl) (fun _ _ _ h => h) inv (fun W hS => by have q := cell_of hS.1 _ _ hpy; unfold bareO; go_simp) HS0 (fun inv => ?_)
        try simp only [Act.put, List.setIfInBounds_toArray, List.set_cons_zero, List.set_cons_succ]
        refine FirstH.go (i := 6) (v := .pointer (some ⟨k0, 3, none⟩)) rfl rfl 139 rfl (Op.fieldAddr 40 (Operand.tmp 4) 3) rfl (by kernel_rfl) (fun _ _ _ h => h) inv (fun W hS => by unfold bareO; go_simp) HS0 (fun inv => ?_)
        try simp only [Act.put, List.setIfInBounds_toArray, List.set_cons_zero, List.set_cons_succ]
        refine FirstH.go (i := 7) (v := .int .i64 Zz) rfl rfl 140 rfl (Op.load 3 (Operand.tmp 139)) rfl (by kernel_rfl) (fun _ _ _ h => h) inv (fun W hS => by have q0 := cell_of hS.2 3 (.int .i64 Zz) rfl; unfold bareO; go_simp) HS0 (fun inv => ?_)
        try simp only [Act.put, List.setIfInBounds_toArray, List.set_cons_zero, List.set_cons_succ]
        refine FirstH.go (i := 8) (v := .int .i64 r3) rfl rfl 141 rfl (Op.binOp BinOp.rem 3 (Operand.tmp 140) (Operand.const (Value.int IntKind.i64 9)) 3) rfl (by kernel_rfl) (fun _ _ _ h => h) inv (fun W hS => by have h1 := hr3'; have h2 := hv3; unfold bareO; go_simp; try omega) HS0 (fun inv => ?_)
        try simp only [Act.put, List.setIfInBounds_toArray, List.set_cons_zero, List.set_cons_succ]
        refine FirstH.go (i := 9) (v := .int .i64 (r3 + 9)) rfl rfl 142 rfl (Op.binOp BinOp.add 3 (Operand.tmp 141) (Operand.const (Value.int IntKind.i64 9)) 3) rfl (by kernel_rfl) (fun _ _ _ h => h) inv (fun W hS => by have h1 := hv4; unfold bareO; go_simp) HS0 (fun inv => ?_)
        try simp only [Act.put, List.setIfInBounds_toArray, List.set_cons_zero, List.set_cons_succ]
        refine FirstH.go (i := 10) (v := .int .i64 zz) rfl rfl 143 rfl (Op.binOp BinOp.rem 3 (Operand.tmp 142) (Operand.const (Value.int IntKind.i64 9)) 3) rfl (by kernel_rfl) (fun _ _ _ h => h) inv (fun W hS => by have h1 := hz3'; have h2 := hv5; unfold bareO; go_simp; try omega) HS0 (fun inv => ?_)
        try simp only [Act.put, List.setIfInBounds_toArray, List.set_cons_zero, List.set_cons_succ]
        refine FirstH.go (i := 11) (v := .int .i64 ((zz : Int) + 1)) rfl rfl 144 rfl (Op.binOp BinOp.add 3 (Operand.tmp 143) (Operand.const (Value.int IntKind.i64 1)) 3) rfl (by kernel_rfl) (fun _ _ _ h => h) inv (fun W hS => by have h1 := hv6; unfold bareO; go_simp) HS0 (fun inv => ?_)
        try simp only [Act.put, List.setIfInBounds_toArray, List.set_cons_zero, List.set_cons_succ]
        clear hr3' hz3' hz3a' hz3b' hv3 hv4 hv5 hv6
        refine FirstH.two (i := 12) (j := 18) (by kernel_rfl) (by decide) (by decide) inv (fun inv => ?_) (fun inv => ?_)
        · refine wpOp_call (i := 12) rfl rfl 145 rfl (Op.call { callee := Callee.value (.func 14), args := #[Operand.tmp 144], argTypes := #[3] }) rfl 14 #[.int .i64 ((zz : Int) + 1)] (by unfold bareO; go_simp) (procC ((zz : Int) + 1) (by have := HZN.out; omega) y0) ?_
          rintro e y1 ⟨rfl, b⟩
          have F1 := Lib.hid (F0.out.below b)
          have B1 := Lib.hid (B0.out.trans (b.bv S0.out))
          have S1 : Hid (base ≤ y1.heap.size) := Lib.hid (Nat.le_trans S0.out b.size)
          have HS1 : y1.heap[bf]? = some (.cells c.row 36 (0, 0)) ∧ y1.heap[k0]? = some (.cells #[.int .i64 kd, .int .i64 X, .int .i64 Y, .int .i64 Zz, .int .i64 Rr] 40 (0, 0)) := ⟨(b.block bf (heap_lt HS0.1)).trans HS0.1, (b.block k0 (heap_lt HS0.2)).trans HS0.2⟩
          clear b HS0
          refine ⟨_, rfl, HS1, ?_⟩
          try simp only [Act.put, List.setIfInBounds_toArray, List.set_cons_zero, List.set_cons_succ]
          refine FirstH.two (i := 13) (j := 18) (by kernel_rfl) (by decide) (by decide) inv (fun inv => ?_) (fun inv => ?_)
          · obtain ⟨ka, hka⟩ : ∃ z, y1.heap.size = z := ⟨_, rfl⟩
            obtain ⟨y2, hy⟩ : ∃ z, y1.alloc (.cells #[.int .u8 ((zz : Int) + 1), .int .u16 1] 54) = z := ⟨_, rfl⟩
            have b : Below y1.heap.size y1 y2 := by rw [← hy]; exact (Below.refl _ _).alloc (Nat.le_refl _) _
            have PL2 : Hid (PrO y2 (.slice (some ⟨ka, 0, none⟩) 1 1) [⟨(zz : Int) + 1, 1⟩]) := Lib.hid (by rw [← hy, ← hka]; exact PrO.one y1 ⟨(zz : Int) + 1, 1⟩)
            have F2 := Lib.hid (F1.out.below b)
            have B2 := Lib.hid (B1.out.trans (b.bv S1.out))
            have S2 : Hid (base ≤ y2.heap.size) := Lib.hid (Nat.le_trans S1.out b.size)
            have HS2 : y2.heap[bf]? = some (.cells c.row 36 (0, 0)) ∧ y2.heap[k0]? = some (.cells #[.int .i64 kd, .int .i64 X, .int .i64 Y, .int .i64 Zz, .int .i64 Rr] 40 (0, 0)) := ⟨(b.block bf (heap_lt HS1.1)).trans HS1.1, (b.block k0 (heap_lt HS1.2)).trans HS1.2⟩
            refine wpOp_run (i := 13) (v := .slice (some ⟨ka, 0, none⟩) 1 1) (w' := y2) rfl rfl 146 rfl (Op.buildSlice 29 1 #[(0, .tmp 145)]) rfl (by rw [← hy, ← hka]; unfold bareO; go_simp) ?_
            refine ⟨HS2, ?_⟩
            try simp only [Act.put, List.setIfInBounds_toArray, List.set_cons_zero, List.set_cons_succ]
            clear b HS1 hy hka
            refine FirstH.two (i := 14) (j := 18) (by kernel_rfl) (by decide) (by decide) inv (fun inv => ?_) (fun inv => ?_)
            · have KPZ := Lib.hid (propZ base y2 c A Q F2.out hx5 S2.out _ _ PL2.out (by show 1 ≤ 1000; omega))
              rw [HPV.out] at KPZ
              refine wpOp_call (i := 14) rfl rfl 147 rfl (Op.call { callee := Callee.value (.func 18), args := #[Operand.tmp 138, Operand.tmp 146], argTypes := #[27, 29] }) rfl 18 #[pv, .slice (some ⟨ka, 0, none⟩) 1 1] (by unfold bareO; go_simp) (KPZ.out) ?_
              rintro e y3 ⟨z, ok, Q', rfl, hok, hF, hB, hQ⟩
              have F3 := Lib.hid hF
              have B3 := Lib.hid (B2.out.trans hB)
              have S3 : Hid (base ≤ y3.heap.size) := Lib.hid (Nat.le_trans S2.out hB.size)
              have HS3 : y3.heap[bf]? = some (.cells c.row 36 (0, 0)) ∧ y3.heap[k0]? = some (.cells #[.int .i64 kd, .int .i64 X, .int .i64 Y, .int .i64 Zz, .int .i64 Rr] 40 (0, 0)) := ⟨by rw [← HBF.out]; exact hF.fld, hB.v k0 _ _ (.inr rfl) HS2.2⟩
              obtain ⟨vm, HX_, vt, HL_⟩ := z
              obtain ⟨A1, c1, e1', -, -, -, -⟩ := hok.m.rows
              obtain ⟨A2, c2, e2', -, -, -, -⟩ := hok.t.rows
              dsimp only at e1' e2'
              subst e1' e2'
              obtain ⟨n1, hn1⟩ : ∃ z, HX_.length = z := ⟨_, rfl⟩
              obtain ⟨n2, hn2⟩ : ∃ z, HL_.length = z := ⟨_, rfl⟩
              dsimp only [Vl.cs]
              obtain ⟨yv, hyv⟩ : ∃ z : Vl, (⟨.slice A1 HX_.length c1, HX_, .slice A2 HL_.length c2, HL_⟩ : Vl) = z := ⟨_, rfl⟩
              rw [hyv] at hok hQ
              have HYC : Hid (yv.m = .slice A1 n1 c1 ∧ yv.t = .slice A2 n2 c2) := Lib.hid (by rw [← hyv, ← hn1, ← hn2]; exact ⟨rfl, rfl⟩)
              rw [hn1, hn2]
              have OK3 := Lib.hid hok
              have HQ_ := Lib.hid hQ
              clear hok hF hB hQ hn1 hn2 hyv KPZ HS2
              refine ⟨_, rfl, HS3, ?_⟩
              try simp only [Act.put, List.setIfInBounds_toArray, List.set_cons_zero, List.set_cons_succ]
              refine FirstH.go (i := 15) (v := .tuple #[.agg #[.slice A1 n1 c1, .slice A2 n2 c2], .bool ok]) rfl rfl 132 rfl (Op.move (Operand.tmp 147)) rfl (by kernel_rfl) (fun _ _ _ h => h) inv (fun W hS => by unfold bareO; go_simp) HS3 (fun inv => ?_)
              try simp only [Act.put, List.setIfInBounds_toArray, List.set_cons_zero, List.set_cons_succ]
              refine FirstH.go (i := 16) (v := .agg #[.slice A1 n1 c1, .slice A2 n2 c2]) rfl rfl 148 rfl (Op.extract (Operand.tmp 132) 0) rfl (by kernel_rfl) (fun _ _ _ h => h) inv (fun W hS => by unfold bareO; go_simp) HS3 (fun inv => ?_)
              try simp only [Act.put, List.setIfInBounds_toArray, List.set_cons_zero, List.set_cons_succ]
              refine FirstH.go (i := 17) (v := .bool ok) rfl rfl 149 rfl (Op.extract (Operand.tmp 132) 1) rfl (by kernel_rfl) (fun _ _ _ h => h) inv (fun W hS => by unfold bareO; go_simp) HS3 (fun inv => ?_)
              try simp only [Act.put, List.setIfInBounds_toArray, List.set_cons_zero, List.set_cons_succ]
              obtain ⟨kh, hkh⟩ : ∃ z, y3.heap.size = z := ⟨_, rfl⟩
              obtain ⟨y4, hy⟩ : ∃ z, y3.alloc (.cells #[.slice none 0 0, .slice none 0 0] 32) = z := ⟨_, rfl⟩
              have b : Below y3.heap.size y3 y4 := by rw [← hy]; exact (Below.refl _ _).alloc (Nat.le_refl _) _
              have RK4 : Hid (y4.heap[kh]? = some (.cells #[.slice none 0 0, .slice none 0 0] 32 (0, 0))) := Lib.hid (by rw [← hy, ← hkh]; exact heap_alloc_new _ _)
              have KH : Hid (base ≤ kh ∧ W.heap.size ≤ kh) := Lib.hid ⟨by rw [← hkh]; exact S3.out, by rw [← hkh]; exact B3.out.size⟩
              have F4 := Lib.hid (F3.out.below b)
              have B4 := Lib.hid (B3.out.trans (b.bv S3.out))
              have S4 : Hid (base ≤ y4.heap.size) := Lib.hid (Nat.le_trans S3.out b.size)
              have HS4 : y4.heap[bf]? = some (.cells c.row 36 (0, 0)) ∧ y4.heap[k0]? = some (.cells #[.int .i64 kd, .int .i64 X, .int .i64 Y, .int .i64 Zz, .int .i64 Rr] 40 (0, 0)) := ⟨(b.block bf (heap_lt HS3.1)).trans HS3.1, (b.block k0 (heap_lt HS3.2)).trans HS3.2⟩
              have OK4 := Lib.hid (OK3.out.keep (Keeps.of_below b))
              refine FirstH.only (i := 18) (by kernel_rfl) (by decide) inv (fun inv => wpOp_run (i := 18) (v := .pointer (some ⟨kh, 0, none⟩)) (w' := y4) rfl rfl 15 rfl (Op.alloc 32) rfl (by rw [← hy, ← hkh]; unfold bareO; go_simp) ?_)
              refine ⟨HS4, ?_⟩
              try simp only [Act.put, List.setIfInBounds_toArray, List.set_cons_zero, List.set_cons_succ]
              clear b HS3 hy hkh
              obtain ⟨q1, hq1⟩ : ∃ z, y4.setCells kh 0 [.slice A1 n1 c1, .slice A2 n2 c2] = z := ⟨_, rfl⟩
              have kq : KP (fun j => j = kh) y4 q1 := by rw [← hq1]; exact KP.setCells (S := fun j => j = kh) rfl _ _ _
              have rq : q1.heap[kh]? = some (.cells #[.slice A1 n1 c1, .slice A2 n2 c2] 32 (0, 0)) := by rw [← hq1]; exact (row_set (row_set RK4.out _) _).trans rfl
              have TH := there_row (o := 0) (n := 2) RK4.out (by show 0 + 2 ≤ 2; omega)
              have HSq : q1.heap[bf]? = some (.cells c.row 36 (0, 0)) ∧ q1.heap[k0]? = some (.cells #[.int .i64 kd, .int .i64 X, .int .i64 Y, .int .i64 Zz, .int .i64 Rr] 40 (0, 0)) := ⟨(kq.block bf (heap_lt HS4.1) (field_ty HS4.1 RK4.out (by decide))).trans HS4.1, (kq.block k0 (heap_lt HS4.2) (field_ty HS4.2 RK4.out (by decide))).trans HS4.2⟩
              refine FirstH.only (i := 19) (by kernel_rfl) (by decide) inv (fun inv => wpOp_st (w' := q1) (i := 19) rfl rfl rfl (Op.store 32 (.tmp 15) (.tmp 148)) rfl (by rw [← hq1]; exact run_store_midO 32 _ _ _ kh 0 #[.slice A1 n1 c1, .slice A2 n2 c2] rfl rfl TH (by kernel_rfl) (by simp [Value.oneCell'])) ?_)
              refine ⟨HSq, ?_⟩
              try simp only [Act.put, List.setIfInBounds_toArray, List.set_cons_zero, List.set_cons_succ]
              refine ⟨by kernel_rfl, ?_⟩
              simp only [List.drop_succ_cons, List.drop_zero]
              clear HSq TH
              have FQ1 := Lib.hid (F4.out.offV RK4.out kq)
              have OKQ := Lib.hid (OK4.out.keep (keepsV RK4.out kq))
              have BQ1 := Lib.hid (B4.out.setV S4.out kq KH.out RK4.out)
              have SQ1 : Hid (base ≤ q1.heap.size) := Lib.hid (Nat.le_trans S4.out kq.size)
              have HQ1 := Lib.hid hq1
              have RQ := Lib.hid rq
              clear HS4 inv kq rq hq1
              cases ok with
              | false =>
                have HEND : Hid (∀ e, e = Ending.returned (.int .i64 ta) → StepZ base W c A Q top ta g kd X Y e q1) := Lib.hid fun e he => by
                  obtain ⟨-, rfl, hnr⟩ := HQ_.out.resolve_right fun h => by cases h.1
                  exact ⟨c, A, _, g, top, ta, fun h => h, he, FQ1.out, rfl, rfl, HI.out, fun b y h => h, Nat.le_succ _, BQ1.out, x, y, by rw [HNN.out]; exact HXE.out, by rw [HNN.out]; exact HYE.out, ⟨fun h => absurd (HKD.out.symm.trans h) (by decide), fun h => absurd (HKD.out.symm.trans h) (by decide), fun _ d hd hr => (by
                    rw [hnr d hd] at hr
                    cases hr), fun h => absurd (HKD.out.symm.trans h) (by decide), fun h => h⟩⟩
                go_wp2_with fail
                go_ret
                exact HEND.out _ rfl
              | true =>
                skip
                go_wp2_with fail
                have FQ2 := Lib.hid (FQ1.out.below (Below.refl _ _).drew)
                have BQ2 : Hid (BV base W q1.drew) := Lib.hid BQ1.out.drew
                have SQ2 : Hid (base ≤ q1.drew.heap.size) := Lib.hid SQ1.out
                have OKQ2 := Lib.hid (OKQ.out.keep (Keeps.of_below (Below.refl _ _).drew))
                have RQ2 : Hid (q1.drew.heap[bf]? = some (.cells c.row 36 (0, 0)) ∧ q1.drew.heap[kh]? = some (.cells #[.slice A1 n1 c1, .slice A2 n2 c2] 32 (0, 0))) := Lib.hid ⟨by rw [← HBF.out]; exact FQ2.out.fld, RQ.out⟩
                refine region_heldT (S := fun u => u.heap[bf]? = some (.cells c.row 36 (0, 0)) ∧ u.heap[kh]? = some (.cells #[.slice A1 n1 c1, .slice A2 n2 c2] 32 (0, 0))) 5 (by kernel_rfl) (by decide) (fun inv => ?_)
                have HS := RQ2.out
                change FirstH _ _ _ _ _ _ _ _ _ _ q1.drew
                generalize q1.drew = q2 at *
                refine FirstH.go (i := 0) (v := .pointer (some ⟨bf, 0, none⟩)) rfl rfl 151 rfl (Op.move (Operand.tmp 0)) rfl (by kernel_rfl) (fun _ _ _ h => h) inv (fun W hS => by unfold bareO; go_simp) HS (fun inv => ?_)
                try simp only [Act.put, List.setIfInBounds_toArray, List.set_cons_zero, List.set_cons_succ]
                refine FirstH.go (i := 1) (v := .int .i64 x) rfl rfl 152 rfl (Op.move (Operand.tmp 7)) rfl (by kernel_rfl) (fun _ _ _ h => h) inv (fun W hS => by unfold bareO; go_simp) HS (fun inv => ?_)
                try simp only [Act.put, List.setIfInBounds_toArray, List.set_cons_zero, List.set_cons_succ]
                refine FirstH.go (i := 2) (v := .agg #[.slice A1 n1 c1, .slice A2 n2 c2]) rfl rfl 153 rfl (Op.load 32 (Operand.tmp 15)) rfl (by kernel_rfl) (fun _ _ _ h => h) inv (fun W hS => by have q0 := cell_of hS.2 0 (.slice A1 n1 c1) rfl; have q1 := cell_of hS.2 1 (.slice A2 n2 c2) rfl; unfold bareO; go_simp) HS (fun inv => ?_)
                try simp only [Act.put, List.setIfInBounds_toArray, List.set_cons_zero, List.set_cons_succ]
                refine FirstH.go (i := 3) (v := .pointer (some ⟨bf, 0, none⟩)) rfl rfl 154 rfl (Op.nilCheck (Operand.tmp 151)) rfl (by kernel_rfl) (fun _ _ _ h => h) inv (fun W hS => by unfold bareO; go_simp) HS (fun inv => ?_)
                try simp only [Act.put, List.setIfInBounds_toArray, List.set_cons_zero, List.set_cons_succ]
                refine FirstH.go (i := 4) (v := .pointer (some ⟨bf, 11, none⟩)) rfl rfl 155 rfl (Op.fieldAddr 36 (Operand.tmp 154) 3) rfl (by kernel_rfl) (fun _ _ _ h => h) inv (fun W hS => by unfold bareO; go_simp) HS (fun inv => ?_)
                try simp only [Act.put, List.setIfInBounds_toArray, List.set_cons_zero, List.set_cons_succ]
                refine ⟨by kernel_rfl, ?_⟩
                simp only [List.drop_succ_cons, List.drop_zero]
                clear HS inv
                obtain ⟨d, hQx, hrd, hzd, hQ'⟩ : ∃ d, Q x = some d ∧ d.ready = true ∧ yv.d = d.choose [⟨(zz : Int) + 1, 1⟩] ∧ Q' = up Q x (some (d.propose [⟨(zz : Int) + 1, 1⟩])) := by
                  rcases HQ_.out with h | ⟨-, d, h⟩
                  · cases h.1
                  · exact ⟨d, h⟩
                obtain ⟨q3, hq3⟩ : ∃ z, q2.setCells bf (11 + x * 2) [.slice A1 n1 c1, .slice A2 n2 c2] = z := ⟨_, rfl⟩
                obtain ⟨c1', hc1⟩ : ∃ z : Fc, { c with vl := up c.vl x yv } = z := ⟨_, rfl⟩
                have F3 := Lib.hid (FQ2.out.setv hx5 yv OKQ2.out)
                have kp3 : KP (fun j => j = c.bf) q2 q3 := by rw [← hq3, HBF.out]; exact KP.setCells (S := fun j => j = bf) rfl _ _ _
                have B3 := Lib.hid (BQ2.out.trans (FQ2.out.bvF kp3 SQ2.out))
                have S3 : Hid (base ≤ q3.heap.size) := Lib.hid (Nat.le_trans SQ2.out kp3.size)
                rw [hc1, HBF.out, HYC.out.1, HYC.out.2, hq3] at F3
                have C1 : Hid (c1'.bf = bf ∧ c1'.n = n ∧ c1'.vl = up c.vl x yv ∧ c1'.w = c.w) := Lib.hid (by rw [← hc1]; exact ⟨HBF.out, HNN.out, rfl, rfl⟩)
                have T3 := Lib.hid (there_row (o := 11 + x * 2) (n := 2) RQ2.out.1 (by show 11 + x * 2 + 2 ≤ 26; omega))
                have R3 : q3.heap[bf]? = some (.cells c1'.row 36 (0, 0)) := by
                  have h := F3.out.fld
                  rw [C1.out.1] at h
                  exact h
                have c21 : q3.cell? ⟨bf, 21 + x, none⟩ = some (.bool (c1'.w x)) := cell_of R3 _ _ (c1'.row_w hx5)
                have f21 := frz_row (21 + x) R3
                obtain ⟨q4, hq4⟩ : ∃ z, q3.setCell ⟨bf, 21 + x, none⟩ (.bool true) = z := ⟨_, rfl⟩
                obtain ⟨c2', hc2⟩ : ∃ z : Fc, { c1' with w := up c1'.w x true } = z := ⟨_, rfl⟩
                have F4 := Lib.hid (F3.out.setw hx5 true)
                rw [hc2, C1.out.1, hq4] at F4
                have C2 : Hid (c2'.bf = bf ∧ c2'.n = n ∧ c2'.vl = up c.vl x yv ∧ c2'.w = up c.w x true) := Lib.hid (by rw [← hc2]; exact ⟨C1.out.1, C1.out.2.1, C1.out.2.2.1, by rw [← C1.out.2.2.2]⟩)
                have kp4 : KP (fun j => j = c1'.bf) q3 q4 := by rw [← hq4, C1.out.1]; exact KP.set (S := fun j => j = bf) q3 bf _ _ rfl
                have B4 := Lib.hid (B3.out.trans (F3.out.bvF kp4 S3.out))
                have HQ3 := Lib.hid hq3
                have HQ4 := Lib.hid hq4
                have HEND : Hid (∀ e, e = Ending.returned (.int .i64 ta) → StepZ base W c A Q top ta g kd X Y e q4) := Lib.hid fun e he => by
                  obtain ⟨g', h1, h2⟩ := HI.out.propose x d hQx hrd [⟨(zz : Int) + 1, 1⟩]
                  refine ⟨c2', A, _, g', top, ta, fun h => h, he, F4.out, C2.out.1.trans HBF.out.symm, C2.out.2.1.trans HNN.out.symm, ?_, h2, Nat.le_succ _, B4.out, x, y, by rw [HNN.out]; exact HXE.out, by rw [HNN.out]; exact HYE.out, ⟨fun h => absurd (HKD.out.symm.trans h) (by decide), fun h => absurd (HKD.out.symm.trans h) (by decide), fun _ d' hd' hr' => (by
                    rw [hQx] at hd'
                    cases hd'
                    exact ⟨rfl, _, hQ', C2.out.2.2.2⟩), fun h => absurd (HKD.out.symm.trans h) (by decide), fun h => h⟩⟩
                  rw [hQ', C2.out.2.2.1, C2.out.2.2.2, vl_up, hzd]
                  exact h1
                clear hc1 hc2 hq3 hq4 kp3 kp4 hQx hrd hzd hQ'
                go_wp2_with (first
                  | (refine wpList_store_mid rfl 32 (.tmp 156) (.tmp 153) rfl bf (11 + x * 2) #[.slice A1 n1 c1, .slice A2 n2 c2] (by rfl) (by rfl) T3.out (by kernel_rfl) (by simp [Value.oneCell']) ?_; rw [HQ3.out])
                  | (rw [HQ4.out])
                  | fail)
                go_ret
                exact HEND.out _ rfl
            · obtain ⟨kh, hkh⟩ : ∃ z, y2.heap.size = z := ⟨_, rfl⟩
              obtain ⟨y5, hy⟩ : ∃ z, y2.alloc (.cells #[.slice none 0 0, .slice none 0 0] 32) = z := ⟨_, rfl⟩
              have b : Below y2.heap.size y2 y5 := by rw [← hy]; exact (Below.refl _ _).alloc (Nat.le_refl _) _
              have RK5 : Hid (y5.heap[kh]? = some (.cells #[.slice none 0 0, .slice none 0 0] 32 (0, 0))) := Lib.hid (by rw [← hy, ← hkh]; exact heap_alloc_new _ _)
              have KH : Hid (base ≤ kh ∧ W.heap.size ≤ kh) := Lib.hid ⟨by rw [← hkh]; exact S2.out, by rw [← hkh]; exact B2.out.size⟩
              have F5 := Lib.hid (F2.out.below b)
              have B5 := Lib.hid (B2.out.trans (b.bv S2.out))
              have S5 : Hid (base ≤ y5.heap.size) := Lib.hid (Nat.le_trans S2.out b.size)
              have HS5 : y5.heap[bf]? = some (.cells c.row 36 (0, 0)) ∧ y5.heap[k0]? = some (.cells #[.int .i64 kd, .int .i64 X, .int .i64 Y, .int .i64 Zz, .int .i64 Rr] 40 (0, 0)) := ⟨(b.block bf (heap_lt HS2.1)).trans HS2.1, (b.block k0 (heap_lt HS2.2)).trans HS2.2⟩
              have PL5 := Lib.hid (PL2.out.keep (Keeps.of_below b))
              refine wpOp_run (i := 18) (v := .pointer (some ⟨kh, 0, none⟩)) (w' := y5) rfl rfl 15 rfl (Op.alloc 32) rfl (by rw [← hy, ← hkh]; unfold bareO; go_simp) ?_
              refine ⟨HS5, ?_⟩
              try simp only [Act.put, List.setIfInBounds_toArray, List.set_cons_zero, List.set_cons_succ]
              clear b HS2 hy hkh
              have KPZ := Lib.hid (propZ base y5 c A Q F5.out hx5 S5.out _ _ PL5.out (by show 1 ≤ 1000; omega))
              rw [HPV.out] at KPZ
              refine FirstH.only (i := 14) (by kernel_rfl) (by decide) inv (fun inv => wpOp_call (i := 14) rfl rfl 147 rfl (Op.call { callee := Callee.value (.func 18), args := #[Operand.tmp 138, Operand.tmp 146], argTypes := #[27, 29] }) rfl 18 #[pv, .slice (some ⟨ka, 0, none⟩) 1 1] (by unfold bareO; go_simp) (KPZ.out) ?_)
              rintro e y6 ⟨z, ok, Q', rfl, hok, hF, hB, hQ⟩
              have F6 := Lib.hid hF
              have B6 := Lib.hid (B5.out.trans hB)
              have S6 : Hid (base ≤ y6.heap.size) := Lib.hid (Nat.le_trans S5.out hB.size)
              have HS6 : y6.heap[bf]? = some (.cells c.row 36 (0, 0)) ∧ y6.heap[k0]? = some (.cells #[.int .i64 kd, .int .i64 X, .int .i64 Y, .int .i64 Zz, .int .i64 Rr] 40 (0, 0)) := ⟨by rw [← HBF.out]; exact hF.fld, hB.v k0 _ _ (.inr rfl) HS5.2⟩
              have RK6 : Hid (y6.heap[kh]? = some (.cells #[.slice none 0 0, .slice none 0 0] 32 (0, 0))) := Lib.hid (hB.v kh _ _ (.inl rfl) RK5.out)
              obtain ⟨vm, HX_, vt, HL_⟩ := z
              obtain ⟨A1, c1, e1', -, -, -, -⟩ := hok.m.rows
              obtain ⟨A2, c2, e2', -, -, -, -⟩ := hok.t.rows
              dsimp only at e1' e2'
              subst e1' e2'
              obtain ⟨n1, hn1⟩ : ∃ z, HX_.length = z := ⟨_, rfl⟩
              obtain ⟨n2, hn2⟩ : ∃ z, HL_.length = z := ⟨_, rfl⟩
              dsimp only [Vl.cs]
              obtain ⟨yv, hyv⟩ : ∃ z : Vl, (⟨.slice A1 HX_.length c1, HX_, .slice A2 HL_.length c2, HL_⟩ : Vl) = z := ⟨_, rfl⟩
              rw [hyv] at hok hQ
              have HYC : Hid (yv.m = .slice A1 n1 c1 ∧ yv.t = .slice A2 n2 c2) := Lib.hid (by rw [← hyv, ← hn1, ← hn2]; exact ⟨rfl, rfl⟩)
              rw [hn1, hn2]
              have OK6 := Lib.hid hok
              have HQ_ := Lib.hid hQ
              clear hok hF hB hQ hn1 hn2 hyv KPZ HS5
              refine ⟨_, rfl, HS6, ?_⟩
              try simp only [Act.put, List.setIfInBounds_toArray, List.set_cons_zero, List.set_cons_succ]
              refine FirstH.go (i := 15) (v := .tuple #[.agg #[.slice A1 n1 c1, .slice A2 n2 c2], .bool ok]) rfl rfl 132 rfl (Op.move (Operand.tmp 147)) rfl (by kernel_rfl) (fun _ _ _ h => h) inv (fun W hS => by unfold bareO; go_simp) HS6 (fun inv => ?_)
              try simp only [Act.put, List.setIfInBounds_toArray, List.set_cons_zero, List.set_cons_succ]
              refine FirstH.go (i := 16) (v := .agg #[.slice A1 n1 c1, .slice A2 n2 c2]) rfl rfl 148 rfl (Op.extract (Operand.tmp 132) 0) rfl (by kernel_rfl) (fun _ _ _ h => h) inv (fun W hS => by unfold bareO; go_simp) HS6 (fun inv => ?_)
              try simp only [Act.put, List.setIfInBounds_toArray, List.set_cons_zero, List.set_cons_succ]
              refine FirstH.go (i := 17) (v := .bool ok) rfl rfl 149 rfl (Op.extract (Operand.tmp 132) 1) rfl (by kernel_rfl) (fun _ _ _ h => h) inv (fun W hS => by unfold bareO; go_simp) HS6 (fun inv => ?_)
              try simp only [Act.put, List.setIfInBounds_toArray, List.set_cons_zero, List.set_cons_succ]
              obtain ⟨q1, hq1⟩ : ∃ z, y6.setCells kh 0 [.slice A1 n1 c1, .slice A2 n2 c2] = z := ⟨_, rfl⟩
              have kq : KP (fun j => j = kh) y6 q1 := by rw [← hq1]; exact KP.setCells (S := fun j => j = kh) rfl _ _ _
              have rq : q1.heap[kh]? = some (.cells #[.slice A1 n1 c1, .slice A2 n2 c2] 32 (0, 0)) := by rw [← hq1]; exact (row_set (row_set RK6.out _) _).trans rfl
              have TH := there_row (o := 0) (n := 2) RK6.out (by show 0 + 2 ≤ 2; omega)
              have HSq : q1.heap[bf]? = some (.cells c.row 36 (0, 0)) ∧ q1.heap[k0]? = some (.cells #[.int .i64 kd, .int .i64 X, .int .i64 Y, .int .i64 Zz, .int .i64 Rr] 40 (0, 0)) := ⟨(kq.block bf (heap_lt HS6.1) (field_ty HS6.1 RK6.out (by decide))).trans HS6.1, (kq.block k0 (heap_lt HS6.2) (field_ty HS6.2 RK6.out (by decide))).trans HS6.2⟩
              refine FirstH.only (i := 19) (by kernel_rfl) (by decide) inv (fun inv => wpOp_st (w' := q1) (i := 19) rfl rfl rfl (Op.store 32 (.tmp 15) (.tmp 148)) rfl (by rw [← hq1]; exact run_store_midO 32 _ _ _ kh 0 #[.slice A1 n1 c1, .slice A2 n2 c2] rfl rfl TH (by kernel_rfl) (by simp [Value.oneCell'])) ?_)
              refine ⟨HSq, ?_⟩
              try simp only [Act.put, List.setIfInBounds_toArray, List.set_cons_zero, List.set_cons_succ]
              refine ⟨by kernel_rfl, ?_⟩
              simp only [List.drop_succ_cons, List.drop_zero]
              clear HSq TH
              have FQ1 := Lib.hid (F6.out.offV RK6.out kq)
              have OKQ := Lib.hid (OK6.out.keep (keepsV RK6.out kq))
              have BQ1 := Lib.hid (B6.out.setV S6.out kq KH.out RK6.out)
              have SQ1 : Hid (base ≤ q1.heap.size) := Lib.hid (Nat.le_trans S6.out kq.size)
              have HQ1 := Lib.hid hq1
              have RQ := Lib.hid rq
              clear HS6 inv kq rq hq1
              cases ok with
              | false =>
                have HEND : Hid (∀ e, e = Ending.returned (.int .i64 ta) → StepZ base W c A Q top ta g kd X Y e q1) := Lib.hid fun e he => by
                  obtain ⟨-, rfl, hnr⟩ := HQ_.out.resolve_right fun h => by cases h.1
                  exact ⟨c, A, _, g, top, ta, fun h => h, he, FQ1.out, rfl, rfl, HI.out, fun b y h => h, Nat.le_succ _, BQ1.out, x, y, by rw [HNN.out]; exact HXE.out, by rw [HNN.out]; exact HYE.out, ⟨fun h => absurd (HKD.out.symm.trans h) (by decide), fun h => absurd (HKD.out.symm.trans h) (by decide), fun _ d hd hr => (by
                    rw [hnr d hd] at hr
                    cases hr), fun h => absurd (HKD.out.symm.trans h) (by decide), fun h => h⟩⟩
                go_wp2_with fail
                go_ret
                exact HEND.out _ rfl
              | true =>
                skip
                go_wp2_with fail
                have FQ2 := Lib.hid (FQ1.out.below (Below.refl _ _).drew)
                have BQ2 : Hid (BV base W q1.drew) := Lib.hid BQ1.out.drew
                have SQ2 : Hid (base ≤ q1.drew.heap.size) := Lib.hid SQ1.out
                have OKQ2 := Lib.hid (OKQ.out.keep (Keeps.of_below (Below.refl _ _).drew))
                have RQ2 : Hid (q1.drew.heap[bf]? = some (.cells c.row 36 (0, 0)) ∧ q1.drew.heap[kh]? = some (.cells #[.slice A1 n1 c1, .slice A2 n2 c2] 32 (0, 0))) := Lib.hid ⟨by rw [← HBF.out]; exact FQ2.out.fld, RQ.out⟩
                refine region_heldT (S := fun u => u.heap[bf]? = some (.cells c.row 36 (0, 0)) ∧ u.heap[kh]? = some (.cells #[.slice A1 n1 c1, .slice A2 n2 c2] 32 (0, 0))) 5 (by kernel_rfl) (by decide) (fun inv => ?_)
                have HS := RQ2.out
                change FirstH _ _ _ _ _ _ _ _ _ _ q1.drew
                generalize q1.drew = q2 at *
                refine FirstH.go (i := 0) (v := .pointer (some ⟨bf, 0, none⟩)) rfl rfl 151 rfl (Op.move (Operand.tmp 0)) rfl (by kernel_rfl) (fun _ _ _ h => h) inv (fun W hS => by unfold bareO; go_simp) HS (fun inv => ?_)
                try simp only [Act.put, List.setIfInBounds_toArray, List.set_cons_zero, List.set_cons_succ]
                refine FirstH.go (i := 1) (v := .int .i64 x) rfl rfl 152 rfl (Op.move (Operand.tmp 7)) rfl (by kernel_rfl) (fun _ _ _ h => h) inv (fun W hS => by unfold bareO; go_simp) HS (fun inv => ?_)
                try simp only [Act.put, List.setIfInBounds_toArray, List.set_cons_zero, List.set_cons_succ]
                refine FirstH.go (i := 2) (v := .agg #[.slice A1 n1 c1, .slice A2 n2 c2]) rfl rfl 153 rfl (Op.load 32 (Operand.tmp 15)) rfl (by kernel_rfl) (fun _ _ _ h => h) inv (fun W hS => by have q0 := cell_of hS.2 0 (.slice A1 n1 c1) rfl; have q1 := cell_of hS.2 1 (.slice A2 n2 c2) rfl; unfold bareO; go_simp) HS (fun inv => ?_)
                try simp only [Act.put, List.setIfInBounds_toArray, List.set_cons_zero, List.set_cons_succ]
                refine FirstH.go (i := 3) (v := .pointer (some ⟨bf, 0, none⟩)) rfl rfl 154 rfl (Op.nilCheck (Operand.tmp 151)) rfl (by kernel_rfl) (fun _ _ _ h => h) inv (fun W hS => by unfold bareO; go_simp) HS (fun inv => ?_)
                try simp only [Act.put, List.setIfInBounds_toArray, List.set_cons_zero, List.set_cons_succ]
                refine FirstH.go (i := 4) (v := .pointer (some ⟨bf, 11, none⟩)) rfl rfl 155 rfl (Op.fieldAddr 36 (Operand.tmp 154) 3) rfl (by kernel_rfl) (fun _ _ _ h => h) inv (fun W hS => by unfold bareO; go_simp) HS (fun inv => ?_)
                try simp only [Act.put, List.setIfInBounds_toArray, List.set_cons_zero, List.set_cons_succ]
                refine ⟨by kernel_rfl, ?_⟩
                simp only [List.drop_succ_cons, List.drop_zero]
                clear HS inv
                obtain ⟨d, hQx, hrd, hzd, hQ'⟩ : ∃ d, Q x = some d ∧ d.ready = true ∧ yv.d = d.choose [⟨(zz : Int) + 1, 1⟩] ∧ Q' = up Q x (some (d.propose [⟨(zz : Int) + 1, 1⟩])) := by
                  rcases HQ_.out with h | ⟨-, d, h⟩
                  · cases h.1
                  · exact ⟨d, h⟩
                obtain ⟨q3, hq3⟩ : ∃ z, q2.setCells bf (11 + x * 2) [.slice A1 n1 c1, .slice A2 n2 c2] = z := ⟨_, rfl⟩
                obtain ⟨c1', hc1⟩ : ∃ z : Fc, { c with vl := up c.vl x yv } = z := ⟨_, rfl⟩
                have F3 := Lib.hid (FQ2.out.setv hx5 yv OKQ2.out)
                have kp3 : KP (fun j => j = c.bf) q2 q3 := by rw [← hq3, HBF.out]; exact KP.setCells (S := fun j => j = bf) rfl _ _ _
                have B3 := Lib.hid (BQ2.out.trans (FQ2.out.bvF kp3 SQ2.out))
                have S3 : Hid (base ≤ q3.heap.size) := Lib.hid (Nat.le_trans SQ2.out kp3.size)
                rw [hc1, HBF.out, HYC.out.1, HYC.out.2, hq3] at F3
                have C1 : Hid (c1'.bf = bf ∧ c1'.n = n ∧ c1'.vl = up c.vl x yv ∧ c1'.w = c.w) := Lib.hid (by rw [← hc1]; exact ⟨HBF.out, HNN.out, rfl, rfl⟩)
                have T3 := Lib.hid (there_row (o := 11 + x * 2) (n := 2) RQ2.out.1 (by show 11 + x * 2 + 2 ≤ 26; omega))
                have R3 : q3.heap[bf]? = some (.cells c1'.row 36 (0, 0)) := by
                  have h := F3.out.fld
                  rw [C1.out.1] at h
                  exact h
                have c21 : q3.cell? ⟨bf, 21 + x, none⟩ = some (.bool (c1'.w x)) := cell_of R3 _ _ (c1'.row_w hx5)
                have f21 := frz_row (21 + x) R3
                obtain ⟨q4, hq4⟩ : ∃ z, q3.setCell ⟨bf, 21 + x, none⟩ (.bool true) = z := ⟨_, rfl⟩
                obtain ⟨c2', hc2⟩ : ∃ z : Fc, { c1' with w := up c1'.w x true } = z := ⟨_, rfl⟩
                have F4 := Lib.hid (F3.out.setw hx5 true)
                rw [hc2, C1.out.1, hq4] at F4
                have C2 : Hid (c2'.bf = bf ∧ c2'.n = n ∧ c2'.vl = up c.vl x yv ∧ c2'.w = up c.w x true) := Lib.hid (by rw [← hc2]; exact ⟨C1.out.1, C1.out.2.1, C1.out.2.2.1, by rw [← C1.out.2.2.2]⟩)
                have kp4 : KP (fun j => j = c1'.bf) q3 q4 := by rw [← hq4, C1.out.1]; exact KP.set (S := fun j => j = bf) q3 bf _ _ rfl
                have B4 := Lib.hid (B3.out.trans (F3.out.bvF kp4 S3.out))
                have HQ3 := Lib.hid hq3
                have HQ4 := Lib.hid hq4
                have HEND : Hid (∀ e, e = Ending.returned (.int .i64 ta) → StepZ base W c A Q top ta g kd X Y e q4) := Lib.hid fun e he => by
                  obtain ⟨g', h1, h2⟩ := HI.out.propose x d hQx hrd [⟨(zz : Int) + 1, 1⟩]
                  refine ⟨c2', A, _, g', top, ta, fun h => h, he, F4.out, C2.out.1.trans HBF.out.symm, C2.out.2.1.trans HNN.out.symm, ?_, h2, Nat.le_succ _, B4.out, x, y, by rw [HNN.out]; exact HXE.out, by rw [HNN.out]; exact HYE.out, ⟨fun h => absurd (HKD.out.symm.trans h) (by decide), fun h => absurd (HKD.out.symm.trans h) (by decide), fun _ d' hd' hr' => (by
                    rw [hQx] at hd'
                    cases hd'
                    exact ⟨rfl, _, hQ', C2.out.2.2.2⟩), fun h => absurd (HKD.out.symm.trans h) (by decide), fun h => h⟩⟩
                  rw [hQ', C2.out.2.2.1, C2.out.2.2.2, vl_up, hzd]
                  exact h1
                clear hc1 hc2 hq3 hq4 kp3 kp4 hQx hrd hzd hQ'
                go_wp2_with (first
                  | (refine wpList_store_mid rfl 32 (.tmp 156) (.tmp 153) rfl bf (11 + x * 2) #[.slice A1 n1 c1, .slice A2 n2 c2] (by rfl) (by rfl) T3.out (by kernel_rfl) (by simp [Value.oneCell']) ?_; rw [HQ3.out])
                  | (rw [HQ4.out])
                  | fail)
                go_ret
                exact HEND.out _ rfl
          · obtain ⟨kh, hkh⟩ : ∃ z, y1.heap.size = z := ⟨_, rfl⟩
            obtain ⟨y7, hy⟩ : ∃ z, y1.alloc (.cells #[.slice none 0 0, .slice none 0 0] 32) = z := ⟨_, rfl⟩
            have b : Below y1.heap.size y1 y7 := by rw [← hy]; exact (Below.refl _ _).alloc (Nat.le_refl _) _
            have RK7 : Hid (y7.heap[kh]? = some (.cells #[.slice none 0 0, .slice none 0 0] 32 (0, 0))) := Lib.hid (by rw [← hy, ← hkh]; exact heap_alloc_new _ _)
            have KH : Hid (base ≤ kh ∧ W.heap.size ≤ kh) := Lib.hid ⟨by rw [← hkh]; exact S1.out, by rw [← hkh]; exact B1.out.size⟩
            have F7 := Lib.hid (F1.out.below b)
            have B7 := Lib.hid (B1.out.trans (b.bv S1.out))
            have S7 : Hid (base ≤ y7.heap.size) := Lib.hid (Nat.le_trans S1.out b.size)
            have HS7 : y7.heap[bf]? = some (.cells c.row 36 (0, 0)) ∧ y7.heap[k0]? = some (.cells #[.int .i64 kd, .int .i64 X, .int .i64 Y, .int .i64 Zz, .int .i64 Rr] 40 (0, 0)) := ⟨(b.block bf (heap_lt HS1.1)).trans HS1.1, (b.block k0 (heap_lt HS1.2)).trans HS1.2⟩
            refine wpOp_run (i := 18) (v := .pointer (some ⟨kh, 0, none⟩)) (w' := y7) rfl rfl 15 rfl (Op.alloc 32) rfl (by rw [← hy, ← hkh]; unfold bareO; go_simp) ?_
            refine ⟨HS7, ?_⟩
            try simp only [Act.put, List.setIfInBounds_toArray, List.set_cons_zero, List.set_cons_succ]
            clear b HS1 hy hkh
            obtain ⟨ka, hka⟩ : ∃ z, y7.heap.size = z := ⟨_, rfl⟩
            obtain ⟨y8, hy⟩ : ∃ z, y7.alloc (.cells #[.int .u8 ((zz : Int) + 1), .int .u16 1] 54) = z := ⟨_, rfl⟩
            have b : Below y7.heap.size y7 y8 := by rw [← hy]; exact (Below.refl _ _).alloc (Nat.le_refl _) _
            have PL8 : Hid (PrO y8 (.slice (some ⟨ka, 0, none⟩) 1 1) [⟨(zz : Int) + 1, 1⟩]) := Lib.hid (by rw [← hy, ← hka]; exact PrO.one y7 ⟨(zz : Int) + 1, 1⟩)
            have F8 := Lib.hid (F7.out.below b)
            have B8 := Lib.hid (B7.out.trans (b.bv S7.out))
            have S8 : Hid (base ≤ y8.heap.size) := Lib.hid (Nat.le_trans S7.out b.size)
            have HS8 : y8.heap[bf]? = some (.cells c.row 36 (0, 0)) ∧ y8.heap[k0]? = some (.cells #[.int .i64 kd, .int .i64 X, .int .i64 Y, .int .i64 Zz, .int .i64 Rr] 40 (0, 0)) := ⟨(b.block bf (heap_lt HS7.1)).trans HS7.1, (b.block k0 (heap_lt HS7.2)).trans HS7.2⟩
            have RK8 : Hid (y8.heap[kh]? = some (.cells #[.slice none 0 0, .slice none 0 0] 32 (0, 0))) := Lib.hid ((b.block kh (heap_lt RK7.out)).trans RK7.out)
            refine FirstH.only (i := 13) (by kernel_rfl) (by decide) inv (fun inv => wpOp_run (i := 13) (v := .slice (some ⟨ka, 0, none⟩) 1 1) (w' := y8) rfl rfl 146 rfl (Op.buildSlice 29 1 #[(0, .tmp 145)]) rfl (by rw [← hy, ← hka]; unfold bareO; go_simp) ?_)
            refine ⟨HS8, ?_⟩
            try simp only [Act.put, List.setIfInBounds_toArray, List.set_cons_zero, List.set_cons_succ]
            clear b HS7 hy hka
            have KPZ := Lib.hid (propZ base y8 c A Q F8.out hx5 S8.out _ _ PL8.out (by show 1 ≤ 1000; omega))
            rw [HPV.out] at KPZ
            refine FirstH.only (i := 14) (by kernel_rfl) (by decide) inv (fun inv => wpOp_call (i := 14) rfl rfl 147 rfl (Op.call { callee := Callee.value (.func 18), args := #[Operand.tmp 138, Operand.tmp 146], argTypes := #[27, 29] }) rfl 18 #[pv, .slice (some ⟨ka, 0, none⟩) 1 1] (by unfold bareO; go_simp) (KPZ.out) ?_)
            rintro e y9 ⟨z, ok, Q', rfl, hok, hF, hB, hQ⟩
            have F9 := Lib.hid hF
            have B9 := Lib.hid (B8.out.trans hB)
            have S9 : Hid (base ≤ y9.heap.size) := Lib.hid (Nat.le_trans S8.out hB.size)
            have HS9 : y9.heap[bf]? = some (.cells c.row 36 (0, 0)) ∧ y9.heap[k0]? = some (.cells #[.int .i64 kd, .int .i64 X, .int .i64 Y, .int .i64 Zz, .int .i64 Rr] 40 (0, 0)) := ⟨by rw [← HBF.out]; exact hF.fld, hB.v k0 _ _ (.inr rfl) HS8.2⟩
            have RK9 : Hid (y9.heap[kh]? = some (.cells #[.slice none 0 0, .slice none 0 0] 32 (0, 0))) := Lib.hid (hB.v kh _ _ (.inl rfl) RK8.out)
            obtain ⟨vm, HX_, vt, HL_⟩ := z
            obtain ⟨A1, c1, e1', -, -, -, -⟩ := hok.m.rows
            obtain ⟨A2, c2, e2', -, -, -, -⟩ := hok.t.rows
            dsimp only at e1' e2'
            subst e1' e2'
            obtain ⟨n1, hn1⟩ : ∃ z, HX_.length = z := ⟨_, rfl⟩
            obtain ⟨n2, hn2⟩ : ∃ z, HL_.length = z := ⟨_, rfl⟩
            dsimp only [Vl.cs]
            obtain ⟨yv, hyv⟩ : ∃ z : Vl, (⟨.slice A1 HX_.length c1, HX_, .slice A2 HL_.length c2, HL_⟩ : Vl) = z := ⟨_, rfl⟩
            rw [hyv] at hok hQ
            have HYC : Hid (yv.m = .slice A1 n1 c1 ∧ yv.t = .slice A2 n2 c2) := Lib.hid (by rw [← hyv, ← hn1, ← hn2]; exact ⟨rfl, rfl⟩)
            rw [hn1, hn2]
            have OK9 := Lib.hid hok
            have HQ_ := Lib.hid hQ
            clear hok hF hB hQ hn1 hn2 hyv KPZ HS8
            refine ⟨_, rfl, HS9, ?_⟩
            try simp only [Act.put, List.setIfInBounds_toArray, List.set_cons_zero, List.set_cons_succ]
            refine FirstH.go (i := 15) (v := .tuple #[.agg #[.slice A1 n1 c1, .slice A2 n2 c2], .bool ok]) rfl rfl 132 rfl (Op.move (Operand.tmp 147)) rfl (by kernel_rfl) (fun _ _ _ h => h) inv (fun W hS => by unfold bareO; go_simp) HS9 (fun inv => ?_)
            try simp only [Act.put, List.setIfInBounds_toArray, List.set_cons_zero, List.set_cons_succ]
            refine FirstH.go (i := 16) (v := .agg #[.slice A1 n1 c1, .slice A2 n2 c2]) rfl rfl 148 rfl (Op.extract (Operand.tmp 132) 0) rfl (by kernel_rfl) (fun _ _ _ h => h) inv (fun W hS => by unfold bareO; go_simp) HS9 (fun inv => ?_)
            try simp only [Act.put, List.setIfInBounds_toArray, List.set_cons_zero, List.set_cons_succ]
            refine FirstH.go (i := 17) (v := .bool ok) rfl rfl 149 rfl (Op.extract (Operand.tmp 132) 1) rfl (by kernel_rfl) (fun _ _ _ h => h) inv (fun W hS => by unfold bareO; go_simp) HS9 (fun inv => ?_)
            try simp only [Act.put, List.setIfInBounds_toArray, List.set_cons_zero, List.set_cons_succ]
            obtain ⟨q1, hq1⟩ : ∃ z, y9.setCells kh 0 [.slice A1 n1 c1, .slice A2 n2 c2] = z := ⟨_, rfl⟩
            have kq : KP (fun j => j = kh) y9 q1 := by rw [← hq1]; exact KP.setCells (S := fun j => j = kh) rfl _ _ _
            have rq : q1.heap[kh]? = some (.cells #[.slice A1 n1 c1, .slice A2 n2 c2] 32 (0, 0)) := by rw [← hq1]; exact (row_set (row_set RK9.out _) _).trans rfl
            have TH := there_row (o := 0) (n := 2) RK9.out (by show 0 + 2 ≤ 2; omega)
            have HSq : q1.heap[bf]? = some (.cells c.row 36 (0, 0)) ∧ q1.heap[k0]? = some (.cells #[.int .i64 kd, .int .i64 X, .int .i64 Y, .int .i64 Zz, .int .i64 Rr] 40 (0, 0)) := ⟨(kq.block bf (heap_lt HS9.1) (field_ty HS9.1 RK9.out (by decide))).trans HS9.1, (kq.block k0 (heap_lt HS9.2) (field_ty HS9.2 RK9.out (by decide))).trans HS9.2⟩
            refine FirstH.only (i := 19) (by kernel_rfl) (by decide) inv (fun inv => wpOp_st (w' := q1) (i := 19) rfl rfl rfl (Op.store 32 (.tmp 15) (.tmp 148)) rfl (by rw [← hq1]; exact run_store_midO 32 _ _ _ kh 0 #[.slice A1 n1 c1, .slice A2 n2 c2] rfl rfl TH (by kernel_rfl) (by simp [Value.oneCell'])) ?_)
            refine ⟨HSq, ?_⟩
            try simp only [Act.put, List.setIfInBounds_toArray, List.set_cons_zero, List.set_cons_succ]
            refine ⟨by kernel_rfl, ?_⟩
            simp only [List.drop_succ_cons, List.drop_zero]
            clear HSq TH
            have FQ1 := Lib.hid (F9.out.offV RK9.out kq)
            have OKQ := Lib.hid (OK9.out.keep (keepsV RK9.out kq))
            have BQ1 := Lib.hid (B9.out.setV S9.out kq KH.out RK9.out)
            have SQ1 : Hid (base ≤ q1.heap.size) := Lib.hid (Nat.le_trans S9.out kq.size)
            have HQ1 := Lib.hid hq1
            have RQ := Lib.hid rq
            clear HS9 inv kq rq hq1
            cases ok with
            | false =>
              have HEND : Hid (∀ e, e = Ending.returned (.int .i64 ta) → StepZ base W c A Q top ta g kd X Y e q1) := Lib.hid fun e he => by
                obtain ⟨-, rfl, hnr⟩ := HQ_.out.resolve_right fun h => by cases h.1
                exact ⟨c, A, _, g, top, ta, fun h => h, he, FQ1.out, rfl, rfl, HI.out, fun b y h => h, Nat.le_succ _, BQ1.out, x, y, by rw [HNN.out]; exact HXE.out, by rw [HNN.out]; exact HYE.out, ⟨fun h => absurd (HKD.out.symm.trans h) (by decide), fun h => absurd (HKD.out.symm.trans h) (by decide), fun _ d hd hr => (by
                  rw [hnr d hd] at hr
                  cases hr), fun h => absurd (HKD.out.symm.trans h) (by decide), fun h => h⟩⟩
              go_wp2_with fail
              go_ret
              exact HEND.out _ rfl
            | true =>
              skip
              go_wp2_with fail
              have FQ2 := Lib.hid (FQ1.out.below (Below.refl _ _).drew)
              have BQ2 : Hid (BV base W q1.drew) := Lib.hid BQ1.out.drew
              have SQ2 : Hid (base ≤ q1.drew.heap.size) := Lib.hid SQ1.out
              have OKQ2 := Lib.hid (OKQ.out.keep (Keeps.of_below (Below.refl _ _).drew))
              have RQ2 : Hid (q1.drew.heap[bf]? = some (.cells c.row 36 (0, 0)) ∧ q1.drew.heap[kh]? = some (.cells #[.slice A1 n1 c1, .slice A2 n2 c2] 32 (0, 0))) := Lib.hid ⟨by rw [← HBF.out]; exact FQ2.out.fld, RQ.out⟩
              refine region_heldT (S := fun u => u.heap[bf]? = some (.cells c.row 36 (0, 0)) ∧ u.heap[kh]? = some (.cells #[.slice A1 n1 c1, .slice A2 n2 c2] 32 (0, 0))) 5 (by kernel_rfl) (by decide) (fun inv => ?_)
              have HS := RQ2.out
              change FirstH _ _ _ _ _ _ _ _ _ _ q1.drew
              generalize q1.drew = q2 at *
              refine FirstH.go (i := 0) (v := .pointer (some ⟨bf, 0, none⟩)) rfl rfl 151 rfl (Op.move (Operand.tmp 0)) rfl (by kernel_rfl) (fun _ _ _ h => h) inv (fun W hS => by unfold bareO; go_simp) HS (fun inv => ?_)
              try simp only [Act.put, List.setIfInBounds_toArray, List.set_cons_zero, List.set_cons_succ]
              refine FirstH.go (i := 1) (v := .int .i64 x) rfl rfl 152 rfl (Op.move (Operand.tmp 7)) rfl (by kernel_rfl) (fun _ _ _ h => h) inv (fun W hS => by unfold bareO; go_simp) HS (fun inv => ?_)
              try simp only [Act.put, List.setIfInBounds_toArray, List.set_cons_zero, List.set_cons_succ]
              refine FirstH.go (i := 2) (v := .agg #[.slice A1 n1 c1, .slice A2 n2 c2]) rfl rfl 153 rfl (Op.load 32 (Operand.tmp 15)) rfl (by kernel_rfl) (fun _ _ _ h => h) inv (fun W hS => by have q0 := cell_of hS.2 0 (.slice A1 n1 c1) rfl; have q1 := cell_of hS.2 1 (.slice A2 n2 c2) rfl; unfold bareO; go_simp) HS (fun inv => ?_)
              try simp only [Act.put, List.setIfInBounds_toArray, List.set_cons_zero, List.set_cons_succ]
              refine FirstH.go (i := 3) (v := .pointer (some ⟨bf, 0, none⟩)) rfl rfl 154 rfl (Op.nilCheck (Operand.tmp 151)) rfl (by kernel_rfl) (fun _ _ _ h => h) inv (fun W hS => by unfold bareO; go_simp) HS (fun inv => ?_)
              try simp only [Act.put, List.setIfInBounds_toArray, List.set_cons_zero, List.set_cons_succ]
              refine FirstH.go (i := 4) (v := .pointer (some ⟨bf, 11, none⟩)) rfl rfl 155 rfl (Op.fieldAddr 36 (Operand.tmp 154) 3) rfl (by kernel_rfl) (fun _ _ _ h => h) inv (fun W hS => by unfold bareO; go_simp) HS (fun inv => ?_)
              try simp only [Act.put, List.setIfInBounds_toArray, List.set_cons_zero, List.set_cons_succ]
              refine ⟨by kernel_rfl, ?_⟩
              simp only [List.drop_succ_cons, List.drop_zero]
              clear HS inv
              obtain ⟨d, hQx, hrd, hzd, hQ'⟩ : ∃ d, Q x = some d ∧ d.ready = true ∧ yv.d = d.choose [⟨(zz : Int) + 1, 1⟩] ∧ Q' = up Q x (some (d.propose [⟨(zz : Int) + 1, 1⟩])) := by
                rcases HQ_.out with h | ⟨-, d, h⟩
                · cases h.1
                · exact ⟨d, h⟩
              obtain ⟨q3, hq3⟩ : ∃ z, q2.setCells bf (11 + x * 2) [.slice A1 n1 c1, .slice A2 n2 c2] = z := ⟨_, rfl⟩
              obtain ⟨c1', hc1⟩ : ∃ z : Fc, { c with vl := up c.vl x yv } = z := ⟨_, rfl⟩
              have F3 := Lib.hid (FQ2.out.setv hx5 yv OKQ2.out)
              have kp3 : KP (fun j => j = c.bf) q2 q3 := by rw [← hq3, HBF.out]; exact KP.setCells (S := fun j => j = bf) rfl _ _ _
              have B3 := Lib.hid (BQ2.out.trans (FQ2.out.bvF kp3 SQ2.out))
              have S3 : Hid (base ≤ q3.heap.size) := Lib.hid (Nat.le_trans SQ2.out kp3.size)
              rw [hc1, HBF.out, HYC.out.1, HYC.out.2, hq3] at F3
              have C1 : Hid (c1'.bf = bf ∧ c1'.n = n ∧ c1'.vl = up c.vl x yv ∧ c1'.w = c.w) := Lib.hid (by rw [← hc1]; exact ⟨HBF.out, HNN.out, rfl, rfl⟩)
              have T3 := Lib.hid (there_row (o := 11 + x * 2) (n := 2) RQ2.out.1 (by show 11 + x * 2 + 2 ≤ 26; omega))
              have R3 : q3.heap[bf]? = some (.cells c1'.row 36 (0, 0)) := by
                have h := F3.out.fld
                rw [C1.out.1] at h
                exact h
              have c21 : q3.cell? ⟨bf, 21 + x, none⟩ = some (.bool (c1'.w x)) := cell_of R3 _ _ (c1'.row_w hx5)
              have f21 := frz_row (21 + x) R3
              obtain ⟨q4, hq4⟩ : ∃ z, q3.setCell ⟨bf, 21 + x, none⟩ (.bool true) = z := ⟨_, rfl⟩
              obtain ⟨c2', hc2⟩ : ∃ z : Fc, { c1' with w := up c1'.w x true } = z := ⟨_, rfl⟩
              have F4 := Lib.hid (F3.out.setw hx5 true)
              rw [hc2, C1.out.1, hq4] at F4
              have C2 : Hid (c2'.bf = bf ∧ c2'.n = n ∧ c2'.vl = up c.vl x yv ∧ c2'.w = up c.w x true) := Lib.hid (by rw [← hc2]; exact ⟨C1.out.1, C1.out.2.1, C1.out.2.2.1, by rw [← C1.out.2.2.2]⟩)
              have kp4 : KP (fun j => j = c1'.bf) q3 q4 := by rw [← hq4, C1.out.1]; exact KP.set (S := fun j => j = bf) q3 bf _ _ rfl
              have B4 := Lib.hid (B3.out.trans (F3.out.bvF kp4 S3.out))
              have HQ3 := Lib.hid hq3
              have HQ4 := Lib.hid hq4
              have HEND : Hid (∀ e, e = Ending.returned (.int .i64 ta) → StepZ base W c A Q top ta g kd X Y e q4) := Lib.hid fun e he => by
                obtain ⟨g', h1, h2⟩ := HI.out.propose x d hQx hrd [⟨(zz : Int) + 1, 1⟩]
                refine ⟨c2', A, _, g', top, ta, fun h => h, he, F4.out, C2.out.1.trans HBF.out.symm, C2.out.2.1.trans HNN.out.symm, ?_, h2, Nat.le_succ _, B4.out, x, y, by rw [HNN.out]; exact HXE.out, by rw [HNN.out]; exact HYE.out, ⟨fun h => absurd (HKD.out.symm.trans h) (by decide), fun h => absurd (HKD.out.symm.trans h) (by decide), fun _ d' hd' hr' => (by
                  rw [hQx] at hd'
                  cases hd'
                  exact ⟨rfl, _, hQ', C2.out.2.2.2⟩), fun h => absurd (HKD.out.symm.trans h) (by decide), fun h => h⟩⟩
                rw [hQ', C2.out.2.2.1, C2.out.2.2.2, vl_up, hzd]
                exact h1
              clear hc1 hc2 hq3 hq4 kp3 kp4 hQx hrd hzd hQ'
              go_wp2_with (first
                | (refine wpList_store_mid rfl 32 (.tmp 156) (.tmp 153) rfl bf (11 + x * 2) #[.slice A1 n1 c1, .slice A2 n2 c2] (by rfl) (by rfl) T3.out (by kernel_rfl) (by simp [Value.oneCell']) ?_; rw [HQ3.out])
                | (rw [HQ4.out])
                | fail)
              go_ret
              exact HEND.out _ rfl
        · obtain ⟨kh, hkh⟩ : ∃ z, y0.heap.size = z := ⟨_, rfl⟩
          obtain ⟨y10, hy⟩ : ∃ z, y0.alloc (.cells #[.slice none 0 0, .slice none 0 0] 32) = z := ⟨_, rfl⟩
          have b : Below y0.heap.size y0 y10 := by rw [← hy]; exact (Below.refl _ _).alloc (Nat.le_refl _) _
          have RK10 : Hid (y10.heap[kh]? = some (.cells #[.slice none 0 0, .slice none 0 0] 32 (0, 0))) := Lib.hid (by rw [← hy, ← hkh]; exact heap_alloc_new _ _)
          have KH : Hid (base ≤ kh ∧ W.heap.size ≤ kh) := Lib.hid ⟨by rw [← hkh]; exact S0.out, by rw [← hkh]; exact B0.out.size⟩
          have F10 := Lib.hid (F0.out.below b)
          have B10 := Lib.hid (B0.out.trans (b.bv S0.out))
          have S10 : Hid (base ≤ y10.heap.size) := Lib.hid (Nat.le_trans S0.out b.size)
          have HS10 : y10.heap[bf]? = some (.cells c.row 36 (0, 0)) ∧ y10.heap[k0]? = some (.cells #[.int .i64 kd, .int .i64 X, .int .i64 Y, .int .i64 Zz, .int .i64 Rr] 40 (0, 0)) := ⟨(b.block bf (heap_lt HS0.1)).trans HS0.1, (b.block k0 (heap_lt HS0.2)).trans HS0.2⟩
          refine wpOp_run (i := 18) (v := .pointer (some ⟨kh, 0, none⟩)) (w' := y10) rfl rfl 15 rfl (Op.alloc 32) rfl (by rw [← hy, ← hkh]; unfold bareO; go_simp) ?_
          refine ⟨HS10, ?_⟩
          try simp only [Act.put, List.setIfInBounds_toArray, List.set_cons_zero, List.set_cons_succ]
          clear b HS0 hy hkh
          refine FirstH.only (i := 12) (by kernel_rfl) (by decide) inv (fun inv => wpOp_call (i := 12) rfl rfl 145 rfl (Op.call { callee := Callee.value (.func 14), args := #[Operand.tmp 144], argTypes := #[3] }) rfl 14 #[.int .i64 ((zz : Int) + 1)] (by unfold bareO; go_simp) (procC ((zz : Int) + 1) (by have := HZN.out; omega) y10) ?_)
          rintro e y11 ⟨rfl, b⟩
          have F11 := Lib.hid (F10.out.below b)
          have B11 := Lib.hid (B10.out.trans (b.bv S10.out))
          have S11 : Hid (base ≤ y11.heap.size) := Lib.hid (Nat.le_trans S10.out b.size)
          have HS11 : y11.heap[bf]? = some (.cells c.row 36 (0, 0)) ∧ y11.heap[k0]? = some (.cells #[.int .i64 kd, .int .i64 X, .int .i64 Y, .int .i64 Zz, .int .i64 Rr] 40 (0, 0)) := ⟨(b.block bf (heap_lt HS10.1)).trans HS10.1, (b.block k0 (heap_lt HS10.2)).trans HS10.2⟩
          have RK11 : Hid (y11.heap[kh]? = some (.cells #[.slice none 0 0, .slice none 0 0] 32 (0, 0))) := Lib.hid ((b.block kh (heap_lt RK10.out)).trans RK10.out)
          clear b HS10
          refine ⟨_, rfl, HS11, ?_⟩
          try simp only [Act.put, List.setIfInBounds_toArray, List.set_cons_zero, List.set_cons_succ]
          obtain ⟨ka, hka⟩ : ∃ z, y11.heap.size = z := ⟨_, rfl⟩
          obtain ⟨y12, hy⟩ : ∃ z, y11.alloc (.cells #[.int .u8 ((zz : Int) + 1), .int .u16 1] 54) = z := ⟨_, rfl⟩
          have b : Below y11.heap.size y11 y12 := by rw [← hy]; exact (Below.refl _ _).alloc (Nat.le_refl _) _
          have PL12 : Hid (PrO y12 (.slice (some ⟨ka, 0, none⟩) 1 1) [⟨(zz : Int) + 1, 1⟩]) := Lib.hid (by rw [← hy, ← hka]; exact PrO.one y11 ⟨(zz : Int) + 1, 1⟩)
          have F12 := Lib.hid (F11.out.below b)
          have B12 := Lib.hid (B11.out.trans (b.bv S11.out))
          have S12 : Hid (base ≤ y12.heap.size) := Lib.hid (Nat.le_trans S11.out b.size)
          have HS12 : y12.heap[bf]? = some (.cells c.row 36 (0, 0)) ∧ y12.heap[k0]? = some (.cells #[.int .i64 kd, .int .i64 X, .int .i64 Y, .int .i64 Zz, .int .i64 Rr] 40 (0, 0)) := ⟨(b.block bf (heap_lt HS11.1)).trans HS11.1, (b.block k0 (heap_lt HS11.2)).trans HS11.2⟩
          have RK12 : Hid (y12.heap[kh]? = some (.cells #[.slice none 0 0, .slice none 0 0] 32 (0, 0))) := Lib.hid ((b.block kh (heap_lt RK11.out)).trans RK11.out)
          refine FirstH.only (i := 13) (by kernel_rfl) (by decide) inv (fun inv => wpOp_run (i := 13) (v := .slice (some ⟨ka, 0, none⟩) 1 1) (w' := y12) rfl rfl 146 rfl (Op.buildSlice 29 1 #[(0, .tmp 145)]) rfl (by rw [← hy, ← hka]; unfold bareO; go_simp) ?_)
          refine ⟨HS12, ?_⟩
          try simp only [Act.put, List.setIfInBounds_toArray, List.set_cons_zero, List.set_cons_succ]
          clear b HS11 hy hka
          have KPZ := Lib.hid (propZ base y12 c A Q F12.out hx5 S12.out _ _ PL12.out (by show 1 ≤ 1000; omega))
          rw [HPV.out] at KPZ
          refine FirstH.only (i := 14) (by kernel_rfl) (by decide) inv (fun inv => wpOp_call (i := 14) rfl rfl 147 rfl (Op.call { callee := Callee.value (.func 18), args := #[Operand.tmp 138, Operand.tmp 146], argTypes := #[27, 29] }) rfl 18 #[pv, .slice (some ⟨ka, 0, none⟩) 1 1] (by unfold bareO; go_simp) (KPZ.out) ?_)
          rintro e y13 ⟨z, ok, Q', rfl, hok, hF, hB, hQ⟩
          have F13 := Lib.hid hF
          have B13 := Lib.hid (B12.out.trans hB)
          have S13 : Hid (base ≤ y13.heap.size) := Lib.hid (Nat.le_trans S12.out hB.size)
          have HS13 : y13.heap[bf]? = some (.cells c.row 36 (0, 0)) ∧ y13.heap[k0]? = some (.cells #[.int .i64 kd, .int .i64 X, .int .i64 Y, .int .i64 Zz, .int .i64 Rr] 40 (0, 0)) := ⟨by rw [← HBF.out]; exact hF.fld, hB.v k0 _ _ (.inr rfl) HS12.2⟩
          have RK13 : Hid (y13.heap[kh]? = some (.cells #[.slice none 0 0, .slice none 0 0] 32 (0, 0))) := Lib.hid (hB.v kh _ _ (.inl rfl) RK12.out)
          obtain ⟨vm, HX_, vt, HL_⟩ := z
          obtain ⟨A1, c1, e1', -, -, -, -⟩ := hok.m.rows
          obtain ⟨A2, c2, e2', -, -, -, -⟩ := hok.t.rows
          dsimp only at e1' e2'
          subst e1' e2'
          obtain ⟨n1, hn1⟩ : ∃ z, HX_.length = z := ⟨_, rfl⟩
          obtain ⟨n2, hn2⟩ : ∃ z, HL_.length = z := ⟨_, rfl⟩
          dsimp only [Vl.cs]
          obtain ⟨yv, hyv⟩ : ∃ z : Vl, (⟨.slice A1 HX_.length c1, HX_, .slice A2 HL_.length c2, HL_⟩ : Vl) = z := ⟨_, rfl⟩
          rw [hyv] at hok hQ
          have HYC : Hid (yv.m = .slice A1 n1 c1 ∧ yv.t = .slice A2 n2 c2) := Lib.hid (by rw [← hyv, ← hn1, ← hn2]; exact ⟨rfl, rfl⟩)
          rw [hn1, hn2]
          have OK13 := Lib.hid hok
          have HQ_ := Lib.hid hQ
          clear hok hF hB hQ hn1 hn2 hyv KPZ HS12
          refine ⟨_, rfl, HS13, ?_⟩
          try simp only [Act.put, List.setIfInBounds_toArray, List.set_cons_zero, List.set_cons_succ]
          refine FirstH.go (i := 15) (v := .tuple #[.agg #[.slice A1 n1 c1, .slice A2 n2 c2], .bool ok]) rfl rfl 132 rfl (Op.move (Operand.tmp 147)) rfl (by kernel_rfl) (fun _ _ _ h => h) inv (fun W hS => by unfold bareO; go_simp) HS13 (fun inv => ?_)
          try simp only [Act.put, List.setIfInBounds_toArray, List.set_cons_zero, List.set_cons_succ]
          refine FirstH.go (i := 16) (v := .agg #[.slice A1 n1 c1, .slice A2 n2 c2]) rfl rfl 148 rfl (Op.extract (Operand.tmp 132) 0) rfl (by kernel_rfl) (fun _ _ _ h => h) inv (fun W hS => by unfold bareO; go_simp) HS13 (fun inv => ?_)
          try simp only [Act.put, List.setIfInBounds_toArray, List.set_cons_zero, List.set_cons_succ]
          refine FirstH.go (i := 17) (v := .bool ok) rfl rfl 149 rfl (Op.extract (Operand.tmp 132) 1) rfl (by kernel_rfl) (fun _ _ _ h => h) inv (fun W hS => by unfold bareO; go_simp) HS13 (fun inv => ?_)
          try simp only [Act.put, List.setIfInBounds_toArray, List.set_cons_zero, List.set_cons_succ]
          obtain ⟨q1, hq1⟩ : ∃ z, y13.setCells kh 0 [.slice A1 n1 c1, .slice A2 n2 c2] = z := ⟨_, rfl⟩
          have kq : KP (fun j => j = kh) y13 q1 := by rw [← hq1]; exact KP.setCells (S := fun j => j = kh) rfl _ _ _
          have rq : q1.heap[kh]? = some (.cells #[.slice A1 n1 c1, .slice A2 n2 c2] 32 (0, 0)) := by rw [← hq1]; exact (row_set (row_set RK13.out _) _).trans rfl
          have TH := there_row (o := 0) (n := 2) RK13.out (by show 0 + 2 ≤ 2; omega)
          have HSq : q1.heap[bf]? = some (.cells c.row 36 (0, 0)) ∧ q1.heap[k0]? = some (.cells #[.int .i64 kd, .int .i64 X, .int .i64 Y, .int .i64 Zz, .int .i64 Rr] 40 (0, 0)) := ⟨(kq.block bf (heap_lt HS13.1) (field_ty HS13.1 RK13.out (by decide))).trans HS13.1, (kq.block k0 (heap_lt HS13.2) (field_ty HS13.2 RK13.out (by decide))).trans HS13.2⟩
          refine FirstH.only (i := 19) (by kernel_rfl) (by decide) inv (fun inv => wpOp_st (w' := q1) (i := 19) rfl rfl rfl (Op.store 32 (.tmp 15) (.tmp 148)) rfl (by rw [← hq1]; exact run_store_midO 32 _ _ _ kh 0 #[.slice A1 n1 c1, .slice A2 n2 c2] rfl rfl TH (by kernel_rfl) (by simp [Value.oneCell'])) ?_)
          refine ⟨HSq, ?_⟩
          try simp only [Act.put, List.setIfInBounds_toArray, List.set_cons_zero, List.set_cons_succ]
          refine ⟨by kernel_rfl, ?_⟩
          simp only [List.drop_succ_cons, List.drop_zero]
          clear HSq TH
          have FQ1 := Lib.hid (F13.out.offV RK13.out kq)
          have OKQ := Lib.hid (OK13.out.keep (keepsV RK13.out kq))
          have BQ1 := Lib.hid (B13.out.setV S13.out kq KH.out RK13.out)
          have SQ1 : Hid (base ≤ q1.heap.size) := Lib.hid (Nat.le_trans S13.out kq.size)
          have HQ1 := Lib.hid hq1
          have RQ := Lib.hid rq
          clear HS13 inv kq rq hq1
          cases ok with
          | false =>
            have HEND : Hid (∀ e, e = Ending.returned (.int .i64 ta) → StepZ base W c A Q top ta g kd X Y e q1) := Lib.hid fun e he => by
              obtain ⟨-, rfl, hnr⟩ := HQ_.out.resolve_right fun h => by cases h.1
              exact ⟨c, A, _, g, top, ta, fun h => h, he, FQ1.out, rfl, rfl, HI.out, fun b y h => h, Nat.le_succ _, BQ1.out, x, y, by rw [HNN.out]; exact HXE.out, by rw [HNN.out]; exact HYE.out, ⟨fun h => absurd (HKD.out.symm.trans h) (by decide), fun h => absurd (HKD.out.symm.trans h) (by decide), fun _ d hd hr => (by
                rw [hnr d hd] at hr
                cases hr), fun h => absurd (HKD.out.symm.trans h) (by decide), fun h => h⟩⟩
            go_wp2_with fail
            go_ret
            exact HEND.out _ rfl
          | true =>
            skip
            go_wp2_with fail
            have FQ2 := Lib.hid (FQ1.out.below (Below.refl _ _).drew)
            have BQ2 : Hid (BV base W q1.drew) := Lib.hid BQ1.out.drew
            have SQ2 : Hid (base ≤ q1.drew.heap.size) := Lib.hid SQ1.out
            have OKQ2 := Lib.hid (OKQ.out.keep (Keeps.of_below (Below.refl _ _).drew))
            have RQ2 : Hid (q1.drew.heap[bf]? = some (.cells c.row 36 (0, 0)) ∧ q1.drew.heap[kh]? = some (.cells #[.slice A1 n1 c1, .slice A2 n2 c2] 32 (0, 0))) := Lib.hid ⟨by rw [← HBF.out]; exact FQ2.out.fld, RQ.out⟩
            refine region_heldT (S := fun u => u.heap[bf]? = some (.cells c.row 36 (0, 0)) ∧ u.heap[kh]? = some (.cells #[.slice A1 n1 c1, .slice A2 n2 c2] 32 (0, 0))) 5 (by kernel_rfl) (by decide) (fun inv => ?_)
            have HS := RQ2.out
            change FirstH _ _ _ _ _ _ _ _ _ _ q1.drew
            generalize q1.drew = q2 at *
            refine FirstH.go (i := 0) (v := .pointer (some ⟨bf, 0, none⟩)) rfl rfl 151 rfl (Op.move (Operand.tmp 0)) rfl (by kernel_rfl) (fun _ _ _ h => h) inv (fun W hS => by unfold bareO; go_simp) HS (fun inv => ?_)
            try simp only [Act.put, List.setIfInBounds_toArray, List.set_cons_zero, List.set_cons_succ]
            refine FirstH.go (i := 1) (v := .int .i64 x) rfl rfl 152 rfl (Op.move (Operand.tmp 7)) rfl (by kernel_rfl) (fun _ _ _ h => h) inv (fun W hS => by unfold bareO; go_simp) HS (fun inv => ?_)
            try simp only [Act.put, List.setIfInBounds_toArray, List.set_cons_zero, List.set_cons_succ]
            refine FirstH.go (i := 2) (v := .agg #[.slice A1 n1 c1, .slice A2 n2 c2]) rfl rfl 153 rfl (Op.load 32 (Operand.tmp 15)) rfl (by kernel_rfl) (fun _ _ _ h => h) inv (fun W hS => by have q0 := cell_of hS.2 0 (.slice A1 n1 c1) rfl; have q1 := cell_of hS.2 1 (.slice A2 n2 c2) rfl; unfold bareO; go_simp) HS (fun inv => ?_)
            try simp only [Act.put, List.setIfInBounds_toArray, List.set_cons_zero, List.set_cons_succ]
            refine FirstH.go (i := 3) (v := .pointer (some ⟨bf, 0, none⟩)) rfl rfl 154 rfl (Op.nilCheck (Operand.tmp 151)) rfl (by kernel_rfl) (fun _ _ _ h => h) inv (fun W hS => by unfold bareO; go_simp) HS (fun inv => ?_)
            try simp only [Act.put, List.setIfInBounds_toArray, List.set_cons_zero, List.set_cons_succ]
            refine FirstH.go (i := 4) (v := .pointer (some ⟨bf, 11, none⟩)) rfl rfl 155 rfl (Op.fieldAddr 36 (Operand.tmp 154) 3) rfl (by kernel_rfl) (fun _ _ _ h => h) inv (fun W hS => by unfold bareO; go_simp) HS (fun inv => ?_)
            try simp only [Act.put, List.setIfInBounds_toArray, List.set_cons_zero, List.set_cons_succ]
            refine ⟨by kernel_rfl, ?_⟩
            simp only [List.drop_succ_cons, List.drop_zero]
            clear HS inv
            obtain ⟨d, hQx, hrd, hzd, hQ'⟩ : ∃ d, Q x = some d ∧ d.ready = true ∧ yv.d = d.choose [⟨(zz : Int) + 1, 1⟩] ∧ Q' = up Q x (some (d.propose [⟨(zz : Int) + 1, 1⟩])) := by
              rcases HQ_.out with h | ⟨-, d, h⟩
              · cases h.1
              · exact ⟨d, h⟩
            obtain ⟨q3, hq3⟩ : ∃ z, q2.setCells bf (11 + x * 2) [.slice A1 n1 c1, .slice A2 n2 c2] = z := ⟨_, rfl⟩
            obtain ⟨c1', hc1⟩ : ∃ z : Fc, { c with vl := up c.vl x yv } = z := ⟨_, rfl⟩
            have F3 := Lib.hid (FQ2.out.setv hx5 yv OKQ2.out)
            have kp3 : KP (fun j => j = c.bf) q2 q3 := by rw [← hq3, HBF.out]; exact KP.setCells (S := fun j => j = bf) rfl _ _ _
            have B3 := Lib.hid (BQ2.out.trans (FQ2.out.bvF kp3 SQ2.out))
            have S3 : Hid (base ≤ q3.heap.size) := Lib.hid (Nat.le_trans SQ2.out kp3.size)
            rw [hc1, HBF.out, HYC.out.1, HYC.out.2, hq3] at F3
            have C1 : Hid (c1'.bf = bf ∧ c1'.n = n ∧ c1'.vl = up c.vl x yv ∧ c1'.w = c.w) := Lib.hid (by rw [← hc1]; exact ⟨HBF.out, HNN.out, rfl, rfl⟩)
            have T3 := Lib.hid (there_row (o := 11 + x * 2) (n := 2) RQ2.out.1 (by show 11 + x * 2 + 2 ≤ 26; omega))
            have R3 : q3.heap[bf]? = some (.cells c1'.row 36 (0, 0)) := by
              have h := F3.out.fld
              rw [C1.out.1] at h
              exact h
            have c21 : q3.cell? ⟨bf, 21 + x, none⟩ = some (.bool (c1'.w x)) := cell_of R3 _ _ (c1'.row_w hx5)
            have f21 := frz_row (21 + x) R3
            obtain ⟨q4, hq4⟩ : ∃ z, q3.setCell ⟨bf, 21 + x, none⟩ (.bool true) = z := ⟨_, rfl⟩
            obtain ⟨c2', hc2⟩ : ∃ z : Fc, { c1' with w := up c1'.w x true } = z := ⟨_, rfl⟩
            have F4 := Lib.hid (F3.out.setw hx5 true)
            rw [hc2, C1.out.1, hq4] at F4
            have C2 : Hid (c2'.bf = bf ∧ c2'.n = n ∧ c2'.vl = up c.vl x yv ∧ c2'.w = up c.w x true) := Lib.hid (by rw [← hc2]; exact ⟨C1.out.1, C1.out.2.1, C1.out.2.2.1, by rw [← C1.out.2.2.2]⟩)
            have kp4 : KP (fun j => j = c1'.bf) q3 q4 := by rw [← hq4, C1.out.1]; exact KP.set (S := fun j => j = bf) q3 bf _ _ rfl
            have B4 := Lib.hid (B3.out.trans (F3.out.bvF kp4 S3.out))
            have HQ3 := Lib.hid hq3
            have HQ4 := Lib.hid hq4
            have HEND : Hid (∀ e, e = Ending.returned (.int .i64 ta) → StepZ base W c A Q top ta g kd X Y e q4) := Lib.hid fun e he => by
              obtain ⟨g', h1, h2⟩ := HI.out.propose x d hQx hrd [⟨(zz : Int) + 1, 1⟩]
              refine ⟨c2', A, _, g', top, ta, fun h => h, he, F4.out, C2.out.1.trans HBF.out.symm, C2.out.2.1.trans HNN.out.symm, ?_, h2, Nat.le_succ _, B4.out, x, y, by rw [HNN.out]; exact HXE.out, by rw [HNN.out]; exact HYE.out, ⟨fun h => absurd (HKD.out.symm.trans h) (by decide), fun h => absurd (HKD.out.symm.trans h) (by decide), fun _ d' hd' hr' => (by
                rw [hQx] at hd'
                cases hd'
                exact ⟨rfl, _, hQ', C2.out.2.2.2⟩), fun h => absurd (HKD.out.symm.trans h) (by decide), fun h => h⟩⟩
              rw [hQ', C2.out.2.2.1, C2.out.2.2.2, vl_up, hzd]
              exact h1
            clear hc1 hc2 hq3 hq4 kp3 kp4 hQx hrd hzd hQ'
            go_wp2_with (first
              | (refine wpList_store_mid rfl 32 (.tmp 156) (.tmp 153) rfl bf (11 + x * 2) #[.slice A1 n1 c1, .slice A2 n2 c2] (by rfl) (by rfl) T3.out (by kernel_rfl) (by simp [Value.oneCell']) ?_; rw [HQ3.out])
              | (rw [HQ4.out])
              | fail)
            go_ret
            exact HEND.out _ rfl
      by_cases e3 : kd = 3
      · as_aux_lemma =>
        skip
        have n0 : (kd == 0) = false := by simp [e0]
        have m0 : decide (kd = 0) = false := by simp [e0]
        have n1 : (kd == 1) = false := by simp [e1]
        have m1' : decide (kd = 1) = false := by simp [e1]
        have n2 : (kd == 2) = false := by simp [e2]
        have m2' : decide (kd = 2) = false := by simp [e2]
        have n3 : (kd == 3) = true := by simp [e3]
        have m3' : decide (kd = 3) = true := by simp [e3]
        have HKD := Lib.hid e3
        have hxb := HX.out
        have hyb := HY.out
        have hn5 := HN5.out
        have hx5 : x < 5 := by omega
        have hy5 : y < 5 := by omega
        have hxc : (x : Int) < 5 := by omega
        have hyc : (y : Int) < 5 := by omega
        have RW : x0.heap[bf]? = some (.cells c.row 36 (0, 0)) := by rw [← HBF.out]; exact FX.out.fld
        obtain ⟨wy, hwy⟩ : ∃ z, c.w y = z := ⟨_, rfl⟩
        have HWY := Lib.hid hwy
        clear e0 e1 e2 e3
        cases wy with
        | false =>
          have k9 := cell_regrown (cell_of RW (21 + y) (.bool false) (by rw [← hwy]; exact c.row_w hy5))
          clear RW hwy
          go_wp2_with fail
          refine wp_region_quiet_below (by kernel_rfl) (by kernel_rfl) ?_
          repeat (go_big_quiet_step (fail))
          refine wpQuiet_nil ?_
          rintro W9 ⟨p9, rfl⟩
          have F9 := Lib.hid (FX.out.below (below_regrown x0 p9.d p9.os))
          have B9 := Lib.hid (BX.out.trans ((below_regrown x0 p9.d p9.os).bv SXB.out))
          generalize grow (redrawn x0 p9.d) p9.os = W9 at *
          have HEND : Hid (∀ e, e = Ending.returned (.int .i64 ta) → StepZ base W c A Q top ta g kd X Y e W9) := Lib.hid fun e he => ⟨c, A, Q, g, top, ta, fun h => h, he, F9.out, rfl, rfl, HI.out, fun b y h => h, Nat.le_succ _, B9.out, x, y, by rw [HNN.out]; exact HXE.out, by rw [HNN.out]; exact HYE.out, ⟨fun h => absurd (HKD.out.symm.trans h) (by decide), fun h => absurd (HKD.out.symm.trans h) (by decide), fun h => absurd (HKD.out.symm.trans h) (by decide), fun _ d hd hw hm => (by
            rw [HWY.out] at hw
            cases hw), fun h => h⟩⟩
          go_wp2_with fail
          go_ret
          exact HEND.out _ rfl
        | true =>
          skip
          obtain ⟨d1, hQy, hph⟩ := HI.out.hw y hwy
          obtain ⟨b1, m1, hpb, hp0⟩ : ∃ b1 m1, c.pb y = some (b1, m1) ∧ PP base x0 b1 m1 d1 := by
            rcases FX.out.pro y hy5 with ⟨_, h2⟩ | ⟨b', m', d', h1, h2, hp⟩
            · rw [hQy] at h2
              cases h2
            · rw [hQy] at h2
              cases h2
              exact ⟨b', m', h1, hp⟩
          have HPB := Lib.hid hpb
          have HQY := Lib.hid hQy
          obtain ⟨ax, hax⟩ : ∃ z, c.ab x = z := ⟨_, rfl⟩
          have HAX := Lib.hid hax
          obtain ⟨yv, hyv⟩ : ∃ z, c.vl y = z := ⟨_, rfl⟩
          have HYV := Lib.hid hyv
          have hr1 : c.row[1 + x]? = some (.pointer (some ⟨ax, 0, none⟩)) := by rw [← hax]; exact c.row_a hx5
          have hr2 : c.row[6 + y]? = some (.pointer (some ⟨b1, 0, none⟩)) := by
            have h := c.row_p hy5
            rw [hpb] at h
            exact h
          have hr3 : c.row[21 + y]? = some (.bool true) := by rw [← hwy]; exact c.row_w hy5
          have hr4 : c.row[11 + y * 2]? = some yv.m := by rw [← hyv]; exact c.row_m hy5
          have hr5 : c.row[11 + y * 2 + 1]? = some yv.t := by rw [← hyv]; exact c.row_t hy5
          have Fd := Lib.hid (FX.out.below (Below.refl _ _).drew)
          have Bd : Hid (BV base W x0.drew) := Lib.hid BX.out.drew
          have SZd : Hid (base ≤ x0.drew.heap.size) := Lib.hid SXB.out
          have Rd : Hid (x0.drew.heap[bf]? = some (.cells c.row 36 (0, 0))) := Lib.hid RW
          have HPd := Lib.hid (hp0.below (Below.refl _ _).drew)
          clear RW hwy hQy hph hpb hp0 hax hyv
          go_wp2_with fail
          refine region_heldT (S := fun u => u.heap[bf]? = some (.cells c.row 36 (0, 0))) 27 (by kernel_rfl) (by decide) (fun inv => ?_)
          have HS := Rd.out
          change FirstH _ _ _ _ _ _ _ _ _ _ x0.drew
          generalize x0.drew = z1 at *
          refine FirstH.go (i := 0) (v := .pointer (some ⟨bf, 0, none⟩)) rfl rfl 164 rfl (Op.move (Operand.tmp 0)) rfl (by kernel_rfl) (fun _ _ _ h => h) inv (fun W hS => by unfold bareO; go_simp) HS (fun inv => ?_)
          try simp only [Act.put, List.setIfInBounds_toArray, List.set_cons_zero, List.set_cons_succ]
          refine FirstH.go (i := 1) (v := .int .i64 y) rfl rfl 165 rfl (Op.move (Operand.tmp 8)) rfl (by kernel_rfl) (fun _ _ _ h => h) inv (fun W hS => by unfold bareO; go_simp) HS (fun inv => ?_)
          try simp only [Act.put, List.setIfInBounds_toArray, List.set_cons_zero, List.set_cons_succ]
          refine FirstH.go (i := 2) (v := .pointer (some ⟨bf, 0, none⟩)) rfl rfl 166 rfl (Op.nilCheck (Operand.tmp 164)) rfl (by kernel_rfl) (fun _ _ _ h => h) inv (fun W hS => by unfold bareO; go_simp) HS (fun inv => ?_)
          try simp only [Act.put, List.setIfInBounds_toArray, List.set_cons_zero, List.set_cons_succ]
          refine FirstH.go (i := 3) (v := .pointer (some ⟨bf, 21, none⟩)) rfl rfl 167 rfl (Op.fieldAddr 36 (Operand.tmp 166) 4) rfl (by kernel_rfl) (fun _ _ _ h => h) inv (fun W hS => by unfold bareO; go_simp) HS (fun inv => ?_)
          try simp only [Act.put, List.setIfInBounds_toArray, List.set_cons_zero, List.set_cons_succ]
          refine FirstH.go (i := 4) (v := .pointer (some ⟨bf, 21 + y, none⟩)) rfl rfl 168 rfl (Op.indexAddr 34 (Operand.tmp 167) (Operand.tmp 165)) rfl (by kernel_rfl) (fun _ _ _ h => h) inv (fun W hS => by have h1 := hxc; have h2 := hyc; unfold bareO; go_simp; try omega) HS (fun inv => ?_)
          try simp only [Act.put, List.setIfInBounds_toArray, List.set_cons_zero, List.set_cons_succ]
          refine FirstH.go (i := 5) (v := .bool true) rfl rfl 169 rfl (Op.load 4 (Operand.tmp 168)) rfl (by kernel_rfl) (fun _ _ _ h => h) inv (fun W hS => by have q := cell_of hS _ _ hr3; unfold bareO; go_simp) HS (fun inv => ?_)
          try simp only [Act.put, List.setIfInBounds_toArray, List.set_cons_zero, List.set_cons_succ]
          refine FirstH.go (i := 6) (v := .bool true) rfl rfl 170 rfl (Op.move (Operand.tmp 169)) rfl (by kernel_rfl) (fun _ _ _ h => h) inv (fun W hS => by unfold bareO; go_simp) HS (fun inv => ?_)
          try simp only [Act.put, List.setIfInBounds_toArray, List.set_cons_zero, List.set_cons_succ]
          refine FirstH.goG (i := 7) (v := .pointer (some ⟨bf, 0, none⟩)) rfl (by rfl) 171 rfl (Op.move (Operand.tmp 0)) rfl (by kernel_rfl) (fun _ _ _ h => h) inv (fun W hS => by unfold bareO; go_simp) HS (fun inv => ?_)
          try simp only [Act.put, List.setIfInBounds_toArray, List.set_cons_zero, List.set_cons_succ]
          refine FirstH.goG (i := 8) (v := .int .i64 x) rfl (by rfl) 172 rfl (Op.move (Operand.tmp 7)) rfl (by kernel_rfl) (fun _ _ _ h => h) inv (fun W hS => by unfold bareO; go_simp) HS (fun inv => ?_)
          try simp only [Act.put, List.setIfInBounds_toArray, List.set_cons_zero, List.set_cons_succ]
          refine FirstH.goG (i := 9) (v := .pointer (some ⟨bf, 0, none⟩)) rfl (by rfl) 173 rfl (Op.nilCheck (Operand.tmp 171)) rfl (by kernel_rfl) (fun _ _ _ h => h) inv (fun W hS => by unfold bareO; go_simp) HS (fun inv => ?_)
          try simp only [Act.put, List.setIfInBounds_toArray, List.set_cons_zero, List.set_cons_succ]
          refine FirstH.goG (i := 10) (v := .pointer (some ⟨bf, 1, none⟩)) rfl (by rfl) 174 rfl (Op.fieldAddr 36 (Operand.tmp 173) 1) rfl (by kernel_rfl) (fun _ _ _ h => h) inv (fun W hS => by unfold bareO; go_simp) HS (fun inv => ?_)
          try simp only [Act.put, List.setIfInBounds_toArray, List.set_cons_zero, List.set_cons_succ]
          refine FirstH.goG (i := 11) (v := .pointer (some ⟨bf, 1 + x, none⟩)) rfl (by rfl) 175 rfl (Op.indexAddr 26 (Operand.tmp 174) (Operand.tmp 172)) rfl (by kernel_rfl) (fun _ _ _ h => h) inv (fun W hS => by have h1 := hxc; have h2 := hyc; unfold bareO; go_simp; try omega) HS (fun inv => ?_)
          try simp only [Act.put, List.setIfInBounds_toArray, List.set_cons_zero, List.set_cons_succ]
          refine FirstH.goG (i := 12) (v := .pointer (some ⟨ax, 0, none⟩)) rfl (by rfl) 176 rfl (Op.load 25 (Operand.tmp 175)) rfl (by kernel_rfl) (fun _ _ _ h => h) inv (fun W hS => by have q := cell_of hS _ _ hr1; unfold bareO; go_simp) HS (fun inv => ?_)
          try simp only [Act.put, List.setIfInBounds_toArray, List.set_cons_zero, List.set_cons_succ]
          refine FirstH.goG (i := 13) (v := .pointer (some ⟨bf, 0, none⟩)) rfl (by rfl) 177 rfl (Op.move (Operand.tmp 0)) rfl (by kernel_rfl) (fun _ _ _ h => h) inv (fun W hS => by unfold bareO; go_simp) HS (fun inv => ?_)
          try simp only [Act.put, List.setIfInBounds_toArray, List.set_cons_zero, List.set_cons_succ]
          refine FirstH.goG (i := 14) (v := .int .i64 y) rfl (by rfl) 178 rfl (Op.move (Operand.tmp 8)) rfl (by kernel_rfl) (fun _ _ _ h => h) inv (fun W hS => by unfold bareO; go_simp) HS (fun inv => ?_)
          try simp only [Act.put, List.setIfInBounds_toArray, List.set_cons_zero, List.set_cons_succ]
          refine FirstH.goG (i := 15) (v := .pointer (some ⟨bf, 0, none⟩)) rfl (by rfl) 179 rfl (Op.nilCheck (Operand.tmp 177)) rfl (by kernel_rfl) (fun _ _ _ h => h) inv (fun W hS => by unfold bareO; go_simp) HS (fun inv => ?_)
          try simp only [Act.put, List.setIfInBounds_toArray, List.set_cons_zero, List.set_cons_succ]
          refine FirstH.goG (i := 16) (v := .pointer (some ⟨bf, 6, none⟩)) rfl (by rfl) 180 rfl (Op.fieldAddr 36 (Operand.tmp 179) 2) rfl (by kernel_rfl) (fun _ _ _ h => h) inv (fun W hS => by unfold bareO; go_simp) HS (fun inv => ?_)
          try simp only [Act.put, List.setIfInBounds_toArray, List.set_cons_zero, List.set_cons_succ]
          refine FirstH.goG (i := 17) (v := .pointer (some ⟨bf, 6 + y, none⟩)) rfl (by rfl) 181 rfl (Op.indexAddr 28 (Operand.tmp 180) (Operand.tmp 178)) rfl (by kernel_rfl) (fun _ _ _ h => h) inv (fun W hS => by have h1 := hxc; have h2 := hyc; unfold bareO; go_simp; try omega) HS (fun inv => ?_)
          try simp only [Act.put, List.setIfInBounds_toArray, List.set_cons_zero, List.set_cons_succ]
          refine FirstH.goG (i := 18) (v := .pointer (some ⟨b1, 0, none⟩)) rfl (by rfl) 182 rfl (Op.load 27 (Operand.tmp 181)) rfl (by kernel_rfl) (fun _ _ _ h => h) inv (fun W hS => by have q := cell_of hS _ _ hr2; unfold bareO; go_simp) HS (fun inv => ?_)
          try simp only [Act.put, List.setIfInBounds_toArray, List.set_cons_zero, List.set_cons_succ]
          refine FirstH.goG (i := 20) (v := .pointer (some ⟨bf, 0, none⟩)) rfl (by rfl) 184 rfl (Op.move (Operand.tmp 0)) rfl (by kernel_rfl) (fun _ _ _ h => h) inv (fun W hS => by unfold bareO; go_simp) HS (fun inv => ?_)
          try simp only [Act.put, List.setIfInBounds_toArray, List.set_cons_zero, List.set_cons_succ]
          refine FirstH.goG (i := 21) (v := .int .i64 y) rfl (by rfl) 185 rfl (Op.move (Operand.tmp 8)) rfl (by kernel_rfl) (fun _ _ _ h => h) inv (fun W hS => by unfold bareO; go_simp) HS (fun inv => ?_)
          try simp only [Act.put, List.setIfInBounds_toArray, List.set_cons_zero, List.set_cons_succ]
          refine FirstH.goG (i := 22) (v := .pointer (some ⟨bf, 0, none⟩)) rfl (by rfl) 186 rfl (Op.nilCheck (Operand.tmp 184)) rfl (by kernel_rfl) (fun _ _ _ h => h) inv (fun W hS => by unfold bareO; go_simp) HS (fun inv => ?_)
          try simp only [Act.put, List.setIfInBounds_toArray, List.set_cons_zero, List.set_cons_succ]
          refine FirstH.goG (i := 23) (v := .pointer (some ⟨bf, 11, none⟩)) rfl (by rfl) 187 rfl (Op.fieldAddr 36 (Operand.tmp 186) 3) rfl (by kernel_rfl) (fun _ _ _ h => h) inv (fun W hS => by unfold bareO; go_simp) HS (fun inv => ?_)
          try simp only [Act.put, List.setIfInBounds_toArray, List.set_cons_zero, List.set_cons_succ]
          refine FirstH.goG (i := 24) (v := .pointer (some ⟨bf, 11 + y * 2, none⟩)) rfl (by rfl) 188 rfl (Op.indexAddr 33 (Operand.tmp 187) (Operand.tmp 185)) rfl (by kernel_rfl) (fun _ _ _ h => h) inv (fun W hS => by have h1 := hxc; have h2 := hyc; unfold bareO; go_simp; try omega) HS (fun inv => ?_)
          try simp only [Act.put, List.setIfInBounds_toArray, List.set_cons_zero, List.set_cons_succ]
          refine FirstH.goG (i := 25) (v := .agg #[yv.m, yv.t]) rfl (by rfl) 189 rfl (Op.load 32 (Operand.tmp 188)) rfl (by kernel_rfl) (fun _ _ _ h => h) inv (fun W hS => by have q0 := cell_of hS _ _ hr4; have q1 := cell_of hS _ _ hr5; unfold bareO; go_simp) HS (fun inv => ?_)
          try simp only [Act.put, List.setIfInBounds_toArray, List.set_cons_zero, List.set_cons_succ]
          refine FirstH.only (i := 19) (by kernel_rfl) (by decide) inv (fun inv => wpOp_callG (i := 19) rfl (by rfl) 183 rfl (Op.call { callee := Callee.value (.func 20), args := #[Operand.tmp 182], argTypes := #[27] }) rfl 20 #[.pointer (some ⟨b1, 0, none⟩)] (by unfold bareO; go_simp) (pBallot base z1 b1 m1 d1 HPd.out) ?_)
          rintro e z2 ⟨rfl, rfl⟩
          refine ⟨_, rfl, HS, ?_⟩
          try simp only [Act.put, List.setIfInBounds_toArray, List.set_cons_zero, List.set_cons_succ]
          refine FirstH.only (i := 26) (by kernel_rfl) (by decide) inv (fun inv => wpOp_callG (i := 26) rfl (by rfl) 190 rfl (Op.call { callee := Callee.value (.func 23), args := #[Operand.tmp 176, Operand.tmp 183, Operand.tmp 189], argTypes := #[25, 45, 32] }) rfl 23 #[.pointer (some ⟨ax, 0, none⟩), .int .u64 d1.bal, .agg #[yv.m, yv.t]] (by unfold bareO; go_simp) ((HAX.out ▸ accA z1 (c.ab x) (A x) (Fd.out.acc x hx5) d1.bal yv (HYV.out ▸ Fd.out.vok y hy5) : Calls Try.prog 23 #[.pointer (some ⟨ax, 0, none⟩), .int .u64 d1.bal, .agg yv.cs] z1 fun e W' => e = .returned (.bool ((A x).may d1.bal)) ∧ AP W' ax ((A x).acc d1.bal yv.d) ∧ KP (fun j => j = ax) z1 W')) ?_)
          rintro e z2 ⟨rfl, ha2, kp2⟩
          have F2 := Lib.hid (Fd.out.acall hx5 _ (HAX.out.symm ▸ kp2) (HAX.out.symm ▸ ha2))
          have B2 := Lib.hid (Bd.out.trans (Fd.out.bvA hx5 (HAX.out.symm ▸ kp2) SZd.out))
          have S2_ : Hid (base ≤ z2.heap.size) := Lib.hid (Nat.le_trans SZd.out kp2.size)
          have R2 : z2.heap[bf]? = some (.cells c.row 36 (0, 0)) := by rw [← HBF.out]; exact F2.out.fld
          refine ⟨_, rfl, R2, ?_⟩
          try simp only [Act.put, List.setIfInBounds_toArray, List.set_cons_zero, List.set_cons_succ]
          refine ⟨by kernel_rfl, ?_⟩
          simp only [List.drop_succ_cons, List.drop_zero]
          obtain ⟨mb, hmb⟩ : ∃ z, (A x).may d1.bal = z := ⟨_, rfl⟩
          rw [hmb]
          have HMB := Lib.hid hmb
          clear HS inv ha2 kp2 hmb HPd
          cases mb with
          | false =>
            have HEND : Hid (∀ e, e = Ending.returned (.int .i64 ta) → StepZ base W c A Q top ta g kd X Y e z2) := Lib.hid fun e he => ⟨c, _, Q, g, top, ta, fun h => h, he, F2.out, rfl, rfl, by rw [Ad.acc_no HMB.out, up_id]; exact HI.out, fun b y h => h, Nat.le_succ _, B2.out, x, y, by rw [HNN.out]; exact HXE.out, by rw [HNN.out]; exact HYE.out, ⟨fun h => absurd (HKD.out.symm.trans h) (by decide), fun h => absurd (HKD.out.symm.trans h) (by decide), fun h => absurd (HKD.out.symm.trans h) (by decide), fun _ d hd hw hm => (by
              rw [HQY.out] at hd
              cases hd
              rw [HMB.out] at hm
              cases hm), fun h => h.acc x _ (HI.out.bal HQY.out)⟩⟩
            go_wp2_with fail
            go_ret
            exact HEND.out _ rfl
          | true =>
            skip
            have F3 := Lib.hid (F2.out.below (Below.refl _ _).drew)
            have B3 : Hid (BV base W z2.drew) := Lib.hid B2.out.drew
            have S3 : Hid (base ≤ z2.drew.heap.size) := Lib.hid S2_.out
            have R3 : Hid (z2.drew.heap[bf]? = some (.cells c.row 36 (0, 0))) := Lib.hid R2
            clear R2
            go_wp2_with fail
            refine region_heldT (S := fun u => u.heap[bf]? = some (.cells c.row 36 (0, 0))) 8 (by kernel_rfl) (by decide) (fun inv => ?_)
            have HS := R3.out
            change FirstH _ _ _ _ _ _ _ _ _ _ z2.drew
            generalize z2.drew = z3 at *
            refine FirstH.go (i := 0) (v := .pointer (some ⟨bf, 0, none⟩)) rfl rfl 192 rfl (Op.move (Operand.tmp 0)) rfl (by kernel_rfl) (fun _ _ _ h => h) inv (fun W hS => by unfold bareO; go_simp) HS (fun inv => ?_)
            try simp only [Act.put, List.setIfInBounds_toArray, List.set_cons_zero, List.set_cons_succ]
            refine FirstH.go (i := 1) (v := .int .i64 y) rfl rfl 193 rfl (Op.move (Operand.tmp 8)) rfl (by kernel_rfl) (fun _ _ _ h => h) inv (fun W hS => by unfold bareO; go_simp) HS (fun inv => ?_)
            try simp only [Act.put, List.setIfInBounds_toArray, List.set_cons_zero, List.set_cons_succ]
            refine FirstH.go (i := 2) (v := .pointer (some ⟨bf, 0, none⟩)) rfl rfl 194 rfl (Op.nilCheck (Operand.tmp 192)) rfl (by kernel_rfl) (fun _ _ _ h => h) inv (fun W hS => by unfold bareO; go_simp) HS (fun inv => ?_)
            try simp only [Act.put, List.setIfInBounds_toArray, List.set_cons_zero, List.set_cons_succ]
            refine FirstH.go (i := 3) (v := .pointer (some ⟨bf, 6, none⟩)) rfl rfl 195 rfl (Op.fieldAddr 36 (Operand.tmp 194) 2) rfl (by kernel_rfl) (fun _ _ _ h => h) inv (fun W hS => by unfold bareO; go_simp) HS (fun inv => ?_)
            try simp only [Act.put, List.setIfInBounds_toArray, List.set_cons_zero, List.set_cons_succ]
            refine FirstH.go (i := 4) (v := .pointer (some ⟨bf, 6 + y, none⟩)) rfl rfl 196 rfl (Op.indexAddr 28 (Operand.tmp 195) (Operand.tmp 193)) rfl (by kernel_rfl) (fun _ _ _ h => h) inv (fun W hS => by have h1 := hxc; have h2 := hyc; unfold bareO; go_simp; try omega) HS (fun inv => ?_)
            try simp only [Act.put, List.setIfInBounds_toArray, List.set_cons_zero, List.set_cons_succ]
            refine FirstH.go (i := 5) (v := .pointer (some ⟨b1, 0, none⟩)) rfl rfl 197 rfl (Op.load 27 (Operand.tmp 196)) rfl (by kernel_rfl) (fun _ _ _ h => h) inv (fun W hS => by have q := cell_of hS _ _ hr2; unfold bareO; go_simp) HS (fun inv => ?_)
            try simp only [Act.put, List.setIfInBounds_toArray, List.set_cons_zero, List.set_cons_succ]
            refine FirstH.go (i := 6) (v := .int .i64 x) rfl rfl 198 rfl (Op.move (Operand.tmp 7)) rfl (by kernel_rfl) (fun _ _ _ h => h) inv (fun W hS => by unfold bareO; go_simp) HS (fun inv => ?_)
            try simp only [Act.put, List.setIfInBounds_toArray, List.set_cons_zero, List.set_cons_succ]
            refine FirstH.only (i := 7) (by kernel_rfl) (by decide) inv (fun inv => wpOp_call (i := 7) rfl rfl 199 rfl (Op.call { callee := Callee.value (.func 14), args := #[Operand.tmp 198], argTypes := #[3] }) rfl 14 #[.int .i64 x] (by unfold bareO; go_simp) (procC (x : Int) (by omega) z3) ?_)
            rintro e z4 ⟨rfl, b⟩
            have F4 := Lib.hid (F3.out.below b)
            have B4 := Lib.hid (B3.out.trans (b.bv S3.out))
            have S4 : Hid (base ≤ z4.heap.size) := Lib.hid (Nat.le_trans S3.out b.size)
            have R4 : z4.heap[bf]? = some (.cells c.row 36 (0, 0)) := by rw [← HBF.out]; exact F4.out.fld
            refine ⟨_, rfl, R4, ?_⟩
            try simp only [Act.put, List.setIfInBounds_toArray, List.set_cons_zero, List.set_cons_succ]
            refine ⟨by kernel_rfl, ?_⟩
            simp only [List.drop_succ_cons, List.drop_zero]
            clear HS inv b R4
            have hp4 : PP base z4 b1 m1 d1 := by
              rcases F4.out.pro y hy5 with ⟨h1, _⟩ | ⟨b', m', d', h1, h2, hp⟩
              · rw [HPB.out] at h1
                cases h1
              · rw [HPB.out] at h1
                rw [HQY.out] at h2
                cases h1
                cases h2
                exact hp
            have KAC : Hid (Calls Try.prog 19 #[.pointer (some ⟨b1, 0, none⟩), .agg #[.int .u8 x, .int .u16 1]] z4 fun e W' => e = .returned (.bool (decide ((d1.accepted (prp x)).ph = 2))) ∧ PP base W' b1 m1 (d1.accepted (prp x)) ∧ KP (FP b1 m1) z4 W') := Lib.hid (pAccepted base z4 b1 m1 d1 hp4 (prp x) ⟨by show (0 : Int) ≤ (x : Int) ∧ (x : Int) ≤ 255; omega, by show (0 : Int) ≤ 1 ∧ (1 : Int) ≤ 65535; omega⟩)
            clear hp4
            go_wp2_with fail
            refine KAC.out.mono ?_
            rintro e z5 ⟨rfl, hp5, kp5⟩
            have F5 := Lib.hid (F4.out.pcall hy5 HPB.out HQY.out _ kp5 hp5)
            have B5 := Lib.hid (B4.out.trans (F4.out.bvP hy5 HPB.out kp5 S4.out))
            have HEND : Hid (∀ e, e = Ending.returned (.int .i64 ta) → StepZ base W c A Q top ta g kd X Y e z5) := Lib.hid fun e he => by
              obtain ⟨g', h1, h2⟩ := HI.out.accept x y (by rw [HNN.out]; exact hxb) HWY.out d1 HQY.out HMB.out
              refine ⟨c, _, _, g', top, ta, fun h => h, he, F5.out, rfl, rfl, ?_, h2, Nat.le_succ _, B5.out, x, y, by rw [HNN.out]; exact HXE.out, by rw [HNN.out]; exact HYE.out, ⟨fun h => absurd (HKD.out.symm.trans h) (by decide), fun h => absurd (HKD.out.symm.trans h) (by decide), fun h => absurd (HKD.out.symm.trans h) (by decide), fun _ d hd hw hm => (by
                rw [HQY.out] at hd
                cases hd
                exact ⟨by rw [← HYV.out], rfl, rfl⟩), fun h => h.acc x _ (HI.out.bal HQY.out)⟩⟩
              rw [← HYV.out]
              exact h1
            clear hp5 kp5
            go_wp2_with fail
            go_ret
            exact HEND.out _ rfl
      have n0 : (kd == 0) = false := by simp [e0]
      have n1 : (kd == 1) = false := by simp [e1]
      have n2 : (kd == 2) = false := by simp [e2]
      have n3 : (kd == 3) = false := by simp [e3]
      have m0 : decide (kd = 0) = false := by simp [e0]
      have m1 : decide (kd = 1) = false := by simp [e1]
      have m2 : decide (kd = 2) = false := by simp [e2]
      have m3 : decide (kd = 3) = false := by simp [e3]
      have NE : Hid (kd ≠ 0 ∧ kd ≠ 1 ∧ kd ≠ 2 ∧ kd ≠ 3) := Lib.hid ⟨e0, e1, e2, e3⟩
      have HEND : Hid (∀ e, e = Ending.returned (.int .i64 ta) → StepZ base W c A Q top ta g kd X Y e x0) := Lib.hid fun e he => ⟨c, A, Q, g, top, ta, fun h => h, he, FX.out, rfl, rfl, HI.out, fun b y h => h, Nat.le_succ _, BX.out, x, y, by rw [HNN.out]; exact HXE.out, by rw [HNN.out]; exact HYE.out, ⟨fun h => absurd h NE.out.1, fun h => absurd h NE.out.2.1, fun h => absurd h NE.out.2.2.1, fun h => absurd h NE.out.2.2.2, fun h => h⟩⟩
      clear e0 e1 e2 e3
      go_wp2_with fail
      go_ret
      exact HEND.out _ rfl

end Go.Proofs.Ytfkmodmgihadkaa
