/-
  The law PactOne walked: it answers true. Condition: the steps lie in memory.
-/
import Derived.Test.YtfkmodmgihadkaaGzi
import Derived.Test.YtfkmodmgihadkaaGsv
import Derived.Test.YtfkmodmgihadkaaGzr
import Derived.Deep.MidRow
import Derived.LoopN
import Derived.Deep.WholeRow
import Derived.Lib.QuietBelow
namespace Go.Proofs.Ytfkmodmgihadkaa
set_option linter.unusedSimpArgs false
set_option linter.unusedVariables false
open Go.RowKit Go.Maps Go.Sort
open V (P2)

open Z (up up_same up_ne)
/-- the field while its acceptors are made. -/
def apM (ab : Nat → Nat) (j i : Nat) : Value := if i < j then .pointer (some ⟨ab i, 0, none⟩) else .pointer none
def rowM (n : Nat) (ab : Nat → Nat) (j : Nat) : Array Value := #[.int .i64 n, apM ab j 0, apM ab j 1, apM ab j 2, apM ab j 3, apM ab j 4, .pointer none, .pointer none, .pointer none, .pointer none, .pointer none,
  .slice none 0 0, .slice none 0 0, .slice none 0 0, .slice none 0 0, .slice none 0 0, .slice none 0 0, .slice none 0 0, .slice none 0 0, .slice none 0 0, .slice none 0 0, .bool false, .bool false, .bool false, .bool false, .bool false]
theorem rowM_set (n : Nat) (ab : Nat → Nat) {j : Nat} (h : j < 5) (k : Nat) : (rowM n ab j).setIfInBounds (1 + j) (.pointer (some ⟨k, 0, none⟩)) = rowM n (up ab j k) (j + 1) := by
  rcases five_cases h with rfl | rfl | rfl | rfl | rfl <;> simp [rowM, apM, up]
theorem rowM_get (n : Nat) (ab : Nat → Nat) {j : Nat} (h : j < 5) : (rowM n ab j)[1 + j]? = some (.pointer none) := by
  rcases five_cases h with rfl | rfl | rfl | rfl | rfl <;> simp [rowM, apM]
def vlN : Vl := ⟨.slice none 0 0, [], .slice none 0 0, []⟩
def FcN (bf n : Nat) (ab : Nat → Nat) : Fc := ⟨bf, n, ab, fun _ => none, fun _ => vlN, fun _ => false⟩
theorem rowM_done (bf n : Nat) (ab : Nat → Nat) : rowM n ab 5 = (FcN bf n ab).row := by
  simp [rowM, apM, Fc.row, Fc.ap, FcN, ptO, vlN]
/-- the acceptors that are made. -/
structure MkA (bs bf : Nat) (w : World) (n : Nat) (ab : Nat → Nat) (j : Nat) : Prop where
  fld : w.heap[bf]? = some (.cells (rowM n ab j) 36 (0, 0))
  acc : ∀ i, i < j → AP w (ab i) A1
  da : ∀ i k, i < j → k < j → ab i = ab k → i = k
  lo : bs ≤ bf ∧ ∀ i, i < j → bs ≤ ab i
theorem MkA.done {bs bf : Nat} {w : World} {n : Nat} {ab : Nat → Nat} (h : MkA bs bf w n ab 5) : FQ bs w (FcN bf n ab) (fun _ => A1) (fun _ => none) :=
  ⟨by rw [← rowM_done]; exact h.fld, h.acc, fun i hi => .inl ⟨rfl, rfl⟩, fun i hi => ⟨PrO.nil _, EnO.nil _, Nat.zero_le _, Nat.zero_le _⟩, h.da, (fun i j b m b' m' _ _ e => by cases e), h.lo⟩
theorem MkA.next {bs bf : Nat} {w w1 w2 : World} {n : Nat} {ab : Nat → Nat} {j : Nat} (h : MkA bs bf w n ab j) (hj : j < 5) (hs : bs ≤ w.heap.size) (hb : Below w.heap.size w w1) (ha : AP w1 w.heap.size A1) (hw : w1.setCell ⟨bf, 1 + j, none⟩ (.pointer (some ⟨w.heap.size, 0, none⟩)) = w2) :
    MkA bs bf w2 n (up ab j w.heap.size) (j + 1) := by
  have hf1 := (hb.block bf (heap_lt h.fld)).trans h.fld
  have kp : KP (fun g => g = bf) w1 w2 := by rw [← hw]; exact KP.set (S := fun g => g = bf) w1 bf _ _ rfl
  have ks : Keeps w1 w2 := Keeps.of_KP kp fun g cur t hg ht e => by
    have e' : g = bf := e
    rw [e', hf1] at hg
    injection hg with hg
    injection hg with _ e2 _
    exact field_not (e2 ▸ ht)
  have ka : ∀ b d, AP w1 b d → AP w2 b d := fun b d hd => by
    obtain ⟨cs, hcs⟩ := hd.piece
    exact hd.keep (kp.block b (heap_lt hcs) (field_ty hcs hf1 (by decide))) ks
  refine ⟨?_, fun i hi => ?_, fun i k hi hk e => ?_, h.lo.1, fun i hi => ?_⟩
  · rw [← rowM_set n ab hj, ← hw]
    exact row_set hf1 _
  · by_cases e : i = j
    · subst e
      rw [up_same]
      exact ka _ _ ha
    · rw [up_ne _ _ e]
      exact ka _ _ ((h.acc i (by omega)).below hb)
  · have lt : ∀ q, q < j → ab q < w.heap.size := fun q hq => (h.acc q hq).lt
    by_cases e1 : i = j <;> by_cases e2 : k = j
    · omega
    · subst e1
      rw [up_same, up_ne _ _ e2] at e
      have := lt k (by omega)
      omega
    · subst e2
      rw [up_same, up_ne _ _ e1] at e
      have := lt i (by omega)
      omega
    · rw [up_ne _ _ e1, up_ne _ _ e2] at e
      exact h.da i k (by omega) (by omega) e
  · by_cases e : i = j
    · subst e
      rw [up_same]
      exact hs
    · rw [up_ne _ _ e]
      exact h.lo.2 i (by omega)
theorem MkA.below {bs bf : Nat} {w w1 w2 : World} {n : Nat} {ab : Nat → Nat} {j : Nat} (h : MkA bs bf w n ab j) (hs : bs ≤ w.heap.size) (hb : Below w.heap.size w w1) (v : Value) (hw : w1.setCell ⟨bf, 1 + j, none⟩ v = w2) : Below bs w w2 := by
  refine (hb.mono hs).trans ?_
  rw [← hw]
  exact (KP.set (S := fun g => g = bf) w1 bf _ _ rfl).below (Nat.le_trans hs hb.size) fun g hg => by
    have e : g = bf := hg
    rw [e]
    exact h.lo.1
/-- what was decided first, as the law holds it. -/
structure PO (kv : Nat) (w : World) (n : Nat) (g : Z.Xg VD) (dn : Bool) (zv : Vl) : Prop where
  row : w.heap[kv]? = some (.cells zv.cs 32 (0, 0))
  ok : zv.Ok w
  ch : dn = true → ∃ b, Z.Chosen n g b zv.d
theorem PO.bv {kv bs : Nat} {w w' : World} {n : Nat} {g g' : Z.Xg VD} {dn : Bool} {zv : Vl} (h : PO kv w n g dn zv) (b : BV bs w w') (hc : ∀ b y, Z.Chosen n g b y → Z.Chosen n g' b y) : PO kv w' n g' dn zv :=
  ⟨b.v _ _ _ (.inl rfl) h.row, h.ok.keep b.k, fun e => (h.ch e).imp fun b hb => hc b _ hb⟩
theorem PO.below {kv : Nat} {w w' : World} {n : Nat} {g : Z.Xg VD} {dn : Bool} {zv : Vl} (h : PO kv w n g dn zv) (b : Below w.heap.size w w') : PO kv w' n g dn zv :=
  ⟨(b.block _ (heap_lt h.row)).trans h.row, h.ok.keep (Keeps.of_below b), h.ch⟩
theorem PInv.startF (n : Nat) (h : 0 < n) (h5 : n ≤ 5) (bf : Nat) (ab : Nat → Nat) : PInv n (fun _ => A1) (fun _ => none) (fun i => ((FcN bf n ab).vl i).d) (FcN bf n ab).w 0 ⟨fun _ => none, fun _ _ => false⟩ := PInv.start n h h5 _
set_option maxRecDepth 100000 in
set_option maxHeartbeats 8000000 in
theorem walkPO (z : Int) (A0 : Option Addr) (L : List St5) (c0 : Nat) (W : World) (lc0 : L.length ≤ c0 ∧ c0 ≤ maxLen) (h0 : arg_stepsQ W A0 L) :
    Calls Try.prog 3 #[.int .i64 z, .slice A0 L.length c0] W fun e W' => e = .returned (.bool true) ∧ Below W.heap.size W W' := by
  have KK := Lib.hid (fun w => knowsC w)
  have I0 := Lib.hid (fun (X : World) (hb : Below W.heap.size W X) (i : Nat) (a : St5) (ha : L[i]? = some a) => steps_at h0 hb ha)
  have LC := Lib.hid (show L.length ≤ c0 ∧ c0 ≤ maxLen from lc0)
  clear h0 lc0
  obtain ⟨n, hn⟩ : ∃ n, L.length = n := ⟨_, rfl⟩
  have HN := Lib.hid hn
  rw [hn]
  clear hn
  obtain ⟨base, hb⟩ : ∃ z, W.heap.size = z := ⟨_, rfl⟩
  have HBS := Lib.hid hb
  rw [hb] at I0 ⊢
  have B0 : Hid (Below base W W) := Lib.hid (hb ▸ Below.refl _ _)
  clear hb
  by_cases hL : 150 < n
  · have g1 : (150 : Int) < (n : Int) := by omega
    go_enter Try.func3, Try.ntmps3
    go_wp2_with fail
    refine (KK.out _).mono ?_
    rintro e W2 ⟨rfl, b2⟩
    have B2 := Lib.hid (HBS.out ▸ b2 : Below base W W2)
    clear b2
    go_wp2
    go_ret
    exact ⟨rfl, B2.out⟩
  have g1 : ¬ (150 : Int) < (n : Int) := by omega
  have HCAP : Hid (n ≤ 150) := Lib.hid (by omega)
  go_enter Try.func3, Try.ntmps3
  go_wp2_with fail
  refine (KK.out _).mono ?_
  rintro e W1 ⟨rfl, b1⟩
  have B1 := Lib.hid (HBS.out ▸ b1 : Below base W W1)
  obtain ⟨bf, hbf⟩ : ∃ q, W1.heap.size = q := ⟨_, rfl⟩
  have SB : Hid (base ≤ bf) := Lib.hid (by have := B1.out.size; have := HBS.out; omega)
  obtain ⟨r5, z5, hr5, hz5a, hz5b, hz5, hzn⟩ := rem_in' z 5 (by decide)
  have hr5' : z.tmod 5 = r5 := hr5
  have hz5' : (r5 + 5).tmod 5 = (z5 : Int) := hz5
  obtain ⟨nn, hnn⟩ : ∃ q, 1 + z5 = q := ⟨_, rfl⟩
  have hz5a' : -5 < r5 := hz5a
  have hz5b' : r5 < 5 := hz5b
  have hv1 : IntKind.i64.wrap r5 = r5 := wrapI (by omega) (by omega)
  have hv2 : IntKind.i64.wrap (r5 + 5) = r5 + 5 := wrapI (by omega) (by omega)
  have hv3 : IntKind.i64.wrap (z5 : Int) = (z5 : Int) := wrapI (by omega) (by omega)
  have hv4 : IntKind.i64.wrap (1 + (z5 : Int)) = (nn : Int) := by rw [wrapI (by omega) (by omega)]; omega
  have NN : Hid (0 < nn ∧ nn ≤ 5) := Lib.hid (by omega)
  obtain ⟨W2, hw2⟩ : ∃ q, W1.alloc (.cells (rowM nn (fun _ => 0) 0) 36) = q := ⟨_, rfl⟩
  have b2 : Below W1.heap.size W1 W2 := by rw [← hw2]; exact (Below.refl _ _).alloc (Nat.le_refl _) _
  have M2 : Hid (MkA bf bf W2 nn (fun _ => 0) 0) := Lib.hid ⟨by rw [← hw2, ← hbf]; exact heap_alloc_new _ _, fun i hi => absurd hi (Nat.not_lt_zero _), fun i k hi => absurd hi (Nat.not_lt_zero _), Nat.le_refl _, fun i hi => absurd hi (Nat.not_lt_zero _)⟩
  have B2 := Lib.hid (B1.out.trans (b2.mono (by rw [hbf]; exact SB.out)))
  have S2 : Hid (bf ≤ W2.heap.size) := Lib.hid (by rw [← hbf]; exact b2.size)
  have HW2 := Lib.hid hw2
  have HBF := Lib.hid hbf
  clear b1 hr5 hz5 hz5a hz5b hzn hnn b2 hw2 hbf hL
  go_wp2_with (first
    | (refine wpList_bd rfl 36 _ rfl (rowM nn (fun _ => 0) 0) (by kernel_rfl) ?_)
    | (refine wpList_bx rfl 36 (.tmp 26) rfl 27 rfl (rowM nn (fun _ => 0) 0) rfl ?_; rw [HW2.out, HBF.out])
    | fail)
  clear hr5' hz5' hz5a' hz5b' hv1 hv2 hv3 hv4
  go_loopw [6] (fun i wx => ∃ (j : Nat) (ab : Nat → Nat), i = .int .i64 j ∧ j ≤ 5 ∧ Hid (MkA bf bf wx nn ab j) ∧ Hid (Below base W wx) ∧ Hid (bf ≤ wx.heap.size)) (fun i _ => 5 - (intOf i).toNat)
  case atStart => exact ⟨0, fun _ => 0, rfl, by omega, M2, B2, S2⟩
  clear M2 B2 S2
  case round =>
    obtain ⟨j, ab, rfl, hj, MM, BB, SS⟩ := hrel
    by_cases hlt : j < 5
    · as_aux_lemma =>
      skip
      have l1 : (j : Int) < 5 := by omega
      have HJ := Lib.hid hlt
      have Rd : Hid (wr.drew.heap[bf]? = some (.cells (rowM nn ab j) 36 (0, 0))) := Lib.hid MM.out.fld
      have KN := Lib.hid (newA wr.drew)
      have HDS : Hid (wr.drew.heap.size = wr.heap.size) := Lib.hid rfl
      clear hj hlt
      go_wp2_with fail
      refine region_heldT (S := fun u => u.heap[bf]? = some (.cells (rowM nn ab j) 36 (0, 0))) 5 (by kernel_rfl) (by decide) (fun inv => ?_)
      have HS := Rd.out
      change FirstH _ _ _ _ _ _ _ _ _ _ wr.drew
      have MD : Hid (MkA bf bf wr.drew nn ab j) := Lib.hid ⟨MM.out.fld, fun i hi => (MM.out.acc i hi).below (Below.refl _ _).drew, MM.out.da, MM.out.lo⟩
      have BD : Hid (Below base W wr.drew) := Lib.hid BB.out.drew
      have SD : Hid (bf ≤ wr.drew.heap.size) := Lib.hid SS.out
      generalize wr.drew = y0 at *
      refine FirstH.go (i := 0) (v := .pointer (some ⟨bf, 0, none⟩)) rfl rfl 32 rfl (Op.move (Operand.tmp 5)) rfl (by kernel_rfl) (fun _ _ _ h => h) inv (fun W hS => by unfold bareO; go_simp) HS (fun inv => ?_)
      try simp only [Act.put, List.setIfInBounds_toArray, List.set_cons_zero, List.set_cons_succ]
      refine FirstH.go (i := 1) (v := .int .i64 j) rfl rfl 33 rfl (Op.move (Operand.tmp 6)) rfl (by kernel_rfl) (fun _ _ _ h => h) inv (fun W hS => by unfold bareO; go_simp) HS (fun inv => ?_)
      try simp only [Act.put, List.setIfInBounds_toArray, List.set_cons_zero, List.set_cons_succ]
      refine FirstH.go (i := 3) (v := .pointer (some ⟨bf, 0, none⟩)) rfl rfl 35 rfl (Op.nilCheck (Operand.tmp 32)) rfl (by kernel_rfl) (fun _ _ _ h => h) inv (fun W hS => by unfold bareO; go_simp) HS (fun inv => ?_)
      try simp only [Act.put, List.setIfInBounds_toArray, List.set_cons_zero, List.set_cons_succ]
      refine FirstH.go (i := 4) (v := .pointer (some ⟨bf, 1, none⟩)) rfl rfl 36 rfl (Op.fieldAddr 36 (Operand.tmp 35) 1) rfl (by kernel_rfl) (fun _ _ _ h => h) inv (fun W hS => by unfold bareO; go_simp) HS (fun inv => ?_)
      try simp only [Act.put, List.setIfInBounds_toArray, List.set_cons_zero, List.set_cons_succ]
      refine FirstH.only (i := 2) (by kernel_rfl) (by decide) inv (fun inv => wpOp_call (i := 2) rfl rfl 34 rfl (Op.call { callee := Callee.value (.func 6), args := #[], argTypes := #[] }) rfl 6 #[] (by unfold bareO; go_simp) (KN.out) ?_)
      rintro e y1 ⟨rfl, ha, b⟩
      have HS : y1.heap[bf]? = some (.cells (rowM nn ab j) 36 (0, 0)) := (b.block bf (heap_lt HS)).trans HS
      refine ⟨_, rfl, HS, ?_⟩
      try simp only [Act.put, List.setIfInBounds_toArray, List.set_cons_zero, List.set_cons_succ]
      refine ⟨by kernel_rfl, ?_⟩
      simp only [List.drop_succ_cons, List.drop_zero]
      obtain ⟨y2, hy2⟩ : ∃ q, y1.setCell ⟨bf, 1 + j, none⟩ (.pointer (some ⟨y0.heap.size, 0, none⟩)) = q := ⟨_, rfl⟩
      have M3 := Lib.hid (MD.out.next HJ.out SD.out b ha hy2)
      have B3 := Lib.hid (BD.out.trans ((MD.out.below SD.out b _ hy2).mono SB.out))
      have S3 : Hid (bf ≤ y2.heap.size) := Lib.hid (Nat.le_trans SD.out (MD.out.below SD.out b _ hy2).size)
      have HY2 := Lib.hid hy2
      have c6 : y1.cell? ⟨bf, 1 + j, none⟩ = some (.pointer none) := cell_of HS _ _ (rowM_get nn ab HJ.out)
      have f6 := frz_row (1 + j) HS
      have l1' : (j : Int) < 5 := l1
      clear hy2 b ha HS inv
      go_wp2_with (rw [HY2.out])
      go_roundw
      case rel => exact ⟨j + 1, _, by have := HJ.out; go_num, by have := HJ.out; omega, M3, B3, S3⟩
      case measure => have := HJ.out; simp [intOf]; omega
    · obtain rfl : j = 5 := by omega
      have l1 : ¬ (5 : Int) < 5 := by omega
      have F0 := Lib.hid MM.out.done
      have I1_ := Lib.hid (PInv.startF nn NN.out.1 NN.out.2 bf ab)
      clear MM hj hlt
      obtain ⟨kv, hkv⟩ : ∃ q, wr.heap.size = q := ⟨_, rfl⟩
      obtain ⟨W3, hw3⟩ : ∃ q, wr.alloc (.cells #[.slice none 0 0, .slice none 0 0] 32) = q := ⟨_, rfl⟩
      have b3 : Below wr.heap.size wr W3 := by rw [← hw3]; exact (Below.refl _ _).alloc (Nat.le_refl _) _
      have P3 : Hid (PO kv W3 nn ⟨fun _ => none, fun _ _ => false⟩ false vlN) := Lib.hid ⟨by rw [← hw3, ← hkv]; exact heap_alloc_new _ _, ⟨PrO.nil _, EnO.nil _, Nat.zero_le _, Nat.zero_le _⟩, fun e => by cases e⟩
      have F3 := Lib.hid (F0.out.below b3)
      have B3 := Lib.hid (BB.out.trans (b3.mono (Nat.le_trans SB.out SS.out)))
      have S3 : Hid (bf ≤ W3.heap.size) := Lib.hid (Nat.le_trans SS.out b3.size)
      have KV : Hid (bf ≤ kv) := Lib.hid (by rw [← hkv]; exact SS.out)
      have HW3 := Lib.hid hw3
      have HKV := Lib.hid hkv
      clear b3 hkv hw3 F0 BB SS
      go_wp2_with (rw [HW3.out, HKV.out])
      go_loopw [7, 8, 10] (fun tp dv iv wx => ∃ (k : Nat) (c : Fc) (A : Nat → Ad) (Q : Nat → Option Pd) (top : Nat) (g : Z.Xg VD) (dn : Bool) (zv : Vl), tp = .int .i64 top ∧ dv = .bool dn ∧ iv = .int .i64 k ∧ k ≤ n ∧ Hid (top ≤ k) ∧ Hid (FQ bf wx c A Q) ∧ Hid (c.bf = bf ∧ c.n = nn) ∧ Hid (PInv nn A Q (fun i => (c.vl i).d) c.w top g) ∧ Hid (PO kv wx nn g dn zv) ∧ Hid (Below base W wx) ∧ Hid (bf ≤ wx.heap.size)) (fun _ _ iv _ => n - (intOf iv).toNat)
      case atStart => exact ⟨0, FcN bf nn ab, _, _, 0, _, false, vlN, rfl, rfl, rfl, Nat.zero_le _, Lib.hid (Nat.le_refl _), F3, Lib.hid ⟨rfl, rfl⟩, I1_, P3, B3, S3⟩
      clear F3 I1_ P3 B3 S3
      case round =>
        obtain ⟨k, c, A, Q, top, g, dn, zv, rfl, rfl, rfl, hk, TT, FF, EB, II, PP_, BB, SS⟩ := hrel
        by_cases hlt : k < n
        · as_aux_lemma =>
          skip
          have l1 : (k : Int) < (n : Int) := by omega
          have hkL : k < L.length := by have := HN.out; omega
          have hx := List.getElem?_eq_getElem hkL
          obtain ⟨sb, so, hA, -, cc⟩ := I0.out wr BB.out k _ hx
          obtain ⟨s, hs⟩ : ∃ s, L[k] = s := ⟨_, rfl⟩
          rw [hs] at cc
          obtain ⟨kd, X, Y, Zz, Rr⟩ := s
          have HJ := Lib.hid hlt
          subst hA
          have hcc : (n : Int) ≤ (c0 : Int) := by have := LC.out.1; have := HN.out; omega
          unfold St5.cs at cc
          have c0_ : wr.cell? ⟨sb, so + k * 5, none⟩ = _ := cc 0 _ rfl
          have c1_ : wr.cell? ⟨sb, so + k * 5 + 1, none⟩ = _ := cc 1 _ rfl
          have c2_ : wr.cell? ⟨sb, so + k * 5 + 2, none⟩ = _ := cc 2 _ rfl
          have c3_ : wr.cell? ⟨sb, so + k * 5 + 3, none⟩ = _ := cc 3 _ rfl
          have c4_ : wr.cell? ⟨sb, so + k * 5 + 4, none⟩ = _ := cc 4 _ rfl
          have KS : Hid (Calls Try.prog 7 #[.pointer (some ⟨bf, 0, none⟩), .agg #[.int .i64 kd, .int .i64 X, .int .i64 Y, .int .i64 Zz, .int .i64 Rr], .int .i64 top] wr fun e W' => StepZ bf wr c A Q top top g kd X Y e W') := Lib.hid (by
            have h := stepZ (kd := kd) bf wr c A Q top top (fun _ => rfl) g FF.out (by rw [EB.out.2]; exact II.out) X Y Zz Rr (by have := TT.out; have := HCAP.out; omega) SS.out
            rw [EB.out.1] at h
            exact h)
          clear cc hx hs hk hlt
          go_wp2_with fail
          refine KS.out.mono ?_
          rintro e W4 ⟨c', A', Q', g', top', ta', hta', rfl, hF', hbf', hn', hI', hC', htop', hBV, -⟩
          obtain rfl := (hta' rfl).symm
          have F4 := Lib.hid hF'
          have E4 : Hid (c'.bf = bf ∧ c'.n = nn) := Lib.hid ⟨hbf'.trans EB.out.1, hn'.trans EB.out.2⟩
          have I4 : Hid (PInv nn A' Q' (fun i => (c'.vl i).d) c'.w top' g') := Lib.hid (by rw [EB.out.2] at hI'; exact hI')
          have P4 : Hid (PO kv W4 nn g' dn zv) := Lib.hid (PP_.out.bv hBV (by rw [EB.out.2] at hC'; exact hC'))
          have B4 := Lib.hid (BB.out.trans (hBV.b.mono SB.out))
          have S4 : Hid (bf ≤ W4.heap.size) := Lib.hid (Nat.le_trans SS.out hBV.size)
          have T4 : Hid (top' ≤ k + 1) := Lib.hid (Nat.le_trans htop' (Nat.succ_le_succ TT.out))
          clear hF' hbf' hn' hI' hC' htop' hBV c0_ c1_ c2_ c3_ c4_ KS FF EB II PP_ BB SS TT
          go_wp2_with fail
          go_loopw [8, 11] (fun dv kq wx => ∃ (q : Nat) (dn : Bool) (zv : Vl), dv = .bool dn ∧ kq = .int .i64 q ∧ q ≤ nn ∧ Hid (FQ bf wx c' A' Q') ∧ Hid (PO kv wx nn g' dn zv) ∧ Hid (Below base W wx) ∧ Hid (bf ≤ wx.heap.size)) (fun _ kq _ => nn - (intOf kq).toNat)
          case atStart => exact ⟨0, dn, zv, rfl, rfl, Nat.zero_le _, F4, P4, B4, S4⟩
          clear F4 P4 B4 S4
          case round =>
            obtain ⟨q, dn, zv, rfl, rfl, hq, FF, PP_, BB, SS⟩ := hrel
            obtain ⟨x0, hx0⟩ : ∃ z : World, z = wr := ⟨_, rfl⟩
            subst hx0
            have RW : x0.heap[bf]? = some (.cells c'.row 36 (0, 0)) := by rw [← E4.out.1]; exact FF.out.fld
            have k0 : x0.cell? ⟨bf, 0, none⟩ = some (.int .i64 nn) := cell_of RW 0 _ (by rw [← E4.out.2]; rfl)
            by_cases hqn : q < nn
            · as_aux_lemma =>
              skip
              have hqi : (q : Int) < (nn : Int) := by omega
              have HQ := Lib.hid hqn
              have hq5 : q < 5 := by have := NN.out.2; omega
              have hqc : (q : Int) < 5 := by omega
              have k6 : x0.cell? ⟨bf, 6 + q, none⟩ = some (ptO (c'.pb q)) := cell_of RW _ _ (c'.row_p hq5)
              obtain ⟨ph, KPh, hcase⟩ : ∃ ph : Int, Hid (Calls Try.prog 8 #[ptO (c'.pb q)] x0 (fun e W' => e = .returned (.int .i64 ph) ∧ x0 = W')) ∧ (ph ≠ 2 ∨ ∃ b m d, c'.pb q = some (b, m) ∧ Q' q = some d ∧ d.ph = 2 ∧ ph = 2 ∧ PP bf x0 b m d) := by
                rcases FF.out.pro q hq5 with ⟨h1, h2⟩ | ⟨b, m, d, h1, h2, hp⟩
                · refine ⟨0, Lib.hid ?_, .inl (by decide)⟩
                  rw [h1]
                  exact phaseN x0 none (.inl rfl)
                · refine ⟨d.ph, Lib.hid ?_, ?_⟩
                  · rw [h1]
                    exact pPhase bf x0 b m d hp
                  · by_cases e : d.ph = 2
                    · exact .inr ⟨b, m, d, h1, h2, e, e, hp⟩
                    · exact .inl e
              obtain ⟨pv, hpv⟩ : ∃ z, ptO (c'.pb q) = z := ⟨_, rfl⟩
              have HPV := Lib.hid hpv
              rw [hpv] at k6 KPh
              have HRW := Lib.hid RW
              clear hq hqn hpv RW
              by_cases h2 : ph = 2
              · as_aux_lemma =>
                skip
                obtain ⟨b, m, d, hpb, hQq, hph, -, hp⟩ := hcase.resolve_left (fun h => h h2)
                have KVa : Hid (Calls Try.prog 9 #[pv] x0 fun e W' => ∃ x : Vl, e = .returned (.agg x.cs) ∧ x.Ok W' ∧ x.d = d.vd ∧ Below x0.heap.size x0 W') := Lib.hid (by
                  rw [← HPV.out, hpb]
                  exact pValue bf x0 b m d hp)
                have hdec := I4.out.decided hQq hph
                have HCH := Lib.hid hdec.1
                have HVD : Hid ((c'.vl q).d = d.vd) := Lib.hid hdec.2
                have h2b : (ph == 2) = true := by simp [h2]
                have h2c : (ph != 2) = false := by simp [h2]
                clear hcase hpb hQq hph hp hdec
                subst h2
                go_wp2_with fail
                refine KPh.out.mono ?_
                rintro e z ⟨rfl, rfl⟩
                go_wp2_with fail
                refine KVa.out.mono ?_
                rintro e z2 ⟨v, rfl, hok, hvd, b2⟩
                have F2 := Lib.hid (FF.out.below b2)
                have B2 := Lib.hid (BB.out.trans (b2.mono (Nat.le_trans SB.out SS.out)))
                have S2 : Hid (bf ≤ z2.heap.size) := Lib.hid (Nat.le_trans SS.out b2.size)
                have P2_ := Lib.hid (PP_.out.below b2)
                obtain ⟨vm, HX_, vt, HL_⟩ := v
                obtain ⟨A1, c1, e1', -, -, -, -⟩ := hok.m.rows
                obtain ⟨A2, c2, e2', -, -, -, -⟩ := hok.t.rows
                dsimp only at e1' e2'
                subst e1' e2'
                obtain ⟨n1, hn1⟩ : ∃ z, HX_.length = z := ⟨_, rfl⟩
                obtain ⟨n2, hn2⟩ : ∃ z, HL_.length = z := ⟨_, rfl⟩
                dsimp only [Vl.cs]
                obtain ⟨yv, hyv⟩ : ∃ z : Vl, (⟨.slice A1 HX_.length c1, HX_, .slice A2 HL_.length c2, HL_⟩ : Vl) = z := ⟨_, rfl⟩
                rw [hyv] at hok hvd
                have HYC : Hid (yv.m = .slice A1 n1 c1 ∧ yv.t = .slice A2 n2 c2) := Lib.hid (by rw [← hyv, ← hn1, ← hn2]; exact ⟨rfl, rfl⟩)
                rw [hn1, hn2]
                obtain ⟨kh, hkh⟩ : ∃ z, z2.heap.size = z := ⟨_, rfl⟩
                obtain ⟨z3, hz3⟩ : ∃ z, z2.alloc (.cells #[.slice none 0 0, .slice none 0 0] 32) = z := ⟨_, rfl⟩
                have r3 : z3.heap[kh]? = some (.cells #[.slice none 0 0, .slice none 0 0] 32 (0, 0)) := by rw [← hz3, ← hkh]; exact heap_alloc_new _ _
                obtain ⟨z4, hz4⟩ : ∃ z, z3.setRow kh #[.slice A1 n1 c1, .slice A2 n2 c2] = z := ⟨_, rfl⟩
                have b4 : Below z2.heap.size z2 z4 := by
                  rw [← hz4, ← hz3, ← hkh]
                  exact ((Below.refl _ _).alloc (Nat.le_refl _) _).trans ⟨rfl, rfl, rfl, by simp [World.setRow], fun k hk => setRow_other _ z2.heap.size k _ (by omega)⟩
                have F4 := Lib.hid (F2.out.below b4)
                have B4 := Lib.hid (B2.out.trans (b4.mono (Nat.le_trans SB.out S2.out)))
                have S4 : Hid (bf ≤ z4.heap.size) := Lib.hid (Nat.le_trans S2.out b4.size)
                have OK4 := Lib.hid (hok.keep (Keeps.of_below b4))
                have P4_ := Lib.hid (P2_.out.below b4)
                have R4 : Hid (z4.heap[kh]? = some (.cells #[.slice A1 n1 c1, .slice A2 n2 c2] 32 (0, 0))) := Lib.hid (by rw [← hz4]; exact setRow_heapG _ _ _ _ _ _ r3)
                have HZ3 := Lib.hid hz3
                have HZ4 := Lib.hid hz4
                have HKH := Lib.hid hkh
                have RH3 := Lib.hid r3
                have HYD : Hid (yv.d = d.vd) := Lib.hid hvd
                clear hok hvd b2 hn1 hn2 hkh hz3 r3 hz4 b4 k0 k6 hyv KPh KVa FF PP_ BB SS F2 B2 S2 P2_ HRW
                go_wp2_with (first
                  | (rw [HZ3.out, HKH.out])
                  | (refine wpList_store_row rfl 32 (.tmp 12) (.tmp 73) rfl kh #[.slice A1 n1 c1, .slice A2 n2 c2] (by rfl) (by rfl) 32 _ RH3.out (by kernel_rfl) rfl (by simp [Value.oneCell']) ?_; rw [HZ4.out])
                  | fail)
                have KS1 : Hid (∀ dd os, dn = true → Calls Try.prog 10 #[.agg #[.slice A1 n1 c1, .slice A2 n2 c2], .agg #[zv.m, zv.t]] (grow (redrawn z4 dd) os) fun r w' => r = .returned (.bool true) ∧ Below (grow (redrawn z4 dd) os).heap.size (grow (redrawn z4 dd) os) w') := Lib.hid (fun dd os hdn => by
                  obtain ⟨bb, hch⟩ := P4_.out.ch hdn
                  have e : zv.d = yv.d := by rw [HYD.out]; exact Z.Xinv.one I4.out.z hch HCH.out
                  have ks : Keeps z4 (grow (redrawn z4 dd) os) := Keeps.of_below (below_regrown z4 dd os)
                  have h := valSame yv zv (grow (redrawn z4 dd) os) (OK4.out.keep ks).at_ (P4_.out.ok.keep ks).at_ e
                  unfold Vl.cs at h
                  rw [HYC.out.1, HYC.out.2] at h
                  exact h)
                have KS2 : Hid (∀ dd os, Calls Try.prog 10 #[.agg #[.slice A1 n1 c1, .slice A2 n2 c2], .agg #[(c'.vl q).m, (c'.vl q).t]] (grow (redrawn z4 dd) os) fun r w' => r = .returned (.bool true) ∧ Below (grow (redrawn z4 dd) os).heap.size (grow (redrawn z4 dd) os) w') := Lib.hid (fun dd os => by
                  have ks : Keeps z4 (grow (redrawn z4 dd) os) := Keeps.of_below (below_regrown z4 dd os)
                  have h := valSame yv (c'.vl q) (grow (redrawn z4 dd) os) (OK4.out.keep ks).at_ ((F4.out.vok q hq5).keep ks).at_ (by rw [HVD.out, HYD.out])
                  unfold Vl.cs at h
                  rw [HYC.out.1, HYC.out.2] at h
                  exact h)
                have RW4 : z4.heap[bf]? = some (.cells c'.row 36 (0, 0)) := by rw [← E4.out.1]; exact F4.out.fld
                have k0 := cell_regrown (cell_of R4.out 0 (.slice A1 n1 c1) rfl)
                have k1 := cell_regrown (cell_of R4.out 1 (.slice A2 n2 c2) rfl)
                have k2 := cell_regrown (cell_of P4_.out.row 0 zv.m rfl)
                have k3 := cell_regrown (cell_of P4_.out.row 1 zv.t rfl)
                have k4 := cell_regrown (cell_of RW4 _ _ (c'.row_m hq5))
                have k5 := cell_regrown (cell_of RW4 _ _ (c'.row_t hq5))
                obtain ⟨zm, hzm⟩ : ∃ z, zv.m = z := ⟨_, rfl⟩
                obtain ⟨zt, hzt⟩ : ∃ z, zv.t = z := ⟨_, rfl⟩
                obtain ⟨ym, hym⟩ : ∃ z, (c'.vl q).m = z := ⟨_, rfl⟩
                obtain ⟨yt, hyt⟩ : ∃ z, (c'.vl q).t = z := ⟨_, rfl⟩
                rw [hzm] at k2 KS1
                rw [hzt] at k3 KS1
                rw [hym] at k4 KS2
                rw [hyt] at k5 KS2
                clear hzm hzt hym hyt RW4
                have HEND : Hid (∀ dd os, FQ bf (grow (redrawn z4 dd) os) c' A' Q' ∧ PO kv (grow (redrawn z4 dd) os) nn g' dn zv ∧ Below base W (grow (redrawn z4 dd) os) ∧ bf ≤ (grow (redrawn z4 dd) os).heap.size ∧ yv.Ok (grow (redrawn z4 dd) os) ∧ (grow (redrawn z4 dd) os).heap[kh]? = some (.cells #[.slice A1 n1 c1, .slice A2 n2 c2] 32 (0, 0))) := Lib.hid fun dd os => by
                  have b := below_regrown z4 dd os
                  exact ⟨F4.out.below b, P4_.out.below b, B4.out.trans (b.mono (Nat.le_trans SB.out S4.out)), Nat.le_trans S4.out b.size, OK4.out.keep (Keeps.of_below b), (b.block kh (heap_lt R4.out)).trans R4.out⟩
                clear F4 P4_ B4 S4 OK4 R4 HZ3 HZ4 HKH RH3
                cases dn with
                | false =>
                  go_wp2_with fail
                  try simp only [Act.put, List.setIfInBounds_toArray, List.set_cons_zero, List.set_cons_succ]
                  refine wp_region_quiet_below (by kernel_rfl) (by kernel_rfl) ?_
                  repeat (go_big_quiet_step (first | (go_at_call 10; first | (with_reducible exact Calls.regrown_of (KS2.out _ _))) | fail))
                  refine wpQuiet_nil ?_
                  rintro W9 ⟨p9, rfl⟩
                  have HE9 := HEND.out p9.d p9.os
                  generalize grow (redrawn z4 p9.d) p9.os = W9 at *
                  obtain ⟨f9, p9', b9, s9, ok9, r9⟩ := HE9
                  obtain ⟨W10, hw10⟩ : ∃ z, W9.setRow kv #[.slice A1 n1 c1, .slice A2 n2 c2] = z := ⟨_, rfl⟩
                  have kp : KP (fun j => j = kv) W9 W10 := by rw [← hw10]; exact KP.setRow W9 kv _ rfl
                  have F10 := Lib.hid (f9.offV p9'.row kp)
                  have P10 : Hid (PO kv W10 nn g' true yv) := Lib.hid ⟨by
                    unfold Vl.cs
                    rw [HYC.out.1, HYC.out.2, ← hw10]
                    exact setRow_heapG _ _ _ _ _ _ p9'.row, ok9.keep (keepsV p9'.row kp), fun _ => ⟨_, by rw [HYD.out]; exact HCH.out⟩⟩
                  have B10 := Lib.hid (b9.trans (kp.below (Nat.le_trans SB.out s9) fun j hj => by have e : j = kv := hj; rw [e]; exact Nat.le_trans SB.out KV.out))
                  have S10 : Hid (bf ≤ W10.heap.size) := Lib.hid (Nat.le_trans s9 kp.size)
                  have HW10 := Lib.hid hw10
                  have RV9 := Lib.hid p9'.row
                  have q0 := cell_of r9 0 (.slice A1 n1 c1) rfl
                  have q1 := cell_of r9 1 (.slice A2 n2 c2) rfl
                  clear hw10 kp f9 p9' b9 s9 ok9 r9 k0 k1 k2 k3 k4 k5 HEND KS1 KS2
                  go_wp2_with (first
                    | (refine wpList_store_row rfl 32 (.tmp 9) (.tmp 92) rfl kv #[.slice A1 n1 c1, .slice A2 n2 c2] (by rfl) (by rfl) 32 _ RV9.out (by kernel_rfl) rfl (by simp [Value.oneCell']) ?_; rw [HW10.out])
                    | fail)
                  go_roundw
                  case rel => exact ⟨q + 1, true, yv, rfl, by have := HQ.out; have := NN.out; go_num, by have := HQ.out; omega, F10, P10, B10, S10⟩
                  case measure => have := HQ.out; have := NN.out; simp [intOf]; omega
                | true =>
                  have KS1x := Lib.hid (fun dd os => KS1.out dd os rfl)
                  go_wp2_with fail
                  try simp only [Act.put, List.setIfInBounds_toArray, List.set_cons_zero, List.set_cons_succ]
                  refine wp_region_quiet_below (by kernel_rfl) (by kernel_rfl) ?_
                  repeat (go_big_quiet_step (first | (go_at_call 10; first | (with_reducible exact Calls.regrown_of (KS1x.out _ _)) | (with_reducible exact Calls.regrown_of (KS2.out _ _))) | fail))
                  refine wpQuiet_nil ?_
                  rintro W9 ⟨p9, rfl⟩
                  have HE9 := HEND.out p9.d p9.os
                  generalize grow (redrawn z4 p9.d) p9.os = W9 at *
                  obtain ⟨f9, p9', b9, s9, ok9, r9⟩ := HE9
                  obtain ⟨W10, hw10⟩ : ∃ z, W9.setRow kv #[.slice A1 n1 c1, .slice A2 n2 c2] = z := ⟨_, rfl⟩
                  have kp : KP (fun j => j = kv) W9 W10 := by rw [← hw10]; exact KP.setRow W9 kv _ rfl
                  have F10 := Lib.hid (f9.offV p9'.row kp)
                  have P10 : Hid (PO kv W10 nn g' true yv) := Lib.hid ⟨by
                    unfold Vl.cs
                    rw [HYC.out.1, HYC.out.2, ← hw10]
                    exact setRow_heapG _ _ _ _ _ _ p9'.row, ok9.keep (keepsV p9'.row kp), fun _ => ⟨_, by rw [HYD.out]; exact HCH.out⟩⟩
                  have B10 := Lib.hid (b9.trans (kp.below (Nat.le_trans SB.out s9) fun j hj => by have e : j = kv := hj; rw [e]; exact Nat.le_trans SB.out KV.out))
                  have S10 : Hid (bf ≤ W10.heap.size) := Lib.hid (Nat.le_trans s9 kp.size)
                  have HW10 := Lib.hid hw10
                  have RV9 := Lib.hid p9'.row
                  have q0 := cell_of r9 0 (.slice A1 n1 c1) rfl
                  have q1 := cell_of r9 1 (.slice A2 n2 c2) rfl
                  clear hw10 kp f9 p9' b9 s9 ok9 r9 k0 k1 k2 k3 k4 k5 HEND KS1 KS2
                  go_wp2_with (first
                    | (refine wpList_store_row rfl 32 (.tmp 9) (.tmp 92) rfl kv #[.slice A1 n1 c1, .slice A2 n2 c2] (by rfl) (by rfl) 32 _ RV9.out (by kernel_rfl) rfl (by simp [Value.oneCell']) ?_; rw [HW10.out])
                    | fail)
                  go_roundw
                  case rel => exact ⟨q + 1, true, yv, rfl, by have := HQ.out; have := NN.out; go_num, by have := HQ.out; omega, F10, P10, B10, S10⟩
                  case measure => have := HQ.out; have := NN.out; simp [intOf]; omega
              · have h2b : (ph == 2) = false := by simp [h2]
                have h2c : (ph != 2) = true := by simp [h2]
                go_wp2_with fail
                refine KPh.out.mono ?_
                rintro e z ⟨rfl, rfl⟩
                go_wp2_with fail
                go_roundw
                case rel => exact ⟨q + 1, dn, zv, rfl, by have := HQ.out; have := NN.out; go_num, by have := HQ.out; omega, FF, PP_, BB, SS⟩
                case measure => have := HQ.out; have := NN.out; simp [intOf]; omega
            · obtain rfl : nn = q := by omega
              have hqi : ¬ (nn : Int) < (nn : Int) := by omega
              go_wp2_with fail
              go_roundw
              case rel => exact ⟨k + 1, c', A', Q', top', g', dn, zv, rfl, rfl, by have := HCAP.out; have := HJ.out; go_num, by have := HJ.out; omega, T4, FF, E4, I4, PP_, BB, SS⟩
              case measure => have := HCAP.out; have := HJ.out; simp [intOf]; omega
        · obtain rfl : n = k := by omega
          have l1 : ¬ (n : Int) < (n : Int) := by omega
          go_wp2
          go_ret
          exact ⟨rfl, BB.out⟩

end Go.Proofs.Ytfkmodmgihadkaa
