/-
  The document's table beside the program's: both speak of one plain table; the law's comparison of rows. Condition: both lie in memory, numbers fit their kinds.
-/
import Derived.Test.YtldbmmganicliaaAdw
import Derived.Test.YtldbmmganicliaaAnf
import Derived.Test.YtldbmmganicliaaAmn
namespace Go.Proofs.Ytldbmmganicliaa
set_option linter.unusedSimpArgs false
set_option linter.unusedVariables false
open Go.RowKit Go.Maps Go.Sort

theorem Tt.Ok.res {t : Tt} (h : t.Ok) (x : I10) : (t.row x).code = t.resC x ∧ (t.row x).val = t.resV x ∧ (t.row x).en = t.resB x := by
  cases hi : isT t.L x with
  | false =>
    rw [Tt.row_no hi]
    unfold Tt.resC Tt.resV Tt.resB
    simp only [hi, Bool.false_and, Bool.false_eq_true, if_false]
    refine ⟨?_, ?_, rfl⟩
    · split <;> rfl
    · split <;> rfl
  | true =>
    obtain ⟨y, hy, _, e⟩ := isT_row hi
    have hr : t.row x = y := by unfold Tt.row; rw [hi, hy]; rfl
    rw [hr]
    have hrun := h.run y (List.mem_of_getElem? hy)
    unfold Tt.resC Tt.resV Tt.resB Tt.ended
    simp only [hy, hi, Bool.true_and]
    cases he : y.en with
    | true => simp
    | false => simp [hrun he]
theorem PT.lenL {W : World} {b m k c : Nat} {t : Tt} (h : PT W b m k c t) : t.L.length ≤ c := by
  obtain ⟨nn, D, hk, O, M⟩ := h.rows
  rw [← M.size]
  obtain ⟨es, clock, hb, F, hs, rfl⟩ := O
  have e1 : Maps.size (DataW.map ((es.toList.map (WideElems.rg Try.prog 37 rwElem)).foldr DataW.insert [])) = es.size := by simp [Maps.size, length_sorted]
  have e2 : es.size = ((es.toList.map (WideElems.rg Try.prog 37 rwElem)).foldr DataW.insert []).length := by rw [length_sorted]; simp
  omega
theorem PT.lenF {W : World} {b m k c : Nat} {t : Tt} (h : PT W b m k c t) : t.F.length ≤ c := by
  obtain ⟨nn, D, hk, O, M⟩ := h.flo
  rw [← M.size]
  obtain ⟨es, clock, hb, F, hs, rfl⟩ := O
  have e1 : Maps.size (DataW.map ((es.toList.map (WideElems.rg Try.prog 31 fElem)).foldr DataW.insert [])) = es.size := by simp [Maps.size, length_sorted]
  have e2 : es.size = ((es.toList.map (WideElems.rg Try.prog 31 fElem)).foldr DataW.insert []).length := by rw [length_sorted]; simp
  omega
/-- what the program does to its table leaves the document's. -/
theorem DT.progK {W W' : World} {b m k c r : Nat} {t t0 : Tt} {lv fv : Value} (p : PT W b m k c t) (d : DT W r t0 lv fv) (hk : KP (fun q => q = m ∨ q = k) W W') : DT W' r t0 lv fv := by
  obtain ⟨_, _, _, ⟨_, _, hm, _⟩, _⟩ := p.rows
  obtain ⟨_, _, _, ⟨_, _, hkk, _⟩, _⟩ := p.flo
  have key : ∀ (q : Nat) (cs : Array Value) (ty : TypeId) (fr : Nat × Nat), W.heap[q]? = some (.cells cs ty fr) → ¬ (q = m ∨ q = k) := by
    rintro q cs ty fr hc (rfl | rfl)
    · rw [hc] at hm; cases hm
    · rw [hc] at hkk; cases hkk
  exact { d with
    blk := (hk.block r (bltA d.blk) (key _ _ _ _ d.blk)).trans d.blk
    rows := d.rows.keepK hk fun g hg => by
      obtain ⟨cur, hc⟩ := d.rows.block g hg
      exact key _ _ _ _ hc
    flo := d.flo.keepK hk fun g hg => by
      obtain ⟨cur, hc⟩ := d.flo.block g hg
      exact key _ _ _ _ hc }
/-- what the document does to its table leaves the program's. -/
theorem PT.docK {W W' : World} {b m k c r : Nat} {t t0 : Tt} {lv fv : Value} (p : PT W b m k c t) (d : DT W r t0 lv fv) (hk : KP (fun q => q = r) W W') : PT W' b m k c t := by
  obtain ⟨_, _, _, ⟨_, _, hm, _⟩, _⟩ := p.rows
  obtain ⟨_, _, _, ⟨_, _, hkk, _⟩, _⟩ := p.flo
  refine p.keepK hk (fun e => ?_) (fun e => ?_) (fun e => ?_)
  · exact apart_of p.blk d.blk (by decide) e
  · have hb := d.blk
    rw [← e, hm] at hb
    cases hb
  · have hb := d.blk
    rw [← e, hkk] at hb
    cases hb
theorem begD (W : World) (r : Nat) (t : Tt) (lv fv : Value) (h : DT W r t lv fv) (x : I10) (rx : x.Rng) (hf : t.L.length < 1000) :
    Calls Try.prog 13 #[.pointer (some ⟨r, 0, none⟩), .agg #[.int .u8 x.n, .int .u16 x.l, .int .u32 x.s, .int .u8 x.d, .int .u8 x.a0, .int .u8 x.a1, .int .u8 x.b0, .int .u8 x.b1, .int .u8 x.c0, .int .u8 x.c1]] W fun e W' => e = .returned (.int .i64 (t.beg x).1) ∧ ∃ lv' : Value, DT W' r (t.beg x).2 lv' fv ∧ KP (fun q => q = r) W W' := by
  cases hk : x.ok with
  | false =>
    have e : t.beg x = (1, t) := by simp [Tt.beg, hk]
    rw [e]
    exact (beginT_bad W r t lv fv h x rx hk).mono fun e W' he => ⟨he.1, lv, h.below he.2, KP.of_below he.2⟩
  | true =>
    rcases Tt.state_five t x with hs | hs | hs | hs | hs
    · have e : t.beg x = (0, { t with L := insT t.L x }) := by simp [Tt.beg, hk, hs]
      rw [e]
      exact beginT_ok W r t lv fv h x rx hk hs hf
    · have e : t.beg x = (4, t) := by simp [Tt.beg, hk, hs]
      rw [e]
      exact (beginT_1 W r t lv fv h x rx hk hs).mono fun e W' he => ⟨he.1, lv, h.below he.2, KP.of_below he.2⟩
    · have e : t.beg x = (4, t) := by simp [Tt.beg, hk, hs]
      rw [e]
      exact (beginT_2 W r t lv fv h x rx hk hs).mono fun e W' he => ⟨he.1, lv, h.below he.2, KP.of_below he.2⟩
    · have e : t.beg x = (16, t) := by simp [Tt.beg, hk, hs]
      rw [e]
      exact (beginT_3 W r t lv fv h x rx hk hs).mono fun e W' he => ⟨he.1, lv, h.below he.2, KP.of_below he.2⟩
    · have e : t.beg x = (10, t) := by simp [Tt.beg, hk, hs]
      rw [e]
      exact (beginT_4 W r t lv fv h x rx hk hs).mono fun e W' he => ⟨he.1, lv, h.below he.2, KP.of_below he.2⟩
theorem finD (W : World) (r : Nat) (t : Tt) (lv fv : Value) (h : DT W r t lv fv) (x : I10) (rx : x.Rng) (code : Int) (val : ByteArray) (rc : 0 ≤ code ∧ code ≤ 255) :
    Calls Try.prog 16 #[.pointer (some ⟨r, 0, none⟩), .agg #[.int .u8 x.n, .int .u16 x.l, .int .u32 x.s, .int .u8 x.d, .int .u8 x.a0, .int .u8 x.a1, .int .u8 x.b0, .int .u8 x.b1, .int .u8 x.c0, .int .u8 x.c1], .agg #[.int .u8 code, .string val]] W fun e W' => e = .returned (.bool (t.fin x code val).1) ∧ ∃ lv' : Value, DT W' r (t.fin x code val).2 lv' fv ∧ KP (fun q => q = r) W W' := by
  by_cases hs : t.state x = 1
  · obtain ⟨y, hy, hid, hen⟩ := Tt.state_one hs
    have hin : isT t.L x = true := by
      unfold isT
      rw [hy]
      exact eqI_iff.2 hid
    have hne : t.ended x = false := by
      unfold Tt.ended
      rw [hy]
      exact hen
    cases ho : t.old x with
    | true =>
      have e : t.fin x code val = (true, { t with L := delT t.L (fndT t.L x) }) := by simp [Tt.fin, hs, ho]
      rw [e]
      exact endT_old W r t lv fv h x rx code val hin hne ho
    | false =>
      have e : t.fin x code val = (true, { t with L := setE t.L (fndT t.L x) y code val }) := by simp [Tt.fin, hs, ho, hy]
      rw [e]
      exact (endT_end W r t lv fv h x rx code val hin hne ho rc).mono fun e W' he => by
        obtain ⟨h1, y', lv', hy', h2, h3⟩ := he
        rw [hy] at hy'
        cases hy'
        exact ⟨h1, lv', h2, h3⟩
  · have e : t.fin x code val = (false, t) := by simp [Tt.fin, hs]
    rw [e]
    exact (endT_no W r t lv fv h x rx code val (by rintro ⟨h1, h2⟩; exact hs (by unfold Tt.state; simp [h1, h2]))).mono fun e W' he => ⟨he.1, lv, h.below he.2, KP.of_below he.2⟩
theorem rseD (W : World) (r : Nat) (t : Tt) (lv fv : Value) (h : DT W r t lv fv) (n l u : Int) (rn : 0 ≤ n ∧ n ≤ 255) (rl : 0 ≤ l ∧ l ≤ 65535) (ru : 0 ≤ u ∧ u ≤ 4294967295) (hff : t.F.length < 1000) :
    Calls Try.prog 18 #[.pointer (some ⟨r, 0, none⟩), .agg #[.int .u8 n, .int .u16 l], .int .u32 u] W fun e W' => e = .returned (.tuple #[]) ∧ ∃ lv' fv' : Value, DT W' r (t.rse n l u) lv' fv' ∧ KP (fun q => q = r) W W' := by
  by_cases hc : rP n l = false ∨ 1048576 < u ∨ u ≤ floorF t.F n l
  · have e : t.rse n l u = t := by unfold Tt.rse; rw [if_pos hc]
    rw [e]
    exact (raiseT_no W r t lv fv h n l u rn rl ru hc).mono fun e W' he => ⟨he.1, lv, fv, h.below he.2, KP.of_below he.2⟩
  · have e : t.rse n l u = { { t with F := nF t.F n l u } with L := LJ { t with F := nF t.F n l u } n l t.L.length } := by
      unfold Tt.rse LJ
      rw [if_neg hc]
      dsimp only
      rw [List.take_length]
    rw [e]
    have h1 : rP n l = true := by
      cases hp : rP n l with
      | true => rfl
      | false => exact absurd (.inl hp) hc
    exact raiseT_ok W r t lv fv h n l u rn rl ru h1 (by omega) (by omega) hff
theorem neqIDs (x : I10) (W : World) : (binOp .neq 43 (.agg #[.int .u8 x.n, .int .u16 x.l, .int .u32 x.s, .int .u8 x.d, .int .u8 x.a0, .int .u8 x.a1, .int .u8 x.b0, .int .u8 x.b1, .int .u8 x.c0, .int .u8 x.c1]) (.agg #[.int .u8 x.n, .int .u16 x.l, .int .u32 x.s, .int .u8 x.d, .int .u8 x.a0, .int .u8 x.a1, .int .u8 x.b0, .int .u8 x.b1, .int .u8 x.c0, .int .u8 x.c1])).run Try.prog W = .ok (.bool false) W := by
  have e := eqRefrun x.n x.l x.s x.d x.a0 x.a1 x.b0 x.b1 x.c0 x.c1 x.n x.l x.s x.d x.a0 x.a1 x.b0 x.b1 x.c0 x.c1 W
  simp only [and_self, decide_true] at e
  go_simp
  first | done | (rw [e]; done) | (simp [e]; done)
theorem neqRess (c : Int) (v : ByteArray) (W : World) : (binOp .neq 45 (.agg #[.int .u8 c, .string v]) (.agg #[.int .u8 c, .string v])).run Try.prog W = .ok (.bool false) W := by
  go_simp
  first | done | (simp; done)
theorem RwAt.cells {W : World} {g p : Nat} {y : Rw} (h : RwAt W g p y) : ∀ q u, y.cs[q]? = some u → W.cell? ⟨g, p + q, none⟩ = some u := fun q u hu => by
  have hq : q < 13 := by
    have := (Array.getElem?_eq_some_iff.1 hu).1
    rw [Rw.sz] at this
    exact this
  have e := h q hq
  rw [← Array.getElem?_toList] at hu
  rw [e]
  have := List.getElem?_eq_some_iff.1 hu
  obtain ⟨h1, h2⟩ := this
  rw [getElem!_pos y.cs.toList q h1, h2]
set_option maxRecDepth 100000 in
set_option maxHeartbeats 4000000 in
theorem rowsA (V : World) (A : Option Addr) (c : Nat) (L : List Rw) (v : Value) (hp : RowsP V V.heap.size A L) (hc : L.length ≤ c) (hm : c ≤ maxLen) (hd : RowO V 93 13 v L.length (flat Rw.cs L)) :
    Calls Try.prog 28 #[.slice A L.length c, v] V fun e V' => e = .returned (.bool true) ∧ Below V.heap.size V V' := by
  obtain ⟨A2, c2, rfl, hc2, hm2, hA2⟩ := hd.slice
  obtain ⟨n, hn⟩ : ∃ q, L.length = q := ⟨_, rfl⟩
  have HN := Lib.hid hn
  have HP := Lib.hid hp
  have HD := Lib.hid hd
  have HA2 := Lib.hid hA2
  rw [hn] at hc hc2 ⊢
  have hci : (n : Int) ≤ (c : Int) := by omega
  have hc2i : (n : Int) ≤ (c2 : Int) := by omega
  have hcap : n ≤ 9223372036854775807 := by unfold maxLen at hm; omega
  clear hp hd hA2 hm hm2 hn
  go_enter Try.func28, Try.ntmps28
  go_wp2_with fail
  go_loopw [5] (fun iv wr => ∃ j : Nat, j ≤ n ∧ iv = .int .i64 j ∧ Hid (Below V.heap.size V wr)) (fun iv _ => n - (intOf iv).toNat)
  case atStart => exact ⟨0, by omega, rfl, Lib.hid (Below.refl _ _)⟩
  case round =>
    obtain ⟨j, hj, rfl, BB⟩ := hrel
    obtain ⟨u0, hu0⟩ : ∃ z : World, z = wr := ⟨_, rfl⟩
    subst hu0
    by_cases hjn : j < n
    · obtain ⟨y, hy⟩ : ∃ y, L[j]? = some y := ⟨_, List.getElem?_eq_getElem (by rw [HN.out]; exact hjn)⟩
      obtain ⟨g, o, rfl, hg, hrow⟩ := HP.out (by intro e; rw [e] at hy; cases hy)
      obtain ⟨h, p, rfl⟩ : ∃ h p, A2 = some ⟨h, p, none⟩ := by
        rcases HA2.out with ⟨_, h1⟩ | h1
        · omega
        · exact h1
      have hrc := (hrow j y hy).cells
      have CA : Hid (∀ X, Below V.heap.size V X → ∀ q u, y.cs[q]? = some u → X.cell? ⟨g, o + j * 13 + q, none⟩ = some u) := Lib.hid fun X hb q u hu => (hb.cell (p := ⟨g, o + j * 13 + q, none⟩) hg).trans (hrc q u hu)
      have hdr := HD.out
      rw [HN.out] at hdr
      have CD : Hid (∀ X, Below V.heap.size V X → ∀ q u, y.cs[q]? = some u → X.cell? ⟨h, p + j * 13 + q, none⟩ = some u) := Lib.hid fun X hb q u hu => by
        have hq : q < 13 := by
          have := (Array.getElem?_eq_some_iff.1 hu).1
          rw [Rw.sz] at this
          exact this
        rw [RowO.elem Rw.sz (hdr.below hb) hy hq]
        exact hu
      have h1j : (j : Int) < (n : Int) := by omega
      have h3j : (0 : Int) ≤ (j : Int) := by omega
      have HJN := Lib.hid hjn
      clear hrow hrc hg hy hdr hjn hj
      go_wp2_with fail
      refine region_heldT (S := fun X : World => Below V.heap.size V X) 38 (by kernel_rfl) (by decide) (fun inv => ?_)
      have HS : Below V.heap.size V u0.drew := BB.out.drew
      change FirstH _ _ _ _ _ _ _ _ _ _ u0.drew
      generalize u0.drew = wd at *
      refine FirstH.go (i := 0) (v := .slice (some ⟨g, o, none⟩) n c) rfl rfl 17 rfl (Op.move (Operand.tmp 0)) rfl (by kernel_rfl) (fun _ _ _ h => h) inv (fun W hS => by unfold bareO; go_simp) HS (fun inv => ?_)
      try simp only [Act.put, List.setIfInBounds_toArray, List.set_cons_zero, List.set_cons_succ]
      refine FirstH.go (i := 1) (v := .int .i64 j) rfl rfl 18 rfl (Op.move (Operand.tmp 5)) rfl (by kernel_rfl) (fun _ _ _ h => h) inv (fun W hS => by unfold bareO; go_simp) HS (fun inv => ?_)
      try simp only [Act.put, List.setIfInBounds_toArray, List.set_cons_zero, List.set_cons_succ]
      refine FirstH.go (i := 2) (v := .pointer (some ⟨g, (o + j * 13), none⟩)) rfl rfl 19 rfl (Op.indexAddr 73 (Operand.tmp 17) (Operand.tmp 18)) rfl (by kernel_rfl) (fun _ _ _ h => h) inv (fun W hS => by unfold bareO; go_simp) HS (fun inv => ?_)
      try simp only [Act.put, List.setIfInBounds_toArray, List.set_cons_zero, List.set_cons_succ]
      refine FirstH.go (i := 3) (v := .pointer (some ⟨g, (o + j * 13), none⟩)) rfl rfl 20 rfl (Op.fieldAddr 88 (Operand.tmp 19) 0) rfl (by kernel_rfl) (fun _ _ _ h => h) inv (fun W hS => by unfold bareO; go_simp) HS (fun inv => ?_)
      try simp only [Act.put, List.setIfInBounds_toArray, List.set_cons_zero, List.set_cons_succ]
      refine FirstH.go (i := 4) (v := .agg #[.int .u8 y.id.n, .int .u16 y.id.l, .int .u32 y.id.s, .int .u8 y.id.d, .int .u8 y.id.a0, .int .u8 y.id.a1, .int .u8 y.id.b0, .int .u8 y.id.b1, .int .u8 y.id.c0, .int .u8 y.id.c1]) rfl rfl 21 rfl (Op.load 37 (Operand.tmp 20)) rfl (by kernel_rfl) (fun _ _ _ h => h) inv (fun W hS => by have z0 := CA.out W hS 0 (.int .u8 y.id.n) rfl; have z1 := CA.out W hS 1 (.int .u16 y.id.l) rfl; have z2 := CA.out W hS 2 (.int .u32 y.id.s) rfl; have z3 := CA.out W hS 3 (.int .u8 y.id.d) rfl; have z4 := CA.out W hS 4 (.int .u8 y.id.a0) rfl; have z5 := CA.out W hS 5 (.int .u8 y.id.a1) rfl; have z6 := CA.out W hS 6 (.int .u8 y.id.b0) rfl; have z7 := CA.out W hS 7 (.int .u8 y.id.b1) rfl; have z8 := CA.out W hS 8 (.int .u8 y.id.c0) rfl; have z9 := CA.out W hS 9 (.int .u8 y.id.c1) rfl; simp only [Nat.add_zero] at z0; unfold bareO; go_simp) HS (fun inv => ?_)
      try simp only [Act.put, List.setIfInBounds_toArray, List.set_cons_zero, List.set_cons_succ]
      refine FirstH.go (i := 6) (v := .slice (some ⟨h, p, none⟩) n c2) rfl rfl 23 rfl (Op.move (Operand.tmp 1)) rfl (by kernel_rfl) (fun _ _ _ h => h) inv (fun W hS => by unfold bareO; go_simp) HS (fun inv => ?_)
      try simp only [Act.put, List.setIfInBounds_toArray, List.set_cons_zero, List.set_cons_succ]
      refine FirstH.go (i := 7) (v := .int .i64 j) rfl rfl 24 rfl (Op.move (Operand.tmp 5)) rfl (by kernel_rfl) (fun _ _ _ h => h) inv (fun W hS => by unfold bareO; go_simp) HS (fun inv => ?_)
      try simp only [Act.put, List.setIfInBounds_toArray, List.set_cons_zero, List.set_cons_succ]
      refine FirstH.go (i := 8) (v := .pointer (some ⟨h, (p + j * 13), none⟩)) rfl rfl 25 rfl (Op.indexAddr 68 (Operand.tmp 23) (Operand.tmp 24)) rfl (by kernel_rfl) (fun _ _ _ h => h) inv (fun W hS => by unfold bareO; go_simp) HS (fun inv => ?_)
      try simp only [Act.put, List.setIfInBounds_toArray, List.set_cons_zero, List.set_cons_succ]
      refine FirstH.go (i := 9) (v := .pointer (some ⟨h, (p + j * 13), none⟩)) rfl rfl 26 rfl (Op.fieldAddr 93 (Operand.tmp 25) 0) rfl (by kernel_rfl) (fun _ _ _ h => h) inv (fun W hS => by unfold bareO; go_simp) HS (fun inv => ?_)
      try simp only [Act.put, List.setIfInBounds_toArray, List.set_cons_zero, List.set_cons_succ]
      refine FirstH.go (i := 10) (v := .agg #[.int .u8 y.id.n, .int .u16 y.id.l, .int .u32 y.id.s, .int .u8 y.id.d, .int .u8 y.id.a0, .int .u8 y.id.a1, .int .u8 y.id.b0, .int .u8 y.id.b1, .int .u8 y.id.c0, .int .u8 y.id.c1]) rfl rfl 27 rfl (Op.load 43 (Operand.tmp 26)) rfl (by kernel_rfl) (fun _ _ _ h => h) inv (fun W hS => by have z0 := CD.out W hS 0 (.int .u8 y.id.n) rfl; have z1 := CD.out W hS 1 (.int .u16 y.id.l) rfl; have z2 := CD.out W hS 2 (.int .u32 y.id.s) rfl; have z3 := CD.out W hS 3 (.int .u8 y.id.d) rfl; have z4 := CD.out W hS 4 (.int .u8 y.id.a0) rfl; have z5 := CD.out W hS 5 (.int .u8 y.id.a1) rfl; have z6 := CD.out W hS 6 (.int .u8 y.id.b0) rfl; have z7 := CD.out W hS 7 (.int .u8 y.id.b1) rfl; have z8 := CD.out W hS 8 (.int .u8 y.id.c0) rfl; have z9 := CD.out W hS 9 (.int .u8 y.id.c1) rfl; simp only [Nat.add_zero] at z0; unfold bareO; go_simp) HS (fun inv => ?_)
      try simp only [Act.put, List.setIfInBounds_toArray, List.set_cons_zero, List.set_cons_succ]
      refine FirstH.only (i := 5) (by kernel_rfl) (by decide) inv (fun inv => wpOp_call (i := 5) rfl rfl 22 rfl (Op.call { callee := Callee.value (.func 48), args := #[Operand.tmp 21], argTypes := #[37] }) rfl 48 #[.agg #[.int .u8 y.id.n, .int .u16 y.id.l, .int .u32 y.id.s, .int .u8 y.id.d, .int .u8 y.id.a0, .int .u8 y.id.a1, .int .u8 y.id.b0, .int .u8 y.id.b1, .int .u8 y.id.c0, .int .u8 y.id.c1]] (by unfold bareO; go_simp) (refID y.id.n y.id.l y.id.s y.id.d y.id.a0 y.id.a1 y.id.b0 y.id.b1 y.id.c0 y.id.c1 wd) ?_)
      rintro e v1 ⟨rfl, b1⟩
      have HS : Below V.heap.size V v1 := HS.trans (b1.mono HS.size)
      refine ⟨_, rfl, HS, ?_⟩
      try simp only [Act.put, List.setIfInBounds_toArray, List.set_cons_zero, List.set_cons_succ]
      refine FirstH.go (i := 11) (v := .bool false) rfl rfl 28 rfl (Op.binOp BinOp.neq 43 (Operand.tmp 22) (Operand.tmp 27) 43) rfl (by kernel_rfl) (fun _ _ _ h => h) inv (fun W hS => by have e := eqArrRef y.id.a0 y.id.a1 y.id.b0 y.id.b1 y.id.c0 y.id.c1 y.id.a0 y.id.a1 y.id.b0 y.id.b1 y.id.c0 y.id.c1 W; unfold bareO; go_simp) HS (fun inv => ?_)
      try simp only [Act.put, List.setIfInBounds_toArray, List.set_cons_zero, List.set_cons_succ]
      refine FirstH.go (i := 12) (v := .bool false) rfl rfl 29 rfl (Op.move (Operand.tmp 28)) rfl (by kernel_rfl) (fun _ _ _ h => h) inv (fun W hS => by unfold bareO; go_simp) HS (fun inv => ?_)
      try simp only [Act.put, List.setIfInBounds_toArray, List.set_cons_zero, List.set_cons_succ]
      refine FirstH.goG (i := 13) (v := .slice (some ⟨g, o, none⟩) n c) rfl (by rfl) 30 rfl (Op.move (Operand.tmp 0)) rfl (by kernel_rfl) (fun _ _ _ h => h) inv (fun W hS => by unfold bareO; go_simp) HS (fun inv => ?_)
      try simp only [Act.put, List.setIfInBounds_toArray, List.set_cons_zero, List.set_cons_succ]
      refine FirstH.goG (i := 14) (v := .int .i64 j) rfl (by rfl) 31 rfl (Op.move (Operand.tmp 5)) rfl (by kernel_rfl) (fun _ _ _ h => h) inv (fun W hS => by unfold bareO; go_simp) HS (fun inv => ?_)
      try simp only [Act.put, List.setIfInBounds_toArray, List.set_cons_zero, List.set_cons_succ]
      refine FirstH.goG (i := 15) (v := .pointer (some ⟨g, (o + j * 13), none⟩)) rfl (by rfl) 32 rfl (Op.indexAddr 73 (Operand.tmp 30) (Operand.tmp 31)) rfl (by kernel_rfl) (fun _ _ _ h => h) inv (fun W hS => by unfold bareO; go_simp) HS (fun inv => ?_)
      try simp only [Act.put, List.setIfInBounds_toArray, List.set_cons_zero, List.set_cons_succ]
      refine FirstH.goG (i := 16) (v := .pointer (some ⟨g, (o + j * 13 + 10), none⟩)) rfl (by rfl) 33 rfl (Op.fieldAddr 88 (Operand.tmp 32) 1) rfl (by kernel_rfl) (fun _ _ _ h => h) inv (fun W hS => by unfold bareO; go_simp) HS (fun inv => ?_)
      try simp only [Act.put, List.setIfInBounds_toArray, List.set_cons_zero, List.set_cons_succ]
      refine FirstH.goG (i := 17) (v := .bool y.en) rfl (by rfl) 34 rfl (Op.load 4 (Operand.tmp 33)) rfl (by kernel_rfl) (fun _ _ _ h => h) inv (fun W hS => by have z10 := CA.out W hS 10 (.bool y.en) rfl; unfold bareO; go_simp) HS (fun inv => ?_)
      try simp only [Act.put, List.setIfInBounds_toArray, List.set_cons_zero, List.set_cons_succ]
      refine FirstH.goG (i := 18) (v := .slice (some ⟨h, p, none⟩) n c2) rfl (by rfl) 35 rfl (Op.move (Operand.tmp 1)) rfl (by kernel_rfl) (fun _ _ _ h => h) inv (fun W hS => by unfold bareO; go_simp) HS (fun inv => ?_)
      try simp only [Act.put, List.setIfInBounds_toArray, List.set_cons_zero, List.set_cons_succ]
      refine FirstH.goG (i := 19) (v := .int .i64 j) rfl (by rfl) 36 rfl (Op.move (Operand.tmp 5)) rfl (by kernel_rfl) (fun _ _ _ h => h) inv (fun W hS => by unfold bareO; go_simp) HS (fun inv => ?_)
      try simp only [Act.put, List.setIfInBounds_toArray, List.set_cons_zero, List.set_cons_succ]
      refine FirstH.goG (i := 20) (v := .pointer (some ⟨h, (p + j * 13), none⟩)) rfl (by rfl) 37 rfl (Op.indexAddr 68 (Operand.tmp 35) (Operand.tmp 36)) rfl (by kernel_rfl) (fun _ _ _ h => h) inv (fun W hS => by unfold bareO; go_simp) HS (fun inv => ?_)
      try simp only [Act.put, List.setIfInBounds_toArray, List.set_cons_zero, List.set_cons_succ]
      refine FirstH.goG (i := 21) (v := .pointer (some ⟨h, (p + j * 13 + 10), none⟩)) rfl (by rfl) 38 rfl (Op.fieldAddr 93 (Operand.tmp 37) 1) rfl (by kernel_rfl) (fun _ _ _ h => h) inv (fun W hS => by unfold bareO; go_simp) HS (fun inv => ?_)
      try simp only [Act.put, List.setIfInBounds_toArray, List.set_cons_zero, List.set_cons_succ]
      refine FirstH.goG (i := 22) (v := .bool y.en) rfl (by rfl) 39 rfl (Op.load 4 (Operand.tmp 38)) rfl (by kernel_rfl) (fun _ _ _ h => h) inv (fun W hS => by have z10 := CD.out W hS 10 (.bool y.en) rfl; unfold bareO; go_simp) HS (fun inv => ?_)
      try simp only [Act.put, List.setIfInBounds_toArray, List.set_cons_zero, List.set_cons_succ]
      refine FirstH.goG (i := 23) (v := .bool false) rfl (by rfl) 40 rfl (Op.binOp BinOp.neq 4 (Operand.tmp 34) (Operand.tmp 39) 4) rfl (by kernel_rfl) (fun _ _ _ h => h) inv (fun W hS => by unfold bareO; go_simp) HS (fun inv => ?_)
      try simp only [Act.put, List.setIfInBounds_toArray, List.set_cons_zero, List.set_cons_succ]
      refine FirstH.go (i := 24) (v := .bool false) rfl rfl 41 rfl (Op.pick (Operand.tmp 29) (Operand.const (Value.bool true)) (Operand.tmp 40)) rfl (by kernel_rfl) (fun _ _ _ h => h) inv (fun W hS => by unfold bareO; go_simp) HS (fun inv => ?_)
      try simp only [Act.put, List.setIfInBounds_toArray, List.set_cons_zero, List.set_cons_succ]
      refine FirstH.go (i := 25) (v := .bool false) rfl rfl 42 rfl (Op.move (Operand.tmp 41)) rfl (by kernel_rfl) (fun _ _ _ h => h) inv (fun W hS => by unfold bareO; go_simp) HS (fun inv => ?_)
      try simp only [Act.put, List.setIfInBounds_toArray, List.set_cons_zero, List.set_cons_succ]
      refine FirstH.goG (i := 26) (v := .slice (some ⟨g, o, none⟩) n c) rfl (by rfl) 43 rfl (Op.move (Operand.tmp 0)) rfl (by kernel_rfl) (fun _ _ _ h => h) inv (fun W hS => by unfold bareO; go_simp) HS (fun inv => ?_)
      try simp only [Act.put, List.setIfInBounds_toArray, List.set_cons_zero, List.set_cons_succ]
      refine FirstH.goG (i := 27) (v := .int .i64 j) rfl (by rfl) 44 rfl (Op.move (Operand.tmp 5)) rfl (by kernel_rfl) (fun _ _ _ h => h) inv (fun W hS => by unfold bareO; go_simp) HS (fun inv => ?_)
      try simp only [Act.put, List.setIfInBounds_toArray, List.set_cons_zero, List.set_cons_succ]
      refine FirstH.goG (i := 28) (v := .pointer (some ⟨g, (o + j * 13), none⟩)) rfl (by rfl) 45 rfl (Op.indexAddr 73 (Operand.tmp 43) (Operand.tmp 44)) rfl (by kernel_rfl) (fun _ _ _ h => h) inv (fun W hS => by unfold bareO; go_simp) HS (fun inv => ?_)
      try simp only [Act.put, List.setIfInBounds_toArray, List.set_cons_zero, List.set_cons_succ]
      refine FirstH.goG (i := 29) (v := .pointer (some ⟨g, (o + j * 13 + 11), none⟩)) rfl (by rfl) 46 rfl (Op.fieldAddr 88 (Operand.tmp 45) 2) rfl (by kernel_rfl) (fun _ _ _ h => h) inv (fun W hS => by unfold bareO; go_simp) HS (fun inv => ?_)
      try simp only [Act.put, List.setIfInBounds_toArray, List.set_cons_zero, List.set_cons_succ]
      refine FirstH.goG (i := 30) (v := .agg #[.int .u8 y.code, .string y.val]) rfl (by rfl) 47 rfl (Op.load 53 (Operand.tmp 46)) rfl (by kernel_rfl) (fun _ _ _ h => h) inv (fun W hS => by have z11 := CA.out W hS 11 (.int .u8 y.code) rfl; have z12 := CA.out W hS 12 (.string y.val) rfl; unfold bareO; go_simp) HS (fun inv => ?_)
      try simp only [Act.put, List.setIfInBounds_toArray, List.set_cons_zero, List.set_cons_succ]
      refine FirstH.goG (i := 32) (v := .slice (some ⟨h, p, none⟩) n c2) rfl (by rfl) 49 rfl (Op.move (Operand.tmp 1)) rfl (by kernel_rfl) (fun _ _ _ h => h) inv (fun W hS => by unfold bareO; go_simp) HS (fun inv => ?_)
      try simp only [Act.put, List.setIfInBounds_toArray, List.set_cons_zero, List.set_cons_succ]
      refine FirstH.goG (i := 33) (v := .int .i64 j) rfl (by rfl) 50 rfl (Op.move (Operand.tmp 5)) rfl (by kernel_rfl) (fun _ _ _ h => h) inv (fun W hS => by unfold bareO; go_simp) HS (fun inv => ?_)
      try simp only [Act.put, List.setIfInBounds_toArray, List.set_cons_zero, List.set_cons_succ]
      refine FirstH.goG (i := 34) (v := .pointer (some ⟨h, (p + j * 13), none⟩)) rfl (by rfl) 51 rfl (Op.indexAddr 68 (Operand.tmp 49) (Operand.tmp 50)) rfl (by kernel_rfl) (fun _ _ _ h => h) inv (fun W hS => by unfold bareO; go_simp) HS (fun inv => ?_)
      try simp only [Act.put, List.setIfInBounds_toArray, List.set_cons_zero, List.set_cons_succ]
      refine FirstH.goG (i := 35) (v := .pointer (some ⟨h, (p + j * 13 + 11), none⟩)) rfl (by rfl) 52 rfl (Op.fieldAddr 93 (Operand.tmp 51) 2) rfl (by kernel_rfl) (fun _ _ _ h => h) inv (fun W hS => by unfold bareO; go_simp) HS (fun inv => ?_)
      try simp only [Act.put, List.setIfInBounds_toArray, List.set_cons_zero, List.set_cons_succ]
      refine FirstH.goG (i := 36) (v := .agg #[.int .u8 y.code, .string y.val]) rfl (by rfl) 53 rfl (Op.load 45 (Operand.tmp 52)) rfl (by kernel_rfl) (fun _ _ _ h => h) inv (fun W hS => by have z11 := CD.out W hS 11 (.int .u8 y.code) rfl; have z12 := CD.out W hS 12 (.string y.val) rfl; unfold bareO; go_simp) HS (fun inv => ?_)
      try simp only [Act.put, List.setIfInBounds_toArray, List.set_cons_zero, List.set_cons_succ]
      refine FirstH.only (i := 31) (by kernel_rfl) (by decide) inv (fun inv => wpOp_callG (i := 31) rfl (by rfl) 48 rfl (Op.call { callee := Callee.value (.func 22), args := #[Operand.tmp 47], argTypes := #[53] }) rfl 22 #[.agg #[.int .u8 y.code, .string y.val]] (by unfold bareO; go_simp) (refResA y.code y.val v1) ?_)
      rintro e v2 ⟨rfl, b2⟩
      have HS : Below V.heap.size V v2 := HS.trans (b2.mono HS.size)
      refine ⟨_, rfl, HS, ?_⟩
      try simp only [Act.put, List.setIfInBounds_toArray, List.set_cons_zero, List.set_cons_succ]
      refine FirstH.goG (i := 37) (v := .bool false) rfl (by rfl) 54 rfl (Op.binOp BinOp.neq 45 (Operand.tmp 48) (Operand.tmp 53) 45) rfl (by kernel_rfl) (fun _ _ _ h => h) inv (fun W hS => by have e := neqRess y.code y.val W; unfold bareO; go_simp) HS (fun inv => ?_)
      try simp only [Act.put, List.setIfInBounds_toArray, List.set_cons_zero, List.set_cons_succ]
      refine ⟨by kernel_rfl, ?_⟩
      simp only [List.drop_succ_cons, List.drop_zero]
      have BX := Lib.hid HS
      clear inv HS
      go_wp2_with fail
      go_roundw
      case rel => exact ⟨j + 1, by have := HJN.out; omega, by go_num, BX⟩
      case measure => have := HJN.out; simp [intOf]; omega
    · have hjn' : ¬ (j : Int) < (n : Int) := by omega
      go_wp2_with fail
      go_ret
      exact ⟨rfl, BB.out⟩
theorem wpList_val {P : Program} {w w' : World} {ops : Array Oper} {rest : List Oper} {o : Oper} {a : Act} {Q : Exit → Act → World → Prop} {v : Value} (hgd : o.guard = none) (d : Tmp) (hd : o.dst = some d) (p : Op) (ho : o.op = p)
    (hr : (execOp a.eval (bareO p o.type)).run P w = .ok (.value v) w') (h : wpList P ops Q rest (a.put (some d) v) w') : wpList P ops Q (o :: rest) a w :=
  wpList_plain hgd fun K hK => by
    rw [execOp_bare ho] at hr
    rw [← hd] at h
    unfold Oper.wp
    rw [hr, Oper.upon_value]
    exact hK _ _ h

end Go.Proofs.Ytldbmmganicliaa
