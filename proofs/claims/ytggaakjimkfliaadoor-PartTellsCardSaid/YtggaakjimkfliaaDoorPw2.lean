/-
  The walk of the law PartTells. Condition: the list takes at most 2^47 bytes, each number fits its kind.
-/
import Derived.Test.YtggaakjimkfliaaDoorPw1
import Derived.Test.YtggaakjimkfliaaDoorPsam
import Derived.Test.YtggaakjimkfliaaDoorPapp
namespace Go.Proofs.YtggaakjimkfliaaDoor
set_option linter.unusedSimpArgs false
set_option linter.unusedVariables false
open Go.RowKit Go.Sort

theorem add_plain5' (b o n : Nat) : (⟨b, o, none⟩ : Addr).add n = ⟨b, o + n, none⟩ := by
  unfold Addr.add
  by_cases h : n = 0 <;> simp [h]
theorem light1 {x : P5} (h : lightB [x] = true) : x.key.size + x.val.size ≤ 4000 := by
  simp [lightB, lite] at h
  omega
/-- a part and two results, in three blocks. -/
structure Box3 (W : World) (n : Nat) (x : P5) (ca cb : Int) (ua ub : ByteArray) : Prop where
  p : PartAt W n 0 x
  a : Res2 W (n + 1) ca ua
  b : Res2 W (n + 1 + 1) cb ub
  lt : n + 1 + 1 < W.heap.size
theorem Box3.below {W W' : World} {n : Nat} {x : P5} {ca cb : Int} {ua ub : ByteArray} (h : Box3 W n x ca cb ua ub) (hb : Below W.heap.size W W') : Box3 W' n x ca cb ua ub :=
  ⟨h.p.below hb (by have := h.lt; omega), h.a.below hb (by have := h.lt; omega), h.b.below hb (by have := h.lt; omega), Nat.lt_of_lt_of_le h.lt hb.size⟩

theorem new_cell (W : World) (cs : Array Value) (t : TypeId) (j n : Nat) (hn : W.heap.size = n) : (W.alloc (.cells cs t)).cell? ⟨n, j, none⟩ = cs[j]? := by
  subst hn
  exact cell_of_row _ _ j cs t (0, 0) (heap_alloc_new W _)
theorem below_then {w w2 W : World} (B2 : Below w.heap.size w w2) (h : Below w2.heap.size w2 W) : Below w.heap.size w W := B2.trans (h.mono B2.size)
theorem own_e (W : World) (n base : Nat) (hn : W.heap.size = n) (hb : base ≤ n) : (W.alloc (.cells #[] 30)).ownsRow base 30 5 (.slice (some ⟨n, 0, none⟩) 0 0) 0 [] := by
  subst hn
  exact World.ownsRow_lit W #[] 0 hb (by unfold maxLen; omega) rfl
theorem rowsP_one {W : World} {h : Nat} {x : P5} (hc : ∀ j, W.cell? ⟨h, j, none⟩ = #[.int .u8 x.g, .int .u8 x.k, .string x.key, .string x.val, .int .i64 x.n][j]?) : RowsP W (h + 1) (some ⟨h, 0, none⟩) [x] :=
  rowsP_of_cells (by omega) fun j u hu => by
    rw [Nat.zero_add, hc]
    simpa [cellsP, P5.cells] using hu
theorem own_app {W : World} {base : Nat} {v : Value} {X : List P5} {x : P5} {n m : Nat} (hn : n = 0) (hm : m = 1) (h : W.ownsRow base 30 5 v (n + X.length + m) (([] ++ cellsP X) ++ cellsP [x])) :
    ∃ b o c, v = .slice (some ⟨b, o, none⟩) (X.length + 1) c ∧ RowsP W W.heap.size (some ⟨b, o, none⟩) (X ++ [x]) ∧ X.length + 1 ≤ c ∧ c ≤ maxLen := by
  subst hn hm
  have h' : W.ownsRow base 30 5 v (X ++ [x]).length (cellsP (X ++ [x])) := by
    have e1 : (X ++ [x]).length = 0 + X.length + 1 := by simp
    have e2 : cellsP (X ++ [x]) = ([] ++ cellsP X) ++ cellsP [x] := by simp [cellsP]
    rw [e1, e2]
    exact h
  obtain ⟨A, c, rfl, R, l, mm⟩ := rowsP_of_own h'
  obtain ⟨b, o, e, _, _⟩ := R (by simp)
  subst e
  exact ⟨b, o, c, by simp, R, by simpa using l, mm⟩
theorem toPartB (x : P5) (W : World) : Calls Tryd.prog 8 #[.agg #[.int .u8 x.g, .int .u8 x.k, .string x.key, .string x.val, .int .i64 x.n]] W fun e W' => e = .returned (.agg #[.int .u8 x.g, .int .u8 x.k, .string x.key, .string x.val, .int .i64 x.n]) ∧ Below W.heap.size W W' :=
  (toPart x.g x.k x.n x.key x.val W).mono fun e W' ⟨he, hw⟩ => ⟨he, by rw [← hw]; exact ((Below.refl _ _).alloc (Nat.le_refl _) _).alloc (by simp) _⟩
theorem refResB (c : Int) (v : ByteArray) (W : World) : Calls Tryd.prog 19 #[.agg #[.int .u8 c, .string v]] W fun e W' => e = .returned (.agg #[.int .u8 c, .string v]) ∧ Below W.heap.size W W' :=
  (refRes c v W).mono fun e W' ⟨he, hw⟩ => ⟨he, by rw [← hw]; exact ((Below.refl _ _).alloc (Nat.le_refl _) _).alloc (by simp) _⟩
theorem parts_of {A : Option Addr} {X : List P5} {c n : Nat} {W : World} {Q : Ending → World → Prop} (hn : X.length = n) (h : Calls Tryd.prog 12 #[.slice A X.length c] W Q) : Calls Tryd.prog 12 #[.slice A n c] W Q := by
  subst hn
  exact h
theorem same_n (A1 A2 : Option Addr) (X Y : List P5) (c d : Nat) (w : World) (hr : RowsP w w.heap.size A1 X) (hs : RowsP w w.heap.size A2 Y) (n m : Nat) (h1 : X.length = n) (h2 : Y.length = m) (hc : X.length ≤ c) (hm : c ≤ maxLen) (hd : Y.length ≤ d) (hn : d ≤ maxLen) :
    Calls Tryd.prog 22 #[.slice A1 n c, .slice A2 m d] w fun e w' => e = .returned (.bool (sameB X Y)) ∧ Below w.heap.size w w' := by
  subst h1 h2
  exact same A1 A2 X Y c d w hr hs hc hm hd hn
theorem refSame_1 (A1 A2 : Option Addr) (x : P5) (Y : List P5) (c d : Nat) (w : World) (hr : RowsP w w.heap.size A1 [x]) (hs : RowsP w w.heap.size A2 Y) (hc : [x].length ≤ c) (hm : c ≤ maxLen) (hd : Y.length ≤ d) (hn : d ≤ maxLen) :
    Calls Tryd.prog 23 #[.slice A1 1 c, .slice A2 Y.length d] w fun e w' => e = .returned (.bool (sameB [x] Y)) ∧ Below w.heap.size w w' := refSame A1 A2 [x] Y c d w hr hs hc hm hd hn
theorem rows_tail {W : World} {B b o : Nat} {X : List P5} {x : P5} (h : RowsP W B (some ⟨b, o, none⟩) (X ++ [x])) : RowsP W B (some ⟨b, o + X.length * 5, none⟩) [x] := fun _ => by
  obtain ⟨b', o', e, hb, hc⟩ := h (by simp)
  cases e
  refine ⟨b, o + X.length * 5, rfl, hb, fun i y hy => ?_⟩
  have hi : i = 0 := by
    have := (List.getElem?_eq_some_iff.1 hy).1
    simpa using this
  subst hi
  have hyx : y = x := by simpa using hy.symm
  subst hyx
  have := hc X.length y (by simp)
  simpa using this
theorem stepQ {w w5 W W' : World} {n : Nat} {x : P5} {ca cb : Int} {ua ub : ByteArray} (BB : Hid (Below w5.heap.size w5 W)) (HW : Hid (Below w.heap.size w W)) (QQ : Hid (Box3 W n x ca cb ua ub)) (hb : Below W.heap.size W W') :
    Hid (Below w5.heap.size w5 W') ∧ Hid (Below w.heap.size w W') ∧ Hid (Box3 W' n x ca cb ua ub) :=
  ⟨Lib.hid (below_then BB.out hb), Lib.hid (below_then HW.out hb), Lib.hid (QQ.out.below hb)⟩
theorem wp_cut {P : Program} {code : Code} {Q : Exit → Act → World → Prop} {a0 : Act} {w0 : World} (R : Act → Act → World → Prop) (h : code.wp P (fun e a w => e = .normal ∧ R a0 a w) a0 w0) (hk : ∀ a w, R a0 a w → Q .normal a w) : code.wp P Q a0 w0 :=
  Code.wp_mono (fun e a w h => by obtain ⟨rfl, h⟩ := h; exact hk a w h) h
/-- behind m's making. -/
def AtM (w : World) (x : P5) (ca cb : Int) (ua ub : ByteArray) (X : List P5) (a0 a : Act) (w5 : World) : Prop :=
  ∃ (u30 u31 u32 u33 u34 u35 : Value) (b5 o5 c5 : Nat), a = ((((((a0.put (some 30) u30).put (some 31) u31).put (some 32) u32).put (some 33) u33).put (some 34) u34).put (some 35) u35).put (some 9) (.slice (some ⟨b5, o5, none⟩) (X.length + 1) c5) ∧
    Hid (Below w.heap.size w w5) ∧ Hid (Box3 w5 w.heap.size x ca cb ua ub) ∧ RowsP w5 w5.heap.size (some ⟨b5, o5, none⟩) (X ++ [x]) ∧ X.length + 1 ≤ c5 ∧ c5 ≤ maxLen
theorem box3_new (w : World) (x : P5) (ca cb : Int) (ua ub : ByteArray) : Box3 ((((w.alloc (.cells #[.int .u8 x.g, .int .u8 x.k, .string x.key, .string x.val, .int .i64 x.n] 30)).alloc (.cells #[.int .u8 ca, .string ua] 24)).alloc (.cells #[.int .u8 cb, .string ub] 24)).alloc (.cells #[.int .u8 x.g, .int .u8 x.k, .string x.key, .string x.val, .int .i64 x.n] 30)) w.heap.size x ca cb ua ub := by
  have P1 : PartAt (w.alloc (.cells #[.int .u8 x.g, .int .u8 x.k, .string x.key, .string x.val, .int .i64 x.n] 30)) w.heap.size 0 x := ⟨new_cell _ _ _ 0 _ rfl, new_cell _ _ _ 1 _ rfl, new_cell _ _ _ 2 _ rfl, new_cell _ _ _ 3 _ rfl, new_cell _ _ _ 4 _ rfl⟩
  have A2 : Res2 ((w.alloc (.cells #[.int .u8 x.g, .int .u8 x.k, .string x.key, .string x.val, .int .i64 x.n] 30)).alloc (.cells #[.int .u8 ca, .string ua] 24)) (w.heap.size + 1) ca ua := ⟨new_cell _ _ _ 0 _ (by simp), new_cell _ _ _ 1 _ (by simp)⟩
  have B3 : Res2 (((w.alloc (.cells #[.int .u8 x.g, .int .u8 x.k, .string x.key, .string x.val, .int .i64 x.n] 30)).alloc (.cells #[.int .u8 ca, .string ua] 24)).alloc (.cells #[.int .u8 cb, .string ub] 24)) (w.heap.size + 1 + 1) cb ub := ⟨new_cell _ _ _ 0 _ (by simp), new_cell _ _ _ 1 _ (by simp)⟩
  have s1 := (Below.refl (w.alloc (.cells #[.int .u8 x.g, .int .u8 x.k, .string x.key, .string x.val, .int .i64 x.n] 30)).heap.size (w.alloc (.cells #[.int .u8 x.g, .int .u8 x.k, .string x.key, .string x.val, .int .i64 x.n] 30))).alloc (Nat.le_refl _) (.cells #[.int .u8 ca, .string ua] 24)
  have s2 := (Below.refl ((w.alloc (.cells #[.int .u8 x.g, .int .u8 x.k, .string x.key, .string x.val, .int .i64 x.n] 30)).alloc (.cells #[.int .u8 ca, .string ua] 24)).heap.size ((w.alloc (.cells #[.int .u8 x.g, .int .u8 x.k, .string x.key, .string x.val, .int .i64 x.n] 30)).alloc (.cells #[.int .u8 ca, .string ua] 24))).alloc (Nat.le_refl _) (.cells #[.int .u8 cb, .string ub] 24)
  have s3 := (Below.refl (((w.alloc (.cells #[.int .u8 x.g, .int .u8 x.k, .string x.key, .string x.val, .int .i64 x.n] 30)).alloc (.cells #[.int .u8 ca, .string ua] 24)).alloc (.cells #[.int .u8 cb, .string ub] 24)).heap.size (((w.alloc (.cells #[.int .u8 x.g, .int .u8 x.k, .string x.key, .string x.val, .int .i64 x.n] 30)).alloc (.cells #[.int .u8 ca, .string ua] 24)).alloc (.cells #[.int .u8 cb, .string ub] 24))).alloc (Nat.le_refl _) (.cells #[.int .u8 x.g, .int .u8 x.k, .string x.key, .string x.val, .int .i64 x.n] 30)
  exact ⟨((P1.below s1 (by simp)).below s2 (by simp; omega)).below s3 (by simp; omega), (A2.below s2 (by simp)).below s3 (by simp), B3.below s3 (by simp), by simp⟩

set_option maxRecDepth 100000 in
set_option maxHeartbeats 4000000 in
theorem walkTells (x : P5) (ca cb : Int) (ua ub : ByteArray) (A : Option Addr) (X : List P5) (c : Nat) (w : World) (B : Nat) (hx : x.Rng) (hr : RowsP w w.heap.size A X) (hX : ∀ x ∈ X, x.Rng) (hlen : X.length * 48 ≤ 140737488355328 - 4096) (hc : X.length ≤ c) (hm : c ≤ maxLen) (hcn : A = none → c = 0) (ht : Okw B w) (hua : ua.size ≤ 140737488355328) (hub : ub.size ≤ 140737488355328) :
    Calls Tryd.prog 4 #[.agg #[.int .u8 x.g, .int .u8 x.k, .string x.key, .string x.val, .int .i64 x.n], .agg #[.int .u8 ca, .string ua], .agg #[.int .u8 cb, .string ub], .slice A X.length c] w fun e w' => e = .returned (.bool true) ∧ Below w.heap.size w w' := by
  have hK := Lib.hid (fun W (hb : Below w.heap.size w W) => knows_any W B (ht.on hb))
  have B4 : Hid (Below w.heap.size w ((((w.alloc (.cells #[.int .u8 x.g, .int .u8 x.k, .string x.key, .string x.val, .int .i64 x.n] 30)).alloc (.cells #[.int .u8 ca, .string ua] 24)).alloc (.cells #[.int .u8 cb, .string ub] 24)).alloc (.cells #[.int .u8 x.g, .int .u8 x.k, .string x.key, .string x.val, .int .i64 x.n] 30))) := Lib.hid (by repeat (first | (with_reducible exact Below.refl _ _) | (with_reducible exact Below.refl _ _) | (with_reducible refine Below.setCell ?_ (by first | omega | (simp; done) | (simp; omega)) _) | (with_reducible refine Below.drew ?_) | (with_reducible refine Below.alloc ?_ (by first | omega | (simp; done) | (simp; omega)) _)))
  have Q4 : Hid (Box3 ((((w.alloc (.cells #[.int .u8 x.g, .int .u8 x.k, .string x.key, .string x.val, .int .i64 x.n] 30)).alloc (.cells #[.int .u8 ca, .string ua] 24)).alloc (.cells #[.int .u8 cb, .string ub] 24)).alloc (.cells #[.int .u8 x.g, .int .u8 x.k, .string x.key, .string x.val, .int .i64 x.n] 30)) w.heap.size x ca cb ua ub) := Lib.hid (box3_new w x ca cb ua ub)
  have L4 : Hid (Calls Tryd.prog 6 #[.slice (some ⟨w.heap.size + 1 + 1 + 1, 0, none⟩) 1 1] ((((w.alloc (.cells #[.int .u8 x.g, .int .u8 x.k, .string x.key, .string x.val, .int .i64 x.n] 30)).alloc (.cells #[.int .u8 ca, .string ua] 24)).alloc (.cells #[.int .u8 cb, .string ub] 24)).alloc (.cells #[.int .u8 x.g, .int .u8 x.k, .string x.key, .string x.val, .int .i64 x.n] 30)) fun e w' => e = .returned (.bool (lightB [x])) ∧ Below (((((w.alloc (.cells #[.int .u8 x.g, .int .u8 x.k, .string x.key, .string x.val, .int .i64 x.n] 30)).alloc (.cells #[.int .u8 ca, .string ua] 24)).alloc (.cells #[.int .u8 cb, .string ub] 24)).alloc (.cells #[.int .u8 x.g, .int .u8 x.k, .string x.key, .string x.val, .int .i64 x.n] 30))).heap.size ((((w.alloc (.cells #[.int .u8 x.g, .int .u8 x.k, .string x.key, .string x.val, .int .i64 x.n] 30)).alloc (.cells #[.int .u8 ca, .string ua] 24)).alloc (.cells #[.int .u8 cb, .string ub] 24)).alloc (.cells #[.int .u8 x.g, .int .u8 x.k, .string x.key, .string x.val, .int .i64 x.n] 30)) w') :=
    Lib.hid (light (some ⟨w.heap.size + 1 + 1 + 1, 0, none⟩) [x] 1 _ (rowsP_of_cells (by simp) fun j u hu => by
      have := cells_new (((w.alloc (.cells #[.int .u8 x.g, .int .u8 x.k, .string x.key, .string x.val, .int .i64 x.n] 30)).alloc (.cells #[.int .u8 ca, .string ua] 24)).alloc (.cells #[.int .u8 cb, .string ub] 24)) #[.int .u8 x.g, .int .u8 x.k, .string x.key, .string x.val, .int .i64 x.n] 30 j u (by simpa [cellsP, P5.cells] using hu)
      rw [add_plain5'] at this
      simpa using this) (Nat.le_refl _) (by unfold maxLen; omega))
  have HR := Lib.hid hr
  clear hr
  go_enter Tryd.func4, Tryd.ntmps4
  go_wp2_with fail
  refine L4.out.mono ?_
  rintro e w1 ⟨rfl, b1⟩
  have B1 := Lib.hid (B4.out.trans (b1.mono B4.out.size))
  have Q1 := Lib.hid (Q4.out.below b1)
  clear b1 B4 Q4 L4
  cases hl : lightB [x] with
  | false =>
    go_wp2_with fail
    refine (hK.out _ B1.out).mono ?_
    rintro e w2 ⟨rfl, b2⟩
    go_wp2
    go_ret
    exact ⟨rfl, B1.out.trans (b2.mono B1.out.size)⟩
  | true =>
    have hxs := light1 hl
    clear hl
    obtain ⟨_, ⟨_, a1⟩, ⟨_, a2⟩, hlt1⟩ := Q1.out
    by_cases hs : (5000 : Int) < (ua.size : Int) + (ub.size : Int)
    · go_wp2_with fail
      refine (hK.out _ B1.out).mono ?_
      rintro e w2 ⟨rfl, b2⟩
      go_wp2
      go_ret
      exact ⟨rfl, B1.out.trans (b2.mono B1.out.size)⟩
    · have hs' : ua.size + ub.size ≤ 5000 := by omega
      have HLt := Lib.hid (light A X c w1 (HR.out.below B1.out (Nat.le_refl _) B1.out.size) hc hm)
      go_wp2_with fail
      refine HLt.out.mono ?_
      rintro e w2 ⟨rfl, b2⟩
      have B2 := Lib.hid (B1.out.trans (b2.mono B1.out.size))
      have Q2 := Lib.hid (Q1.out.below b2)
      clear b2 B1 Q1 HLt a1 a2 hlt1
      cases hl2 : lightB X with
      | false =>
        go_wp2_with fail
        refine (hK.out _ B2.out).mono ?_
        rintro e w2 ⟨rfl, b2⟩
        go_wp2
        go_ret
        exact ⟨rfl, B2.out.trans (b2.mono B2.out.size)⟩
      | true =>
        clear hl2
        obtain ⟨⟨p0, p1, p2, p3, p4⟩, _, _, hlt2⟩ := Q2.out
        go_wp2_with fail
        have hRX := Lib.hid (fun W (hb : Below w.heap.size w W) => HR.out.below (B' := w.heap.size) hb (Nat.le_refl _) (Nat.le_refl _))
        have hbs := B2.out.size
        refine wp_cut (AtM w x ca cb ua ub X) ?_ ?_
        · skip
          go_region_held3 (fun w' => w'.cell? ⟨w.heap.size, 0, none⟩ = some (.int .u8 x.g) ∧ w'.cell? ⟨w.heap.size, 1, none⟩ = some (.int .u8 x.k) ∧ w'.cell? ⟨w.heap.size, 2, none⟩ = some (.string x.key) ∧ w'.cell? ⟨w.heap.size, 3, none⟩ = some (.string x.val) ∧ w'.cell? ⟨w.heap.size, 4, none⟩ = some (.int .i64 x.n)) (first | exact ⟨Q5.out.p.c0, Q5.out.p.c1, Q5.out.p.c2, Q5.out.p.c3, Q5.out.p.c4⟩ | exact ⟨Q3.out.p.c0, Q3.out.p.c1, Q3.out.p.c2, Q3.out.p.c3, Q3.out.p.c4⟩ | (((first | (simp; done) | (go_simp; done) | go_keep))))
            (first
              | (refine stepApp (by rfl) (.tmp 30) (.tmp 31) (by rfl) w2.heap.size _ 0 [] (by rfl) (by first | exact own_e _ _ _ (by first | rfl | (simp; done) | (simp; omega)) (by first | omega | (simp; done) | (simp; omega)) | exact (own_e _ _ _ (by first | rfl | (simp; done) | (simp; omega)) (by first | omega | (simp; done) | (simp; omega))).alloc _) A X c w.heap.size (by rfl) (hRX.out _ (below_then B2.out (by repeat (first | (with_reducible exact Below.refl _ _) | (with_reducible exact Below.refl _ _) | (with_reducible refine Below.setCell ?_ (by first | omega | (simp; done) | (simp; omega)) _) | (with_reducible refine Below.drew ?_) | (with_reducible refine Below.alloc ?_ (by first | omega | (simp; done) | (simp; omega)) _))))) hcn (by omega) (by first | omega | (simp; done) | (simp; omega)) ?_
                 intro v3 w3 O3 g3
                 have b23 : Below w2.heap.size w2 w3 := Below.grown ((by repeat (first | (with_reducible exact Below.refl _ _) | (with_reducible exact Below.refl _ _) | (with_reducible refine Below.setCell ?_ (by first | omega | (simp; done) | (simp; omega)) _) | (with_reducible refine Below.drew ?_) | (with_reducible refine Below.alloc ?_ (by first | omega | (simp; done) | (simp; omega)) _)))) g3 (by first | omega | (simp; done) | (simp; omega)) (by intro j hj; first | (have e : some w2.heap.size = some j := hj; injection e with e; omega) | (have e : some (w2.heap.size + 1) = some j := hj; injection e with e; omega))
                 have H23 := Lib.hid b23
                 have Q3 := Lib.hid (Q2.out.below b23)
                 have hb3 := b23.size
                 clear b23)
              | (refine stepApp (by rfl) (.tmp 32) (.tmp 34) (by rfl) w2.heap.size _ (0 + X.length) _ (by rfl) (by first | exact O3 | exact O3.alloc _) (some ⟨_, 0, none⟩) [x] 1 _ (by rfl)
                   (by first | exact rowsP_one (fun j => new_cell _ _ _ j _ rfl) | exact rowsP_one (fun j => (g3.cell_far _ (by first | omega | (simp; done) | (simp; omega)) (by first | (intro e; have e2 : some (w2.heap.size + 1) = some w2.heap.size := e; injection e2 with e2; omega) | (intro e; have e2 : some w2.heap.size = some (w2.heap.size + 1) := e; injection e2 with e2; omega))).trans (new_cell _ _ _ j _ (by first | rfl | (simp; done) | (simp; omega)))) | exact rowsP_one (fun j => (g3.cell_far _ (by first | omega | (simp; done) | (simp; omega)) (by first | (intro e; have e2 : some (w2.heap.size + 1) = some w2.heap.size := e; injection e2 with e2; omega) | (intro e; have e2 : some w2.heap.size = some (w2.heap.size + 1) := e; injection e2 with e2; omega))).trans ((World.cell?_alloc_lt _ _ _ (by first | omega | (simp; done) | (simp; omega))).trans (new_cell _ _ _ j _ (by first | rfl | (simp; done) | (simp; omega))))))
                   (by intro h; cases h) (by first | omega | (simp; done) | (simp; omega)) (by first | omega | (simp; done) | (simp; omega)) ?_
                 intro v5 w5 O5 g5
                 have b25 : Below w2.heap.size w2 w5 := own_snoc (by first | exact H23.out | exact H23.out.alloc (by omega) _) (by first | exact O3 | exact O3.alloc _) g5
                 have B5 := Lib.hid (below_then B2.out b25)
                 have Q5 := Lib.hid (Q2.out.below b25)
                 obtain ⟨b5, o5, c5, rfl, R5, l5, m5⟩ := own_app rfl rfl O5
                 clear b25 g3 g5 O3 O5 H23))
          all_goals exact ⟨rfl, _, _, _, _, _, _, _, _, _, rfl, B5, Q5, R5, l5, m5⟩
        · rintro a w5 ⟨u30, u31, u32, u33, u34, u35, b5, o5, c5, rfl, B5, Q5, R5, l5, m5⟩
          simp only [Act.put, List.setIfInBounds_toArray, List.set_cons_zero, List.set_cons_succ]
          clear hRX p0 p1 p2 p3 p4 hlt2 hbs Q2 B2
          go_wp2_with fail
          have hne : ¬ c5 = X.length := by omega
          have hci : (X.length : Int) ≤ (c : Int) := by omega
          have hx0 : (0 : Int) ≤ (X.length : Int) := by omega
          have hxc : (X.length : Int) ≤ (c5 : Int) := by omega
          have hx1 : (X.length : Int) ≤ (X.length : Int) + 1 := by omega
          have hc5i : (X.length : Int) + 1 ≤ (c5 : Int) := by omega
          have hxA : Hid (∀ y ∈ X ++ [x], y.Rng) := Lib.hid (fun y hy => by
            rcases List.mem_append.1 hy with h | h
            · exact hX y h
            · have : y = x := by simpa using h
              subst this
              exact hx)
          have HR5 := Lib.hid R5
          have HRX := Lib.hid (HR.out.below B5.out (Nat.le_refl _) B5.out.size)
          have RT := Lib.hid (rows_tail R5)
          have P1 := Lib.hid (toPartB x)
          have P2 := Lib.hid (fun W (hb : Below w.heap.size w W) => show_any x.g x.k x.n x.key x.val W B hx.g.1 hx.g.2 hx.k.1 hx.n.1 hx.n.2 hxs (ht.on hb))
          have P3 := Lib.hid (fun W => refShow x.g x.k x.n x.key x.val W hx.g.1 hx.g.2 hx.k.1 hx.n.1 hx.n.2 hxs)
          have P4 := Lib.hid toResB
          have P5 := Lib.hid refResB
          have P6 := Lib.hid (fun W => join ca cb ua ub W hs')
          have P7 := Lib.hid (fun W => refJoin ca cb ua ub W hs')
          have P8 := Lib.hid (fun W (hb : Below w5.heap.size w5 W) => parts A X c W (HRX.out.below hb (Nat.le_refl _) hb.size) (by omega) hc hm)
          have P9 := Lib.hid (fun W (hb : Below w5.heap.size w5 W) => parts_of (by simp) (parts (some ⟨b5, o5, none⟩) (X ++ [x]) c5 W (HR5.out.below hb (Nat.le_refl _) hb.size) (by simp; omega) (by simpa using l5) m5) (n := X.length + 1))
          have P10 := Lib.hid (fun W (hb : Below w5.heap.size w5 W) => parts_of (X := [x]) (n := 1) rfl <| parts (some ⟨b5, o5 + X.length * 5, none⟩) [x] (c5 - X.length) W (RT.out.below hb (Nat.le_refl _) hb.size) (by simp) (by simp; omega) (by omega))
          have P11 := Lib.hid (fun W (hb : Below w5.heap.size w5 W) => refSame_1 (some ⟨b5, o5 + X.length * 5, none⟩) A x X (c5 - X.length) c W (RT.out.below hb (Nat.le_refl _) hb.size) (HRX.out.below hb (Nat.le_refl _) hb.size) (by simp; omega) (by omega) hc hm)
          have E24 := fun W => eql24 (joinC ca cb) (joinV ca cb ua ub) W
          have hS1 := Lib.hid (sameB_refl X)
          have hS2 := Lib.hid (sameB_len (X := X) (Y := X ++ [x]) (by simp))
          have BB : Hid (Below w5.heap.size w5 w5.drew) := Lib.hid (Below.refl _ _).drew
          have HW : Hid (Below w.heap.size w w5.drew) := Lib.hid B5.out.drew
          have QQ : Hid (Box3 w5.drew w.heap.size x ca cb ua ub) := Lib.hid (Q5.out.below (Below.refl _ _).drew)
          have V2 : Hid (RowsP w5.drew w5.drew.heap.size A X) := Lib.hid (HRX.out.below (C := w5.heap.size) (Below.refl _ _).drew (Nat.le_refl _) (Nat.le_refl _))
          have p0 := Q5.out.p.c0
          have p1 := Q5.out.p.c1
          have p2 := Q5.out.p.c2
          have p3 := Q5.out.p.c3
          have p4 := Q5.out.p.c4
          have p5 := Q5.out.a.c0
          have p6 := Q5.out.a.c1
          have p7 := Q5.out.b.c0
          have p8 := Q5.out.b.c1
          clear hx hX hm R5 l5 m5 Q5 B5
          go_region_held3 (fun w' => w'.cell? ⟨w.heap.size, 0, none⟩ = some (.int .u8 x.g) ∧ w'.cell? ⟨w.heap.size, 1, none⟩ = some (.int .u8 x.k) ∧ w'.cell? ⟨w.heap.size, 2, none⟩ = some (.string x.key) ∧ w'.cell? ⟨w.heap.size, 3, none⟩ = some (.string x.val) ∧ w'.cell? ⟨w.heap.size, 4, none⟩ = some (.int .i64 x.n)
              ∧ w'.cell? ⟨w.heap.size + 1, 0, none⟩ = some (.int .u8 ca) ∧ w'.cell? ⟨w.heap.size + 1, 1, none⟩ = some (.string ua) ∧ w'.cell? ⟨w.heap.size + 1 + 1, 0, none⟩ = some (.int .u8 cb) ∧ w'.cell? ⟨w.heap.size + 1 + 1, 1, none⟩ = some (.string ub))
            (first | exact ⟨QQ.out.p.c0, QQ.out.p.c1, QQ.out.p.c2, QQ.out.p.c3, QQ.out.p.c4, QQ.out.a.c0, QQ.out.a.c1, QQ.out.b.c0, QQ.out.b.c1⟩ | (((first | (simp; done) | (go_simp; done) | go_keep))))
            (first
              | (go_at_call 8; refine (P1.out _).mono ?_; rintro e w' ⟨rfl, b'⟩; obtain ⟨BB, HW, QQ⟩ := stepQ BB HW QQ b'; have V2 := Lib.hid (V2.out.below b' (Nat.le_refl _) b'.size))
              | (go_at_call 17; refine (P2.out _ HW.out).mono ?_; rintro e w' ⟨rfl, b'⟩; obtain ⟨BB, HW, QQ⟩ := stepQ BB HW QQ b'; have V2 := Lib.hid (V2.out.below b' (Nat.le_refl _) b'.size))
              | (go_at_call 18; refine (P3.out _).mono ?_; rintro e w' ⟨rfl, b'⟩; obtain ⟨BB, HW, QQ⟩ := stepQ BB HW QQ b'; have V2 := Lib.hid (V2.out.below b' (Nat.le_refl _) b'.size))
              | (go_at_call 14; refine (P4.out _ _ _).mono ?_; rintro e w' ⟨rfl, b'⟩; obtain ⟨BB, HW, QQ⟩ := stepQ BB HW QQ b'; have V2 := Lib.hid (V2.out.below b' (Nat.le_refl _) b'.size))
              | (go_at_call 19; refine (P5.out _ _ _).mono ?_; rintro e w' ⟨rfl, b'⟩; obtain ⟨BB, HW, QQ⟩ := stepQ BB HW QQ b'; have V2 := Lib.hid (V2.out.below b' (Nat.le_refl _) b'.size))
              | (go_at_call 20; refine (P6.out _).mono ?_; rintro e w' ⟨rfl, b'⟩; obtain ⟨BB, HW, QQ⟩ := stepQ BB HW QQ b'; have V2 := Lib.hid (V2.out.below b' (Nat.le_refl _) b'.size))
              | (go_at_call 21; refine (P7.out _).mono ?_; rintro e w' ⟨rfl, b'⟩; obtain ⟨BB, HW, QQ⟩ := stepQ BB HW QQ b'; have V2 := Lib.hid (V2.out.below b' (Nat.le_refl _) b'.size))
              | (go_at_call 12; (first | ((with_reducible refine (P8.out _ BB.out).mono ?_)) | ((with_reducible refine (P9.out _ BB.out).mono ?_)) | ((with_reducible refine (P10.out _ BB.out).mono ?_))); rintro e w' ⟨v', rfl, O', b'⟩; have V1 := Lib.hid (V2.out.below b' (Nat.le_refl _) b'.size); obtain ⟨A', d', rfl, R', l', m'⟩ := rowsP_of_own O'; have V2 := Lib.hid R'; obtain ⟨BB, HW, QQ⟩ := stepQ BB HW QQ b'; clear O')
              | (go_at_call 22; refine (same_n _ _ _ _ _ _ _ V1.out V2.out _ _ (by first | rfl | simp) (by first | rfl | simp) (by assumption) (by assumption) (by assumption) (by assumption)).mono ?_; (first | rw [hS1.out] | rw [hS2.out] | skip); rintro e w' ⟨rfl, b'⟩; obtain ⟨BB, HW, QQ⟩ := stepQ BB HW QQ b'; have V2 := Lib.hid (V2.out.below b' (Nat.le_refl _) b'.size))
              | (go_at_call 23; refine (P11.out _ BB.out).mono ?_; rintro e w' ⟨rfl, b'⟩; obtain ⟨BB, HW, QQ⟩ := stepQ BB HW QQ b'; have V2 := Lib.hid (V2.out.below b' (Nat.le_refl _) b'.size))
              | (go_at_call 7; refine (hK.out _ HW.out).mono ?_; rintro e w' ⟨rfl, b'⟩; obtain ⟨BB, HW, QQ⟩ := stepQ BB HW QQ b'; have V2 := Lib.hid (V2.out.below b' (Nat.le_refl _) b'.size)))
          all_goals
            go_wp2
            go_ret
            exact ⟨rfl, HW.out⟩

end Go.Proofs.YtggaakjimkfliaaDoor
