/-
  The law's walk.
-/
import Derived.Test.YthmdnbgfnaokkaaDoorQdor
import Derived.Test.YthmdnbgfnaokkaaDoorQall
import Derived.Test.YthmdnbgfnaokkaaDoorQcln
import Derived.Test.YthmdnbgfnaokkaaDoorQeq
namespace Go.Proofs.YthmdnbgfnaokkaaDoor
set_option linter.unusedSimpArgs false
set_option linter.unusedVariables false
open Go.RowKit Go.Sort


theorem fits_of_lit {X : List W3} (h : litW X ≤ 3000) : ∀ x ∈ X, x.key.size ≤ 3000 ∧ x.val.size ≤ 3000 := fun x hx => by
  have := litW_mem hx
  omega
theorem own_keptW {base j : Nat} {v : Value} {X : List W3} {W W' : World} (O : W.ownsRow base 79 3 v X.length (cellsW X)) (hg : W.grownBy W' (some j)) (hj : ∀ i, v.ownBlock = some i → i ≠ j) : W'.ownsRow base 79 3 v X.length (cellsW X) := by
  refine O.kept hg ?_
  cases hv : v.ownBlock with
  | none => exact .inl rfl
  | some i => exact .inr fun e => hj i hv (by injection e)
theorem own_belowW {base : Nat} {v : Value} {X : List W3} {W W' : World} (O : W.ownsRow base 79 3 v X.length (cellsW X)) (hb : Below W.heap.size W W') : W'.ownsRow base 79 3 v X.length (cellsW X) := by
  refine O.kept (grown_of_belowW hb none) ?_
  cases hv : v.ownBlock with
  | none => exact .inl rfl
  | some i => exact .inr (by simp)
theorem sum4 (a b c d : Nat) (ha : a ≤ 140737488355328) (hb : b ≤ 140737488355328) (hc : c ≤ 140737488355328) (hd : d ≤ 140737488355328) :
    IntKind.i64.wrap ((a : Int) + b) = a + b ∧ IntKind.i64.wrap ((a : Int) + b + c) = a + b + c ∧ IntKind.i64.wrap ((a : Int) + b + c + d) = a + b + c + d :=
  ⟨IntWalk.i64_in _ (by omega), IntWalk.i64_in _ (by omega), IntWalk.i64_in _ (by omega)⟩

set_option maxRecDepth 100000 in
set_option maxHeartbeats 1000000 in
theorem walkApart (g k m g2 k2 m2 : Int) (key val key2 val2 : ByteArray) (A : Option Addr) (X : List W3) (c : Nat) (w : World) (B : Nat) (hr : RowsW w w.heap.size A X) (hc : X.length ≤ c) (hm : c ≤ maxLen) (hk : 0 ≤ k) (hmm : m ≤ 9223372036854775807) (hk2 : 0 ≤ k2) (hmm2 : m2 ≤ 9223372036854775807)
    (z1 : key.size ≤ 140737488355328) (z2 : val.size ≤ 140737488355328) (z3 : key2.size ≤ 140737488355328) (z4 : val2.size ≤ 140737488355328) (ht : Env B w) :
    Calls Tryd.prog 3 #[.slice A X.length c, .agg #[.int .u8 g, .int .u8 k, .string key, .string val, .int .i64 m], .agg #[.int .u8 g2, .int .u8 k2, .string key2, .string val2, .int .i64 m2]] w fun e w' => e = .returned (.bool true) ∧ Below w.heap.size w w' := by
  have b0 : Below w.heap.size w ((w.alloc (.cells #[.int .u8 g, .int .u8 k, .string key, .string val, .int .i64 m] 24)).alloc (.cells #[.int .u8 g2, .int .u8 k2, .string key2, .string val2, .int .i64 m2] 24)) := ((Below.refl _ _).alloc (Nat.le_refl _) _).alloc (by simp) _
  have B0 := Lib.hid b0
  have HR := Lib.hid (fun (W : World) (hW : Below w.heap.size w W) => hr.below hW (Nat.le_refl _) hW.size)
  have ET := Lib.hid (fun (W : World) (hW : Below w.heap.size w W) => ht.on hW)
  obtain ⟨pc, _⟩ := newSt w ((w.alloc (.cells #[.int .u8 g, .int .u8 k, .string key, .string val, .int .i64 m] 24)).alloc (.cells #[.int .u8 g2, .int .u8 k2, .string key2, .string val2, .int .i64 m2] 24)) _ #[.int .u8 g, .int .u8 k, .string key, .string val, .int .i64 m] 24 rfl ((Below.refl _ _).alloc (by simp) _)
  obtain ⟨qc, _⟩ := newSt (w.alloc (.cells #[.int .u8 g, .int .u8 k, .string key, .string val, .int .i64 m] 24)) ((w.alloc (.cells #[.int .u8 g, .int .u8 k, .string key, .string val, .int .i64 m] 24)).alloc (.cells #[.int .u8 g2, .int .u8 k2, .string key2, .string val2, .int .i64 m2] 24)) (w.heap.size + 1) #[.int .u8 g2, .int .u8 k2, .string key2, .string val2, .int .i64 m2] 24 (by simp) (Below.refl _ _)
  have hz0 : w.heap.size + 1 < ((w.alloc (.cells #[.int .u8 g, .int .u8 k, .string key, .string val, .int .i64 m] 24)).alloc (.cells #[.int .u8 g2, .int .u8 k2, .string key2, .string val2, .int .i64 m2] 24)).heap.size := by simp
  have PC := Lib.hid pc
  have QC := Lib.hid qc
  obtain ⟨s1, s2, s3⟩ := sum4 key.size val.size key2.size val2.size z1 z2 z3 z4
  clear b0 hr ht pc qc
  go_enter Tryd.func3, Tryd.ntmps3
  go_wp2_with fail
  refine (fewS A X c _ (HR.out _ B0.out) hc hm).mono ?_
  rintro e w1 ⟨r, rfl, hf, b1⟩
  have B1 := Lib.hid (B0.out.trans (b1.mono B0.out.size))
  have p1 : ∀ j, w1.cell? ⟨w.heap.size, j, none⟩ = (#[.int .u8 g, .int .u8 k, .string key, .string val, .int .i64 m] : Array Value)[j]? := fun j => (b1.cell (p := ⟨w.heap.size, j, none⟩) (Nat.lt_of_succ_lt hz0)).trans (PC.out j)
  have q1 : ∀ j, w1.cell? ⟨w.heap.size + 1, j, none⟩ = (#[.int .u8 g2, .int .u8 k2, .string key2, .string val2, .int .i64 m2] : Array Value)[j]? := fun j => (b1.cell (p := ⟨w.heap.size + 1, j, none⟩) hz0).trans (QC.out j)
  have P2 := p1 2
  have P3 := p1 3
  have Q2 := q1 2
  have Q3 := q1 3
  have P1 := Lib.hid p1
  have Q1 := Lib.hid q1
  have hz1 : w.heap.size + 1 < w1.heap.size := Nat.lt_of_lt_of_le hz0 b1.size
  clear b1 PC QC B0 p1 q1 hz0
  cases r with
  | false =>
    go_wp2_with (go_at_call 7; refine (knowsS _ B (ET.out _ B1.out) _ rfl).mono ?_; rintro e wk ⟨rfl, bk⟩; have BK := Lib.hid (B1.out.trans (bk.mono B1.out.size)); clear bk)
    go_ret
    exact ⟨rfl, BK.out⟩
  | true =>
    obtain ⟨h250, hlit⟩ := hf rfl
    by_cases hs : (500 : Int) < (key.size : Int) + val.size + key2.size + val2.size
    · go_wp2_with (go_at_call 7; refine (knowsS _ B (ET.out _ B1.out) _ rfl).mono ?_; rintro e wk ⟨rfl, bk⟩; have BK := Lib.hid (B1.out.trans (bk.mono B1.out.size)); clear bk)
      go_ret
      exact ⟨rfl, BK.out⟩
    · have hs' : (key.size : Int) + val.size + key2.size + val2.size ≤ 500 := by omega
      go_wp2_with (go_at_call 7; refine (knowsS _ B (ET.out _ B1.out) _ rfl).mono ?_; rintro e wk ⟨rfl, bk⟩
                   have BK := Lib.hid (B1.out.trans (bk.mono B1.out.size))
                   have PK : Hid (∀ j, wk.cell? ⟨w.heap.size, j, none⟩ = (#[.int .u8 g, .int .u8 k, .string key, .string val, .int .i64 m] : Array Value)[j]?) := Lib.hid (fun j => (bk.cell (p := ⟨w.heap.size, j, none⟩) (Nat.lt_of_succ_lt hz1)).trans (P1.out j))
                   have QK : Hid (∀ j, wk.cell? ⟨w.heap.size + 1, j, none⟩ = (#[.int .u8 g2, .int .u8 k2, .string key2, .string val2, .int .i64 m2] : Array Value)[j]?) := Lib.hid (fun j => (bk.cell (p := ⟨w.heap.size + 1, j, none⟩) hz1).trans (Q1.out j))
                   have hzk : w.heap.size + 1 < wk.heap.size := Nat.lt_of_lt_of_le hz1 bk.size
                   clear bk)
      clear P2 P3 Q2 Q3 P1 Q1 B1 s1 s2 s3 hs hs' hf
      obtain ⟨n1, hn1⟩ : ∃ n1, wk.heap.size = n1 := ⟨_, rfl⟩
      refine (madeL A X c wk (HR.out _ BK.out) hc hm h250 (fits_of_lit hlit) n1 hn1).mono ?_
      rintro e w4 ⟨L, kk, rfl, hkk, HP, b4⟩
      rw [hn1] at hzk
      have hw1 : w.heap.size ≤ n1 := by omega
      have B4 := Lib.hid (BK.out.trans (b4.mono hw1))
      have p4 : Hid (∀ j, w4.cell? ⟨w.heap.size, j, none⟩ = (#[.int .u8 g, .int .u8 k, .string key, .string val, .int .i64 m] : Array Value)[j]?) := Lib.hid (fun j => (b4.cell (p := ⟨w.heap.size, j, none⟩) (Nat.lt_of_succ_lt hzk)).trans (PK.out j))
      have q4 : Hid (∀ j, w4.cell? ⟨w.heap.size + 1, j, none⟩ = (#[.int .u8 g2, .int .u8 k2, .string key2, .string val2, .int .i64 m2] : Array Value)[j]?) := Lib.hid (fun j => (b4.cell (p := ⟨w.heap.size + 1, j, none⟩) hzk).trans (QK.out j))
      obtain ⟨hps, hrs, hord, hlen, hfit⟩ := HP
      obtain ⟨_, hrb, hbs, v0, rc0, O0⟩ := hrs
      have OB := Lib.hid (fun i (hv : v0.ownBlock = some i) => (O0.lt i hv).2)
      have HO := Lib.hid hord
      have HF := Lib.hid (fun x hx => (hfit x hx).2)
      have hL40 : L.length * 40 ≤ 140737488355328 := by omega
      have hkm : kk + 1 < maxLen := by unfold maxLen; omega
      clear b4 PK QK BK hfit hord h250 hlit
      go_wp2_with fail
      refine (cloneS (n1 + 1) n1 kk L w4 hps).mono ?_
      rintro e w5 ⟨b2, bm2, rfl, hm4, hb2, hpc, b5⟩
      have hz4 : w.heap.size + 1 < w4.heap.size := by omega
      have B5 := Lib.hid (B4.out.trans (b5.mono B4.out.size))
      have p5 : ∀ j, w5.cell? ⟨w.heap.size, j, none⟩ = (#[.int .u8 g, .int .u8 k, .string key, .string val, .int .i64 m] : Array Value)[j]? := fun j => (b5.cell (p := ⟨w.heap.size, j, none⟩) (Nat.lt_of_succ_lt hz4)).trans (p4.out j)
      have q5 : Hid (∀ j, w5.cell? ⟨w.heap.size + 1, j, none⟩ = (#[.int .u8 g2, .int .u8 k2, .string key2, .string val2, .int .i64 m2] : Array Value)[j]?) := Lib.hid (fun j => (b5.cell (p := ⟨w.heap.size + 1, j, none⟩) hz4).trans (q4.out j))
      have S5 := Lib.hid (hps.below b5)
      have C5 := Lib.hid hpc
      have O5 := Lib.hid (own_belowW O0 b5)
      have rc5 := Lib.hid ((b5.cell (p := ⟨n1 + 1 + 1, 0, none⟩) (World.block_lt_of_cell? w4 _ rc0)).trans rc0)
      have hs5 := b5.size
      have hz5 : w.heap.size + 1 < w5.heap.size := by omega
      have e0 := p5 0
      have e1 := p5 1
      have e2 := p5 2
      have e3 := p5 3
      have e4 := p5 4
      clear b5 p4 q4 B4 hps hpc O0 rc0 p5
      go_wp2_with (go_at_call 11; refine (toPart g k m key val _).mono ?_; rintro e w6 ⟨rfl, hw6⟩)
      have b6 : Below w5.heap.size w5 w6 := by rw [← hw6]; exact ((Below.refl _ _).alloc (Nat.le_refl _) _).alloc (by simp) _
      clear hw6 e0 e1 e2 e3 e4
      have B6 := Lib.hid (B5.out.trans (b6.mono B5.out.size))
      have hs6 := b6.size
      refine (doW b2 bm2 kk g k m key val L w6 B (C5.out.below b6) HO.out (by omega) (by omega) HF.out hk hmm (ET.out _ B6.out)).mono ?_
      rintro e w7 ⟨v7, L1, rfl, ho1, hl1, hf1, hp7, g7⟩
      have B7 := Lib.hid (B6.out.grown g7 B6.out.size (fun j e => by injection e with e; omega))
      have q7 : Hid (∀ j, w7.cell? ⟨w.heap.size + 1, j, none⟩ = (#[.int .u8 g2, .int .u8 k2, .string key2, .string val2, .int .i64 m2] : Array Value)[j]?) := Lib.hid (fun j => (g7.cell_far ⟨w.heap.size + 1, j, none⟩ (Nat.lt_of_lt_of_le hz5 hs6) (by simp; omega)).trans ((b6.cell (p := ⟨w.heap.size + 1, j, none⟩) hz5).trans (q5.out j)))
      have S7 := Lib.hid ((S5.out.below b6).grown g7 (by simp; omega) (by simp; omega))
      have C7 := Lib.hid hp7
      obtain ⟨A0, c0, rfl, R0, l0, m0⟩ := rowsW_of_own (own_keptW (own_belowW O5.out b6) g7 (fun i hv e => by have := OB.out i hv; omega))
      have rc7 := (g7.cell_far ⟨n1 + 1 + 1, 0, none⟩ (by show n1 + 1 + 1 < _; omega) (by simp; omega)).trans ((b6.cell (p := ⟨n1 + 1 + 1, 0, none⟩) (by show n1 + 1 + 1 < _; omega)).trans rc5.out)
      have R0' := Lib.hid R0
      have HO1 := Lib.hid ho1
      have hs7 := g7.size
      have hL41 : L1.length * 40 ≤ 140737488355328 := by omega
      clear b6 g7 B5 B6 q5 S5 C5 O5 rc5 R0 ho1 hp7 hf1 OB
      go_wp2_with fail
      have bd : Below w7.heap.size w7 w7.drew := (Below.refl _ _).drew
      have B7d : Hid (Below w.heap.size w w7.drew) := Lib.hid B7.out.drew
      have S7d := Lib.hid (S7.out.below bd)
      have C7d := Lib.hid (C7.out.below bd)
      have R0d := Lib.hid (R0'.out.below bd (Nat.le_refl _) bd.size)
      have q7d : Hid (∀ j, w7.drew.cell? ⟨w.heap.size + 1, j, none⟩ = (#[.int .u8 g2, .int .u8 k2, .string key2, .string val2, .int .i64 m2] : Array Value)[j]?) := Lib.hid (fun j => (bd.cell (p := ⟨w.heap.size + 1, j, none⟩) (by show w.heap.size + 1 < w7.heap.size; omega)).trans (q7.out j))
      have rc7d := (bd.cell (p := ⟨n1 + 1 + 1, 0, none⟩) (by show n1 + 1 + 1 < w7.heap.size; omega)).trans rc7
      have hs7d := bd.size
      have hz7 : w.heap.size + 1 < w7.drew.heap.size := by omega
      have hy7 : n1 + 1 + 1 < w7.drew.heap.size := by omega
      clear bd B7 S7 C7 R0' q7
      go_region_held3 (fun w' => w'.cell? ⟨n1 + 1 + 1, 0, none⟩ = some (.slice A0 L.length c0)) (first | exact rc7d | exact rc7 | exact rc8 | exact rc9 | exact rc10)
        (first
          | (go_at_call 14; refine (allS (n1 + 1) n1 kk L _ S7d.out HO.out hL40).mono ?_; rintro e w8 ⟨A8, c8, rfl, R8, l8, m8, b8⟩
             have B8 := Lib.hid (B7d.out.trans (b8.mono B7d.out.size))
             have R08 := Lib.hid (R0d.out.below b8 (Nat.le_refl _) b8.size)
             have R8' := Lib.hid R8
             have q8 : Hid (∀ j, w8.cell? ⟨w.heap.size + 1, j, none⟩ = (#[.int .u8 g2, .int .u8 k2, .string key2, .string val2, .int .i64 m2] : Array Value)[j]?) := Lib.hid (fun j => (b8.cell (p := ⟨w.heap.size + 1, j, none⟩) hz7).trans (q7d.out j))
             have S8 := Lib.hid (S7d.out.below b8)
             have C8 := Lib.hid (C7d.out.below b8)
             have rc8 := (b8.cell (p := ⟨n1 + 1 + 1, 0, none⟩) hy7).trans rc7d
             have hs8 := b8.size
             clear R8 b8)
          | (go_at_call 13; refine (refW A8 L c8 _ R8'.out hL40 l8 m8).mono ?_; rintro e w9 ⟨v9, rfl, O9, b9⟩
             have B9 := Lib.hid (B8.out.trans (b9.mono B8.out.size))
             have R09 := Lib.hid (R08.out.below b9 (Nat.le_refl _) b9.size)
             obtain ⟨A9, c9, rfl, R9, l9, m9⟩ := rowsW_of_own O9
             have R9' := Lib.hid R9
             have q9 : Hid (∀ j, w9.cell? ⟨w.heap.size + 1, j, none⟩ = (#[.int .u8 g2, .int .u8 k2, .string key2, .string val2, .int .i64 m2] : Array Value)[j]?) := Lib.hid (fun j => (b9.cell (p := ⟨w.heap.size + 1, j, none⟩) (by show w.heap.size + 1 < _; omega)).trans (q8.out j))
             have S9 := Lib.hid (S8.out.below b9)
             have C9 := Lib.hid (C8.out.below b9)
             have rc9 := (b9.cell (p := ⟨n1 + 1 + 1, 0, none⟩) (by show n1 + 1 + 1 < _; omega)).trans rc8
             have hs9 := b9.size
             clear R9 O9 b9)
          | (go_at_call 12; refine (sameW A9 A0 L c9 c0 _ R9'.out R09.out l9 m9 l0 m0).mono ?_; rintro e w10 ⟨rfl, b10⟩
             have B10 := Lib.hid (B9.out.trans (b10.mono B9.out.size))
             have q10 : Hid (∀ j, w10.cell? ⟨w.heap.size + 1, j, none⟩ = (#[.int .u8 g2, .int .u8 k2, .string key2, .string val2, .int .i64 m2] : Array Value)[j]?) := Lib.hid (fun j => (b10.cell (p := ⟨w.heap.size + 1, j, none⟩) (by show w.heap.size + 1 < _; omega)).trans (q9.out j))
             have S10 := Lib.hid (S9.out.below b10)
             have C10 := Lib.hid (C9.out.below b10)
             have rc10 := (b10.cell (p := ⟨n1 + 1 + 1, 0, none⟩) (by show n1 + 1 + 1 < _; omega)).trans rc9
             have hs10 := b10.size
             clear b10))
      have hk11 : n1 + 1 + 1 < w10.heap.size := by omega
      go_wp2_with fail
      refine (allS b2 bm2 (kk + 1) L1 _ C10.out HO1.out hL41).mono ?_
      rintro e w11 ⟨A11, c11, rfl, R11, l11, m11, b11⟩
      have B11 := Lib.hid (B10.out.trans (b11.mono B10.out.size))
      have C11 := Lib.hid (C10.out.below b11)
      have hs11 := b11.size
      have S11 := Lib.hid (S10.out.below b11)
      have q11 : Hid (∀ j, w11.cell? ⟨w.heap.size + 1, j, none⟩ = (#[.int .u8 g2, .int .u8 k2, .string key2, .string val2, .int .i64 m2] : Array Value)[j]?) := Lib.hid (fun j => (b11.cell (p := ⟨w.heap.size + 1, j, none⟩) (by show w.heap.size + 1 < _; omega)).trans (q10.out j))
      clear b11 B10 C10 S10 q10 rc10
      go_wp2_with fail
      refine (refW A11 L1 c11 _ R11 hL41 l11 m11).mono ?_
      rintro e w12 ⟨v12, rfl, O12, b12⟩
      have B12 := Lib.hid (B11.out.trans (b12.mono B11.out.size))
      have C12 := Lib.hid (C11.out.below b12)
      have hs12 := b12.size
      have S12 := Lib.hid (S11.out.below b12)
      have q12 : Hid (∀ j, w12.cell? ⟨w.heap.size + 1, j, none⟩ = (#[.int .u8 g2, .int .u8 k2, .string key2, .string val2, .int .i64 m2] : Array Value)[j]?) := Lib.hid (fun j => (b12.cell (p := ⟨w.heap.size + 1, j, none⟩) (by show w.heap.size + 1 < _; omega)).trans (q11.out j))
      have OO := Lib.hid O12
      have e0 := q12.out 0
      have e1 := q12.out 1
      have e2 := q12.out 2
      have e3 := q12.out 3
      have e4 := q12.out 4
      clear b12 B11 C11 S11 q11 R11 O12
      go_wp2_with (go_at_call 11; refine (toPart g2 k2 m2 key2 val2 _).mono ?_; rintro e w13 ⟨rfl, hw13⟩)
      have b13 : Below w12.heap.size w12 w13 := by rw [← hw13]; exact ((Below.refl _ _).alloc (Nat.le_refl _) _).alloc (by simp) _
      clear hw13 e0 e1 e2 e3 e4
      have B13 := Lib.hid (B12.out.trans (b13.mono B12.out.size))
      have C13 := Lib.hid (C12.out.below b13)
      have hs13 := b13.size
      refine (doW (n1 + 1) n1 kk g2 k2 m2 key2 val2 L w13 B (S12.out.below b13) HO.out (by omega) (by omega) HF.out hk2 hmm2 (ET.out _ B13.out)).mono ?_
      rintro e w14 ⟨v14, L2, rfl, _, _, _, _, g14⟩
      have B14 := Lib.hid (B13.out.grown g14 B13.out.size (fun j e => by injection e with e; omega))
      have C14 := Lib.hid (C13.out.grown g14 (by simp; omega) (by simp; omega))
      have O14 := Lib.hid (own_keptW (own_belowW OO.out b13) g14 (fun i hv e => by have := (OO.out.lt i hv).1; omega))
      clear b13 g14 B12 B13 C12 C13 S12 q12 OO
      go_wp2_with fail
      refine (allS b2 bm2 (kk + 1) L1 _ C14.out HO1.out hL41).mono ?_
      rintro e w15 ⟨A15, c15, rfl, R15, l15, m15, b15⟩
      have B15 := Lib.hid (B14.out.trans (b15.mono B14.out.size))
      have C15 := Lib.hid (C14.out.below b15)
      have O15 := Lib.hid (own_belowW O14.out b15)
      clear b15 B14 C14 O14
      go_wp2_with fail
      refine (refW A15 L1 c15 _ R15 hL41 l15 m15).mono ?_
      rintro e w16 ⟨v16, rfl, O16, b16⟩
      have B16 := Lib.hid (B15.out.trans (b16.mono B15.out.size))
      have C16 := Lib.hid (C15.out.below b16)
      have O17 := own_belowW O15.out b16
      obtain ⟨A16, c16, rfl, R16, l16, m16⟩ := rowsW_of_own O16
      obtain ⟨A17, c17, rfl, R17, l17, m17⟩ := rowsW_of_own O17
      clear b16 B15 C15 O15 O16 O17 R15
      go_wp2_with fail
      refine (sameW A16 A17 L1 c16 c17 _ R16 R17 l16 m16 l17 m17).mono ?_
      rintro e w17 ⟨rfl, b17⟩
      have B17 := Lib.hid (B16.out.trans (b17.mono B16.out.size))
      have C17 := Lib.hid (C16.out.below b17)
      clear b17 B16 C16 R16 R17
      go_wp2_with fail
      refine (sameS b2 bm2 (kk + 1) L1 _ C17.out).mono ?_
      rintro e w18 ⟨rfl, b18⟩
      have B18 := Lib.hid (B17.out.trans (b18.mono B17.out.size))
      clear b18 B17 C17
      go_wp2
      go_ret
      exact ⟨rfl, B18.out⟩

end Go.Proofs.YthmdnbgfnaokkaaDoor
