/-
  Two entries of the same held against each other: entry.Same and the document's Same give true. Condition: the lists lie in memory.
-/
import Derived.Test.YtfkmodmgihadkaaEbas
import Derived.Test.YtfkmodmgihadkaaEsam
namespace Go.Proofs.Ytfkmodmgihadkaa
set_option linter.unusedSimpArgs false
set_option linter.unusedVariables false
open Go.RowKit Go.Sort

set_option maxRecDepth 100000 in
theorem eqlID (x : E18) (w : World) : Sem.run Try.prog (binOp .eql 87 (.agg #[.int .u8 x.n, .int .u16 x.l, .int .u32 x.s, .int .u8 x.d, .int .u8 x.a0, .int .u8 x.a1, .int .u8 x.b0, .int .u8 x.b1, .int .u8 x.c0, .int .u8 x.c1]) (.agg #[.int .u8 x.n, .int .u16 x.l, .int .u32 x.s, .int .u8 x.d, .int .u8 x.a0, .int .u8 x.a1, .int .u8 x.b0, .int .u8 x.b1, .int .u8 x.c0, .int .u8 x.c1])) w = .ok (.bool true) w := by
  have hE := I.eqArrID
  have hS : Try.prog.underlying 87 = some (.struct (Try.prog.fieldsOf 87)) := by kernel_rfl
  have hp : Try.prog.stoodInHeld 87 = false := by kernel_rfl
  rw [run_eql_struct, show (10000 : Nat) = 9999 + 1 from rfl]
  simp [go_sem, hE]
theorem eqlRes (x : E18) (w : World) : Sem.run Try.prog (binOp .eql 90 (.agg #[.int .u8 x.rc, .string x.rv]) (.agg #[.int .u8 x.rc, .string x.rv])) w = .ok (.bool true) w := by
  have hS : Try.prog.underlying 90 = some (.struct (Try.prog.fieldsOf 90)) := by kernel_rfl
  have hp : Try.prog.stoodInHeld 90 = false := by kernel_rfl
  have u0 := Try.underlying5
  have a0 := Try.isAgg5
  have z0 := Try.sizeOf5
  have u1 := Try.underlying9
  have a1 := Try.isAgg9
  have z1 := Try.sizeOf9
  rw [run_eql_struct, show (10000 : Nat) = 9999 + 1 from rfl, run_equalIn_agg w 9999 90 _ _ hS hp]
  simp only [Program.fieldsOf, Try.underlying90]
  go_simp
theorem eqlPr (x : E18) (w : World) : Sem.run Try.prog (binOp .eql 54 (.agg #[.int .u8 x.vn, .int .u16 x.vl]) (.agg #[.int .u8 x.vn, .int .u16 x.vl])) w = .ok (.bool true) w := by
  have hS : Try.prog.underlying 54 = some (.struct (Try.prog.fieldsOf 54)) := by kernel_rfl
  have hp : Try.prog.stoodInHeld 54 = false := by kernel_rfl
  have u0 := Try.underlying5
  have a0 := Try.isAgg5
  have z0 := Try.sizeOf5
  have u1 := Try.underlying52
  have a1 := Try.isAgg52
  have z1 := Try.sizeOf52
  rw [run_eql_struct, show (10000 : Nat) = 9999 + 1 from rfl, run_equalIn_agg w 9999 54 _ _ hS hp]
  simp only [Program.fieldsOf, Try.underlying54]
  go_simp
theorem neqWWs (x : W3) (w : World) : Sem.run Try.prog (binOp .neq 103 (.agg #[.string x.key, .string x.val, .bool x.has]) (.agg #[.string x.key, .string x.val, .bool x.has])) w = .ok (.bool false) w := by
  rw [neqWW, eqW_self]; rfl
set_option maxRecDepth 100000 in
set_option maxHeartbeats 1000000 in
theorem equalW (A1 A2 : Option Addr) (X : List W3) (c d : Nat) (w : World) (hr : RowsW w w.heap.size A1 X) (hs : RowsW w w.heap.size A2 X) (hc : X.length ≤ c) (hm : c ≤ maxLen) (hd : X.length ≤ d) (hn : d ≤ maxLen) :
    Calls Try.prog 45 #[.slice A1 X.length c, .slice A2 X.length d] w fun e w' => e = .returned (.bool true) ∧ Below w.heap.size w w' := by
  unfold maxLen at hm hn
  go_enter Try.func45, Try.ntmps45
  go_wp2
  go_loopw [13] (fun i wx => ∃ k : Nat, k ≤ X.length ∧ i = .int .i64 k ∧ Hid (Below w.heap.size w wx)) (fun i _ => X.length - (intOf i).toNat)
  case atStart => exact ⟨0, by omega, rfl, Lib.hid (Below.refl _ _)⟩
  case round =>
    obtain ⟨k, hk, rfl, B⟩ := hrel
    by_cases hlt : k < X.length
    · obtain ⟨b, o, rfl, hb, C⟩ := hr.at_ hlt
      obtain ⟨b2, o2, rfl, hb2, C2⟩ := hs.at_ hlt
      obtain ⟨c0, c1, c2⟩ := C.below B.out hb
      obtain ⟨d0, d1, d2⟩ := C2.below B.out hb2
      generalize X[k] = x at *
      clear hr hs C C2
      have hji : (k : Int) < (X.length : Int) := by omega
      have hj0 : (0 : Int) ≤ (k : Int) := by omega
      have hci : (X.length : Int) ≤ (c : Int) := by omega
      have hdi : (X.length : Int) ≤ (d : Int) := by omega
      have hne := neqWWs x
      go_wp2
      go_quiet (fail)
      clear hne
      go_wp2
      go_roundw
      case rel => exact ⟨k + 1, by omega, by go_num, Lib.hid (Below.drewsN B.out)⟩
      case measure => simp [intOf]; omega
    · have hkk : k = X.length := by omega
      subst hkk
      go_wp2
      go_ret
      exact ⟨rfl, B.out⟩

set_option maxRecDepth 100000 in
set_option maxHeartbeats 2000000 in
theorem sameE (x : E18) (A B A2 B2 : Option Addr) (X : List P5) (Y : List W3) (c d c2 d2 : Nat) (w : World) (hr : RowsP w w.heap.size A X) (hs : RowsW w w.heap.size B Y) (hr2 : RowsP w w.heap.size A2 X) (hs2 : RowsW w w.heap.size B2 Y) (hc : X.length ≤ c) (hm : c ≤ maxLen) (hd : Y.length ≤ d) (hn : d ≤ maxLen) (hc2 : X.length ≤ c2) (hm2 : c2 ≤ maxLen) (hd2 : Y.length ≤ d2) (hn2 : d2 ≤ maxLen) :
    Calls Try.prog 37 #[.agg #[.int .u8 x.k, .int .u8 x.n, .int .u16 x.l, .int .u32 x.s, .int .u8 x.d, .int .u8 x.a0, .int .u8 x.a1, .int .u8 x.b0, .int .u8 x.b1, .int .u8 x.c0, .int .u8 x.c1, .int .u32 x.fl, .slice A X.length c, .int .u8 x.rc, .string x.rv, .slice B Y.length d, .int .u8 x.vn, .int .u16 x.vl], .agg #[.int .u8 x.k, .int .u8 x.n, .int .u16 x.l, .int .u32 x.s, .int .u8 x.d, .int .u8 x.a0, .int .u8 x.a1, .int .u8 x.b0, .int .u8 x.b1, .int .u8 x.c0, .int .u8 x.c1, .int .u32 x.fl, .slice A2 X.length c2, .int .u8 x.rc, .string x.rv, .slice B2 Y.length d2, .int .u8 x.vn, .int .u16 x.vl]] w fun e w' => e = .returned (.bool true) ∧ Below w.heap.size w w' := by
  have K1 : Hid (∀ W, Below w.heap.size w W → w.heap.size ≤ W.heap.size → Calls Try.prog 44 #[.slice A X.length c, .slice A2 X.length c2] W fun e w' => e = .returned (.bool true) ∧ Below W.heap.size W w') := Lib.hid (fun W hw h1 => by
    have := same A A2 X X c c2 W (hr.below (C := w.heap.size) hw (Nat.le_refl _) h1) (hr2.below (C := w.heap.size) hw (Nat.le_refl _) h1) hc hm hc2 hm2
    rw [sameB_refl] at this
    exact this)
  have K2 : Hid (∀ W, Below w.heap.size w W → w.heap.size ≤ W.heap.size → Calls Try.prog 45 #[.slice B Y.length d, .slice B2 Y.length d2] W fun e w' => e = .returned (.bool true) ∧ Below W.heap.size W w') := Lib.hid (fun W hw h1 =>
    equalW B B2 Y d d2 W (hs.below (C := w.heap.size) hw (Nat.le_refl _) h1) (hs2.below (C := w.heap.size) hw (Nat.le_refl _) h1) hd hn hd2 hn2)
  have H0 : Hid (Below w.heap.size w ((w.alloc (.cells #[.int .u8 x.k, .int .u8 x.n, .int .u16 x.l, .int .u32 x.s, .int .u8 x.d, .int .u8 x.a0, .int .u8 x.a1, .int .u8 x.b0, .int .u8 x.b1, .int .u8 x.c0, .int .u8 x.c1, .int .u32 x.fl, .slice A X.length c, .int .u8 x.rc, .string x.rv, .slice B Y.length d, .int .u8 x.vn, .int .u16 x.vl] 93)).alloc (.cells #[.int .u8 x.k, .int .u8 x.n, .int .u16 x.l, .int .u32 x.s, .int .u8 x.d, .int .u8 x.a0, .int .u8 x.a1, .int .u8 x.b0, .int .u8 x.b1, .int .u8 x.c0, .int .u8 x.c1, .int .u32 x.fl, .slice A2 X.length c2, .int .u8 x.rc, .string x.rv, .slice B2 Y.length d2, .int .u8 x.vn, .int .u16 x.vl] 93))) := Lib.hid (((Below.refl _ _).alloc (Nat.le_refl _) _).alloc (by simp) _)
  have U0 : Hid (Ent ((w.alloc (.cells #[.int .u8 x.k, .int .u8 x.n, .int .u16 x.l, .int .u32 x.s, .int .u8 x.d, .int .u8 x.a0, .int .u8 x.a1, .int .u8 x.b0, .int .u8 x.b1, .int .u8 x.c0, .int .u8 x.c1, .int .u32 x.fl, .slice A X.length c, .int .u8 x.rc, .string x.rv, .slice B Y.length d, .int .u8 x.vn, .int .u16 x.vl] 93)).alloc (.cells #[.int .u8 x.k, .int .u8 x.n, .int .u16 x.l, .int .u32 x.s, .int .u8 x.d, .int .u8 x.a0, .int .u8 x.a1, .int .u8 x.b0, .int .u8 x.b1, .int .u8 x.c0, .int .u8 x.c1, .int .u32 x.fl, .slice A2 X.length c2, .int .u8 x.rc, .string x.rv, .slice B2 Y.length d2, .int .u8 x.vn, .int .u16 x.vl] 93)) w.heap.size x (.slice A X.length c) (.slice B Y.length d)) := Lib.hid ((ent_new w x (.slice A X.length c) (.slice B Y.length d) 93).kept (((Below.refl _ _).alloc (Nat.le_refl _) _)) (by simp))
  have V0 : Hid (Ent ((w.alloc (.cells #[.int .u8 x.k, .int .u8 x.n, .int .u16 x.l, .int .u32 x.s, .int .u8 x.d, .int .u8 x.a0, .int .u8 x.a1, .int .u8 x.b0, .int .u8 x.b1, .int .u8 x.c0, .int .u8 x.c1, .int .u32 x.fl, .slice A X.length c, .int .u8 x.rc, .string x.rv, .slice B Y.length d, .int .u8 x.vn, .int .u16 x.vl] 93)).alloc (.cells #[.int .u8 x.k, .int .u8 x.n, .int .u16 x.l, .int .u32 x.s, .int .u8 x.d, .int .u8 x.a0, .int .u8 x.a1, .int .u8 x.b0, .int .u8 x.b1, .int .u8 x.c0, .int .u8 x.c1, .int .u32 x.fl, .slice A2 X.length c2, .int .u8 x.rc, .string x.rv, .slice B2 Y.length d2, .int .u8 x.vn, .int .u16 x.vl] 93)) (w.heap.size + 1) x (.slice A2 X.length c2) (.slice B2 Y.length d2)) := Lib.hid (by
    have := ent_new (w.alloc (.cells #[.int .u8 x.k, .int .u8 x.n, .int .u16 x.l, .int .u32 x.s, .int .u8 x.d, .int .u8 x.a0, .int .u8 x.a1, .int .u8 x.b0, .int .u8 x.b1, .int .u8 x.c0, .int .u8 x.c1, .int .u32 x.fl, .slice A X.length c, .int .u8 x.rc, .string x.rv, .slice B Y.length d, .int .u8 x.vn, .int .u16 x.vl] 93)) x (.slice A2 X.length c2) (.slice B2 Y.length d2) 93
    simpa using this)
  have q1 := eqlID x
  have q2 := eqlRes x
  have q3 := eqlPr x
  clear hr hs hr2 hs2 hc hm hd hn hc2 hm2 hd2 hn2
  go_enter Try.func37, Try.ntmps37
  go_wp2_with (first
    | (go_at_call 44
       refine (K1.out _ H0.out H0.out.size).mono ?_
       rintro e w1 ⟨rfl, b1⟩
       have H1 := Lib.hid (H0.out.trans (b1.mono H0.out.size))
       obtain ⟨u0, u1, u2, u3, u4, u5, u6, u7, u8, u9, u10, u11, u12, u13, u14, u15, u16, u17⟩ := U0.out.kept b1 U0.out.lt
       obtain ⟨v0, v1, v2, v3, v4, v5, v6, v7, v8, v9, v10, v11, v12, v13, v14, v15, v16, v17⟩ := V0.out.kept b1 V0.out.lt
       have U1 := Lib.hid (U0.out.kept b1 U0.out.lt)
       have V1 := Lib.hid (V0.out.kept b1 V0.out.lt)
       clear b1)
    | (go_at_call 45
       refine (K2.out _ H1.out H1.out.size).mono ?_
       rintro e w2 ⟨rfl, b2⟩
       have H2 := Lib.hid (H1.out.trans (b2.mono H1.out.size))
       clear u0 u1 u2 u3 u4 u5 u6 u7 u8 u9 u10 u11 u12 u13 u14 u15 u16 u17 v0 v1 v2 v3 v4 v5 v6 v7 v8 v9 v10 v11 v12 v13 v14 v15 v16 v17
       have u16 := (U1.out.kept b2 U1.out.lt).e16
       have u17 := (U1.out.kept b2 U1.out.lt).e17
       have v16 := (V1.out.kept b2 V1.out.lt).e16
       have v17 := (V1.out.kept b2 V1.out.lt).e17
       clear b2))
  go_ret
  exact ⟨rfl, H2.out⟩

end Go.Proofs.Ytfkmodmgihadkaa
