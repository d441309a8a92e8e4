/-
  The walk of the law BagPlays. Condition: the acts lie in memory.
-/
import Derived.Test.YteaafpgkifmdeaaBd2
import Derived.Test.YteaafpgkifmdeaaBd3
import Derived.Test.YteaafpgkifmdeaaBd4
import Derived.Test.YteaafpgkifmdeaaBd6
import Derived.Test.YteaafpgkifmdeaaBlt
namespace Go.Proofs.Yteaafpgkifmdeaa
set_option linter.unusedSimpArgs false
set_option linter.unusedVariables false
open Go.RowKit Go.Sort

theorem wpOp_runG {P : Program} {w w' : World} {ops : Array Oper} {o : Oper} {i : Nat} {a : Act} {K : Act → World → Prop} {Q : Exit → Act → World → Prop} {v : Value} (hi : ops[i]? = some o) (hgd : Region.wanted o (yielded ops a.tmps) = true) (d : Tmp) (hd : o.dst = some d) (p : Op) (ho : o.op = p)
    (hr : (execOp a.eval (bareO p o.type)).run P w = .ok (.value v) w') (h : K (a.put (some d) v) w') : wpOp P ops Q i K a w := by
  rw [← hd] at h
  rw [execOp_bare ho] at hr
  unfold wpOp
  simp only [hi]
  rw [if_pos hgd]
  refine .inl ?_
  unfold Oper.wp
  rw [hr]
  exact h
theorem doAll (base b l r most : Nat) (v u : Value) (L M : List Lp) (a : Ac) (W : World) (h : JB base W b l r most v u L M) (hE : L.map Lp.p = M.map Lp.p) (ha : a.Arg base W) (hb : base ≤ W.heap.size) :
    Calls Try.prog 11 #[.pointer (some ⟨b, 0, none⟩), .pointer (some ⟨r, 0, none⟩), .agg a.cs.toArray] W fun e W' => e = .returned (.bool true) ∧ JE base b l r most W' ∧ Below base W W' := by
  by_cases h0 : a.kd = 0
  · exact do01 base b l r most v u L M a W h hE ha hb (.inl h0)
  by_cases h1 : a.kd = 1
  · exact do01 base b l r most v u L M a W h hE ha hb (.inr h1)
  by_cases h2 : a.kd = 2
  · exact do2 base b l r most v u L M a W h hE ha hb h2
  by_cases h3 : a.kd = 3
  · exact do3 base b l r most v u L M a W h hE ha hb h3
  by_cases h4 : a.kd = 4
  · exact do4 base b l r most v u L M a W h hE ha hb h4
  by_cases h5 : a.kd = 5
  · exact do5 base b l r most v u L M a W h hE ha hb h5
  by_cases h6 : a.kd = 6
  · exact do6 base b l r most v u L M a W h hE ha hb h6
  exact doNo base b l r most v u L M a W h hE ha hb ⟨h0, h1, h2, h3, h4, h5, h6⟩
theorem JE.below {base b l r most : Nat} {W W' : World} (h : JE base b l r most W) (hb : Below W.heap.size W W') : JE base b l r most W' := by
  obtain ⟨v, u, L, M, h1, h2⟩ := h
  exact ⟨v, u, L, M, h1.below hb, h2⟩

set_option maxRecDepth 100000 in
set_option maxHeartbeats 16000000 in
theorem walkPlays (mo : Int) (ab ao c n : Nat) (AL : List Ac) (W : World) (hn : AL.length = n) (hr : RowsB W ab ao AL) (hc : n ≤ c) (hm : c ≤ maxLen) :
    Calls Try.prog 3 #[.int .i64 mo, .slice (some ⟨ab, ao, none⟩) n c] W fun e W' => e = .returned (.bool true) ∧ Below W.heap.size W W' := by
  have KLI := Lib.hid (lightIs ab ao c AL W hr hm (by omega))
  rw [hn] at KLI
  have KK0 := Lib.hid (fun w => knowsB w)
  have HR := Lib.hid hr
  have HN := Lib.hid hn
  obtain ⟨base, hbase⟩ : ∃ x, W.heap.size = x := ⟨_, rfl⟩
  have HAB : Hid (ab < base) := Lib.hid (by rw [← hbase]; exact hr.1)
  rw [hbase]
  have HSZ : Hid (W.heap.size ≤ base) := Lib.hid (by omega)
  have HB : Hid (base ≤ W.heap.size) := Lib.hid (by omega)
  obtain ⟨most, hmost⟩ : ∃ x, mst mo = x := ⟨_, rfl⟩
  have HMO := Lib.hid hmost
  clear hr hm hn hc hbase hmost
  cases hlb : lightB AL with
  | false =>
    have HLB := Lib.hid hlb
    rw [hlb] at KLI
    clear hlb
    go_enter Try.func3, Try.ntmps3
    go_wp2_with fail
    refine KLI.out.mono ?_
    rintro e w1 ⟨rfl, rfl⟩
    go_wp2_with fail
    refine (KK0.out _).mono ?_
    rintro e w2 ⟨rfl, b2⟩
    have B2 := Lib.hid (b2.mono HB.out)
    clear b2
    go_wp2
    go_ret
    exact ⟨rfl, B2.out⟩
  | true =>
    have HLT := Lib.hid (lightB_each hlb).2
    have hn100 : n ≤ 100 := by have := (lightB_each hlb).1; rw [HN.out] at this; exact this
    rw [hlb] at KLI
    clear hlb
    go_enter Try.func3, Try.ntmps3
    go_wp2_with fail
    refine KLI.out.mono ?_
    rintro e w1 ⟨rfl, rfl⟩
    go_wp2_with fail
    refine (KK0.out _).mono ?_
    rintro e w2 ⟨rfl, b2⟩
    have B2 := Lib.hid (b2.mono HB.out)
    have HB2 := Lib.hid (Nat.le_trans HB.out b2.size)
    have KN := Lib.hid (newB mo w2 base HB2.out)
    clear b2
    go_wp2_with fail
    refine KN.out.mono ?_
    rintro e w3 ⟨b, l, rfl, p3, b3⟩
    have P3 := Lib.hid p3
    have B3a := Lib.hid (B2.out.trans (b3.mono HB2.out))
    have HB3 := Lib.hid (Nat.le_trans HB2.out b3.size)
    have KN2 := Lib.hid (newD mo w3 base HB3.out)
    clear p3 b3 KN
    go_wp2_with fail
    refine KN2.out.mono ?_
    rintro e w4 ⟨r, rfl, d4, b4⟩
    have J3 : Hid (JE base b l r most w4) := Lib.hid (by
      have h1 := P3.out.below b4
      have h2 := d4
      rw [HMO.out] at h1 h2
      exact ⟨_, _, [], [], ⟨h1, h2, fun x hx => by cases hx⟩, rfl⟩)
    have B3 := Lib.hid (B3a.out.trans (b4.mono HB3.out))
    clear d4 b4 KN2 P3
    go_wp2_with fail
    go_loopw [7] (fun z wx => ∃ k : Nat, z = .int .i64 k ∧ k ≤ n ∧ Hid (JE base b l r most wx) ∧ Hid (Below base W wx)) (fun z _ => n - (intOf z).toNat)
    case atStart => exact ⟨0, rfl, by omega, J3, B3⟩
    case round =>
      obtain ⟨k, rfl, hk, JJ, BB⟩ := hrel
      by_cases hkn : k < n
      · have HKN := Lib.hid hkn
        have hk1 : (k : Int) < (n : Int) := by omega
        have hk0 : (0 : Int) ≤ (k : Int) := by omega
        obtain ⟨a, hx⟩ : ∃ a, AL[k]? = some a := ⟨_, List.getElem?_eq_getElem (by rw [HN.out]; exact hkn)⟩
        obtain ⟨hcell, hin, hok⟩ := HR.out.2 k _ hx
        have hlen := HLT.out a (List.mem_of_getElem? hx)
        obtain ⟨kd, ai, aat, am, x⟩ := a
        obtain ⟨fn, fl, tn, tl, A1, q1, xc, bad, hrow⟩ : ∃ (fn fl tn tl : Nat) (A : Option Addr) (q xc : Nat) (bad : Bool), (Ac.mk kd ai aat am x).cs.toArray = #[.int .i64 kd, .int .i64 ai, .int .i64 aat, .int .u32 am, .int .u8 fn, .int .u16 fl, .int .u8 tn, .int .u16 tl, .slice A q xc, .bool bad] := ⟨_, _, _, _, _, _, _, _, rfl⟩
        have hrl : (Ac.mk kd ai aat am x).cs = (#[.int .i64 kd, .int .i64 ai, .int .i64 aat, .int .u32 am, .int .u8 fn, .int .u16 fl, .int .u8 tn, .int .u16 tl, .slice A1 q1 xc, .bool bad] : Array Value).toList := by rw [← hrow]
        rw [hrl] at hcell
        obtain ⟨w4, hw4⟩ : ∃ X, wr.drew = X := ⟨_, rfl⟩
        have b4 : Below wr.heap.size wr w4 := by rw [← hw4]; exact (Below.refl _ _).drew
        have HBW : base ≤ wr.heap.size := Nat.le_trans HB.out BB.out.size
        have c4 := BB.out.trans (b4.mono HBW)
        have HS : ∀ j u, (#[.int .i64 kd, .int .i64 ai, .int .i64 aat, .int .u32 am, .int .u8 fn, .int .u16 fl, .int .u8 tn, .int .u16 tl, .slice A1 q1 xc, .bool bad] : Array Value).toList[j]? = some u → w4.cell? ⟨ab, ao + k * 10 + j, none⟩ = some u := fun j u hj => (c4.cell (p := ⟨ab, _, none⟩) HAB.out).trans (hcell j u hj)
        have hst : ∀ w, Below base W w → ∀ j u, (#[.int .i64 kd, .int .i64 ai, .int .i64 aat, .int .u32 am, .int .u8 fn, .int .u16 fl, .int .u8 tn, .int .u16 tl, .slice A1 q1 xc, .bool bad] : Array Value).toList[j]? = some u → w.cell? ⟨ab, ao + k * 10 + j, none⟩ = some u := fun w hb j u hj => (hb.cell (p := ⟨ab, _, none⟩) HAB.out).trans (hcell j u hj)
        have HST := Lib.hid hst
        have HG : Hid ((Ac.mk kd ai aat am x).Arg base w4) := Lib.hid ⟨((hin.at_.up HSZ.out).below c4 (Nat.le_refl _) (Nat.le_refl _)), hin.le, hin.mx, hin.nn, hlen, hok⟩
        obtain ⟨v4, u4, L4, M4, j4, e4⟩ := JJ.out
        have KD := Lib.hid (doAll base b l r most v4 u4 L4 M4 ⟨kd, ai, aat, am, x⟩ w4 (j4.below b4) e4 HG.out (Nat.le_trans HBW b4.size))
        rw [hrow] at KD
        have HW4 := Lib.hid hw4
        have C4 := Lib.hid c4
        clear hx hcell hin hok hlen hrow hrl hw4 b4 HBW c4 hst j4 e4
        go_wp2_with fail
        refine region_heldT (S := fun X => ∀ j u, (#[.int .i64 kd, .int .i64 ai, .int .i64 aat, .int .u32 am, .int .u8 fn, .int .u16 fl, .int .u8 tn, .int .u16 tl, .slice A1 q1 xc, .bool bad] : Array Value).toList[j]? = some u → X.cell? ⟨ab, ao + k * 10 + j, none⟩ = some u) 17 (by kernel_rfl) (by decide) (fun inv => ?_)
        change FirstH _ _ _ _ _ _ _ _ _ _ wr.drew
        rw [HW4.out]
        refine FirstH.go (i := 0) (v := .pointer (some ⟨b, 0, none⟩)) rfl rfl _ rfl _ rfl (by kernel_rfl) (fun _ _ _ h => h) inv (fun X _ => by unfold bareO; go_simp) HS (fun inv => ?_)
        try simp only [Act.put, List.setIfInBounds_toArray, List.set_cons_zero, List.set_cons_succ]
        refine FirstH.go (i := 1) (v := .pointer (some ⟨r, 0, none⟩)) rfl rfl _ rfl _ rfl (by kernel_rfl) (fun _ _ _ h => h) inv (fun X _ => by unfold bareO; go_simp) HS (fun inv => ?_)
        try simp only [Act.put, List.setIfInBounds_toArray, List.set_cons_zero, List.set_cons_succ]
        refine FirstH.go (i := 2) (v := .slice (some ⟨ab, ao, none⟩) n c) rfl rfl _ rfl _ rfl (by kernel_rfl) (fun _ _ _ h => h) inv (fun X _ => by unfold bareO; go_simp) HS (fun inv => ?_)
        try simp only [Act.put, List.setIfInBounds_toArray, List.set_cons_zero, List.set_cons_succ]
        refine FirstH.go (i := 3) (v := .int .i64 k) rfl rfl _ rfl _ rfl (by kernel_rfl) (fun _ _ _ h => h) inv (fun X _ => by unfold bareO; go_simp) HS (fun inv => ?_)
        try simp only [Act.put, List.setIfInBounds_toArray, List.set_cons_zero, List.set_cons_succ]
        refine FirstH.go (i := 4) (v := .pointer (some ⟨ab, ao + k * 10, none⟩)) rfl rfl _ rfl _ rfl (by kernel_rfl) (fun _ _ _ h => h) inv (fun X _ => by unfold bareO; go_simp) HS (fun inv => ?_)
        try simp only [Act.put, List.setIfInBounds_toArray, List.set_cons_zero, List.set_cons_succ]
        refine FirstH.go (i := 5) (v := .agg #[.int .i64 kd, .int .i64 ai, .int .i64 aat, .int .u32 am, .int .u8 fn, .int .u16 fl, .int .u8 tn, .int .u16 tl, .slice A1 q1 xc, .bool bad]) rfl rfl _ rfl _ rfl (by kernel_rfl) (fun _ _ _ h => h) inv (fun X hS => by have t0 : X.cell? ⟨ab, ao + k * 10, none⟩ = some (.int .i64 kd) := hS 0 _ rfl; have t1 : X.cell? ⟨ab, ao + k * 10 + 1, none⟩ = some (.int .i64 ai) := hS 1 _ rfl; have t2 : X.cell? ⟨ab, ao + k * 10 + 2, none⟩ = some (.int .i64 aat) := hS 2 _ rfl; have t3 : X.cell? ⟨ab, ao + k * 10 + 3, none⟩ = some (.int .u32 am) := hS 3 _ rfl; have t4 : X.cell? ⟨ab, ao + k * 10 + 4, none⟩ = some (.int .u8 fn) := hS 4 _ rfl; have t5 : X.cell? ⟨ab, ao + k * 10 + 5, none⟩ = some (.int .u16 fl) := hS 5 _ rfl; have t6 : X.cell? ⟨ab, ao + k * 10 + 6, none⟩ = some (.int .u8 tn) := hS 6 _ rfl; have t7 : X.cell? ⟨ab, ao + k * 10 + 7, none⟩ = some (.int .u16 tl) := hS 7 _ rfl; have t8 : X.cell? ⟨ab, ao + k * 10 + 8, none⟩ = some (.slice A1 q1 xc) := hS 8 _ rfl; have t9 : X.cell? ⟨ab, ao + k * 10 + 9, none⟩ = some (.bool bad) := hS 9 _ rfl; unfold bareO; go_simp) HS (fun inv => ?_)
        try simp only [Act.put, List.setIfInBounds_toArray, List.set_cons_zero, List.set_cons_succ]
        clear HS
        refine FirstH.only (i := 6) (by kernel_rfl) (by decide) inv (fun inv => wpOp_call (i := 6) rfl rfl 35 rfl _ rfl 11 #[.pointer (some ⟨b, 0, none⟩), .pointer (some ⟨r, 0, none⟩), .agg #[.int .i64 kd, .int .i64 ai, .int .i64 aat, .int .u32 am, .int .u8 fn, .int .u16 fl, .int .u8 tn, .int .u16 tl, .slice A1 q1 xc, .bool bad]] (by unfold bareO; go_simp) KD.out ?_)
        rintro e w5 ⟨rfl, j5, b5⟩
        have J5 := Lib.hid j5
        have C5 := Lib.hid (C4.out.trans b5)
        have HS : ∀ j u, (#[.int .i64 kd, .int .i64 ai, .int .i64 aat, .int .u32 am, .int .u8 fn, .int .u16 fl, .int .u8 tn, .int .u16 tl, .slice A1 q1 xc, .bool bad] : Array Value).toList[j]? = some u → w5.cell? ⟨ab, ao + k * 10 + j, none⟩ = some u := HST.out w5 C5.out
        have HS5 := Lib.hid HS
        obtain ⟨v5, u5, L5, M5, jb5, e5⟩ := j5
        obtain ⟨A5, c5, hu5⟩ := jb5.db.slice
        have hlen5 : L5.length = M5.length := by have := congrArg List.length e5; simpa using this
        have bag5 := jb5.db.bag
        obtain ⟨m5, hm5⟩ : ∃ m, M5.length = m := ⟨_, rfl⟩
        rw [hu5, hm5] at bag5
        have l5 := cell_of bag5 0 (.slice A5 m5 c5) rfl
        have KL := lenB base b l most v5 L5 w5 jb5.pb
        rw [hlen5, hm5] at KL
        have KLL := Lib.hid KL
        have LL5 := Lib.hid l5
        refine ⟨_, rfl, HS, ?_⟩
        clear HS5 jb5 e5 hu5 hlen5 bag5 hm5 l5 KL b5 KD
        try simp only [Act.put, List.setIfInBounds_toArray, List.set_cons_zero, List.set_cons_succ]
        refine FirstH.go (i := 7) (v := .bool false) rfl rfl _ rfl _ rfl (by kernel_rfl) (fun _ _ _ h => h) inv (fun X _ => by unfold bareO; go_simp) HS (fun inv => ?_)
        try simp only [Act.put, List.setIfInBounds_toArray, List.set_cons_zero, List.set_cons_succ]
        refine FirstH.go (i := 8) (v := .bool false) rfl rfl _ rfl _ rfl (by kernel_rfl) (fun _ _ _ h => h) inv (fun X _ => by unfold bareO; go_simp) HS (fun inv => ?_)
        try simp only [Act.put, List.setIfInBounds_toArray, List.set_cons_zero, List.set_cons_succ]
        refine FirstH.goG (i := 9) (v := .pointer (some ⟨b, 0, none⟩)) rfl (by kernel_rfl) _ rfl _ rfl (by kernel_rfl) (fun _ _ _ h => h) inv (fun X _ => by unfold bareO; go_simp) HS (fun inv => ?_)
        try simp only [Act.put, List.setIfInBounds_toArray, List.set_cons_zero, List.set_cons_succ]
        refine FirstH.goG (i := 11) (v := .pointer (some ⟨r, 0, none⟩)) rfl (by kernel_rfl) _ rfl _ rfl (by kernel_rfl) (fun _ _ _ h => h) inv (fun X _ => by unfold bareO; go_simp) HS (fun inv => ?_)
        try simp only [Act.put, List.setIfInBounds_toArray, List.set_cons_zero, List.set_cons_succ]
        refine FirstH.goG (i := 12) (v := .pointer (some ⟨r, 0, none⟩)) rfl (by kernel_rfl) _ rfl _ rfl (by kernel_rfl) (fun _ _ _ h => h) inv (fun X _ => by unfold bareO; go_simp) HS (fun inv => ?_)
        try simp only [Act.put, List.setIfInBounds_toArray, List.set_cons_zero, List.set_cons_succ]
        refine FirstH.goG (i := 13) (v := .pointer (some ⟨r, 0, none⟩)) rfl (by kernel_rfl) _ rfl _ rfl (by kernel_rfl) (fun _ _ _ h => h) inv (fun X _ => by unfold bareO; go_simp) HS (fun inv => ?_)
        try simp only [Act.put, List.setIfInBounds_toArray, List.set_cons_zero, List.set_cons_succ]
        clear HS
        have HSX := Lib.hid (HST.out w5 C5.out)
        have ldM : ∀ {at_ : Act}, True := fun {_} => trivial
        clear ldM
        refine FirstH.two (i := 10) (j := 14) (by kernel_rfl) (by decide) (by decide) inv (fun inv => ?_) (fun inv => ?_)
        · refine wpOp_callG (i := 10) rfl (by kernel_rfl) 39 rfl _ rfl 12 #[.pointer (some ⟨b, 0, none⟩)] (by unfold bareO; go_simp) KLL.out ?_
          rintro e w6 ⟨rfl, rfl⟩
          refine ⟨_, rfl, HSX.out, ?_⟩
          try simp only [Act.put, List.setIfInBounds_toArray, List.set_cons_zero, List.set_cons_succ]
          refine FirstH.only (i := 14) (by kernel_rfl) (by decide) inv (fun inv => wpOp_runG (i := 14) (v := .slice A5 m5 c5) (w' := w5) rfl (by kernel_rfl) 43 rfl _ rfl (by have l5 := LL5.out; unfold bareO; go_simp) ⟨HSX.out, ?_⟩)
          try simp only [Act.put, List.setIfInBounds_toArray, List.set_cons_zero, List.set_cons_succ]
          have HS := HSX.out
          refine FirstH.goG (i := 15) (v := .int .i64 m5) rfl (by kernel_rfl) _ rfl _ rfl (by kernel_rfl) (fun _ _ _ h => h) inv (fun X _ => by unfold bareO; go_simp) HS (fun inv => ?_)
          try simp only [Act.put, List.setIfInBounds_toArray, List.set_cons_zero, List.set_cons_succ]
          refine FirstH.goG (i := 16) (v := .bool false) rfl (by kernel_rfl) _ rfl _ rfl (by kernel_rfl) (fun _ _ _ h => h) inv (fun X _ => by unfold bareO; go_simp) HS (fun inv => ?_)
          try simp only [Act.put, List.setIfInBounds_toArray, List.set_cons_zero, List.set_cons_succ]
          clear HS
          refine ⟨by kernel_rfl, ?_⟩
          simp only [List.drop_succ_cons, List.drop_zero]
          go_wp2
          go_roundw
          case rel => exact ⟨k + 1, by go_num, by have := HKN.out; omega, J5, C5⟩
          case measure => have := HKN.out; simp [intOf]; omega
        · refine wpOp_runG (i := 14) (v := .slice A5 m5 c5) (w' := w5) rfl (by kernel_rfl) 43 rfl _ rfl (by have l5 := LL5.out; unfold bareO; go_simp) ⟨HSX.out, ?_⟩
          try simp only [Act.put, List.setIfInBounds_toArray, List.set_cons_zero, List.set_cons_succ]
          have HS := HSX.out
          refine FirstH.goG (i := 15) (v := .int .i64 m5) rfl (by kernel_rfl) _ rfl _ rfl (by kernel_rfl) (fun _ _ _ h => h) inv (fun X _ => by unfold bareO; go_simp) HS (fun inv => ?_)
          try simp only [Act.put, List.setIfInBounds_toArray, List.set_cons_zero, List.set_cons_succ]
          clear HS
          refine FirstH.only (i := 10) (by kernel_rfl) (by decide) inv (fun inv => wpOp_callG (i := 10) rfl (by kernel_rfl) 39 rfl _ rfl 12 #[.pointer (some ⟨b, 0, none⟩)] (by unfold bareO; go_simp) KLL.out ?_)
          rintro e w6 ⟨rfl, rfl⟩
          refine ⟨_, rfl, HSX.out, ?_⟩
          try simp only [Act.put, List.setIfInBounds_toArray, List.set_cons_zero, List.set_cons_succ]
          have HS := HSX.out
          refine FirstH.goG (i := 16) (v := .bool false) rfl (by kernel_rfl) _ rfl _ rfl (by kernel_rfl) (fun _ _ _ h => h) inv (fun X _ => by unfold bareO; go_simp) HS (fun inv => ?_)
          try simp only [Act.put, List.setIfInBounds_toArray, List.set_cons_zero, List.set_cons_succ]
          clear HS
          refine ⟨by kernel_rfl, ?_⟩
          simp only [List.drop_succ_cons, List.drop_zero]
          go_wp2
          go_roundw
          case rel => exact ⟨k + 1, by go_num, by have := HKN.out; omega, J5, C5⟩
          case measure => have := HKN.out; simp [intOf]; omega
      · obtain rfl : n = k := by omega
        have hk1 : ¬ (n : Int) < (n : Int) := by omega
        go_wp2_with fail
        obtain ⟨w0, rfl⟩ : ∃ z : World, z = wr := ⟨_, rfl⟩
        obtain ⟨v0, u0, L0, M0, j0, e0⟩ := JJ.out
        obtain ⟨m2, hm2⟩ : ∃ m, M0.length = m := ⟨_, rfl⟩
        have hm2k : m2 ≤ 2000 := by have h1 := j0.db.few; have h2 := j0.db.most; omega
        have J0 := Lib.hid j0
        have E0 := Lib.hid e0
        have M2 := Lib.hid hm2
        have C0 := BB
        have HB0 := Lib.hid (Nat.le_trans HB.out BB.out.size)
        clear j0 e0 hm2 hk1 hk
        go_loopw [8] (fun z wx => ∃ k : Nat, z = .int .i64 k ∧ k ≤ m2 ∧ Hid (Below w0.heap.size w0 wx)) (fun z _ => m2 - (intOf z).toNat)
        case atStart => exact ⟨0, rfl, by omega, Lib.hid (Below.refl _ _)⟩
        case round =>
          obtain ⟨k, rfl, hk, BB⟩ := hrel
          have JJ := Lib.hid (J0.out.below BB.out)
          obtain ⟨Au, cu, hu⟩ := JJ.out.db.slice
          have bag := JJ.out.db.bag
          rw [hu, M2.out] at bag
          have l0 := cell_of bag 0 (.slice Au m2 cu) rfl
          by_cases hkn : k < m2
          · have HKN := Lib.hid hkn
            have hk1 : (k : Int) < (m2 : Int) := by omega
            have hkM : k < M0.length := by rw [M2.out]; exact hkn
            have hkL : k < L0.length := by
              have h1 := congrArg List.length E0.out
              simp at h1
              omega
            have hpe : L0[k].p = M0[k].p := by
              have h1 : (L0.map Lp.p)[k]? = (M0.map Lp.p)[k]? := by rw [E0.out]
              rw [List.getElem?_map, List.getElem?_map, List.getElem?_eq_getElem hkL, List.getElem?_eq_getElem hkM] at h1
              exact Option.some.inj h1
            have KL := Lib.hid (look_yes base b l most v0 L0 k wr JJ.out.pb hkL)
            rw [hpe] at KL
            obtain ⟨g, cd, hv, six, _, _⟩ := JJ.out.db.at_ hkM
            obtain ⟨rfl, rfl⟩ : Au = some ⟨g, 0, none⟩ ∧ cu = cd := by rw [hu] at hv; simp at hv; exact hv
            have okm := JJ.out.db.ok _ (List.getElem_mem hkM)
            obtain ⟨ym, hym⟩ : ∃ y, M0[k] = y := ⟨_, rfl⟩
            rw [hym] at six okm KL
            obtain ⟨f5, f6, f7, f8, A2, q2, x2, d2, hyc⟩ : ∃ (f1 f2 f3 f4 : Nat) (A1 : Option Addr) (q1 x1 : Nat) (d1 : Bool), ym.cs = #[.int .u8 f1, .int .u16 f2, .int .u8 f3, .int .u16 f4, .slice A1 q1 x1, .bool d1] := ⟨_, _, _, _, _, _, _, _, rfl⟩
            rw [hyc] at six
            obtain ⟨cg, hcg⟩ := row_block JJ.out.db.row (g := g) (by rw [hu]; rfl)
            have LG := Lib.hid (Array.getElem?_eq_some_iff.1 hcg).1
            have BAG := Lib.hid bag
            have SIX := Lib.hid six
            have OKM := Lib.hid okm
            have HYC := Lib.hid hyc
            clear hkM hkL hpe hv hu six okm hym hyc hcg hkn
            go_wp2_with fail
            refine KL.out.mono ?_
            rintro e w3 ⟨y, rfl, hy, oky, b3⟩
            obtain ⟨ys, hys⟩ : ∃ ys, y.cs = ys := ⟨_, rfl⟩
            rw [hys]
            have YS := Lib.hid hys
            have HY := Lib.hid hy
            have C3 := Lib.hid (BB.out.trans (b3.mono BB.out.size))
            obtain ⟨w3a, hw3a⟩ : ∃ x, w3.alloc (.cells #[.int .u8 0, .int .u16 0, .int .u8 0, .int .u16 0, .slice none 0 0, .bool false] 45) = x := ⟨_, rfl⟩
            have rw3a : w3a.heap[w3.heap.size]? = some (.cells #[.int .u8 0, .int .u16 0, .int .u8 0, .int .u16 0, .slice none 0 0, .bool false] 45 (0, 0)) := by rw [← hw3a]; exact heap_alloc_new _ _
            obtain ⟨w4, hw4⟩ : ∃ x, w3a.setRow w3.heap.size ys = x := ⟨_, rfl⟩
            have bw4 : Below w3.heap.size w3 w4 := by rw [← hw4, ← hw3a]; exact below_row ((Below.refl _ _).alloc (Nat.le_refl _) _) (Nat.le_refl _) _
            have rw4 : w4.heap[w3.heap.size]? = some (.cells ys 45 (0, 0)) := by rw [← hw4]; exact setRow_heap _ _ _ _ _ _ rw3a
            have RAw4 := Lib.hid rw3a
            have HAw4 := Lib.hid hw3a
            have HBw4 := Lib.hid hw4
            have RXw4 := Lib.hid rw4
            clear hw3a rw3a hw4 rw4
            have b34 := b3.trans (bw4.mono b3.size)
            have C4 := Lib.hid (C3.out.trans (bw4.mono C3.out.size))
            have OY4 := Lib.hid (oky.below bw4)
            have OM4 := Lib.hid (OKM.out.below b34)
            have SIX4 := Lib.hid (SIX.out.below b34 LG.out)
            have BG4 := Lib.hid ((b34.block _ (Array.getElem?_eq_some_iff.1 BAG.out).1).trans BAG.out)
            have LG4 := Lib.hid (Nat.lt_of_lt_of_le LG.out b34.size)
            have hk0 : (0 : Int) ≤ (k : Int) := by omega
            clear l0 bag hys hy oky b3 bw4 b34 KL
            go_wp2_with (first
            | (rw [HAw4.out])
            | (refine wpList_store_row rfl 45 (.tmp 9) (.tmp 60) rfl w3.heap.size ys (by rfl) (by rfl) 45 #[.int .u8 0, .int .u16 0, .int .u8 0, .int .u16 0, .slice none 0 0, .bool false] RAw4.out (by rw [← YS.out]; kernel_rfl) (by rw [← YS.out]; rfl) (by rw [← YS.out]; simp [Lp.cs, Value.oneCell']) ?_; rw [HBw4.out]))
            refine region_heldT (S := fun X => X.heap[w3.heap.size]? = some (.cells ys 45 (0, 0)) ∧ X.heap[r]? = some (.cells #[.slice (some ⟨g, 0, none⟩) m2 cu, .int .i64 most] 42 (0, 0)) ∧ Six X g (k * 6) #[.int .u8 f5, .int .u16 f6, .int .u8 f7, .int .u16 f8, .slice A2 q2 x2, .bool d2]) 15 (by kernel_rfl) (by decide) (fun inv => ?_)
            change FirstH _ _ _ _ _ _ _ _ _ _ w4.drew
            obtain ⟨w5, hw5⟩ : ∃ X, w4.drew = X := ⟨_, rfl⟩
            have b5 : Below w4.heap.size w4 w5 := by rw [← hw5]; exact (Below.refl _ _).drew
            rw [hw5]
            have C5 := Lib.hid (C4.out.trans (b5.mono C4.out.size))
            have OY5 := Lib.hid (OY4.out.below b5)
            have OM5 := Lib.hid (OM4.out.below b5)
            have HS : w5.heap[w3.heap.size]? = some (.cells ys 45 (0, 0)) ∧ w5.heap[r]? = some (.cells #[.slice (some ⟨g, 0, none⟩) m2 cu, .int .i64 most] 42 (0, 0)) ∧ Six w5 g (k * 6) #[.int .u8 f5, .int .u16 f6, .int .u8 f7, .int .u16 f8, .slice A2 q2 x2, .bool d2] := ⟨(b5.block _ (Array.getElem?_eq_some_iff.1 RXw4.out).1).trans RXw4.out, (b5.block _ (Array.getElem?_eq_some_iff.1 BG4.out).1).trans BG4.out, SIX4.out.below b5 LG4.out⟩
            have HS5 := Lib.hid HS
            have LG5 := Lib.hid (Nat.lt_of_lt_of_le LG4.out b5.size)
            clear hw5 b5
            refine FirstH.go (i := 0) (v := .int .i64 0) rfl rfl _ rfl _ rfl (by kernel_rfl) (fun _ _ _ h => h) inv (fun X _ => by unfold bareO; go_simp) HS (fun inv => ?_)
            try simp only [Act.put, List.setIfInBounds_toArray, List.set_cons_zero, List.set_cons_succ]
            clear HS
            refine FirstH.only (i := 1) (by kernel_rfl) (by decide) inv (fun inv => wpOp_call (i := 1) rfl rfl 63 rfl _ rfl 14 #[.int .i64 0] (by unfold bareO; go_simp) (numE 0 _) ?_)
            rintro e w6 ⟨rfl, rfl⟩
            have HS := HS5.out
            refine ⟨_, rfl, HS, ?_⟩
            try simp only [Act.put, List.setIfInBounds_toArray, List.set_cons_zero, List.set_cons_succ]
            refine FirstH.go (i := 2) (v := .bool false) rfl rfl _ rfl _ rfl (by kernel_rfl) (fun _ _ _ h => h) inv (fun X _ => by unfold bareO; go_simp) HS (fun inv => ?_)
            try simp only [Act.put, List.setIfInBounds_toArray, List.set_cons_zero, List.set_cons_succ]
            refine FirstH.go (i := 3) (v := .bool false) rfl rfl _ rfl _ rfl (by kernel_rfl) (fun _ _ _ h => h) inv (fun X _ => by unfold bareO; go_simp) HS (fun inv => ?_)
            try simp only [Act.put, List.setIfInBounds_toArray, List.set_cons_zero, List.set_cons_succ]
            refine FirstH.goG (i := 4) (v := .agg ys) rfl (by kernel_rfl) _ rfl _ rfl (by kernel_rfl) (fun _ _ _ h => h) inv (fun X hS => run_load_row 45 _ _ w3.heap.size rfl _ _ _ _ hS.1 Try.underlying45 rfl (by rw [← YS.out]; kernel_rfl)) HS (fun inv => ?_)
            try simp only [Act.put, List.setIfInBounds_toArray, List.set_cons_zero, List.set_cons_succ]
            refine FirstH.goG (i := 6) (v := .pointer (some ⟨r, 0, none⟩)) rfl (by kernel_rfl) _ rfl _ rfl (by kernel_rfl) (fun _ _ _ h => h) inv (fun X _ => by unfold bareO; go_simp) HS (fun inv => ?_)
            try simp only [Act.put, List.setIfInBounds_toArray, List.set_cons_zero, List.set_cons_succ]
            refine FirstH.goG (i := 7) (v := .pointer (some ⟨r, 0, none⟩)) rfl (by kernel_rfl) _ rfl _ rfl (by kernel_rfl) (fun _ _ _ h => h) inv (fun X _ => by unfold bareO; go_simp) HS (fun inv => ?_)
            try simp only [Act.put, List.setIfInBounds_toArray, List.set_cons_zero, List.set_cons_succ]
            refine FirstH.goG (i := 8) (v := .pointer (some ⟨r, 0, none⟩)) rfl (by kernel_rfl) _ rfl _ rfl (by kernel_rfl) (fun _ _ _ h => h) inv (fun X _ => by unfold bareO; go_simp) HS (fun inv => ?_)
            try simp only [Act.put, List.setIfInBounds_toArray, List.set_cons_zero, List.set_cons_succ]
            refine FirstH.goG (i := 9) (v := .slice (some ⟨g, 0, none⟩) m2 cu) rfl (by kernel_rfl) _ rfl _ rfl (by kernel_rfl) (fun _ _ _ h => h) inv (fun X hS => by have c1 := cell_of hS.2.1 0 (.slice (some ⟨g, 0, none⟩) m2 cu) rfl; unfold bareO; go_simp) HS (fun inv => ?_)
            try simp only [Act.put, List.setIfInBounds_toArray, List.set_cons_zero, List.set_cons_succ]
            refine FirstH.goG (i := 10) (v := .int .i64 k) rfl (by kernel_rfl) _ rfl _ rfl (by kernel_rfl) (fun _ _ _ h => h) inv (fun X _ => by unfold bareO; go_simp) HS (fun inv => ?_)
            try simp only [Act.put, List.setIfInBounds_toArray, List.set_cons_zero, List.set_cons_succ]
            refine FirstH.goG (i := 11) (v := .pointer (some ⟨g, k * 6, none⟩)) rfl (by kernel_rfl) _ rfl _ rfl (by kernel_rfl) (fun _ _ _ h => h) inv (fun X _ => by unfold bareO; go_simp) HS (fun inv => ?_)
            try simp only [Act.put, List.setIfInBounds_toArray, List.set_cons_zero, List.set_cons_succ]
            refine FirstH.goG (i := 12) (v := .agg #[.int .u8 f5, .int .u16 f6, .int .u8 f7, .int .u16 f8, .slice A2 q2 x2, .bool d2]) rfl (by kernel_rfl) _ rfl _ rfl (by kernel_rfl) (fun _ _ _ h => h) inv (fun X hS => by obtain ⟨-, -, e0, e1, e2, e3, e4, e5⟩ := hS; simp only [List.getElem?_toArray, List.getElem?_cons_zero, List.getElem?_cons_succ] at e0 e1 e2 e3 e4 e5; unfold bareO; go_simp) HS (fun inv => ?_)
            try simp only [Act.put, List.setIfInBounds_toArray, List.set_cons_zero, List.set_cons_succ]
            clear HS
            have KR := refL y w5 OY5.out.own.at_ OY5.out.len OY5.out.nn
            rw [YS.out] at KR
            refine FirstH.only (i := 5) (by kernel_rfl) (by decide) inv (fun inv => wpOp_callG (i := 5) rfl (by kernel_rfl) 67 rfl _ rfl 16 #[.agg ys] (by unfold bareO; go_simp) KR ?_)
            rintro e w7 ⟨y7, rfl, hy7, ok7, b7⟩
            have C7 := Lib.hid (C5.out.trans (b7.mono C5.out.size))
            have HS : w7.heap[w3.heap.size]? = some (.cells ys 45 (0, 0)) ∧ w7.heap[r]? = some (.cells #[.slice (some ⟨g, 0, none⟩) m2 cu, .int .i64 most] 42 (0, 0)) ∧ Six w7 g (k * 6) #[.int .u8 f5, .int .u16 f6, .int .u8 f7, .int .u16 f8, .slice A2 q2 x2, .bool d2] := ⟨(b7.block _ (Array.getElem?_eq_some_iff.1 HS5.out.1).1).trans HS5.out.1, (b7.block _ (Array.getElem?_eq_some_iff.1 HS5.out.2.1).1).trans HS5.out.2.1, HS5.out.2.2.below b7 LG5.out⟩
            have HS7 := Lib.hid HS
            have LG7 := Lib.hid (Nat.lt_of_lt_of_le LG5.out b7.size)
            have KM := sameP y7 ym w7 (hy7.trans HY.out) ok7.own.at_ (OM5.out.below b7).own.at_
            rw [HYC.out] at KM
            refine ⟨_, rfl, HS, ?_⟩
            clear HS hy7 ok7 b7 KR
            try simp only [Act.put, List.setIfInBounds_toArray, List.set_cons_zero, List.set_cons_succ]
            refine FirstH.only (i := 13) (by kernel_rfl) (by decide) inv (fun inv => wpOp_callG (i := 13) rfl (by kernel_rfl) 75 rfl _ rfl 15 #[.agg y7.cs, .agg #[.int .u8 f5, .int .u16 f6, .int .u8 f7, .int .u16 f8, .slice A2 q2 x2, .bool d2]] (by unfold bareO; go_simp) KM ?_)
            rintro e w8 ⟨rfl, b8⟩
            have C8 := Lib.hid (C7.out.trans (b8.mono C7.out.size))
            have HS : w8.heap[w3.heap.size]? = some (.cells ys 45 (0, 0)) ∧ w8.heap[r]? = some (.cells #[.slice (some ⟨g, 0, none⟩) m2 cu, .int .i64 most] 42 (0, 0)) ∧ Six w8 g (k * 6) #[.int .u8 f5, .int .u16 f6, .int .u8 f7, .int .u16 f8, .slice A2 q2 x2, .bool d2] := ⟨(b8.block _ (Array.getElem?_eq_some_iff.1 HS7.out.1).1).trans HS7.out.1, (b8.block _ (Array.getElem?_eq_some_iff.1 HS7.out.2.1).1).trans HS7.out.2.1, HS7.out.2.2.below b8 LG7.out⟩
            refine ⟨_, rfl, HS, ?_⟩
            try simp only [Act.put, List.setIfInBounds_toArray, List.set_cons_zero, List.set_cons_succ]
            refine FirstH.goG (i := 14) (v := .bool false) rfl (by kernel_rfl) _ rfl _ rfl (by kernel_rfl) (fun _ _ _ h => h) inv (fun X _ => by unfold bareO; go_simp) HS (fun inv => ?_)
            try simp only [Act.put, List.setIfInBounds_toArray, List.set_cons_zero, List.set_cons_succ]
            clear HS b8 KM
            refine ⟨by kernel_rfl, ?_⟩
            simp only [List.drop_succ_cons, List.drop_zero]
            go_wp2
            go_roundw
            case rel => exact ⟨k + 1, by go_num, by have := HKN.out; omega, C8⟩
            case measure => have := HKN.out; simp [intOf]; omega
          · obtain rfl : m2 = k := by omega
            have hk1 : ¬ (m2 : Int) < (m2 : Int) := by omega
            go_wp2
            go_ret
            exact ⟨rfl, C0.out.trans (BB.out.mono HB0.out)⟩

end Go.Proofs.Yteaafpgkifmdeaa
