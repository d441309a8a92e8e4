/-
  The law AmoPlays walked: it answers true; the program's Clone. Condition: the acts lie in memory, numbers fit their kinds.
-/
import Derived.Test.YtldbmmganicliaaAmg
import Derived.Test.YtldbmmganicliaaShelf
import Derived.Test.YtldbmmganicliaaApa
import Derived.Test.YtldbmmganicliaaAde
import Derived.Deep.MidRow
namespace Go.Proofs.Ytldbmmganicliaa
section
set_option linter.unusedSimpArgs false
set_option linter.unusedVariables false
open Go.RowKit Go.Maps Go.Sort

set_option maxRecDepth 100000 in
set_option maxHeartbeats 4000000 in
theorem aClone (W : World) (b m k c : Nat) (t : Tt) (h : PT W b m k c t) :
    Calls Try.prog 19 #[.pointer (some ⟨b, 0, none⟩)] W fun e W' => ∃ b' m' k' : Nat, e = .returned (.pointer (some ⟨b', 0, none⟩)) ∧ PT W' b' m' k' c t ∧ W.heap.size ≤ b' ∧ W.heap.size ≤ m' ∧ W.heap.size ≤ k' ∧ Below W.heap.size W W' := by
  have KM := Lib.hid (aMade W b m k c t h)
  obtain ⟨nn, D, hnn, O, M⟩ := h.rows
  obtain ⟨nn', D', hnn', F, MF⟩ := h.flo
  have HS0 : Hid (W.heap[b]? = some (.cells #[.int .u32 t.win, .map (some m), .map (some k)] 85 (0, 0))) := Lib.hid h.blk
  have OO := Lib.hid O
  have FF := Lib.hid F
  have MM := Lib.hid (And.intro hnn M)
  have MN := Lib.hid (And.intro hnn' MF)
  have HOK := Lib.hid h.ok
  clear h O F M MF hnn hnn'
  go_enter Try.func19, Try.ntmps19
  go_wp2_with fail
  refine KM.out.mono ?_
  rintro e w1 ⟨rfl, rfl⟩
  go_wp2_with fail
  refine region_heldT (S := fun X : World => (X.heap[b]? = some (.cells #[.int .u32 t.win, .map (some m), .map (some k)] 85 (0, 0)))) 16 (by kernel_rfl) (by decide) (fun inv => ?_)
  have HS : (W.drew.heap[b]? = some (.cells #[.int .u32 t.win, .map (some m), .map (some k)] 85 (0, 0))) := HS0.out
  have BD : Hid (Below W.heap.size W W.drew) := Lib.hid (Below.refl _ _).drew
  have O3 := Lib.hid (OO.out.kept (grown_of_below (Below.refl _ W).drew none) (by simp))
  have F3 := Lib.hid (FF.out.kept (grown_of_below (Below.refl _ W).drew none) (by simp))
  change FirstH _ _ _ _ _ _ _ _ _ _ W.drew
  generalize W.drew = wd at *
  refine FirstH.go (i := 0) (v := .pointer (some ⟨b, 0, none⟩)) rfl rfl 6 rfl (Op.move (Operand.tmp 0)) rfl (by kernel_rfl) (fun _ _ _ h => h) inv (fun W hS => by unfold bareO; go_simp) HS (fun inv => ?_)
  try simp only [Act.put, List.setIfInBounds_toArray, List.set_cons_zero, List.set_cons_succ]
  refine FirstH.go (i := 1) (v := .pointer (some ⟨b, 0, none⟩)) rfl rfl 7 rfl (Op.nilCheck (Operand.tmp 6)) rfl (by kernel_rfl) (fun _ _ _ h => h) inv (fun W hS => by unfold bareO; go_simp) HS (fun inv => ?_)
  try simp only [Act.put, List.setIfInBounds_toArray, List.set_cons_zero, List.set_cons_succ]
  refine FirstH.go (i := 2) (v := .pointer (some ⟨b, 0, none⟩)) rfl rfl 8 rfl (Op.fieldAddr 85 (Operand.tmp 7) 0) rfl (by kernel_rfl) (fun _ _ _ h => h) inv (fun W hS => by unfold bareO; go_simp) HS (fun inv => ?_)
  try simp only [Act.put, List.setIfInBounds_toArray, List.set_cons_zero, List.set_cons_succ]
  refine FirstH.go (i := 3) (v := .int .u32 t.win) rfl rfl 9 rfl (Op.load 32 (Operand.tmp 8)) rfl (by kernel_rfl) (fun _ _ _ h => h) inv (fun W hS => by have c := cell_of hS 0 (.int .u32 t.win) rfl; unfold bareO; go_simp) HS (fun inv => ?_)
  try simp only [Act.put, List.setIfInBounds_toArray, List.set_cons_zero, List.set_cons_succ]
  refine FirstH.go (i := 4) (v := .pointer (some ⟨b, 0, none⟩)) rfl rfl 10 rfl (Op.move (Operand.tmp 0)) rfl (by kernel_rfl) (fun _ _ _ h => h) inv (fun W hS => by unfold bareO; go_simp) HS (fun inv => ?_)
  try simp only [Act.put, List.setIfInBounds_toArray, List.set_cons_zero, List.set_cons_succ]
  refine FirstH.go (i := 5) (v := .pointer (some ⟨b, 0, none⟩)) rfl rfl 11 rfl (Op.nilCheck (Operand.tmp 10)) rfl (by kernel_rfl) (fun _ _ _ h => h) inv (fun W hS => by unfold bareO; go_simp) HS (fun inv => ?_)
  try simp only [Act.put, List.setIfInBounds_toArray, List.set_cons_zero, List.set_cons_succ]
  refine FirstH.go (i := 6) (v := .pointer (some ⟨b, 1, none⟩)) rfl rfl 12 rfl (Op.fieldAddr 85 (Operand.tmp 11) 1) rfl (by kernel_rfl) (fun _ _ _ h => h) inv (fun W hS => by unfold bareO; go_simp) HS (fun inv => ?_)
  try simp only [Act.put, List.setIfInBounds_toArray, List.set_cons_zero, List.set_cons_succ]
  refine FirstH.go (i := 7) (v := .map (some m)) rfl rfl 13 rfl (Op.load 82 (Operand.tmp 12)) rfl (by kernel_rfl) (fun _ _ _ h => h) inv (fun W hS => by have c := cell_of hS 1 (.map (some m)) rfl; unfold bareO; go_simp) HS (fun inv => ?_)
  try simp only [Act.put, List.setIfInBounds_toArray, List.set_cons_zero, List.set_cons_succ]
  refine FirstH.go (i := 9) (v := .pointer (some ⟨b, 0, none⟩)) rfl rfl 15 rfl (Op.move (Operand.tmp 0)) rfl (by kernel_rfl) (fun _ _ _ h => h) inv (fun W hS => by unfold bareO; go_simp) HS (fun inv => ?_)
  try simp only [Act.put, List.setIfInBounds_toArray, List.set_cons_zero, List.set_cons_succ]
  refine FirstH.go (i := 10) (v := .pointer (some ⟨b, 0, none⟩)) rfl rfl 16 rfl (Op.nilCheck (Operand.tmp 15)) rfl (by kernel_rfl) (fun _ _ _ h => h) inv (fun W hS => by unfold bareO; go_simp) HS (fun inv => ?_)
  try simp only [Act.put, List.setIfInBounds_toArray, List.set_cons_zero, List.set_cons_succ]
  refine FirstH.go (i := 11) (v := .pointer (some ⟨b, 2, none⟩)) rfl rfl 17 rfl (Op.fieldAddr 85 (Operand.tmp 16) 2) rfl (by kernel_rfl) (fun _ _ _ h => h) inv (fun W hS => by unfold bareO; go_simp) HS (fun inv => ?_)
  try simp only [Act.put, List.setIfInBounds_toArray, List.set_cons_zero, List.set_cons_succ]
  refine FirstH.go (i := 12) (v := .map (some k)) rfl rfl 18 rfl (Op.load 83 (Operand.tmp 17)) rfl (by kernel_rfl) (fun _ _ _ h => h) inv (fun W hS => by have c := cell_of hS 2 (.map (some k)) rfl; unfold bareO; go_simp) HS (fun inv => ?_)
  try simp only [Act.put, List.setIfInBounds_toArray, List.set_cons_zero, List.set_cons_succ]
  refine FirstH.only (i := 8) (by kernel_rfl) (by decide) inv (fun inv => wpOp_call (i := 8) rfl rfl 14 rfl (Op.call { callee := Callee.value (.func 45), args := #[Operand.tmp 13], argTypes := #[82] }) rfl 45 #[.map (some m)] (by unfold bareO; go_simp) (AnyW.maps_Clone_owns Try.cloneR 37 rwElem m nn D wd O3.out) ?_)
  rintro e u1 ⟨rfl, O4, _, b4⟩
  have HS1 : (u1.heap[b]? = some (.cells #[.int .u32 t.win, .map (some m), .map (some k)] 85 (0, 0))) := (b4.block _ (bltA HS)).trans HS
  have HS := HS1
  have O4 := Lib.hid O4
  have F4 := Lib.hid (F3.out.kept (grown_of_below b4 none) (by simp))
  have B4 : Hid (Below W.heap.size W u1) := Lib.hid (BD.out.trans (b4.mono BD.out.size))
  have M4 : Hid (W.heap.size ≤ wd.heap.size) := Lib.hid BD.out.size
  clear b4
  refine ⟨_, rfl, HS, ?_⟩
  try simp only [Act.put, List.setIfInBounds_toArray, List.set_cons_zero, List.set_cons_succ]
  refine FirstH.only (i := 13) (by kernel_rfl) (by decide) inv (fun inv => wpOp_call (i := 13) rfl rfl 19 rfl (Op.call { callee := Callee.value (.func 46), args := #[Operand.tmp 18], argTypes := #[83] }) rfl 46 #[.map (some k)] (by unfold bareO; go_simp) (AnyW.maps_Clone_owns Try.cloneF 31 fElem k nn' D' u1 F4.out) ?_)
  rintro e u2 ⟨rfl, F5, _, b5⟩
  have HS2 : (u2.heap[b]? = some (.cells #[.int .u32 t.win, .map (some m), .map (some k)] 85 (0, 0))) := (b5.block _ (bltA HS)).trans HS
  have HS := HS2
  have F5 := Lib.hid F5
  have O5 := Lib.hid (O4.out.kept (grown_of_below b5 none) (by simp))
  have B5 : Hid (Below W.heap.size W u2) := Lib.hid (B4.out.trans (b5.mono B4.out.size))
  have NE : Hid (wd.heap.size ≠ u1.heap.size) := Lib.hid (by have := O4.out.lt; omega)
  clear b5
  refine ⟨_, rfl, HS, ?_⟩
  try simp only [Act.put, List.setIfInBounds_toArray, List.set_cons_zero, List.set_cons_succ]
  refine FirstH.go (i := 14) (v := .agg #[.int .u32 t.win, .map (some wd.heap.size), .map (some u1.heap.size)]) rfl rfl 20 rfl (Op.build 85 #[(0, Operand.tmp 9), (1, Operand.tmp 14), (2, Operand.tmp 19)]) rfl (by kernel_rfl) (fun _ _ _ h => h) inv (fun W hS => by unfold bareO; first | (go_simp; done) | kernel_rfl) HS (fun inv => ?_)
  try simp only [Act.put, List.setIfInBounds_toArray, List.set_cons_zero, List.set_cons_succ]
  have O6 := Lib.hid (O5.out.kept (World.grownBy_alloc u2 (.cells #[.int .u32 t.win, .map (some wd.heap.size), .map (some u1.heap.size)] 85) none) (by simp))
  have F6 := Lib.hid (F5.out.kept (World.grownBy_alloc u2 (.cells #[.int .u32 t.win, .map (some wd.heap.size), .map (some u1.heap.size)] 85) none) (by simp))
  have R6 : (u2.alloc (.cells #[.int .u32 t.win, .map (some wd.heap.size), .map (some u1.heap.size)] 85)).heap[u2.heap.size]? = some (.cells #[.int .u32 t.win, .map (some wd.heap.size), .map (some u1.heap.size)] 85 (0, 0)) := heap_alloc_new _ _
  have B6 : Hid (Below W.heap.size W (u2.alloc (.cells #[.int .u32 t.win, .map (some wd.heap.size), .map (some u1.heap.size)] 85))) := Lib.hid (B5.out.alloc B5.out.size _)
  have S6 : ((u2.alloc (.cells #[.int .u32 t.win, .map (some wd.heap.size), .map (some u1.heap.size)] 85)).heap[b]? = some (.cells #[.int .u32 t.win, .map (some m), .map (some k)] 85 (0, 0))) := (Below.heap_alloc _ _ _ (bltA HS)).trans HS
  refine FirstH.only (i := 15) (by kernel_rfl) (by decide) inv (fun inv => wpOp_run (i := 15) rfl rfl 21 rfl (Op.box 85 (.tmp 20)) rfl (v := .pointer (some ⟨u2.heap.size, 0, none⟩)) (w' := u2.alloc (.cells #[.int .u32 t.win, .map (some wd.heap.size), .map (some u1.heap.size)] 85)) (by unfold bareO; first | (go_simp; done) | rfl | kernel_rfl) ?_)
  refine ⟨S6, by kernel_rfl, ?_⟩
  have R6 := Lib.hid R6
  clear S6 HS inv HS1 HS2
  simp only [Act.put, List.setIfInBounds_toArray, List.set_cons_zero, List.set_cons_succ, List.drop_succ_cons, List.drop_zero]
  generalize u2.alloc (.cells #[.int .u32 t.win, .map (some wd.heap.size), .map (some u1.heap.size)] 85) = u3 at *
  go_wp2_with fail
  go_ret
  exact ⟨_, _, _, rfl, ⟨R6.out, ⟨nn, D, MM.out.1, O6.out, MM.out.2⟩, ⟨nn', D', MN.out.1, F6.out, MN.out.2⟩, NE.out, HOK.out⟩, B5.out.size, M4.out, B4.out.size, B6.out⟩
end

section
set_option linter.unusedSimpArgs false
set_option linter.unusedVariables false
open Go.RowKit Go.Maps Go.Sort

set_option maxRecDepth 100000 in
set_option maxHeartbeats 40000000 in
theorem walkMP (z : Int) (A : Option Addr) (L : List Ac) (c : Nat) (W : World) (hlc : L.length ≤ c) (hcm : c ≤ maxLen) (hx : arg_actsR W A L) :
    Calls Try.prog 3 #[.int .i64 z, .slice A L.length c] W fun e W' => e = .returned (.bool true) ∧ Below W.heap.size W W' := by
  have KL : Hid (Calls Try.prog 6 #[.slice A L.length c] W fun e W' => e = .returned (.bool (lightB L)) ∧ W = W') := Lib.hid (by
    rcases rowsB_of hx with rfl | ⟨b, o, rfl, hr⟩
    · exact lightIs0 A c W
    · exact lightIs b o c L W hr hcm hlc)
  have HRW : Hid (∀ (i : Nat) (a : Ac), L[i]? = some a → ∃ rb ro, A = some ⟨rb, ro, none⟩ ∧ RowsB W rb ro L) := Lib.hid fun i a ha => by
    rcases rowsB_of hx with e0 | ⟨b, o, e, hr⟩
    · rw [e0] at ha
      exact absurd ha (by rw [List.getElem?_nil]; exact fun h => nomatch h)
    · exact ⟨b, o, e, hr⟩
  obtain ⟨n, hn⟩ : ∃ q, L.length = q := ⟨_, rfl⟩
  have HN := Lib.hid hn
  have HLC := Lib.hid hlc
  have HCM := Lib.hid hcm
  rw [hn] at KL ⊢
  have hnc : n ≤ c := hn ▸ hlc
  have hnci : (n : Int) ≤ (c : Int) := by omega
  have hcap : n ≤ 9223372036854775807 := by unfold maxLen at hcm; omega
  clear hx hlc hn hcm
  cases hlb : lightB L with
  | false =>
    rw [hlb] at KL
    go_enter Try.func3, Try.ntmps3
    go_wp2_with fail
    refine KL.out.mono ?_
    rintro e w1 ⟨rfl, rfl⟩
    go_wp2_with fail
    refine (knowsA _).mono ?_
    rintro e w2 ⟨rfl, b2⟩
    go_wp2_with fail
    go_ret
    exact ⟨rfl, b2⟩
  | true =>
    rw [hlb] at KL
    obtain ⟨hl100, hval⟩ := lightB_each hlb
    have H100 : Hid (n ≤ 100) := Lib.hid (HN.out ▸ hl100)
    clear hlb hl100 hval
    go_enter Try.func3, Try.ntmps3
    go_wp2_with fail
    refine KL.out.mono ?_
    rintro e w1 ⟨rfl, rfl⟩
    go_wp2_with fail
    refine (knowsA _).mono ?_
    rintro e w1 ⟨rfl, b1⟩
    have B1 := Lib.hid b1
    clear b1 KL
    go_wp2_with fail
    refine (aNew z w1).mono ?_
    rintro e w2 ⟨rfl, P2, b2, hs2⟩
    obtain ⟨b, hb⟩ : ∃ q, w1.heap.size + 2 = q := ⟨_, rfl⟩
    obtain ⟨m, hm⟩ : ∃ q, w1.heap.size = q := ⟨_, rfl⟩
    obtain ⟨k, hk⟩ : ∃ q, w1.heap.size + 1 = q := ⟨_, rfl⟩
    have HB : Hid (w1.heap.size ≤ b ∧ w1.heap.size ≤ m ∧ w1.heap.size ≤ k) := Lib.hid (by omega)
    have P2 : Hid (PT w2 b m k 0 ⟨min (max z 1) 16, [], []⟩) := Lib.hid (by rw [← hb, ← hk, ← hm]; exact P2)
    have B2 := Lib.hid b2
    rw [hb]
    clear hs2 b2 hb hm hk
    go_wp2_with fail
    refine (newT w2 z).mono ?_
    rintro e w3 ⟨rfl, D3, b3⟩
    obtain ⟨r, hr⟩ : ∃ q, w2.heap.size = q := ⟨_, rfl⟩
    rw [hr] at D3 ⊢
    have P3 := Lib.hid (P2.out.below b3)
    have D3 := Lib.hid D3
    have B3 : Hid (Below w1.heap.size w1 w3) := Lib.hid (B2.out.trans (b3.mono B2.out.size))
    have HR : Hid (w1.heap.size ≤ r) := Lib.hid (hr ▸ B2.out.size)
    clear b3 hr
    go_wp2_with fail
    go_loopw [5, 7] (fun tv iv wr => ∃ (i p m k : Nat) (t : Tt) (lv fv : Value), i ≤ n ∧ iv = .int .i64 i ∧ tv = .pointer (some ⟨p, 0, none⟩) ∧ Hid (PT wr p m k i t) ∧ Hid (DT wr r t lv fv) ∧ Hid (w1.heap.size ≤ p ∧ w1.heap.size ≤ m ∧ w1.heap.size ≤ k) ∧ Hid (Below w1.heap.size w1 wr)) (fun _ iv _ => n - (intOf iv).toNat)
    case atStart => exact ⟨0, b, m, k, _, _, _, by omega, rfl, rfl, P3, D3, HB, B3⟩
    case round =>
      obtain ⟨i, p, m, k, t, lv, fv, hi, rfl, rfl, PI, DI, HB, BB⟩ := hrel
      obtain ⟨u0, hu0⟩ : ∃ z : World, z = wr := ⟨_, rfl⟩
      subst hu0
      by_cases hin : i < n
      · as_aux_lemma =>
        skip
        obtain ⟨⟨kd, x, code, val, un⟩, ha0⟩ : ∃ a, L[i]? = some a := ⟨_, List.getElem?_eq_getElem (by rw [HN.out]; exact hin)⟩
        obtain ⟨rb, ro, rfl, hrw⟩ := HRW.out i _ ha0
        have hr1 : RowsB u0 rb ro L := (hrw.below B1.out).below BB.out
        have hok := (hr1.2 i _ ha0).2
        have HROW : Hid (∀ w, KP (fun q => w1.heap.size ≤ q) u0 w → ∀ j u, (#[.int .i64 kd, .int .u8 x.n, .int .u16 x.l, .int .u32 x.s, .int .u8 x.d, .int .u8 x.a0, .int .u8 x.a1, .int .u8 x.b0, .int .u8 x.b1, .int .u8 x.c0, .int .u8 x.c1, .int .u8 code, .string val, .int .u32 un] : Array Value)[j]? = some u → w.cell? ⟨rb, ro + i * 14 + j, none⟩ = some u) := Lib.hid fun w hk j u hu => by
          have hlt : rb < w1.heap.size := Nat.lt_of_lt_of_le hrw.1 B1.out.size
          have h1 := (hr1.2 i _ ha0).1 j u (by simpa [Ac.cs] using hu)
          have e : w.heap[rb]? = u0.heap[rb]? := hk.block rb hr1.1 (by have := hr1.1; omega)
          exact (World.cell?_of_block (w := u0) (a := ⟨rb, ro + i * 14 + j, none⟩) e).trans h1
        have q1 := HROW.out u0 (KP.refl _ _) 1 (.int .u8 x.n) rfl; have q2 := HROW.out u0 (KP.refl _ _) 2 (.int .u16 x.l) rfl; have q3 := HROW.out u0 (KP.refl _ _) 3 (.int .u32 x.s) rfl; have q4 := HROW.out u0 (KP.refl _ _) 4 (.int .u8 x.d) rfl; have q5 := HROW.out u0 (KP.refl _ _) 5 (.int .u8 x.a0) rfl; have q6 := HROW.out u0 (KP.refl _ _) 6 (.int .u8 x.a1) rfl; have q7 := HROW.out u0 (KP.refl _ _) 7 (.int .u8 x.b0) rfl; have q8 := HROW.out u0 (KP.refl _ _) 8 (.int .u8 x.b1) rfl; have q9 := HROW.out u0 (KP.refl _ _) 9 (.int .u8 x.c0) rfl; have q10 := HROW.out u0 (KP.refl _ _) 10 (.int .u8 x.c1) rfl
        have HOK := Lib.hid hok
        have HA0 := Lib.hid ha0
        have HIN := Lib.hid hin
        have HC : Hid (i ≤ 1000000) := Lib.hid (by have := H100.out; omega)
        have h1 : (i : Int) < (n : Int) := by omega
        have h3 : (0 : Int) ≤ (i : Int) := by omega
        clear hrw hr1 hok ha0 hin hi
        go_wp2_with fail
        refine (toID _ _ _ _ _ _ _ _ _ _ u0).mono ?_
        rintro e u2 ⟨rfl, b2⟩
        obtain ⟨u3, hu3⟩ : ∃ Y, u2.alloc (.cells #[.int .u8 x.n, .int .u16 x.l, .int .u32 x.s, .int .u8 x.d, .int .u8 x.a0, .int .u8 x.a1, .int .u8 x.b0, .int .u8 x.b1, .int .u8 x.c0, .int .u8 x.c1] 37) = Y := ⟨_, rfl⟩
        obtain ⟨ka, hka⟩ : ∃ q, u2.heap.size = q := ⟨_, rfl⟩
        have b3 : Below u0.heap.size u0 u3 := by rw [← hu3]; exact b2.alloc b2.size _
        have r3 : u3.heap[ka]? = some (.cells #[.int .u8 x.n, .int .u16 x.l, .int .u32 x.s, .int .u8 x.d, .int .u8 x.a0, .int .u8 x.a1, .int .u8 x.b0, .int .u8 x.b1, .int .u8 x.c0, .int .u8 x.c1] 37 (0, 0)) := by rw [← hu3, ← hka]; exact heap_alloc_new _ _
        have P3 := Lib.hid (PI.out.below b3)
        have D3 := Lib.hid (DI.out.below b3)
        have RK := Lib.hid r3
        have BB3 : Hid (Below w1.heap.size w1 u3) := Lib.hid (BB.out.trans (b3.mono BB.out.size))
        have K3 : Hid (KP (fun q => w1.heap.size ≤ q) u0 u3) := Lib.hid (KP.of_below b3)
        have HKA : Hid (w1.heap.size ≤ ka) := Lib.hid (hka ▸ Nat.le_trans BB.out.size b2.size)
        have HU3 := Lib.hid hu3
        have HKE := Lib.hid hka
        clear b2 b3 r3 hu3 hka q1 q2 q3 q4 q5 q6 q7 q8 q9 q10
        have HQ0 := Lib.hid (HROW.out u3 K3.out 0 (.int .i64 kd) rfl)
        go_wp2_with (first | (rw [HU3.out]; try rw [HKE.out]) | (refine wpList_val rfl 42 rfl _ rfl (v := .int .i64 kd) (w' := u3) (by have q0 := HQ0.out; simp only [Nat.add_zero] at q0; unfold bareO; go_simp) ?_; refine Hid.out ?_) | fail)
        refine Lib.hid ?_
        rename_i K hK K1 hK1
        have KEY : Hid (∀ (p2 m2 k2 : Nat) (t2 : Tt) (lv2 fv2 : Value) {v30 v31 v32 v33 v34 v35 v36 v37 v38 v39 v40 v41 v42 v43 v44 v45 v46 v47 v48 v49 v50 v51 v52 v53 v54 v55 v56 v57 v58 v59 v60 v61 v62 v63 v64 v65 v66 v67 v68 v69 v70 v71 v72 v73 v74 v75 v76 v77 v78 v79 v80 v81 v82 v83 v84 v85 v86 v87 v88 v89 v90 v91 v92 v93 v94 v95 v96 v97 v98 v99 v100 v101 v102 v103 v104 v105 v106 v107 v108 v109 v110 v111 v112 v113 v114 v115 v116 v117 v118 v119 v120 v121 v122 v123 v124 v125 v126 v127 v128 v129 v130 v131 v132 v133 v134 v135 v136 v137 v138 v139 v140 v141 v142 v143 v144 v145 v146 v147 v148 v149 v150 v151 v152 v153 v154 v155 v156 v157 v158 v159 v160 v161 v162 v163 v164 v165 v166 v167 v168 v169 v170 v171 v172 v173 v174 v175 v176 v177 v178 v179 v180 v181 v182 v183 v184 v185 v186 v187 v188 : Value} (w : World), PT w p2 m2 k2 (i + 1) t2 → DT w r t2 lv2 fv2 → w1.heap.size ≤ p2 ∧ w1.heap.size ≤ m2 ∧ w1.heap.size ≤ k2 → KP (fun q => w1.heap.size ≤ q ∧ q ≠ ka) u3 w → K { tmps := #[.int .i64 z, .slice (some ⟨rb, ro, none⟩) n c, undef, undef, u4, .pointer (some ⟨p2, 0, none⟩), .pointer (some ⟨r, 0, none⟩), .int .i64 i, .pointer (some ⟨ka, 0, none⟩), .bool true, u10, u11, u12, u13, .slice (some ⟨rb, ro, none⟩) n c, .bool true, .bool false, .bool false, .bool true, .bool false, .bool false, undef, .int .i64 z, .pointer (some ⟨b, 0, none⟩), .int .i64 z, .pointer (some ⟨r, 0, none⟩), .int .i64 i, .slice (some ⟨rb, ro, none⟩) n c, .int .i64 n, .bool true, v30, v31, v32, v33, v34, v35, v36, v37, v38, v39, v40, v41, v42, v43, v44, v45, v46, v47, v48, v49, v50, v51, v52, v53, v54, v55, v56, v57, v58, v59, v60, v61, v62, v63, v64, v65, v66, v67, v68, v69, v70, v71, v72, v73, v74, v75, v76, v77, v78, v79, v80, v81, v82, v83, v84, v85, v86, v87, v88, v89, v90, v91, v92, v93, v94, v95, v96, v97, v98, v99, v100, v101, v102, v103, v104, v105, v106, v107, v108, v109, v110, v111, v112, v113, v114, v115, v116, v117, v118, v119, v120, v121, v122, v123, v124, v125, v126, v127, v128, v129, v130, v131, v132, v133, v134, v135, v136, v137, v138, v139, v140, v141, v142, v143, v144, v145, v146, v147, v148, v149, v150, v151, v152, v153, v154, v155, v156, v157, v158, v159, v160, v161, v162, v163, v164, v165, v166, v167, v168, v169, v170, v171, v172, v173, v174, v175, v176, v177, v178, v179, v180, v181, v182, v183, v184, v185, v186, v187, v188], defers := [] } w) := Lib.hid (by
          intro p2 m2 k2 t2 lv2 fv2 v30 v31 v32 v33 v34 v35 v36 v37 v38 v39 v40 v41 v42 v43 v44 v45 v46 v47 v48 v49 v50 v51 v52 v53 v54 v55 v56 v57 v58 v59 v60 v61 v62 v63 v64 v65 v66 v67 v68 v69 v70 v71 v72 v73 v74 v75 v76 v77 v78 v79 v80 v81 v82 v83 v84 v85 v86 v87 v88 v89 v90 v91 v92 v93 v94 v95 v96 v97 v98 v99 v100 v101 v102 v103 v104 v105 v106 v107 v108 v109 v110 v111 v112 v113 v114 v115 v116 v117 v118 v119 v120 v121 v122 v123 v124 v125 v126 v127 v128 v129 v130 v131 v132 v133 v134 v135 v136 v137 v138 v139 v140 v141 v142 v143 v144 v145 v146 v147 v148 v149 v150 v151 v152 v153 v154 v155 v156 v157 v158 v159 v160 v161 v162 v163 v164 v165 v166 v167 v168 v169 v170 v171 v172 v173 v174 v175 v176 v177 v178 v179 v180 v181 v182 v183 v184 v185 v186 v187 v188 w PW DW GW KW
          refine hK _ _ ?_
          clear hK hK1
          as_aux_lemma =>
            skip
            have rx := HOK.out.2.1
            have hlen := PW.lenL
            have hH := H100.out
            have hI := HIN.out
            obtain ⟨A2, c2, rfl, hc2, hcm2, hA2⟩ := DW.rows.slice
            obtain ⟨ln, hln⟩ : ∃ q, t2.L.length = q := ⟨_, rfl⟩
            obtain ⟨hr1, hr2, hr3⟩ := PW.ok.res x
            obtain ⟨cc, hcc⟩ : ∃ q, t2.resC x = q := ⟨_, rfl⟩
            obtain ⟨vv, hvv⟩ : ∃ q, t2.resV x = q := ⟨_, rfl⟩
            obtain ⟨ee, hee⟩ : ∃ q, t2.resB x = q := ⟨_, rfl⟩
            obtain ⟨st, hst⟩ : ∃ q, t2.state x = q := ⟨_, rfl⟩
            obtain ⟨fl, hfl⟩ : ∃ q, floorF t2.F x.n x.l = q := ⟨_, rfl⟩
            have KRE : Hid (∀ X, PT X p2 m2 k2 (i + 1) t2 → Calls Try.prog 20 #[.pointer (some ⟨p2, 0, none⟩), .agg #[.int .u8 x.n, .int .u16 x.l, .int .u32 x.s, .int .u8 x.d, .int .u8 x.a0, .int .u8 x.a1, .int .u8 x.b0, .int .u8 x.b1, .int .u8 x.c0, .int .u8 x.c1]] X fun e X' => e = .returned (.tuple #[.agg #[.int .u8 cc, .string vv], .bool ee]) ∧ Below X.heap.size X X') := Lib.hid fun X hX => by
              have := aRes X p2 m2 k2 (i + 1) t2 hX x rx
              rw [hr1, hr2, hr3, hcc, hvv, hee] at this
              exact this
            have KRD : Hid (∀ X, DT X r t2 (.slice A2 t2.L.length c2) fv2 → Calls Try.prog 21 #[.pointer (some ⟨r, 0, none⟩), .agg #[.int .u8 x.n, .int .u16 x.l, .int .u32 x.s, .int .u8 x.d, .int .u8 x.a0, .int .u8 x.a1, .int .u8 x.b0, .int .u8 x.b1, .int .u8 x.c0, .int .u8 x.c1]] X fun e X' => e = .returned (.tuple #[.agg #[.int .u8 cc, .string vv], .bool ee]) ∧ Below X.heap.size X X') := Lib.hid fun X hX => by
              have := resT X r t2 _ fv2 hX x rx
              rw [hcc, hvv, hee] at this
              exact this
            have KST : Hid (∀ X, PT X p2 m2 k2 (i + 1) t2 → Calls Try.prog 23 #[.pointer (some ⟨p2, 0, none⟩), .agg #[.int .u8 x.n, .int .u16 x.l, .int .u32 x.s, .int .u8 x.d, .int .u8 x.a0, .int .u8 x.a1, .int .u8 x.b0, .int .u8 x.b1, .int .u8 x.c0, .int .u8 x.c1]] X fun e X' => e = .returned (.int .i64 st) ∧ Below X.heap.size X X') := Lib.hid fun X hX => hst ▸ aState X p2 m2 k2 (i + 1) t2 hX x rx
            have KSD : Hid (∀ X, DT X r t2 (.slice A2 t2.L.length c2) fv2 → Calls Try.prog 24 #[.pointer (some ⟨r, 0, none⟩), .agg #[.int .u8 x.n, .int .u16 x.l, .int .u32 x.s, .int .u8 x.d, .int .u8 x.a0, .int .u8 x.a1, .int .u8 x.b0, .int .u8 x.b1, .int .u8 x.c0, .int .u8 x.c1]] X fun e X' => e = .returned (.int .i64 st) ∧ Below X.heap.size X X') := Lib.hid fun X hX => hst ▸ stateT X r t2 _ fv2 hX x rx
            have KFL : Hid (∀ X, PT X p2 m2 k2 (i + 1) t2 → Calls Try.prog 25 #[.pointer (some ⟨p2, 0, none⟩), .agg #[.int .u8 x.n, .int .u16 x.l]] X fun e X' => e = .returned (.int .u32 fl) ∧ Below X.heap.size X X') := Lib.hid fun X hX => hfl ▸ aFloor X p2 m2 k2 (i + 1) t2 hX x.n x.l rx.n rx.l
            have KFD : Hid (∀ X, DT X r t2 (.slice A2 t2.L.length c2) fv2 → Calls Try.prog 26 #[.pointer (some ⟨r, 0, none⟩), .agg #[.int .u8 x.n, .int .u16 x.l]] X fun e X' => e = .returned (.int .u32 fl) ∧ Below X.heap.size X X') := Lib.hid fun X hX => hfl ▸ floorT X r t2 _ fv2 hX x.n x.l rx.n rx.l
            have KLN : Hid (∀ X, PT X p2 m2 k2 (i + 1) t2 → Calls Try.prog 27 #[.pointer (some ⟨p2, 0, none⟩)] X fun e X' => e = .returned (.int .i64 ln) ∧ X = X') := Lib.hid fun X hX => hln ▸ aLen X p2 m2 k2 (i + 1) t2 hX
            have KAL : Hid (∀ X, PT X p2 m2 k2 (i + 1) t2 → Calls Try.prog 29 #[.pointer (some ⟨p2, 0, none⟩)] X fun e X' => ∃ A cp, e = .returned (.slice A ln cp) ∧ RowsP X' X'.heap.size A t2.L ∧ ln ≤ cp ∧ cp ≤ maxLen ∧ Below X.heap.size X X') := Lib.hid fun X hX => hln ▸ aAll X p2 m2 k2 (i + 1) t2 hX (by omega)
            have PW := Lib.hid PW
            have DW := Lib.hid DW
            have GW := Lib.hid GW
            have KW := Lib.hid KW
            have RI0 : Hid (w.heap[ka]? = some (.cells #[.int .u8 x.n, .int .u16 x.l, .int .u32 x.s, .int .u8 x.d, .int .u8 x.a0, .int .u8 x.a1, .int .u8 x.b0, .int .u8 x.b1, .int .u8 x.c0, .int .u8 x.c1] 37 (0, 0))) := Lib.hid ((KW.out.block ka (bltA RK.out) (fun e => e.2 rfl)).trans RK.out)
            have CX0 : Hid (∀ q u, (#[.int .i64 kd, .int .u8 x.n, .int .u16 x.l, .int .u32 x.s, .int .u8 x.d, .int .u8 x.a0, .int .u8 x.a1, .int .u8 x.b0, .int .u8 x.b1, .int .u8 x.c0, .int .u8 x.c1, .int .u8 code, .string val, .int .u32 un] : Array Value)[q]? = some u → w.cell? ⟨rb, ro + i * 14 + q, none⟩ = some u) := Lib.hid fun q u hu => HROW.out w (K3.out.trans KW.out (fun i _ e => e.1)) q u hu
            have HRB : Hid (rb < w.heap.size) := Lib.hid (World.block_lt_of_cell? w _ (CX0.out 0 _ rfl))
            have HLN := Lib.hid hln
            have hc2i : (ln : Int) ≤ (c2 : Int) := by omega
            rw [hln] at hc2
            clear hr1 hr2 hr3 hcc hvv hee hst hfl hlen hH hI hcm2 hA2
            have x0 := cell_of RI0.out 0 (.int .u8 x.n) rfl
            have x1 := cell_of RI0.out 1 (.int .u16 x.l) rfl
            have x2 := cell_of RI0.out 2 (.int .u32 x.s) rfl
            have x3 := cell_of RI0.out 3 (.int .u8 x.d) rfl
            have x4 := cell_of RI0.out 4 (.int .u8 x.a0) rfl
            have x5 := cell_of RI0.out 5 (.int .u8 x.a1) rfl
            have x6 := cell_of RI0.out 6 (.int .u8 x.b0) rfl
            have x7 := cell_of RI0.out 7 (.int .u8 x.b1) rfl
            have x8 := cell_of RI0.out 8 (.int .u8 x.c0) rfl
            have x9 := cell_of RI0.out 9 (.int .u8 x.c1) rfl
            go_wp2_with fail
            refine (KRE.out _ PW.out).mono ?_
            rintro e w5 ⟨rfl, b5⟩
            obtain ⟨w6, hw6⟩ : ∃ Y, w5.alloc (.cells #[.int .u8 cc, .string vv] 53) = Y := ⟨_, rfl⟩
            obtain ⟨k10, hk10⟩ : ∃ q, w5.heap.size = q := ⟨_, rfl⟩
            have b6 : Below w.heap.size w w6 := by rw [← hw6]; exact b5.alloc b5.size _
            have r10 : w6.heap[k10]? = some (.cells #[.int .u8 cc, .string vv] 53 (0, 0)) := by rw [← hw6, ← hk10]; exact heap_alloc_new _ _
            have R10 := Lib.hid r10
            have B6 := Lib.hid b6
            have D6 := Lib.hid (DW.out.below b6)
            have HW6 := Lib.hid hw6
            have HK10 := Lib.hid hk10
            have q1 := (b6.cell (p := ⟨rb, ro + i * 14 + 1, none⟩) HRB.out).trans (CX0.out 1 (.int .u8 x.n) rfl); have q2 := (b6.cell (p := ⟨rb, ro + i * 14 + 2, none⟩) HRB.out).trans (CX0.out 2 (.int .u16 x.l) rfl); have q3 := (b6.cell (p := ⟨rb, ro + i * 14 + 3, none⟩) HRB.out).trans (CX0.out 3 (.int .u32 x.s) rfl); have q4 := (b6.cell (p := ⟨rb, ro + i * 14 + 4, none⟩) HRB.out).trans (CX0.out 4 (.int .u8 x.d) rfl); have q5 := (b6.cell (p := ⟨rb, ro + i * 14 + 5, none⟩) HRB.out).trans (CX0.out 5 (.int .u8 x.a0) rfl); have q6 := (b6.cell (p := ⟨rb, ro + i * 14 + 6, none⟩) HRB.out).trans (CX0.out 6 (.int .u8 x.a1) rfl); have q7 := (b6.cell (p := ⟨rb, ro + i * 14 + 7, none⟩) HRB.out).trans (CX0.out 7 (.int .u8 x.b0) rfl); have q8 := (b6.cell (p := ⟨rb, ro + i * 14 + 8, none⟩) HRB.out).trans (CX0.out 8 (.int .u8 x.b1) rfl); have q9 := (b6.cell (p := ⟨rb, ro + i * 14 + 9, none⟩) HRB.out).trans (CX0.out 9 (.int .u8 x.c0) rfl); have q10 := (b6.cell (p := ⟨rb, ro + i * 14 + 10, none⟩) HRB.out).trans (CX0.out 10 (.int .u8 x.c1) rfl)
            clear b5 b6 r10 hw6 hk10 x0 x1 x2 x3 x4 x5 x6 x7 x8 x9
            go_wp2_with (first | (rw [HW6.out]; try rw [HK10.out]) | fail)
            try rw [HW6.out]
            refine (KRD.out _ D6.out).mono ?_
            rintro e w7 ⟨rfl, b7⟩
            obtain ⟨w8, hw8⟩ : ∃ Y, w7.alloc (.cells #[.int .u8 cc, .string vv] 45) = Y := ⟨_, rfl⟩
            obtain ⟨k12, hk12⟩ : ∃ q, w7.heap.size = q := ⟨_, rfl⟩
            have b8 : Below w6.heap.size w6 w8 := by rw [← hw8]; exact b7.alloc b7.size _
            have r12 : w8.heap[k12]? = some (.cells #[.int .u8 cc, .string vv] 45 (0, 0)) := by rw [← hw8, ← hk12]; exact heap_alloc_new _ _
            have R12 := Lib.hid r12
            have R10 := Lib.hid ((b8.block _ (bltA R10.out)).trans R10.out)
            have B8 : Hid (Below w.heap.size w w8) := Lib.hid (B6.out.trans (b8.mono B6.out.size))
            have D8 := Lib.hid (DW.out.below B8.out)
            have P8 := Lib.hid (PW.out.below B8.out)
            have RI := Lib.hid ((B8.out.block _ (bltA RI0.out)).trans RI0.out)
            have RT : Hid (w8.heap[r]? = some (.cells #[.int .i64 t2.win, .slice A2 ln c2, fv2] 71 (0, 0))) := Lib.hid (HLN.out ▸ D8.out.blk)
            have CX : Hid (∀ X, Below w8.heap.size w8 X → ∀ q u, (#[.int .i64 kd, .int .u8 x.n, .int .u16 x.l, .int .u32 x.s, .int .u8 x.d, .int .u8 x.a0, .int .u8 x.a1, .int .u8 x.b0, .int .u8 x.b1, .int .u8 x.c0, .int .u8 x.c1, .int .u8 code, .string val, .int .u32 un] : Array Value)[q]? = some u → X.cell? ⟨rb, ro + i * 14 + q, none⟩ = some u) := Lib.hid fun X hb q u hu => ((B8.out.trans (hb.mono B8.out.size)).cell (p := ⟨rb, ro + i * 14 + q, none⟩) HRB.out).trans (CX0.out q u hu)
            have KRW : Hid (∀ X, Below w8.heap.size w8 X → ∀ (Aa : Option Addr) (ca : Nat), RowsP X X.heap.size Aa t2.L → ln ≤ ca → ca ≤ maxLen → Calls Try.prog 28 #[.slice Aa ln ca, .slice A2 ln c2] X fun e X' => e = .returned (.bool true) ∧ Below X.heap.size X X') := Lib.hid fun X hb Aa ca h1 h2 h3 => by
              have hd := (D8.out.below hb).rows
              have hln := HLN.out
              subst hln
              exact rowsA X Aa ca t2.L _ h1 h2 h3 hd
            have HW8 := Lib.hid hw8
            have HK12 := Lib.hid hk12
            clear b7 b8 r12 hw8 hk12 q1 q2 q3 q4 q5 q6 q7 q8 q9 q10
            go_wp2_with (first | (rw [HW8.out]; try rw [HK12.out]) | fail)
            try rw [HW8.out]
            refine region_heldT (S := fun X : World => Below w8.heap.size w8 X) 60 (by kernel_rfl) (by decide) (fun inv => ?_)
            have HS : Below w8.heap.size w8 w8.drew := (Below.refl _ _).drew
            change FirstH _ _ _ _ _ _ _ _ _ _ w8.drew
            generalize w8.drew = wd at *
            refine FirstH.go (i := 0) (v := .bool true) rfl rfl 128 rfl (Op.move (Operand.tmp 9)) rfl (by kernel_rfl) (fun _ _ _ h => h) inv (fun W hS => by unfold bareO; go_simp) HS (fun inv => ?_)
            try simp only [Act.put, List.setIfInBounds_toArray, List.set_cons_zero, List.set_cons_succ]
            refine FirstH.go (i := 1) (v := .bool false) rfl rfl 129 rfl (Op.unOp UnOp.not 4 (Operand.tmp 128)) rfl (by kernel_rfl) (fun _ _ _ h => h) inv (fun W hS => by unfold bareO; go_simp) HS (fun inv => ?_)
            try simp only [Act.put, List.setIfInBounds_toArray, List.set_cons_zero, List.set_cons_succ]
            refine FirstH.go (i := 2) (v := .bool false) rfl rfl 130 rfl (Op.move (Operand.tmp 129)) rfl (by kernel_rfl) (fun _ _ _ h => h) inv (fun W hS => by unfold bareO; go_simp) HS (fun inv => ?_)
            try simp only [Act.put, List.setIfInBounds_toArray, List.set_cons_zero, List.set_cons_succ]
            refine FirstH.goG (i := 3) (v := .agg #[.int .u8 cc, .string vv]) rfl (by rfl) 131 rfl (Op.load 53 (Operand.tmp 10)) rfl (by kernel_rfl) (fun _ _ _ h => h) inv (fun W hS => by have hb0 := (hS.block _ (bltA R10.out)).trans R10.out; have c0 := cell_of hb0 0 (.int .u8 cc) rfl; have c1 := cell_of hb0 1 (.string vv) rfl; unfold bareO; go_simp) HS (fun inv => ?_)
            try simp only [Act.put, List.setIfInBounds_toArray, List.set_cons_zero, List.set_cons_succ]
            refine FirstH.goG (i := 5) (v := .agg #[.int .u8 cc, .string vv]) rfl (by rfl) 133 rfl (Op.load 45 (Operand.tmp 12)) rfl (by kernel_rfl) (fun _ _ _ h => h) inv (fun W hS => by have hb0 := (hS.block _ (bltA R12.out)).trans R12.out; have c0 := cell_of hb0 0 (.int .u8 cc) rfl; have c1 := cell_of hb0 1 (.string vv) rfl; unfold bareO; go_simp) HS (fun inv => ?_)
            try simp only [Act.put, List.setIfInBounds_toArray, List.set_cons_zero, List.set_cons_succ]
            refine FirstH.only (i := 4) (by kernel_rfl) (by decide) inv (fun inv => wpOp_callG (i := 4) rfl (by rfl) 132 rfl (Op.call { callee := Callee.value (.func 22), args := #[Operand.tmp 131], argTypes := #[53] }) rfl 22 #[.agg #[.int .u8 cc, .string vv]] (by unfold bareO; go_simp) (refResA cc vv wd) ?_)
            rintro e y1 ⟨rfl, bb⟩
            have HS : Below w8.heap.size w8 y1 := HS.trans (bb.mono HS.size)
            clear bb
            refine ⟨_, rfl, HS, ?_⟩
            try simp only [Act.put, List.setIfInBounds_toArray, List.set_cons_zero, List.set_cons_succ]
            refine FirstH.goG (i := 6) (v := .bool false) rfl (by rfl) 134 rfl (Op.binOp BinOp.neq 45 (Operand.tmp 132) (Operand.tmp 133) 45) rfl (by kernel_rfl) (fun _ _ _ h => h) inv (fun W hS => by have e := neqRess cc vv W; unfold bareO; go_simp) HS (fun inv => ?_)
            try simp only [Act.put, List.setIfInBounds_toArray, List.set_cons_zero, List.set_cons_succ]
            refine FirstH.go (i := 7) (v := .bool false) rfl rfl 135 rfl (Op.pick (Operand.tmp 130) (Operand.const (Value.bool true)) (Operand.tmp 134)) rfl (by kernel_rfl) (fun _ _ _ h => h) inv (fun W hS => by unfold bareO; go_simp) HS (fun inv => ?_)
            try simp only [Act.put, List.setIfInBounds_toArray, List.set_cons_zero, List.set_cons_succ]
            refine FirstH.go (i := 8) (v := .bool false) rfl rfl 136 rfl (Op.move (Operand.tmp 135)) rfl (by kernel_rfl) (fun _ _ _ h => h) inv (fun W hS => by unfold bareO; go_simp) HS (fun inv => ?_)
            try simp only [Act.put, List.setIfInBounds_toArray, List.set_cons_zero, List.set_cons_succ]
            refine FirstH.goG (i := 9) (v := .bool ee) rfl (by rfl) 137 rfl (Op.move (Operand.tmp 11)) rfl (by kernel_rfl) (fun _ _ _ h => h) inv (fun W hS => by unfold bareO; go_simp) HS (fun inv => ?_)
            try simp only [Act.put, List.setIfInBounds_toArray, List.set_cons_zero, List.set_cons_succ]
            refine FirstH.goG (i := 10) (v := .bool ee) rfl (by rfl) 138 rfl (Op.move (Operand.tmp 13)) rfl (by kernel_rfl) (fun _ _ _ h => h) inv (fun W hS => by unfold bareO; go_simp) HS (fun inv => ?_)
            try simp only [Act.put, List.setIfInBounds_toArray, List.set_cons_zero, List.set_cons_succ]
            refine FirstH.goG (i := 11) (v := .bool false) rfl (by rfl) 139 rfl (Op.binOp BinOp.neq 4 (Operand.tmp 137) (Operand.tmp 138) 4) rfl (by kernel_rfl) (fun _ _ _ h => h) inv (fun W hS => by unfold bareO; go_simp) HS (fun inv => ?_)
            try simp only [Act.put, List.setIfInBounds_toArray, List.set_cons_zero, List.set_cons_succ]
            refine FirstH.go (i := 12) (v := .bool false) rfl rfl 140 rfl (Op.pick (Operand.tmp 136) (Operand.const (Value.bool true)) (Operand.tmp 139)) rfl (by kernel_rfl) (fun _ _ _ h => h) inv (fun W hS => by unfold bareO; go_simp) HS (fun inv => ?_)
            try simp only [Act.put, List.setIfInBounds_toArray, List.set_cons_zero, List.set_cons_succ]
            refine FirstH.go (i := 13) (v := .bool false) rfl rfl 141 rfl (Op.move (Operand.tmp 140)) rfl (by kernel_rfl) (fun _ _ _ h => h) inv (fun W hS => by unfold bareO; go_simp) HS (fun inv => ?_)
            try simp only [Act.put, List.setIfInBounds_toArray, List.set_cons_zero, List.set_cons_succ]
            refine FirstH.goG (i := 14) (v := .pointer (some ⟨p2, 0, none⟩)) rfl (by rfl) 142 rfl (Op.move (Operand.tmp 5)) rfl (by kernel_rfl) (fun _ _ _ h => h) inv (fun W hS => by unfold bareO; go_simp) HS (fun inv => ?_)
            try simp only [Act.put, List.setIfInBounds_toArray, List.set_cons_zero, List.set_cons_succ]
            refine FirstH.goG (i := 15) (v := .agg #[.int .u8 x.n, .int .u16 x.l, .int .u32 x.s, .int .u8 x.d, .int .u8 x.a0, .int .u8 x.a1, .int .u8 x.b0, .int .u8 x.b1, .int .u8 x.c0, .int .u8 x.c1]) rfl (by rfl) 143 rfl (Op.load 37 (Operand.tmp 8)) rfl (by kernel_rfl) (fun _ _ _ h => h) inv (fun W hS => by have hb0 := (hS.block _ (bltA RI.out)).trans RI.out; have c0 := cell_of hb0 0 (.int .u8 x.n) rfl; have c1 := cell_of hb0 1 (.int .u16 x.l) rfl; have c2 := cell_of hb0 2 (.int .u32 x.s) rfl; have c3 := cell_of hb0 3 (.int .u8 x.d) rfl; have c4 := cell_of hb0 4 (.int .u8 x.a0) rfl; have c5 := cell_of hb0 5 (.int .u8 x.a1) rfl; have c6 := cell_of hb0 6 (.int .u8 x.b0) rfl; have c7 := cell_of hb0 7 (.int .u8 x.b1) rfl; have c8 := cell_of hb0 8 (.int .u8 x.c0) rfl; have c9 := cell_of hb0 9 (.int .u8 x.c1) rfl; unfold bareO; go_simp) HS (fun inv => ?_)
            try simp only [Act.put, List.setIfInBounds_toArray, List.set_cons_zero, List.set_cons_succ]
            refine FirstH.goG (i := 17) (v := .pointer (some ⟨r, 0, none⟩)) rfl (by rfl) 145 rfl (Op.move (Operand.tmp 6)) rfl (by kernel_rfl) (fun _ _ _ h => h) inv (fun W hS => by unfold bareO; go_simp) HS (fun inv => ?_)
            try simp only [Act.put, List.setIfInBounds_toArray, List.set_cons_zero, List.set_cons_succ]
            refine FirstH.goG (i := 18) (v := .slice (some ⟨rb, ro, none⟩) n c) rfl (by rfl) 146 rfl (Op.move (Operand.tmp 1)) rfl (by kernel_rfl) (fun _ _ _ h => h) inv (fun W hS => by unfold bareO; go_simp) HS (fun inv => ?_)
            try simp only [Act.put, List.setIfInBounds_toArray, List.set_cons_zero, List.set_cons_succ]
            refine FirstH.goG (i := 19) (v := .int .i64 i) rfl (by rfl) 147 rfl (Op.move (Operand.tmp 7)) rfl (by kernel_rfl) (fun _ _ _ h => h) inv (fun W hS => by unfold bareO; go_simp) HS (fun inv => ?_)
            try simp only [Act.put, List.setIfInBounds_toArray, List.set_cons_zero, List.set_cons_succ]
            refine FirstH.goG (i := 20) (v := .pointer (some ⟨rb, (ro + i * 14), none⟩)) rfl (by rfl) 148 rfl (Op.indexAddr 22 (Operand.tmp 146) (Operand.tmp 147)) rfl (by kernel_rfl) (fun _ _ _ h => h) inv (fun W hS => by unfold bareO; go_simp) HS (fun inv => ?_)
            try simp only [Act.put, List.setIfInBounds_toArray, List.set_cons_zero, List.set_cons_succ]
            refine FirstH.goG (i := 21) (v := .pointer (some ⟨rb, (ro + i * 14 + 1), none⟩)) rfl (by rfl) 149 rfl (Op.fieldAddr 47 (Operand.tmp 148) 1) rfl (by kernel_rfl) (fun _ _ _ h => h) inv (fun W hS => by unfold bareO; go_simp) HS (fun inv => ?_)
            try simp only [Act.put, List.setIfInBounds_toArray, List.set_cons_zero, List.set_cons_succ]
            refine FirstH.goG (i := 22) (v := .agg #[.int .u8 x.n, .int .u16 x.l, .int .u32 x.s, .int .u8 x.d, .int .u8 x.a0, .int .u8 x.a1, .int .u8 x.b0, .int .u8 x.b1, .int .u8 x.c0, .int .u8 x.c1]) rfl (by rfl) 150 rfl (Op.load 43 (Operand.tmp 149)) rfl (by kernel_rfl) (fun _ _ _ h => h) inv (fun W hS => by have c0 := CX.out W hS 1 (.int .u8 x.n) rfl; have c1 := CX.out W hS 2 (.int .u16 x.l) rfl; have c2 := CX.out W hS 3 (.int .u32 x.s) rfl; have c3 := CX.out W hS 4 (.int .u8 x.d) rfl; have c4 := CX.out W hS 5 (.int .u8 x.a0) rfl; have c5 := CX.out W hS 6 (.int .u8 x.a1) rfl; have c6 := CX.out W hS 7 (.int .u8 x.b0) rfl; have c7 := CX.out W hS 8 (.int .u8 x.b1) rfl; have c8 := CX.out W hS 9 (.int .u8 x.c0) rfl; have c9 := CX.out W hS 10 (.int .u8 x.c1) rfl; unfold bareO; go_simp) HS (fun inv => ?_)
            try simp only [Act.put, List.setIfInBounds_toArray, List.set_cons_zero, List.set_cons_succ]
            refine FirstH.only (i := 16) (by kernel_rfl) (by decide) inv (fun inv => wpOp_callG (i := 16) rfl (by rfl) 144 rfl (Op.call { callee := Callee.value (.func 23), args := #[Operand.tmp 142, Operand.tmp 143], argTypes := #[25, 37] }) rfl 23 #[.pointer (some ⟨p2, 0, none⟩), .agg #[.int .u8 x.n, .int .u16 x.l, .int .u32 x.s, .int .u8 x.d, .int .u8 x.a0, .int .u8 x.a1, .int .u8 x.b0, .int .u8 x.b1, .int .u8 x.c0, .int .u8 x.c1]] (by unfold bareO; go_simp) (KST.out y1 (P8.out.below HS)) ?_)
            rintro e y2 ⟨rfl, bb⟩
            have HS : Below w8.heap.size w8 y2 := HS.trans (bb.mono HS.size)
            clear bb
            refine ⟨_, rfl, HS, ?_⟩
            try simp only [Act.put, List.setIfInBounds_toArray, List.set_cons_zero, List.set_cons_succ]
            refine FirstH.only (i := 23) (by kernel_rfl) (by decide) inv (fun inv => wpOp_callG (i := 23) rfl (by rfl) 151 rfl (Op.call { callee := Callee.value (.func 24), args := #[Operand.tmp 145, Operand.tmp 150], argTypes := #[27, 43] }) rfl 24 #[.pointer (some ⟨r, 0, none⟩), .agg #[.int .u8 x.n, .int .u16 x.l, .int .u32 x.s, .int .u8 x.d, .int .u8 x.a0, .int .u8 x.a1, .int .u8 x.b0, .int .u8 x.b1, .int .u8 x.c0, .int .u8 x.c1]] (by unfold bareO; go_simp) (KSD.out y2 (D8.out.below HS)) ?_)
            rintro e y3 ⟨rfl, bb⟩
            have HS : Below w8.heap.size w8 y3 := HS.trans (bb.mono HS.size)
            clear bb
            refine ⟨_, rfl, HS, ?_⟩
            try simp only [Act.put, List.setIfInBounds_toArray, List.set_cons_zero, List.set_cons_succ]
            refine FirstH.goG (i := 24) (v := .bool false) rfl (by rfl) 152 rfl (Op.binOp BinOp.neq 3 (Operand.tmp 144) (Operand.tmp 151) 3) rfl (by kernel_rfl) (fun _ _ _ h => h) inv (fun W hS => by unfold bareO; go_simp) HS (fun inv => ?_)
            try simp only [Act.put, List.setIfInBounds_toArray, List.set_cons_zero, List.set_cons_succ]
            refine FirstH.go (i := 25) (v := .bool false) rfl rfl 153 rfl (Op.pick (Operand.tmp 141) (Operand.const (Value.bool true)) (Operand.tmp 152)) rfl (by kernel_rfl) (fun _ _ _ h => h) inv (fun W hS => by unfold bareO; go_simp) HS (fun inv => ?_)
            try simp only [Act.put, List.setIfInBounds_toArray, List.set_cons_zero, List.set_cons_succ]
            refine FirstH.go (i := 26) (v := .bool false) rfl rfl 154 rfl (Op.move (Operand.tmp 153)) rfl (by kernel_rfl) (fun _ _ _ h => h) inv (fun W hS => by unfold bareO; go_simp) HS (fun inv => ?_)
            try simp only [Act.put, List.setIfInBounds_toArray, List.set_cons_zero, List.set_cons_succ]
            refine FirstH.goG (i := 27) (v := .pointer (some ⟨p2, 0, none⟩)) rfl (by rfl) 155 rfl (Op.move (Operand.tmp 5)) rfl (by kernel_rfl) (fun _ _ _ h => h) inv (fun W hS => by unfold bareO; go_simp) HS (fun inv => ?_)
            try simp only [Act.put, List.setIfInBounds_toArray, List.set_cons_zero, List.set_cons_succ]
            refine FirstH.goG (i := 28) (v := .pointer (some ⟨ka, 0, none⟩)) rfl (by rfl) 156 rfl (Op.fieldAddr 37 (Operand.tmp 8) 0) rfl (by kernel_rfl) (fun _ _ _ h => h) inv (fun W hS => by unfold bareO; go_simp) HS (fun inv => ?_)
            try simp only [Act.put, List.setIfInBounds_toArray, List.set_cons_zero, List.set_cons_succ]
            refine FirstH.goG (i := 29) (v := .agg #[.int .u8 x.n, .int .u16 x.l]) rfl (by rfl) 157 rfl (Op.load 31 (Operand.tmp 156)) rfl (by kernel_rfl) (fun _ _ _ h => h) inv (fun W hS => by have hb0 := (hS.block _ (bltA RI.out)).trans RI.out; have c0 := cell_of hb0 0 (.int .u8 x.n) rfl; have c1 := cell_of hb0 1 (.int .u16 x.l) rfl; unfold bareO; go_simp) HS (fun inv => ?_)
            try simp only [Act.put, List.setIfInBounds_toArray, List.set_cons_zero, List.set_cons_succ]
            refine FirstH.goG (i := 31) (v := .pointer (some ⟨r, 0, none⟩)) rfl (by rfl) 159 rfl (Op.move (Operand.tmp 6)) rfl (by kernel_rfl) (fun _ _ _ h => h) inv (fun W hS => by unfold bareO; go_simp) HS (fun inv => ?_)
            try simp only [Act.put, List.setIfInBounds_toArray, List.set_cons_zero, List.set_cons_succ]
            refine FirstH.goG (i := 32) (v := .slice (some ⟨rb, ro, none⟩) n c) rfl (by rfl) 160 rfl (Op.move (Operand.tmp 1)) rfl (by kernel_rfl) (fun _ _ _ h => h) inv (fun W hS => by unfold bareO; go_simp) HS (fun inv => ?_)
            try simp only [Act.put, List.setIfInBounds_toArray, List.set_cons_zero, List.set_cons_succ]
            refine FirstH.goG (i := 33) (v := .int .i64 i) rfl (by rfl) 161 rfl (Op.move (Operand.tmp 7)) rfl (by kernel_rfl) (fun _ _ _ h => h) inv (fun W hS => by unfold bareO; go_simp) HS (fun inv => ?_)
            try simp only [Act.put, List.setIfInBounds_toArray, List.set_cons_zero, List.set_cons_succ]
            refine FirstH.goG (i := 34) (v := .pointer (some ⟨rb, (ro + i * 14), none⟩)) rfl (by rfl) 162 rfl (Op.indexAddr 22 (Operand.tmp 160) (Operand.tmp 161)) rfl (by kernel_rfl) (fun _ _ _ h => h) inv (fun W hS => by unfold bareO; go_simp) HS (fun inv => ?_)
            try simp only [Act.put, List.setIfInBounds_toArray, List.set_cons_zero, List.set_cons_succ]
            refine FirstH.goG (i := 35) (v := .pointer (some ⟨rb, (ro + i * 14 + 1), none⟩)) rfl (by rfl) 163 rfl (Op.fieldAddr 47 (Operand.tmp 162) 1) rfl (by kernel_rfl) (fun _ _ _ h => h) inv (fun W hS => by unfold bareO; go_simp) HS (fun inv => ?_)
            try simp only [Act.put, List.setIfInBounds_toArray, List.set_cons_zero, List.set_cons_succ]
            refine FirstH.goG (i := 36) (v := .pointer (some ⟨rb, (ro + i * 14 + 1), none⟩)) rfl (by rfl) 164 rfl (Op.fieldAddr 43 (Operand.tmp 163) 0) rfl (by kernel_rfl) (fun _ _ _ h => h) inv (fun W hS => by unfold bareO; go_simp) HS (fun inv => ?_)
            try simp only [Act.put, List.setIfInBounds_toArray, List.set_cons_zero, List.set_cons_succ]
            refine FirstH.goG (i := 37) (v := .agg #[.int .u8 x.n, .int .u16 x.l]) rfl (by rfl) 165 rfl (Op.load 39 (Operand.tmp 164)) rfl (by kernel_rfl) (fun _ _ _ h => h) inv (fun W hS => by have c0 := CX.out W hS 1 (.int .u8 x.n) rfl; have c1 := CX.out W hS 2 (.int .u16 x.l) rfl; unfold bareO; go_simp) HS (fun inv => ?_)
            try simp only [Act.put, List.setIfInBounds_toArray, List.set_cons_zero, List.set_cons_succ]
            refine FirstH.only (i := 30) (by kernel_rfl) (by decide) inv (fun inv => wpOp_callG (i := 30) rfl (by rfl) 158 rfl (Op.call { callee := Callee.value (.func 25), args := #[Operand.tmp 155, Operand.tmp 157], argTypes := #[25, 31] }) rfl 25 #[.pointer (some ⟨p2, 0, none⟩), .agg #[.int .u8 x.n, .int .u16 x.l]] (by unfold bareO; go_simp) (KFL.out y3 (P8.out.below HS)) ?_)
            rintro e y4 ⟨rfl, bb⟩
            have HS : Below w8.heap.size w8 y4 := HS.trans (bb.mono HS.size)
            clear bb
            refine ⟨_, rfl, HS, ?_⟩
            try simp only [Act.put, List.setIfInBounds_toArray, List.set_cons_zero, List.set_cons_succ]
            refine FirstH.only (i := 38) (by kernel_rfl) (by decide) inv (fun inv => wpOp_callG (i := 38) rfl (by rfl) 166 rfl (Op.call { callee := Callee.value (.func 26), args := #[Operand.tmp 159, Operand.tmp 165], argTypes := #[27, 39] }) rfl 26 #[.pointer (some ⟨r, 0, none⟩), .agg #[.int .u8 x.n, .int .u16 x.l]] (by unfold bareO; go_simp) (KFD.out y4 (D8.out.below HS)) ?_)
            rintro e y5 ⟨rfl, bb⟩
            have HS : Below w8.heap.size w8 y5 := HS.trans (bb.mono HS.size)
            clear bb
            refine ⟨_, rfl, HS, ?_⟩
            try simp only [Act.put, List.setIfInBounds_toArray, List.set_cons_zero, List.set_cons_succ]
            refine FirstH.goG (i := 39) (v := .bool false) rfl (by rfl) 167 rfl (Op.binOp BinOp.neq 32 (Operand.tmp 158) (Operand.tmp 166) 32) rfl (by kernel_rfl) (fun _ _ _ h => h) inv (fun W hS => by unfold bareO; go_simp) HS (fun inv => ?_)
            try simp only [Act.put, List.setIfInBounds_toArray, List.set_cons_zero, List.set_cons_succ]
            refine FirstH.go (i := 40) (v := .bool false) rfl rfl 168 rfl (Op.pick (Operand.tmp 154) (Operand.const (Value.bool true)) (Operand.tmp 167)) rfl (by kernel_rfl) (fun _ _ _ h => h) inv (fun W hS => by unfold bareO; go_simp) HS (fun inv => ?_)
            try simp only [Act.put, List.setIfInBounds_toArray, List.set_cons_zero, List.set_cons_succ]
            refine FirstH.go (i := 41) (v := .bool false) rfl rfl 169 rfl (Op.move (Operand.tmp 168)) rfl (by kernel_rfl) (fun _ _ _ h => h) inv (fun W hS => by unfold bareO; go_simp) HS (fun inv => ?_)
            try simp only [Act.put, List.setIfInBounds_toArray, List.set_cons_zero, List.set_cons_succ]
            refine FirstH.goG (i := 42) (v := .pointer (some ⟨p2, 0, none⟩)) rfl (by rfl) 170 rfl (Op.move (Operand.tmp 5)) rfl (by kernel_rfl) (fun _ _ _ h => h) inv (fun W hS => by unfold bareO; go_simp) HS (fun inv => ?_)
            try simp only [Act.put, List.setIfInBounds_toArray, List.set_cons_zero, List.set_cons_succ]
            refine FirstH.goG (i := 44) (v := .pointer (some ⟨r, 0, none⟩)) rfl (by rfl) 172 rfl (Op.move (Operand.tmp 6)) rfl (by kernel_rfl) (fun _ _ _ h => h) inv (fun W hS => by unfold bareO; go_simp) HS (fun inv => ?_)
            try simp only [Act.put, List.setIfInBounds_toArray, List.set_cons_zero, List.set_cons_succ]
            refine FirstH.goG (i := 45) (v := .pointer (some ⟨r, 0, none⟩)) rfl (by rfl) 173 rfl (Op.nilCheck (Operand.tmp 172)) rfl (by kernel_rfl) (fun _ _ _ h => h) inv (fun W hS => by unfold bareO; go_simp) HS (fun inv => ?_)
            try simp only [Act.put, List.setIfInBounds_toArray, List.set_cons_zero, List.set_cons_succ]
            refine FirstH.goG (i := 46) (v := .pointer (some ⟨r, 1, none⟩)) rfl (by rfl) 174 rfl (Op.fieldAddr 71 (Operand.tmp 173) 1) rfl (by kernel_rfl) (fun _ _ _ h => h) inv (fun W hS => by unfold bareO; go_simp) HS (fun inv => ?_)
            try simp only [Act.put, List.setIfInBounds_toArray, List.set_cons_zero, List.set_cons_succ]
            refine FirstH.goG (i := 47) (v := .slice A2 ln c2) rfl (by rfl) 175 rfl (Op.load 68 (Operand.tmp 174)) rfl (by kernel_rfl) (fun _ _ _ h => h) inv (fun W hS => by have hb0 := (hS.block _ (bltA RT.out)).trans RT.out; have c0 := cell_of hb0 1 (.slice A2 ln c2) rfl; unfold bareO; go_simp) HS (fun inv => ?_)
            try simp only [Act.put, List.setIfInBounds_toArray, List.set_cons_zero, List.set_cons_succ]
            refine FirstH.goG (i := 48) (v := .int .i64 ln) rfl (by rfl) 176 rfl (Op.call { callee := Callee.builtin Builtin.len, args := #[Operand.tmp 175], argTypes := #[68] }) rfl (by kernel_rfl) (fun _ _ _ h => h) inv (fun W hS => by unfold bareO; go_simp) HS (fun inv => ?_)
            try simp only [Act.put, List.setIfInBounds_toArray, List.set_cons_zero, List.set_cons_succ]
            refine FirstH.only (i := 43) (by kernel_rfl) (by decide) inv (fun inv => wpOp_callG (i := 43) rfl (by rfl) 171 rfl (Op.call { callee := Callee.value (.func 27), args := #[Operand.tmp 170], argTypes := #[25] }) rfl 27 #[.pointer (some ⟨p2, 0, none⟩)] (by unfold bareO; go_simp) (KLN.out y5 (P8.out.below HS)) ?_)
            rintro e y6 ⟨rfl, rfl⟩
            refine ⟨_, rfl, HS, ?_⟩
            try simp only [Act.put, List.setIfInBounds_toArray, List.set_cons_zero, List.set_cons_succ]
            refine FirstH.goG (i := 49) (v := .bool false) rfl (by rfl) 177 rfl (Op.binOp BinOp.neq 3 (Operand.tmp 171) (Operand.tmp 176) 3) rfl (by kernel_rfl) (fun _ _ _ h => h) inv (fun W hS => by unfold bareO; go_simp) HS (fun inv => ?_)
            try simp only [Act.put, List.setIfInBounds_toArray, List.set_cons_zero, List.set_cons_succ]
            refine FirstH.go (i := 50) (v := .bool false) rfl rfl 178 rfl (Op.pick (Operand.tmp 169) (Operand.const (Value.bool true)) (Operand.tmp 177)) rfl (by kernel_rfl) (fun _ _ _ h => h) inv (fun W hS => by unfold bareO; go_simp) HS (fun inv => ?_)
            try simp only [Act.put, List.setIfInBounds_toArray, List.set_cons_zero, List.set_cons_succ]
            refine FirstH.go (i := 51) (v := .bool false) rfl rfl 179 rfl (Op.move (Operand.tmp 178)) rfl (by kernel_rfl) (fun _ _ _ h => h) inv (fun W hS => by unfold bareO; go_simp) HS (fun inv => ?_)
            try simp only [Act.put, List.setIfInBounds_toArray, List.set_cons_zero, List.set_cons_succ]
            refine FirstH.goG (i := 52) (v := .pointer (some ⟨p2, 0, none⟩)) rfl (by rfl) 180 rfl (Op.move (Operand.tmp 5)) rfl (by kernel_rfl) (fun _ _ _ h => h) inv (fun W hS => by unfold bareO; go_simp) HS (fun inv => ?_)
            try simp only [Act.put, List.setIfInBounds_toArray, List.set_cons_zero, List.set_cons_succ]
            refine FirstH.goG (i := 54) (v := .pointer (some ⟨r, 0, none⟩)) rfl (by rfl) 182 rfl (Op.move (Operand.tmp 6)) rfl (by kernel_rfl) (fun _ _ _ h => h) inv (fun W hS => by unfold bareO; go_simp) HS (fun inv => ?_)
            try simp only [Act.put, List.setIfInBounds_toArray, List.set_cons_zero, List.set_cons_succ]
            refine FirstH.goG (i := 55) (v := .pointer (some ⟨r, 0, none⟩)) rfl (by rfl) 183 rfl (Op.nilCheck (Operand.tmp 182)) rfl (by kernel_rfl) (fun _ _ _ h => h) inv (fun W hS => by unfold bareO; go_simp) HS (fun inv => ?_)
            try simp only [Act.put, List.setIfInBounds_toArray, List.set_cons_zero, List.set_cons_succ]
            refine FirstH.goG (i := 56) (v := .pointer (some ⟨r, 1, none⟩)) rfl (by rfl) 184 rfl (Op.fieldAddr 71 (Operand.tmp 183) 1) rfl (by kernel_rfl) (fun _ _ _ h => h) inv (fun W hS => by unfold bareO; go_simp) HS (fun inv => ?_)
            try simp only [Act.put, List.setIfInBounds_toArray, List.set_cons_zero, List.set_cons_succ]
            refine FirstH.goG (i := 57) (v := .slice A2 ln c2) rfl (by rfl) 185 rfl (Op.load 68 (Operand.tmp 184)) rfl (by kernel_rfl) (fun _ _ _ h => h) inv (fun W hS => by have hb0 := (hS.block _ (bltA RT.out)).trans RT.out; have c0 := cell_of hb0 1 (.slice A2 ln c2) rfl; unfold bareO; go_simp) HS (fun inv => ?_)
            try simp only [Act.put, List.setIfInBounds_toArray, List.set_cons_zero, List.set_cons_succ]
            refine FirstH.only (i := 53) (by kernel_rfl) (by decide) inv (fun inv => wpOp_callG (i := 53) rfl (by rfl) 181 rfl (Op.call { callee := Callee.value (.func 29), args := #[Operand.tmp 180], argTypes := #[25] }) rfl 29 #[.pointer (some ⟨p2, 0, none⟩)] (by unfold bareO; go_simp) (KAL.out y5 (P8.out.below HS)) ?_)
            rintro e y7 ⟨Aa, ca, rfl, hrp, hca, hcam, bb⟩
            have HS : Below w8.heap.size w8 y7 := HS.trans (bb.mono HS.size)
            have HRP := Lib.hid hrp
            have HCA := Lib.hid (And.intro hca hcam)
            clear hrp hca hcam
            clear bb
            refine ⟨_, rfl, HS, ?_⟩
            try simp only [Act.put, List.setIfInBounds_toArray, List.set_cons_zero, List.set_cons_succ]
            refine FirstH.only (i := 58) (by kernel_rfl) (by decide) inv (fun inv => wpOp_callG (i := 58) rfl (by rfl) 186 rfl (Op.call { callee := Callee.value (.func 28), args := #[Operand.tmp 181, Operand.tmp 185], argTypes := #[73, 68] }) rfl 28 #[.slice Aa ln ca, .slice A2 ln c2] (by unfold bareO; go_simp) (KRW.out y7 HS Aa ca HRP.out HCA.out.1 HCA.out.2) ?_)
            rintro e y8 ⟨rfl, bb⟩
            have HS : Below w8.heap.size w8 y8 := HS.trans (bb.mono HS.size)
            clear bb
            refine ⟨_, rfl, HS, ?_⟩
            try simp only [Act.put, List.setIfInBounds_toArray, List.set_cons_zero, List.set_cons_succ]
            refine FirstH.goG (i := 59) (v := .bool false) rfl (by rfl) 187 rfl (Op.unOp UnOp.not 4 (Operand.tmp 186)) rfl (by kernel_rfl) (fun _ _ _ h => h) inv (fun W hS => by unfold bareO; go_simp) HS (fun inv => ?_)
            try simp only [Act.put, List.setIfInBounds_toArray, List.set_cons_zero, List.set_cons_succ]
            refine ⟨by kernel_rfl, ?_⟩
            simp only [List.drop_succ_cons, List.drop_zero]
            have P9 := Lib.hid (P8.out.below HS)
            have D9 := Lib.hid (D8.out.below HS)
            have BB9 : Hid (Below w1.heap.size w1 y8) := Lib.hid (BB3.out.trans ((KW.out.trans (KP.of_below (B8.out.trans (HS.mono B8.out.size)) : KP (fun q => w1.heap.size ≤ q ∧ q ≠ ka) w y8) (fun i _ e => e)).below BB3.out.size (fun k e => e.1)))
            clear inv HS
            go_wp2_with fail
            exact ⟨⟨i + 1, p2, m2, k2, t2, _, fv2, by have := HIN.out; omega, by go_num, rfl, P9, D9, GW, BB9⟩, by have := HIN.out; simp [intOf]; omega⟩)
        have HS0 : Hid (KP (fun q => w1.heap.size ≤ q ∧ q ≠ ka) u3 u3) := Lib.hid (KP.refl _ _)
        have PA := P3
        have DA := D3
        have HMK : Hid ((w1.heap.size ≤ m ∧ m ≠ ka) ∧ (w1.heap.size ≤ k ∧ k ≠ ka) ∧ (w1.heap.size ≤ r ∧ r ≠ ka)) := Lib.hid (by
          obtain ⟨_, _, _, ⟨_, _, hm, _⟩, _⟩ := P3.out.rows
          obtain ⟨_, _, _, ⟨_, _, hk, _⟩, _⟩ := P3.out.flo
          refine ⟨⟨HB.out.2.1, fun e => ?_⟩, ⟨HB.out.2.2, fun e => ?_⟩, ⟨HR.out, fun e => ?_⟩⟩
          · rw [e, RK.out] at hm
            cases hm
          · rw [e, RK.out] at hk
            cases hk
          · have := D3.out.blk
            rw [e, RK.out] at this
            injection this with this
            injection this with h1 h2
            exact absurd h2 (by decide))
        have LT : Hid (t.L.length < 1000) := Lib.hid (by have := P3.out.lenL; have := H100.out; have := HIN.out; omega)
        have LF : Hid (t.F.length < 1000) := Lib.hid (by have := P3.out.lenF; have := H100.out; have := HIN.out; omega)
        clear hK HU3 HKE HQ0 P3 D3
        by_cases k0 : kd = 0
        · as_aux_lemma =>
          subst k0
          have kb1 : ∀ X, PT X p m k i t → _ := fun X hX => aBegin X p m k i t hX x HOK.out.2.1 HC.out
          have kb2 : ∀ X, DT X r t lv fv → _ := fun X hX => begD X r t lv fv hX x HOK.out.2.1 LT.out
          obtain ⟨⟨bz, bt⟩, hbg⟩ : ∃ q, t.beg x = q := ⟨_, rfl⟩
          rw [hbg] at kb1 kb2
          dsimp only at kb1 kb2
          have KB1 := Lib.hid kb1
          have KB2 := Lib.hid kb2
          clear kb1 kb2 hbg
          go_wp2_with fail
          refine region_heldT (S := fun X : World => KP (fun q => w1.heap.size ≤ q ∧ q ≠ ka) u3 X) 12 (by kernel_rfl) (by decide) (fun inv => ?_)
          have HS : KP (fun q => w1.heap.size ≤ q ∧ q ≠ ka) u3 u3.drew := HS0.out.trans (KP.of_below (Below.refl _ u3).drew : KP (fun q => w1.heap.size ≤ q ∧ q ≠ ka) u3 u3.drew) (fun i _ e => e)
          have PA := Lib.hid (PA.out.below (Below.refl _ u3).drew)
          have DA := Lib.hid (DA.out.below (Below.refl _ u3).drew)
          change FirstH _ _ _ _ _ _ _ _ _ _ u3.drew
          generalize u3.drew = wd at *
          clear HS0
          refine FirstH.go (i := 0) (v := .pointer (some ⟨p, 0, none⟩)) rfl rfl 47 rfl (Op.move (Operand.tmp 5)) rfl (by kernel_rfl) (fun _ _ _ h => h) inv (fun W hS => by unfold bareO; go_simp) HS (fun inv => ?_)
          try simp only [Act.put, List.setIfInBounds_toArray, List.set_cons_zero, List.set_cons_succ]
          refine FirstH.go (i := 1) (v := .agg #[.int .u8 x.n, .int .u16 x.l, .int .u32 x.s, .int .u8 x.d, .int .u8 x.a0, .int .u8 x.a1, .int .u8 x.b0, .int .u8 x.b1, .int .u8 x.c0, .int .u8 x.c1]) rfl rfl 48 rfl (Op.load 37 (Operand.tmp 8)) rfl (by kernel_rfl) (fun _ _ _ h => h) inv (fun W hS => by have hb0 := (hS.block ka (bltA RK.out) (fun e => e.2 rfl)).trans RK.out; have c0 := cell_of hb0 0 (.int .u8 x.n) rfl; have c1 := cell_of hb0 1 (.int .u16 x.l) rfl; have c2 := cell_of hb0 2 (.int .u32 x.s) rfl; have c3 := cell_of hb0 3 (.int .u8 x.d) rfl; have c4 := cell_of hb0 4 (.int .u8 x.a0) rfl; have c5 := cell_of hb0 5 (.int .u8 x.a1) rfl; have c6 := cell_of hb0 6 (.int .u8 x.b0) rfl; have c7 := cell_of hb0 7 (.int .u8 x.b1) rfl; have c8 := cell_of hb0 8 (.int .u8 x.c0) rfl; have c9 := cell_of hb0 9 (.int .u8 x.c1) rfl; unfold bareO; go_simp) HS (fun inv => ?_)
          try simp only [Act.put, List.setIfInBounds_toArray, List.set_cons_zero, List.set_cons_succ]
          refine FirstH.go (i := 4) (v := .pointer (some ⟨r, 0, none⟩)) rfl rfl 51 rfl (Op.move (Operand.tmp 6)) rfl (by kernel_rfl) (fun _ _ _ h => h) inv (fun W hS => by unfold bareO; go_simp) HS (fun inv => ?_)
          try simp only [Act.put, List.setIfInBounds_toArray, List.set_cons_zero, List.set_cons_succ]
          refine FirstH.go (i := 5) (v := .slice (some ⟨rb, ro, none⟩) n c) rfl rfl 52 rfl (Op.move (Operand.tmp 1)) rfl (by kernel_rfl) (fun _ _ _ h => h) inv (fun W hS => by unfold bareO; go_simp) HS (fun inv => ?_)
          try simp only [Act.put, List.setIfInBounds_toArray, List.set_cons_zero, List.set_cons_succ]
          refine FirstH.go (i := 6) (v := .int .i64 i) rfl rfl 53 rfl (Op.move (Operand.tmp 7)) rfl (by kernel_rfl) (fun _ _ _ h => h) inv (fun W hS => by unfold bareO; go_simp) HS (fun inv => ?_)
          try simp only [Act.put, List.setIfInBounds_toArray, List.set_cons_zero, List.set_cons_succ]
          refine FirstH.go (i := 7) (v := .pointer (some ⟨rb, (ro + i * 14), none⟩)) rfl rfl 54 rfl (Op.indexAddr 22 (Operand.tmp 52) (Operand.tmp 53)) rfl (by kernel_rfl) (fun _ _ _ h => h) inv (fun W hS => by unfold bareO; go_simp) HS (fun inv => ?_)
          try simp only [Act.put, List.setIfInBounds_toArray, List.set_cons_zero, List.set_cons_succ]
          refine FirstH.go (i := 8) (v := .pointer (some ⟨rb, (ro + i * 14 + 1), none⟩)) rfl rfl 55 rfl (Op.fieldAddr 47 (Operand.tmp 54) 1) rfl (by kernel_rfl) (fun _ _ _ h => h) inv (fun W hS => by unfold bareO; go_simp) HS (fun inv => ?_)
          try simp only [Act.put, List.setIfInBounds_toArray, List.set_cons_zero, List.set_cons_succ]
          refine FirstH.go (i := 9) (v := .agg #[.int .u8 x.n, .int .u16 x.l, .int .u32 x.s, .int .u8 x.d, .int .u8 x.a0, .int .u8 x.a1, .int .u8 x.b0, .int .u8 x.b1, .int .u8 x.c0, .int .u8 x.c1]) rfl rfl 56 rfl (Op.load 43 (Operand.tmp 55)) rfl (by kernel_rfl) (fun _ _ _ h => h) inv (fun W hS => by have c0 := HROW.out W (K3.out.trans hS (fun i _ e => e.1)) 1 (.int .u8 x.n) rfl; have c1 := HROW.out W (K3.out.trans hS (fun i _ e => e.1)) 2 (.int .u16 x.l) rfl; have c2 := HROW.out W (K3.out.trans hS (fun i _ e => e.1)) 3 (.int .u32 x.s) rfl; have c3 := HROW.out W (K3.out.trans hS (fun i _ e => e.1)) 4 (.int .u8 x.d) rfl; have c4 := HROW.out W (K3.out.trans hS (fun i _ e => e.1)) 5 (.int .u8 x.a0) rfl; have c5 := HROW.out W (K3.out.trans hS (fun i _ e => e.1)) 6 (.int .u8 x.a1) rfl; have c6 := HROW.out W (K3.out.trans hS (fun i _ e => e.1)) 7 (.int .u8 x.b0) rfl; have c7 := HROW.out W (K3.out.trans hS (fun i _ e => e.1)) 8 (.int .u8 x.b1) rfl; have c8 := HROW.out W (K3.out.trans hS (fun i _ e => e.1)) 9 (.int .u8 x.c0) rfl; have c9 := HROW.out W (K3.out.trans hS (fun i _ e => e.1)) 10 (.int .u8 x.c1) rfl; unfold bareO; go_simp) HS (fun inv => ?_)
          try simp only [Act.put, List.setIfInBounds_toArray, List.set_cons_zero, List.set_cons_succ]
          refine FirstH.only (i := 2) (by kernel_rfl) (by decide) inv (fun inv => wpOp_call (i := 2) rfl rfl 49 rfl (Op.call { callee := Callee.value (.func 12), args := #[Operand.tmp 47, Operand.tmp 48], argTypes := #[25, 37] }) rfl 12 #[.pointer (some ⟨p, 0, none⟩), .agg #[.int .u8 x.n, .int .u16 x.l, .int .u32 x.s, .int .u8 x.d, .int .u8 x.a0, .int .u8 x.a1, .int .u8 x.b0, .int .u8 x.b1, .int .u8 x.c0, .int .u8 x.c1]] (by unfold bareO; go_simp) (KB1.out wd PA.out) ?_)
          rintro e y1 ⟨rfl, p1, k1⟩
          have PB := Lib.hid p1
          have DA := Lib.hid (DA.out.progK PA.out (k1.mono (fun q e => .inl e)))
          have HS : KP (fun q => w1.heap.size ≤ q ∧ q ≠ ka) u3 y1 := HS.trans k1 (fun i hi e => e ▸ HMK.out.1)
          clear p1 k1
          refine ⟨_, rfl, HS, ?_⟩
          try simp only [Act.put, List.setIfInBounds_toArray, List.set_cons_zero, List.set_cons_succ]
          refine FirstH.only (i := 3) (by kernel_rfl) (by decide) inv (fun inv => wpOp_call (i := 3) rfl rfl 50 rfl (Op.call { callee := Callee.value (.func 11), args := #[Operand.tmp 49], argTypes := #[49] }) rfl 11 #[.int .i64 bz] (by unfold bareO; go_simp) (numA _ _) ?_)
          rintro e y2 ⟨rfl, rfl⟩
          refine ⟨_, rfl, HS, ?_⟩
          try simp only [Act.put, List.setIfInBounds_toArray, List.set_cons_zero, List.set_cons_succ]
          refine FirstH.only (i := 10) (by kernel_rfl) (by decide) inv (fun inv => wpOp_call (i := 10) rfl rfl 57 rfl (Op.call { callee := Callee.value (.func 13), args := #[Operand.tmp 51, Operand.tmp 56], argTypes := #[27, 43] }) rfl 13 #[.pointer (some ⟨r, 0, none⟩), .agg #[.int .u8 x.n, .int .u16 x.l, .int .u32 x.s, .int .u8 x.d, .int .u8 x.a0, .int .u8 x.a1, .int .u8 x.b0, .int .u8 x.b1, .int .u8 x.c0, .int .u8 x.c1]] (by unfold bareO; go_simp) (KB2.out y1 DA.out) ?_)
          rintro e y3 ⟨rfl, lv2, d3, k3⟩
          have PB := Lib.hid (PB.out.docK DA.out k3)
          have DB := Lib.hid d3
          have HS : KP (fun q => w1.heap.size ≤ q ∧ q ≠ ka) u3 y3 := HS.trans k3 (fun i hi e => e ▸ HMK.out.2.2)
          clear d3 k3
          refine ⟨_, rfl, HS, ?_⟩
          try simp only [Act.put, List.setIfInBounds_toArray, List.set_cons_zero, List.set_cons_succ]
          refine FirstH.go (i := 11) (v := .bool true) rfl rfl 58 rfl (Op.binOp BinOp.eql 3 (Operand.tmp 50) (Operand.tmp 57) 3) rfl (by kernel_rfl) (fun _ _ _ h => h) inv (fun W hS => by unfold bareO; go_simp) HS (fun inv => ?_)
          try simp only [Act.put, List.setIfInBounds_toArray, List.set_cons_zero, List.set_cons_succ]
          refine ⟨by kernel_rfl, ?_⟩
          simp only [List.drop_succ_cons, List.drop_zero]
          have HSZ := Lib.hid HS
          clear inv HS
          go_wp2_with fail
          exact KEY.out p m k bt lv2 fv _ PB.out DB.out HB.out HSZ.out
        by_cases k1 : kd = 1
        · as_aux_lemma =>
          subst k1
          have kb1 : ∀ X, PT X p m k i t → _ := fun X hX => aBegin X p m k i t hX x HOK.out.2.1 HC.out
          have kb2 : ∀ X, DT X r t lv fv → _ := fun X hX => begD X r t lv fv hX x HOK.out.2.1 LT.out
          obtain ⟨⟨bz, bt⟩, hbg⟩ : ∃ q, t.beg x = q := ⟨_, rfl⟩
          rw [hbg] at kb1 kb2
          dsimp only at kb1 kb2
          have KB1 := Lib.hid kb1
          have KB2 := Lib.hid kb2
          clear kb1 kb2 hbg
          go_wp2_with fail
          refine region_heldT (S := fun X : World => KP (fun q => w1.heap.size ≤ q ∧ q ≠ ka) u3 X) 12 (by kernel_rfl) (by decide) (fun inv => ?_)
          have HS : KP (fun q => w1.heap.size ≤ q ∧ q ≠ ka) u3 u3.drew := HS0.out.trans (KP.of_below (Below.refl _ u3).drew : KP (fun q => w1.heap.size ≤ q ∧ q ≠ ka) u3 u3.drew) (fun i _ e => e)
          have PA := Lib.hid (PA.out.below (Below.refl _ u3).drew)
          have DA := Lib.hid (DA.out.below (Below.refl _ u3).drew)
          change FirstH _ _ _ _ _ _ _ _ _ _ u3.drew
          generalize u3.drew = wd at *
          clear HS0
          refine FirstH.go (i := 0) (v := .pointer (some ⟨p, 0, none⟩)) rfl rfl 47 rfl (Op.move (Operand.tmp 5)) rfl (by kernel_rfl) (fun _ _ _ h => h) inv (fun W hS => by unfold bareO; go_simp) HS (fun inv => ?_)
          try simp only [Act.put, List.setIfInBounds_toArray, List.set_cons_zero, List.set_cons_succ]
          refine FirstH.go (i := 1) (v := .agg #[.int .u8 x.n, .int .u16 x.l, .int .u32 x.s, .int .u8 x.d, .int .u8 x.a0, .int .u8 x.a1, .int .u8 x.b0, .int .u8 x.b1, .int .u8 x.c0, .int .u8 x.c1]) rfl rfl 48 rfl (Op.load 37 (Operand.tmp 8)) rfl (by kernel_rfl) (fun _ _ _ h => h) inv (fun W hS => by have hb0 := (hS.block ka (bltA RK.out) (fun e => e.2 rfl)).trans RK.out; have c0 := cell_of hb0 0 (.int .u8 x.n) rfl; have c1 := cell_of hb0 1 (.int .u16 x.l) rfl; have c2 := cell_of hb0 2 (.int .u32 x.s) rfl; have c3 := cell_of hb0 3 (.int .u8 x.d) rfl; have c4 := cell_of hb0 4 (.int .u8 x.a0) rfl; have c5 := cell_of hb0 5 (.int .u8 x.a1) rfl; have c6 := cell_of hb0 6 (.int .u8 x.b0) rfl; have c7 := cell_of hb0 7 (.int .u8 x.b1) rfl; have c8 := cell_of hb0 8 (.int .u8 x.c0) rfl; have c9 := cell_of hb0 9 (.int .u8 x.c1) rfl; unfold bareO; go_simp) HS (fun inv => ?_)
          try simp only [Act.put, List.setIfInBounds_toArray, List.set_cons_zero, List.set_cons_succ]
          refine FirstH.go (i := 4) (v := .pointer (some ⟨r, 0, none⟩)) rfl rfl 51 rfl (Op.move (Operand.tmp 6)) rfl (by kernel_rfl) (fun _ _ _ h => h) inv (fun W hS => by unfold bareO; go_simp) HS (fun inv => ?_)
          try simp only [Act.put, List.setIfInBounds_toArray, List.set_cons_zero, List.set_cons_succ]
          refine FirstH.go (i := 5) (v := .slice (some ⟨rb, ro, none⟩) n c) rfl rfl 52 rfl (Op.move (Operand.tmp 1)) rfl (by kernel_rfl) (fun _ _ _ h => h) inv (fun W hS => by unfold bareO; go_simp) HS (fun inv => ?_)
          try simp only [Act.put, List.setIfInBounds_toArray, List.set_cons_zero, List.set_cons_succ]
          refine FirstH.go (i := 6) (v := .int .i64 i) rfl rfl 53 rfl (Op.move (Operand.tmp 7)) rfl (by kernel_rfl) (fun _ _ _ h => h) inv (fun W hS => by unfold bareO; go_simp) HS (fun inv => ?_)
          try simp only [Act.put, List.setIfInBounds_toArray, List.set_cons_zero, List.set_cons_succ]
          refine FirstH.go (i := 7) (v := .pointer (some ⟨rb, (ro + i * 14), none⟩)) rfl rfl 54 rfl (Op.indexAddr 22 (Operand.tmp 52) (Operand.tmp 53)) rfl (by kernel_rfl) (fun _ _ _ h => h) inv (fun W hS => by unfold bareO; go_simp) HS (fun inv => ?_)
          try simp only [Act.put, List.setIfInBounds_toArray, List.set_cons_zero, List.set_cons_succ]
          refine FirstH.go (i := 8) (v := .pointer (some ⟨rb, (ro + i * 14 + 1), none⟩)) rfl rfl 55 rfl (Op.fieldAddr 47 (Operand.tmp 54) 1) rfl (by kernel_rfl) (fun _ _ _ h => h) inv (fun W hS => by unfold bareO; go_simp) HS (fun inv => ?_)
          try simp only [Act.put, List.setIfInBounds_toArray, List.set_cons_zero, List.set_cons_succ]
          refine FirstH.go (i := 9) (v := .agg #[.int .u8 x.n, .int .u16 x.l, .int .u32 x.s, .int .u8 x.d, .int .u8 x.a0, .int .u8 x.a1, .int .u8 x.b0, .int .u8 x.b1, .int .u8 x.c0, .int .u8 x.c1]) rfl rfl 56 rfl (Op.load 43 (Operand.tmp 55)) rfl (by kernel_rfl) (fun _ _ _ h => h) inv (fun W hS => by have c0 := HROW.out W (K3.out.trans hS (fun i _ e => e.1)) 1 (.int .u8 x.n) rfl; have c1 := HROW.out W (K3.out.trans hS (fun i _ e => e.1)) 2 (.int .u16 x.l) rfl; have c2 := HROW.out W (K3.out.trans hS (fun i _ e => e.1)) 3 (.int .u32 x.s) rfl; have c3 := HROW.out W (K3.out.trans hS (fun i _ e => e.1)) 4 (.int .u8 x.d) rfl; have c4 := HROW.out W (K3.out.trans hS (fun i _ e => e.1)) 5 (.int .u8 x.a0) rfl; have c5 := HROW.out W (K3.out.trans hS (fun i _ e => e.1)) 6 (.int .u8 x.a1) rfl; have c6 := HROW.out W (K3.out.trans hS (fun i _ e => e.1)) 7 (.int .u8 x.b0) rfl; have c7 := HROW.out W (K3.out.trans hS (fun i _ e => e.1)) 8 (.int .u8 x.b1) rfl; have c8 := HROW.out W (K3.out.trans hS (fun i _ e => e.1)) 9 (.int .u8 x.c0) rfl; have c9 := HROW.out W (K3.out.trans hS (fun i _ e => e.1)) 10 (.int .u8 x.c1) rfl; unfold bareO; go_simp) HS (fun inv => ?_)
          try simp only [Act.put, List.setIfInBounds_toArray, List.set_cons_zero, List.set_cons_succ]
          refine FirstH.only (i := 2) (by kernel_rfl) (by decide) inv (fun inv => wpOp_call (i := 2) rfl rfl 49 rfl (Op.call { callee := Callee.value (.func 12), args := #[Operand.tmp 47, Operand.tmp 48], argTypes := #[25, 37] }) rfl 12 #[.pointer (some ⟨p, 0, none⟩), .agg #[.int .u8 x.n, .int .u16 x.l, .int .u32 x.s, .int .u8 x.d, .int .u8 x.a0, .int .u8 x.a1, .int .u8 x.b0, .int .u8 x.b1, .int .u8 x.c0, .int .u8 x.c1]] (by unfold bareO; go_simp) (KB1.out wd PA.out) ?_)
          rintro e y1 ⟨rfl, p1, k1⟩
          have PB := Lib.hid p1
          have DA := Lib.hid (DA.out.progK PA.out (k1.mono (fun q e => .inl e)))
          have HS : KP (fun q => w1.heap.size ≤ q ∧ q ≠ ka) u3 y1 := HS.trans k1 (fun i hi e => e ▸ HMK.out.1)
          clear p1 k1
          refine ⟨_, rfl, HS, ?_⟩
          try simp only [Act.put, List.setIfInBounds_toArray, List.set_cons_zero, List.set_cons_succ]
          refine FirstH.only (i := 3) (by kernel_rfl) (by decide) inv (fun inv => wpOp_call (i := 3) rfl rfl 50 rfl (Op.call { callee := Callee.value (.func 11), args := #[Operand.tmp 49], argTypes := #[49] }) rfl 11 #[.int .i64 bz] (by unfold bareO; go_simp) (numA _ _) ?_)
          rintro e y2 ⟨rfl, rfl⟩
          refine ⟨_, rfl, HS, ?_⟩
          try simp only [Act.put, List.setIfInBounds_toArray, List.set_cons_zero, List.set_cons_succ]
          refine FirstH.only (i := 10) (by kernel_rfl) (by decide) inv (fun inv => wpOp_call (i := 10) rfl rfl 57 rfl (Op.call { callee := Callee.value (.func 13), args := #[Operand.tmp 51, Operand.tmp 56], argTypes := #[27, 43] }) rfl 13 #[.pointer (some ⟨r, 0, none⟩), .agg #[.int .u8 x.n, .int .u16 x.l, .int .u32 x.s, .int .u8 x.d, .int .u8 x.a0, .int .u8 x.a1, .int .u8 x.b0, .int .u8 x.b1, .int .u8 x.c0, .int .u8 x.c1]] (by unfold bareO; go_simp) (KB2.out y1 DA.out) ?_)
          rintro e y3 ⟨rfl, lv2, d3, k3⟩
          have PB := Lib.hid (PB.out.docK DA.out k3)
          have DB := Lib.hid d3
          have HS : KP (fun q => w1.heap.size ≤ q ∧ q ≠ ka) u3 y3 := HS.trans k3 (fun i hi e => e ▸ HMK.out.2.2)
          clear d3 k3
          refine ⟨_, rfl, HS, ?_⟩
          try simp only [Act.put, List.setIfInBounds_toArray, List.set_cons_zero, List.set_cons_succ]
          refine FirstH.go (i := 11) (v := .bool true) rfl rfl 58 rfl (Op.binOp BinOp.eql 3 (Operand.tmp 50) (Operand.tmp 57) 3) rfl (by kernel_rfl) (fun _ _ _ h => h) inv (fun W hS => by unfold bareO; go_simp) HS (fun inv => ?_)
          try simp only [Act.put, List.setIfInBounds_toArray, List.set_cons_zero, List.set_cons_succ]
          refine ⟨by kernel_rfl, ?_⟩
          simp only [List.drop_succ_cons, List.drop_zero]
          have HSZ := Lib.hid HS
          clear inv HS
          go_wp2_with fail
          exact KEY.out p m k bt lv2 fv _ PB.out DB.out HB.out HSZ.out
        by_cases k2 : kd = 2
        · as_aux_lemma =>
          subst k2
          have kb1 : ∀ X, PT X p m k i t → _ := fun X hX => aBegin X p m k i t hX x HOK.out.2.1 HC.out
          have kb2 : ∀ X, DT X r t lv fv → _ := fun X hX => begD X r t lv fv hX x HOK.out.2.1 LT.out
          obtain ⟨⟨bz, bt⟩, hbg⟩ : ∃ q, t.beg x = q := ⟨_, rfl⟩
          rw [hbg] at kb1 kb2
          dsimp only at kb1 kb2
          have KB1 := Lib.hid kb1
          have KB2 := Lib.hid kb2
          clear kb1 kb2 hbg
          go_wp2_with fail
          refine region_heldT (S := fun X : World => KP (fun q => w1.heap.size ≤ q ∧ q ≠ ka) u3 X) 12 (by kernel_rfl) (by decide) (fun inv => ?_)
          have HS : KP (fun q => w1.heap.size ≤ q ∧ q ≠ ka) u3 u3.drew := HS0.out.trans (KP.of_below (Below.refl _ u3).drew : KP (fun q => w1.heap.size ≤ q ∧ q ≠ ka) u3 u3.drew) (fun i _ e => e)
          have PA := Lib.hid (PA.out.below (Below.refl _ u3).drew)
          have DA := Lib.hid (DA.out.below (Below.refl _ u3).drew)
          change FirstH _ _ _ _ _ _ _ _ _ _ u3.drew
          generalize u3.drew = wd at *
          clear HS0
          refine FirstH.go (i := 0) (v := .pointer (some ⟨p, 0, none⟩)) rfl rfl 47 rfl (Op.move (Operand.tmp 5)) rfl (by kernel_rfl) (fun _ _ _ h => h) inv (fun W hS => by unfold bareO; go_simp) HS (fun inv => ?_)
          try simp only [Act.put, List.setIfInBounds_toArray, List.set_cons_zero, List.set_cons_succ]
          refine FirstH.go (i := 1) (v := .agg #[.int .u8 x.n, .int .u16 x.l, .int .u32 x.s, .int .u8 x.d, .int .u8 x.a0, .int .u8 x.a1, .int .u8 x.b0, .int .u8 x.b1, .int .u8 x.c0, .int .u8 x.c1]) rfl rfl 48 rfl (Op.load 37 (Operand.tmp 8)) rfl (by kernel_rfl) (fun _ _ _ h => h) inv (fun W hS => by have hb0 := (hS.block ka (bltA RK.out) (fun e => e.2 rfl)).trans RK.out; have c0 := cell_of hb0 0 (.int .u8 x.n) rfl; have c1 := cell_of hb0 1 (.int .u16 x.l) rfl; have c2 := cell_of hb0 2 (.int .u32 x.s) rfl; have c3 := cell_of hb0 3 (.int .u8 x.d) rfl; have c4 := cell_of hb0 4 (.int .u8 x.a0) rfl; have c5 := cell_of hb0 5 (.int .u8 x.a1) rfl; have c6 := cell_of hb0 6 (.int .u8 x.b0) rfl; have c7 := cell_of hb0 7 (.int .u8 x.b1) rfl; have c8 := cell_of hb0 8 (.int .u8 x.c0) rfl; have c9 := cell_of hb0 9 (.int .u8 x.c1) rfl; unfold bareO; go_simp) HS (fun inv => ?_)
          try simp only [Act.put, List.setIfInBounds_toArray, List.set_cons_zero, List.set_cons_succ]
          refine FirstH.go (i := 4) (v := .pointer (some ⟨r, 0, none⟩)) rfl rfl 51 rfl (Op.move (Operand.tmp 6)) rfl (by kernel_rfl) (fun _ _ _ h => h) inv (fun W hS => by unfold bareO; go_simp) HS (fun inv => ?_)
          try simp only [Act.put, List.setIfInBounds_toArray, List.set_cons_zero, List.set_cons_succ]
          refine FirstH.go (i := 5) (v := .slice (some ⟨rb, ro, none⟩) n c) rfl rfl 52 rfl (Op.move (Operand.tmp 1)) rfl (by kernel_rfl) (fun _ _ _ h => h) inv (fun W hS => by unfold bareO; go_simp) HS (fun inv => ?_)
          try simp only [Act.put, List.setIfInBounds_toArray, List.set_cons_zero, List.set_cons_succ]
          refine FirstH.go (i := 6) (v := .int .i64 i) rfl rfl 53 rfl (Op.move (Operand.tmp 7)) rfl (by kernel_rfl) (fun _ _ _ h => h) inv (fun W hS => by unfold bareO; go_simp) HS (fun inv => ?_)
          try simp only [Act.put, List.setIfInBounds_toArray, List.set_cons_zero, List.set_cons_succ]
          refine FirstH.go (i := 7) (v := .pointer (some ⟨rb, (ro + i * 14), none⟩)) rfl rfl 54 rfl (Op.indexAddr 22 (Operand.tmp 52) (Operand.tmp 53)) rfl (by kernel_rfl) (fun _ _ _ h => h) inv (fun W hS => by unfold bareO; go_simp) HS (fun inv => ?_)
          try simp only [Act.put, List.setIfInBounds_toArray, List.set_cons_zero, List.set_cons_succ]
          refine FirstH.go (i := 8) (v := .pointer (some ⟨rb, (ro + i * 14 + 1), none⟩)) rfl rfl 55 rfl (Op.fieldAddr 47 (Operand.tmp 54) 1) rfl (by kernel_rfl) (fun _ _ _ h => h) inv (fun W hS => by unfold bareO; go_simp) HS (fun inv => ?_)
          try simp only [Act.put, List.setIfInBounds_toArray, List.set_cons_zero, List.set_cons_succ]
          refine FirstH.go (i := 9) (v := .agg #[.int .u8 x.n, .int .u16 x.l, .int .u32 x.s, .int .u8 x.d, .int .u8 x.a0, .int .u8 x.a1, .int .u8 x.b0, .int .u8 x.b1, .int .u8 x.c0, .int .u8 x.c1]) rfl rfl 56 rfl (Op.load 43 (Operand.tmp 55)) rfl (by kernel_rfl) (fun _ _ _ h => h) inv (fun W hS => by have c0 := HROW.out W (K3.out.trans hS (fun i _ e => e.1)) 1 (.int .u8 x.n) rfl; have c1 := HROW.out W (K3.out.trans hS (fun i _ e => e.1)) 2 (.int .u16 x.l) rfl; have c2 := HROW.out W (K3.out.trans hS (fun i _ e => e.1)) 3 (.int .u32 x.s) rfl; have c3 := HROW.out W (K3.out.trans hS (fun i _ e => e.1)) 4 (.int .u8 x.d) rfl; have c4 := HROW.out W (K3.out.trans hS (fun i _ e => e.1)) 5 (.int .u8 x.a0) rfl; have c5 := HROW.out W (K3.out.trans hS (fun i _ e => e.1)) 6 (.int .u8 x.a1) rfl; have c6 := HROW.out W (K3.out.trans hS (fun i _ e => e.1)) 7 (.int .u8 x.b0) rfl; have c7 := HROW.out W (K3.out.trans hS (fun i _ e => e.1)) 8 (.int .u8 x.b1) rfl; have c8 := HROW.out W (K3.out.trans hS (fun i _ e => e.1)) 9 (.int .u8 x.c0) rfl; have c9 := HROW.out W (K3.out.trans hS (fun i _ e => e.1)) 10 (.int .u8 x.c1) rfl; unfold bareO; go_simp) HS (fun inv => ?_)
          try simp only [Act.put, List.setIfInBounds_toArray, List.set_cons_zero, List.set_cons_succ]
          refine FirstH.only (i := 2) (by kernel_rfl) (by decide) inv (fun inv => wpOp_call (i := 2) rfl rfl 49 rfl (Op.call { callee := Callee.value (.func 12), args := #[Operand.tmp 47, Operand.tmp 48], argTypes := #[25, 37] }) rfl 12 #[.pointer (some ⟨p, 0, none⟩), .agg #[.int .u8 x.n, .int .u16 x.l, .int .u32 x.s, .int .u8 x.d, .int .u8 x.a0, .int .u8 x.a1, .int .u8 x.b0, .int .u8 x.b1, .int .u8 x.c0, .int .u8 x.c1]] (by unfold bareO; go_simp) (KB1.out wd PA.out) ?_)
          rintro e y1 ⟨rfl, p1, k1⟩
          have PB := Lib.hid p1
          have DA := Lib.hid (DA.out.progK PA.out (k1.mono (fun q e => .inl e)))
          have HS : KP (fun q => w1.heap.size ≤ q ∧ q ≠ ka) u3 y1 := HS.trans k1 (fun i hi e => e ▸ HMK.out.1)
          clear p1 k1
          refine ⟨_, rfl, HS, ?_⟩
          try simp only [Act.put, List.setIfInBounds_toArray, List.set_cons_zero, List.set_cons_succ]
          refine FirstH.only (i := 3) (by kernel_rfl) (by decide) inv (fun inv => wpOp_call (i := 3) rfl rfl 50 rfl (Op.call { callee := Callee.value (.func 11), args := #[Operand.tmp 49], argTypes := #[49] }) rfl 11 #[.int .i64 bz] (by unfold bareO; go_simp) (numA _ _) ?_)
          rintro e y2 ⟨rfl, rfl⟩
          refine ⟨_, rfl, HS, ?_⟩
          try simp only [Act.put, List.setIfInBounds_toArray, List.set_cons_zero, List.set_cons_succ]
          refine FirstH.only (i := 10) (by kernel_rfl) (by decide) inv (fun inv => wpOp_call (i := 10) rfl rfl 57 rfl (Op.call { callee := Callee.value (.func 13), args := #[Operand.tmp 51, Operand.tmp 56], argTypes := #[27, 43] }) rfl 13 #[.pointer (some ⟨r, 0, none⟩), .agg #[.int .u8 x.n, .int .u16 x.l, .int .u32 x.s, .int .u8 x.d, .int .u8 x.a0, .int .u8 x.a1, .int .u8 x.b0, .int .u8 x.b1, .int .u8 x.c0, .int .u8 x.c1]] (by unfold bareO; go_simp) (KB2.out y1 DA.out) ?_)
          rintro e y3 ⟨rfl, lv2, d3, k3⟩
          have PB := Lib.hid (PB.out.docK DA.out k3)
          have DB := Lib.hid d3
          have HS : KP (fun q => w1.heap.size ≤ q ∧ q ≠ ka) u3 y3 := HS.trans k3 (fun i hi e => e ▸ HMK.out.2.2)
          clear d3 k3
          refine ⟨_, rfl, HS, ?_⟩
          try simp only [Act.put, List.setIfInBounds_toArray, List.set_cons_zero, List.set_cons_succ]
          refine FirstH.go (i := 11) (v := .bool true) rfl rfl 58 rfl (Op.binOp BinOp.eql 3 (Operand.tmp 50) (Operand.tmp 57) 3) rfl (by kernel_rfl) (fun _ _ _ h => h) inv (fun W hS => by unfold bareO; go_simp) HS (fun inv => ?_)
          try simp only [Act.put, List.setIfInBounds_toArray, List.set_cons_zero, List.set_cons_succ]
          refine ⟨by kernel_rfl, ?_⟩
          simp only [List.drop_succ_cons, List.drop_zero]
          have HSZ := Lib.hid HS
          clear inv HS
          go_wp2_with fail
          exact KEY.out p m k bt lv2 fv _ PB.out DB.out HB.out HSZ.out
        by_cases k3 : kd = 3
        · as_aux_lemma =>
          subst k3
          have kb1 : ∀ X, PT X p m k i t → _ := fun X hX => aEnd X p m k i t hX x HOK.out.2.1 code val HOK.out.2.2.1 HC.out
          have kb2 : ∀ X, DT X r t lv fv → _ := fun X hX => finD X r t lv fv hX x HOK.out.2.1 code val HOK.out.2.2.1
          obtain ⟨⟨bz, bt⟩, hbg⟩ : ∃ q, t.fin x code val = q := ⟨_, rfl⟩
          rw [hbg] at kb1 kb2
          dsimp only at kb1 kb2
          have KB1 := Lib.hid kb1
          have KB2 := Lib.hid kb2
          clear kb1 kb2 hbg
          go_wp2_with fail
          refine region_heldT (S := fun X : World => KP (fun q => w1.heap.size ≤ q ∧ q ≠ ka) u3 X) 22 (by kernel_rfl) (by decide) (fun inv => ?_)
          have HS : KP (fun q => w1.heap.size ≤ q ∧ q ≠ ka) u3 u3.drew := HS0.out.trans (KP.of_below (Below.refl _ u3).drew : KP (fun q => w1.heap.size ≤ q ∧ q ≠ ka) u3 u3.drew) (fun i _ e => e)
          have PA := Lib.hid (PA.out.below (Below.refl _ u3).drew)
          have DA := Lib.hid (DA.out.below (Below.refl _ u3).drew)
          change FirstH _ _ _ _ _ _ _ _ _ _ u3.drew
          generalize u3.drew = wd at *
          clear HS0
          refine FirstH.go (i := 0) (v := .pointer (some ⟨p, 0, none⟩)) rfl rfl 62 rfl (Op.move (Operand.tmp 5)) rfl (by kernel_rfl) (fun _ _ _ h => h) inv (fun W hS => by unfold bareO; go_simp) HS (fun inv => ?_)
          try simp only [Act.put, List.setIfInBounds_toArray, List.set_cons_zero, List.set_cons_succ]
          refine FirstH.go (i := 1) (v := .agg #[.int .u8 x.n, .int .u16 x.l, .int .u32 x.s, .int .u8 x.d, .int .u8 x.a0, .int .u8 x.a1, .int .u8 x.b0, .int .u8 x.b1, .int .u8 x.c0, .int .u8 x.c1]) rfl rfl 63 rfl (Op.load 37 (Operand.tmp 8)) rfl (by kernel_rfl) (fun _ _ _ h => h) inv (fun W hS => by have hb0 := (hS.block ka (bltA RK.out) (fun e => e.2 rfl)).trans RK.out; have c0 := cell_of hb0 0 (.int .u8 x.n) rfl; have c1 := cell_of hb0 1 (.int .u16 x.l) rfl; have c2 := cell_of hb0 2 (.int .u32 x.s) rfl; have c3 := cell_of hb0 3 (.int .u8 x.d) rfl; have c4 := cell_of hb0 4 (.int .u8 x.a0) rfl; have c5 := cell_of hb0 5 (.int .u8 x.a1) rfl; have c6 := cell_of hb0 6 (.int .u8 x.b0) rfl; have c7 := cell_of hb0 7 (.int .u8 x.b1) rfl; have c8 := cell_of hb0 8 (.int .u8 x.c0) rfl; have c9 := cell_of hb0 9 (.int .u8 x.c1) rfl; unfold bareO; go_simp) HS (fun inv => ?_)
          try simp only [Act.put, List.setIfInBounds_toArray, List.set_cons_zero, List.set_cons_succ]
          refine FirstH.go (i := 2) (v := .slice (some ⟨rb, ro, none⟩) n c) rfl rfl 64 rfl (Op.move (Operand.tmp 1)) rfl (by kernel_rfl) (fun _ _ _ h => h) inv (fun W hS => by unfold bareO; go_simp) HS (fun inv => ?_)
          try simp only [Act.put, List.setIfInBounds_toArray, List.set_cons_zero, List.set_cons_succ]
          refine FirstH.go (i := 3) (v := .int .i64 i) rfl rfl 65 rfl (Op.move (Operand.tmp 7)) rfl (by kernel_rfl) (fun _ _ _ h => h) inv (fun W hS => by unfold bareO; go_simp) HS (fun inv => ?_)
          try simp only [Act.put, List.setIfInBounds_toArray, List.set_cons_zero, List.set_cons_succ]
          refine FirstH.go (i := 4) (v := .pointer (some ⟨rb, (ro + i * 14), none⟩)) rfl rfl 66 rfl (Op.indexAddr 22 (Operand.tmp 64) (Operand.tmp 65)) rfl (by kernel_rfl) (fun _ _ _ h => h) inv (fun W hS => by unfold bareO; go_simp) HS (fun inv => ?_)
          try simp only [Act.put, List.setIfInBounds_toArray, List.set_cons_zero, List.set_cons_succ]
          refine FirstH.go (i := 5) (v := .pointer (some ⟨rb, (ro + i * 14 + 11), none⟩)) rfl rfl 67 rfl (Op.fieldAddr 47 (Operand.tmp 66) 2) rfl (by kernel_rfl) (fun _ _ _ h => h) inv (fun W hS => by unfold bareO; go_simp) HS (fun inv => ?_)
          try simp only [Act.put, List.setIfInBounds_toArray, List.set_cons_zero, List.set_cons_succ]
          refine FirstH.go (i := 6) (v := .agg #[.int .u8 code, .string val]) rfl rfl 68 rfl (Op.load 45 (Operand.tmp 67)) rfl (by kernel_rfl) (fun _ _ _ h => h) inv (fun W hS => by have c0 := HROW.out W (K3.out.trans hS (fun i _ e => e.1)) 11 (.int .u8 code) rfl; have c1 := HROW.out W (K3.out.trans hS (fun i _ e => e.1)) 12 (.string val) rfl; unfold bareO; go_simp) HS (fun inv => ?_)
          try simp only [Act.put, List.setIfInBounds_toArray, List.set_cons_zero, List.set_cons_succ]
          refine FirstH.go (i := 9) (v := .pointer (some ⟨r, 0, none⟩)) rfl rfl 71 rfl (Op.move (Operand.tmp 6)) rfl (by kernel_rfl) (fun _ _ _ h => h) inv (fun W hS => by unfold bareO; go_simp) HS (fun inv => ?_)
          try simp only [Act.put, List.setIfInBounds_toArray, List.set_cons_zero, List.set_cons_succ]
          refine FirstH.go (i := 10) (v := .slice (some ⟨rb, ro, none⟩) n c) rfl rfl 72 rfl (Op.move (Operand.tmp 1)) rfl (by kernel_rfl) (fun _ _ _ h => h) inv (fun W hS => by unfold bareO; go_simp) HS (fun inv => ?_)
          try simp only [Act.put, List.setIfInBounds_toArray, List.set_cons_zero, List.set_cons_succ]
          refine FirstH.go (i := 11) (v := .int .i64 i) rfl rfl 73 rfl (Op.move (Operand.tmp 7)) rfl (by kernel_rfl) (fun _ _ _ h => h) inv (fun W hS => by unfold bareO; go_simp) HS (fun inv => ?_)
          try simp only [Act.put, List.setIfInBounds_toArray, List.set_cons_zero, List.set_cons_succ]
          refine FirstH.go (i := 12) (v := .pointer (some ⟨rb, (ro + i * 14), none⟩)) rfl rfl 74 rfl (Op.indexAddr 22 (Operand.tmp 72) (Operand.tmp 73)) rfl (by kernel_rfl) (fun _ _ _ h => h) inv (fun W hS => by unfold bareO; go_simp) HS (fun inv => ?_)
          try simp only [Act.put, List.setIfInBounds_toArray, List.set_cons_zero, List.set_cons_succ]
          refine FirstH.go (i := 13) (v := .pointer (some ⟨rb, (ro + i * 14 + 1), none⟩)) rfl rfl 75 rfl (Op.fieldAddr 47 (Operand.tmp 74) 1) rfl (by kernel_rfl) (fun _ _ _ h => h) inv (fun W hS => by unfold bareO; go_simp) HS (fun inv => ?_)
          try simp only [Act.put, List.setIfInBounds_toArray, List.set_cons_zero, List.set_cons_succ]
          refine FirstH.go (i := 14) (v := .agg #[.int .u8 x.n, .int .u16 x.l, .int .u32 x.s, .int .u8 x.d, .int .u8 x.a0, .int .u8 x.a1, .int .u8 x.b0, .int .u8 x.b1, .int .u8 x.c0, .int .u8 x.c1]) rfl rfl 76 rfl (Op.load 43 (Operand.tmp 75)) rfl (by kernel_rfl) (fun _ _ _ h => h) inv (fun W hS => by have c0 := HROW.out W (K3.out.trans hS (fun i _ e => e.1)) 1 (.int .u8 x.n) rfl; have c1 := HROW.out W (K3.out.trans hS (fun i _ e => e.1)) 2 (.int .u16 x.l) rfl; have c2 := HROW.out W (K3.out.trans hS (fun i _ e => e.1)) 3 (.int .u32 x.s) rfl; have c3 := HROW.out W (K3.out.trans hS (fun i _ e => e.1)) 4 (.int .u8 x.d) rfl; have c4 := HROW.out W (K3.out.trans hS (fun i _ e => e.1)) 5 (.int .u8 x.a0) rfl; have c5 := HROW.out W (K3.out.trans hS (fun i _ e => e.1)) 6 (.int .u8 x.a1) rfl; have c6 := HROW.out W (K3.out.trans hS (fun i _ e => e.1)) 7 (.int .u8 x.b0) rfl; have c7 := HROW.out W (K3.out.trans hS (fun i _ e => e.1)) 8 (.int .u8 x.b1) rfl; have c8 := HROW.out W (K3.out.trans hS (fun i _ e => e.1)) 9 (.int .u8 x.c0) rfl; have c9 := HROW.out W (K3.out.trans hS (fun i _ e => e.1)) 10 (.int .u8 x.c1) rfl; unfold bareO; go_simp) HS (fun inv => ?_)
          try simp only [Act.put, List.setIfInBounds_toArray, List.set_cons_zero, List.set_cons_succ]
          refine FirstH.go (i := 15) (v := .slice (some ⟨rb, ro, none⟩) n c) rfl rfl 77 rfl (Op.move (Operand.tmp 1)) rfl (by kernel_rfl) (fun _ _ _ h => h) inv (fun W hS => by unfold bareO; go_simp) HS (fun inv => ?_)
          try simp only [Act.put, List.setIfInBounds_toArray, List.set_cons_zero, List.set_cons_succ]
          refine FirstH.go (i := 16) (v := .int .i64 i) rfl rfl 78 rfl (Op.move (Operand.tmp 7)) rfl (by kernel_rfl) (fun _ _ _ h => h) inv (fun W hS => by unfold bareO; go_simp) HS (fun inv => ?_)
          try simp only [Act.put, List.setIfInBounds_toArray, List.set_cons_zero, List.set_cons_succ]
          refine FirstH.go (i := 17) (v := .pointer (some ⟨rb, (ro + i * 14), none⟩)) rfl rfl 79 rfl (Op.indexAddr 22 (Operand.tmp 77) (Operand.tmp 78)) rfl (by kernel_rfl) (fun _ _ _ h => h) inv (fun W hS => by unfold bareO; go_simp) HS (fun inv => ?_)
          try simp only [Act.put, List.setIfInBounds_toArray, List.set_cons_zero, List.set_cons_succ]
          refine FirstH.go (i := 18) (v := .pointer (some ⟨rb, (ro + i * 14 + 11), none⟩)) rfl rfl 80 rfl (Op.fieldAddr 47 (Operand.tmp 79) 2) rfl (by kernel_rfl) (fun _ _ _ h => h) inv (fun W hS => by unfold bareO; go_simp) HS (fun inv => ?_)
          try simp only [Act.put, List.setIfInBounds_toArray, List.set_cons_zero, List.set_cons_succ]
          refine FirstH.go (i := 19) (v := .agg #[.int .u8 code, .string val]) rfl rfl 81 rfl (Op.load 45 (Operand.tmp 80)) rfl (by kernel_rfl) (fun _ _ _ h => h) inv (fun W hS => by have c0 := HROW.out W (K3.out.trans hS (fun i _ e => e.1)) 11 (.int .u8 code) rfl; have c1 := HROW.out W (K3.out.trans hS (fun i _ e => e.1)) 12 (.string val) rfl; unfold bareO; go_simp) HS (fun inv => ?_)
          try simp only [Act.put, List.setIfInBounds_toArray, List.set_cons_zero, List.set_cons_succ]
          refine FirstH.only (i := 7) (by kernel_rfl) (by decide) inv (fun inv => wpOp_call (i := 7) rfl rfl 69 rfl (Op.call { callee := Callee.value (.func 15), args := #[Operand.tmp 68], argTypes := #[45] }) rfl 15 #[.agg #[.int .u8 code, .string val]] (by unfold bareO; go_simp) (toResA code val wd) ?_)
          rintro e y0 ⟨rfl, bb⟩
          have PA := Lib.hid (PA.out.below bb)
          have DA := Lib.hid (DA.out.below bb)
          have HS : KP (fun q => w1.heap.size ≤ q ∧ q ≠ ka) u3 y0 := HS.trans (KP.of_below bb : KP (fun q => w1.heap.size ≤ q ∧ q ≠ ka) wd y0) (fun i _ e => e)
          clear bb
          refine ⟨_, rfl, HS, ?_⟩
          try simp only [Act.put, List.setIfInBounds_toArray, List.set_cons_zero, List.set_cons_succ]
          refine FirstH.only (i := 8) (by kernel_rfl) (by decide) inv (fun inv => wpOp_call (i := 8) rfl rfl 70 rfl (Op.call { callee := Callee.value (.func 14), args := #[Operand.tmp 62, Operand.tmp 63, Operand.tmp 69], argTypes := #[25, 37, 53] }) rfl 14 #[.pointer (some ⟨p, 0, none⟩), .agg #[.int .u8 x.n, .int .u16 x.l, .int .u32 x.s, .int .u8 x.d, .int .u8 x.a0, .int .u8 x.a1, .int .u8 x.b0, .int .u8 x.b1, .int .u8 x.c0, .int .u8 x.c1], .agg #[.int .u8 code, .string val]] (by unfold bareO; go_simp) (KB1.out y0 PA.out) ?_)
          rintro e y1 ⟨rfl, p1, k1⟩
          have PB := Lib.hid p1
          have DA := Lib.hid (DA.out.progK PA.out (k1.mono (fun q e => .inl e)))
          have HS : KP (fun q => w1.heap.size ≤ q ∧ q ≠ ka) u3 y1 := HS.trans k1 (fun i hi e => e ▸ HMK.out.1)
          clear p1 k1
          refine ⟨_, rfl, HS, ?_⟩
          try simp only [Act.put, List.setIfInBounds_toArray, List.set_cons_zero, List.set_cons_succ]
          refine FirstH.only (i := 20) (by kernel_rfl) (by decide) inv (fun inv => wpOp_call (i := 20) rfl rfl 82 rfl (Op.call { callee := Callee.value (.func 16), args := #[Operand.tmp 71, Operand.tmp 76, Operand.tmp 81], argTypes := #[27, 43, 45] }) rfl 16 #[.pointer (some ⟨r, 0, none⟩), .agg #[.int .u8 x.n, .int .u16 x.l, .int .u32 x.s, .int .u8 x.d, .int .u8 x.a0, .int .u8 x.a1, .int .u8 x.b0, .int .u8 x.b1, .int .u8 x.c0, .int .u8 x.c1], .agg #[.int .u8 code, .string val]] (by unfold bareO; go_simp) (KB2.out y1 DA.out) ?_)
          rintro e y3 ⟨rfl, lv2, d3, k3⟩
          have PB := Lib.hid (PB.out.docK DA.out k3)
          have DB := Lib.hid d3
          have HS : KP (fun q => w1.heap.size ≤ q ∧ q ≠ ka) u3 y3 := HS.trans k3 (fun i hi e => e ▸ HMK.out.2.2)
          clear d3 k3
          refine ⟨_, rfl, HS, ?_⟩
          try simp only [Act.put, List.setIfInBounds_toArray, List.set_cons_zero, List.set_cons_succ]
          refine FirstH.go (i := 21) (v := .bool true) rfl rfl 83 rfl (Op.binOp BinOp.eql 4 (Operand.tmp 70) (Operand.tmp 82) 4) rfl (by kernel_rfl) (fun _ _ _ h => h) inv (fun W hS => by unfold bareO; go_simp) HS (fun inv => ?_)
          try simp only [Act.put, List.setIfInBounds_toArray, List.set_cons_zero, List.set_cons_succ]
          refine ⟨by kernel_rfl, ?_⟩
          simp only [List.drop_succ_cons, List.drop_zero]
          have HSZ := Lib.hid HS
          clear inv HS
          go_wp2_with fail
          exact KEY.out p m k bt lv2 fv _ PB.out DB.out HB.out HSZ.out
        by_cases k4 : kd = 4
        · as_aux_lemma =>
          subst k4
          have kb1 : ∀ X, PT X p m k i t → _ := fun X hX => aEnd X p m k i t hX x HOK.out.2.1 code val HOK.out.2.2.1 HC.out
          have kb2 : ∀ X, DT X r t lv fv → _ := fun X hX => finD X r t lv fv hX x HOK.out.2.1 code val HOK.out.2.2.1
          obtain ⟨⟨bz, bt⟩, hbg⟩ : ∃ q, t.fin x code val = q := ⟨_, rfl⟩
          rw [hbg] at kb1 kb2
          dsimp only at kb1 kb2
          have KB1 := Lib.hid kb1
          have KB2 := Lib.hid kb2
          clear kb1 kb2 hbg
          go_wp2_with fail
          refine region_heldT (S := fun X : World => KP (fun q => w1.heap.size ≤ q ∧ q ≠ ka) u3 X) 22 (by kernel_rfl) (by decide) (fun inv => ?_)
          have HS : KP (fun q => w1.heap.size ≤ q ∧ q ≠ ka) u3 u3.drew := HS0.out.trans (KP.of_below (Below.refl _ u3).drew : KP (fun q => w1.heap.size ≤ q ∧ q ≠ ka) u3 u3.drew) (fun i _ e => e)
          have PA := Lib.hid (PA.out.below (Below.refl _ u3).drew)
          have DA := Lib.hid (DA.out.below (Below.refl _ u3).drew)
          change FirstH _ _ _ _ _ _ _ _ _ _ u3.drew
          generalize u3.drew = wd at *
          clear HS0
          refine FirstH.go (i := 0) (v := .pointer (some ⟨p, 0, none⟩)) rfl rfl 62 rfl (Op.move (Operand.tmp 5)) rfl (by kernel_rfl) (fun _ _ _ h => h) inv (fun W hS => by unfold bareO; go_simp) HS (fun inv => ?_)
          try simp only [Act.put, List.setIfInBounds_toArray, List.set_cons_zero, List.set_cons_succ]
          refine FirstH.go (i := 1) (v := .agg #[.int .u8 x.n, .int .u16 x.l, .int .u32 x.s, .int .u8 x.d, .int .u8 x.a0, .int .u8 x.a1, .int .u8 x.b0, .int .u8 x.b1, .int .u8 x.c0, .int .u8 x.c1]) rfl rfl 63 rfl (Op.load 37 (Operand.tmp 8)) rfl (by kernel_rfl) (fun _ _ _ h => h) inv (fun W hS => by have hb0 := (hS.block ka (bltA RK.out) (fun e => e.2 rfl)).trans RK.out; have c0 := cell_of hb0 0 (.int .u8 x.n) rfl; have c1 := cell_of hb0 1 (.int .u16 x.l) rfl; have c2 := cell_of hb0 2 (.int .u32 x.s) rfl; have c3 := cell_of hb0 3 (.int .u8 x.d) rfl; have c4 := cell_of hb0 4 (.int .u8 x.a0) rfl; have c5 := cell_of hb0 5 (.int .u8 x.a1) rfl; have c6 := cell_of hb0 6 (.int .u8 x.b0) rfl; have c7 := cell_of hb0 7 (.int .u8 x.b1) rfl; have c8 := cell_of hb0 8 (.int .u8 x.c0) rfl; have c9 := cell_of hb0 9 (.int .u8 x.c1) rfl; unfold bareO; go_simp) HS (fun inv => ?_)
          try simp only [Act.put, List.setIfInBounds_toArray, List.set_cons_zero, List.set_cons_succ]
          refine FirstH.go (i := 2) (v := .slice (some ⟨rb, ro, none⟩) n c) rfl rfl 64 rfl (Op.move (Operand.tmp 1)) rfl (by kernel_rfl) (fun _ _ _ h => h) inv (fun W hS => by unfold bareO; go_simp) HS (fun inv => ?_)
          try simp only [Act.put, List.setIfInBounds_toArray, List.set_cons_zero, List.set_cons_succ]
          refine FirstH.go (i := 3) (v := .int .i64 i) rfl rfl 65 rfl (Op.move (Operand.tmp 7)) rfl (by kernel_rfl) (fun _ _ _ h => h) inv (fun W hS => by unfold bareO; go_simp) HS (fun inv => ?_)
          try simp only [Act.put, List.setIfInBounds_toArray, List.set_cons_zero, List.set_cons_succ]
          refine FirstH.go (i := 4) (v := .pointer (some ⟨rb, (ro + i * 14), none⟩)) rfl rfl 66 rfl (Op.indexAddr 22 (Operand.tmp 64) (Operand.tmp 65)) rfl (by kernel_rfl) (fun _ _ _ h => h) inv (fun W hS => by unfold bareO; go_simp) HS (fun inv => ?_)
          try simp only [Act.put, List.setIfInBounds_toArray, List.set_cons_zero, List.set_cons_succ]
          refine FirstH.go (i := 5) (v := .pointer (some ⟨rb, (ro + i * 14 + 11), none⟩)) rfl rfl 67 rfl (Op.fieldAddr 47 (Operand.tmp 66) 2) rfl (by kernel_rfl) (fun _ _ _ h => h) inv (fun W hS => by unfold bareO; go_simp) HS (fun inv => ?_)
          try simp only [Act.put, List.setIfInBounds_toArray, List.set_cons_zero, List.set_cons_succ]
          refine FirstH.go (i := 6) (v := .agg #[.int .u8 code, .string val]) rfl rfl 68 rfl (Op.load 45 (Operand.tmp 67)) rfl (by kernel_rfl) (fun _ _ _ h => h) inv (fun W hS => by have c0 := HROW.out W (K3.out.trans hS (fun i _ e => e.1)) 11 (.int .u8 code) rfl; have c1 := HROW.out W (K3.out.trans hS (fun i _ e => e.1)) 12 (.string val) rfl; unfold bareO; go_simp) HS (fun inv => ?_)
          try simp only [Act.put, List.setIfInBounds_toArray, List.set_cons_zero, List.set_cons_succ]
          refine FirstH.go (i := 9) (v := .pointer (some ⟨r, 0, none⟩)) rfl rfl 71 rfl (Op.move (Operand.tmp 6)) rfl (by kernel_rfl) (fun _ _ _ h => h) inv (fun W hS => by unfold bareO; go_simp) HS (fun inv => ?_)
          try simp only [Act.put, List.setIfInBounds_toArray, List.set_cons_zero, List.set_cons_succ]
          refine FirstH.go (i := 10) (v := .slice (some ⟨rb, ro, none⟩) n c) rfl rfl 72 rfl (Op.move (Operand.tmp 1)) rfl (by kernel_rfl) (fun _ _ _ h => h) inv (fun W hS => by unfold bareO; go_simp) HS (fun inv => ?_)
          try simp only [Act.put, List.setIfInBounds_toArray, List.set_cons_zero, List.set_cons_succ]
          refine FirstH.go (i := 11) (v := .int .i64 i) rfl rfl 73 rfl (Op.move (Operand.tmp 7)) rfl (by kernel_rfl) (fun _ _ _ h => h) inv (fun W hS => by unfold bareO; go_simp) HS (fun inv => ?_)
          try simp only [Act.put, List.setIfInBounds_toArray, List.set_cons_zero, List.set_cons_succ]
          refine FirstH.go (i := 12) (v := .pointer (some ⟨rb, (ro + i * 14), none⟩)) rfl rfl 74 rfl (Op.indexAddr 22 (Operand.tmp 72) (Operand.tmp 73)) rfl (by kernel_rfl) (fun _ _ _ h => h) inv (fun W hS => by unfold bareO; go_simp) HS (fun inv => ?_)
          try simp only [Act.put, List.setIfInBounds_toArray, List.set_cons_zero, List.set_cons_succ]
          refine FirstH.go (i := 13) (v := .pointer (some ⟨rb, (ro + i * 14 + 1), none⟩)) rfl rfl 75 rfl (Op.fieldAddr 47 (Operand.tmp 74) 1) rfl (by kernel_rfl) (fun _ _ _ h => h) inv (fun W hS => by unfold bareO; go_simp) HS (fun inv => ?_)
          try simp only [Act.put, List.setIfInBounds_toArray, List.set_cons_zero, List.set_cons_succ]
          refine FirstH.go (i := 14) (v := .agg #[.int .u8 x.n, .int .u16 x.l, .int .u32 x.s, .int .u8 x.d, .int .u8 x.a0, .int .u8 x.a1, .int .u8 x.b0, .int .u8 x.b1, .int .u8 x.c0, .int .u8 x.c1]) rfl rfl 76 rfl (Op.load 43 (Operand.tmp 75)) rfl (by kernel_rfl) (fun _ _ _ h => h) inv (fun W hS => by have c0 := HROW.out W (K3.out.trans hS (fun i _ e => e.1)) 1 (.int .u8 x.n) rfl; have c1 := HROW.out W (K3.out.trans hS (fun i _ e => e.1)) 2 (.int .u16 x.l) rfl; have c2 := HROW.out W (K3.out.trans hS (fun i _ e => e.1)) 3 (.int .u32 x.s) rfl; have c3 := HROW.out W (K3.out.trans hS (fun i _ e => e.1)) 4 (.int .u8 x.d) rfl; have c4 := HROW.out W (K3.out.trans hS (fun i _ e => e.1)) 5 (.int .u8 x.a0) rfl; have c5 := HROW.out W (K3.out.trans hS (fun i _ e => e.1)) 6 (.int .u8 x.a1) rfl; have c6 := HROW.out W (K3.out.trans hS (fun i _ e => e.1)) 7 (.int .u8 x.b0) rfl; have c7 := HROW.out W (K3.out.trans hS (fun i _ e => e.1)) 8 (.int .u8 x.b1) rfl; have c8 := HROW.out W (K3.out.trans hS (fun i _ e => e.1)) 9 (.int .u8 x.c0) rfl; have c9 := HROW.out W (K3.out.trans hS (fun i _ e => e.1)) 10 (.int .u8 x.c1) rfl; unfold bareO; go_simp) HS (fun inv => ?_)
          try simp only [Act.put, List.setIfInBounds_toArray, List.set_cons_zero, List.set_cons_succ]
          refine FirstH.go (i := 15) (v := .slice (some ⟨rb, ro, none⟩) n c) rfl rfl 77 rfl (Op.move (Operand.tmp 1)) rfl (by kernel_rfl) (fun _ _ _ h => h) inv (fun W hS => by unfold bareO; go_simp) HS (fun inv => ?_)
          try simp only [Act.put, List.setIfInBounds_toArray, List.set_cons_zero, List.set_cons_succ]
          refine FirstH.go (i := 16) (v := .int .i64 i) rfl rfl 78 rfl (Op.move (Operand.tmp 7)) rfl (by kernel_rfl) (fun _ _ _ h => h) inv (fun W hS => by unfold bareO; go_simp) HS (fun inv => ?_)
          try simp only [Act.put, List.setIfInBounds_toArray, List.set_cons_zero, List.set_cons_succ]
          refine FirstH.go (i := 17) (v := .pointer (some ⟨rb, (ro + i * 14), none⟩)) rfl rfl 79 rfl (Op.indexAddr 22 (Operand.tmp 77) (Operand.tmp 78)) rfl (by kernel_rfl) (fun _ _ _ h => h) inv (fun W hS => by unfold bareO; go_simp) HS (fun inv => ?_)
          try simp only [Act.put, List.setIfInBounds_toArray, List.set_cons_zero, List.set_cons_succ]
          refine FirstH.go (i := 18) (v := .pointer (some ⟨rb, (ro + i * 14 + 11), none⟩)) rfl rfl 80 rfl (Op.fieldAddr 47 (Operand.tmp 79) 2) rfl (by kernel_rfl) (fun _ _ _ h => h) inv (fun W hS => by unfold bareO; go_simp) HS (fun inv => ?_)
          try simp only [Act.put, List.setIfInBounds_toArray, List.set_cons_zero, List.set_cons_succ]
          refine FirstH.go (i := 19) (v := .agg #[.int .u8 code, .string val]) rfl rfl 81 rfl (Op.load 45 (Operand.tmp 80)) rfl (by kernel_rfl) (fun _ _ _ h => h) inv (fun W hS => by have c0 := HROW.out W (K3.out.trans hS (fun i _ e => e.1)) 11 (.int .u8 code) rfl; have c1 := HROW.out W (K3.out.trans hS (fun i _ e => e.1)) 12 (.string val) rfl; unfold bareO; go_simp) HS (fun inv => ?_)
          try simp only [Act.put, List.setIfInBounds_toArray, List.set_cons_zero, List.set_cons_succ]
          refine FirstH.only (i := 7) (by kernel_rfl) (by decide) inv (fun inv => wpOp_call (i := 7) rfl rfl 69 rfl (Op.call { callee := Callee.value (.func 15), args := #[Operand.tmp 68], argTypes := #[45] }) rfl 15 #[.agg #[.int .u8 code, .string val]] (by unfold bareO; go_simp) (toResA code val wd) ?_)
          rintro e y0 ⟨rfl, bb⟩
          have PA := Lib.hid (PA.out.below bb)
          have DA := Lib.hid (DA.out.below bb)
          have HS : KP (fun q => w1.heap.size ≤ q ∧ q ≠ ka) u3 y0 := HS.trans (KP.of_below bb : KP (fun q => w1.heap.size ≤ q ∧ q ≠ ka) wd y0) (fun i _ e => e)
          clear bb
          refine ⟨_, rfl, HS, ?_⟩
          try simp only [Act.put, List.setIfInBounds_toArray, List.set_cons_zero, List.set_cons_succ]
          refine FirstH.only (i := 8) (by kernel_rfl) (by decide) inv (fun inv => wpOp_call (i := 8) rfl rfl 70 rfl (Op.call { callee := Callee.value (.func 14), args := #[Operand.tmp 62, Operand.tmp 63, Operand.tmp 69], argTypes := #[25, 37, 53] }) rfl 14 #[.pointer (some ⟨p, 0, none⟩), .agg #[.int .u8 x.n, .int .u16 x.l, .int .u32 x.s, .int .u8 x.d, .int .u8 x.a0, .int .u8 x.a1, .int .u8 x.b0, .int .u8 x.b1, .int .u8 x.c0, .int .u8 x.c1], .agg #[.int .u8 code, .string val]] (by unfold bareO; go_simp) (KB1.out y0 PA.out) ?_)
          rintro e y1 ⟨rfl, p1, k1⟩
          have PB := Lib.hid p1
          have DA := Lib.hid (DA.out.progK PA.out (k1.mono (fun q e => .inl e)))
          have HS : KP (fun q => w1.heap.size ≤ q ∧ q ≠ ka) u3 y1 := HS.trans k1 (fun i hi e => e ▸ HMK.out.1)
          clear p1 k1
          refine ⟨_, rfl, HS, ?_⟩
          try simp only [Act.put, List.setIfInBounds_toArray, List.set_cons_zero, List.set_cons_succ]
          refine FirstH.only (i := 20) (by kernel_rfl) (by decide) inv (fun inv => wpOp_call (i := 20) rfl rfl 82 rfl (Op.call { callee := Callee.value (.func 16), args := #[Operand.tmp 71, Operand.tmp 76, Operand.tmp 81], argTypes := #[27, 43, 45] }) rfl 16 #[.pointer (some ⟨r, 0, none⟩), .agg #[.int .u8 x.n, .int .u16 x.l, .int .u32 x.s, .int .u8 x.d, .int .u8 x.a0, .int .u8 x.a1, .int .u8 x.b0, .int .u8 x.b1, .int .u8 x.c0, .int .u8 x.c1], .agg #[.int .u8 code, .string val]] (by unfold bareO; go_simp) (KB2.out y1 DA.out) ?_)
          rintro e y3 ⟨rfl, lv2, d3, k3⟩
          have PB := Lib.hid (PB.out.docK DA.out k3)
          have DB := Lib.hid d3
          have HS : KP (fun q => w1.heap.size ≤ q ∧ q ≠ ka) u3 y3 := HS.trans k3 (fun i hi e => e ▸ HMK.out.2.2)
          clear d3 k3
          refine ⟨_, rfl, HS, ?_⟩
          try simp only [Act.put, List.setIfInBounds_toArray, List.set_cons_zero, List.set_cons_succ]
          refine FirstH.go (i := 21) (v := .bool true) rfl rfl 83 rfl (Op.binOp BinOp.eql 4 (Operand.tmp 70) (Operand.tmp 82) 4) rfl (by kernel_rfl) (fun _ _ _ h => h) inv (fun W hS => by unfold bareO; go_simp) HS (fun inv => ?_)
          try simp only [Act.put, List.setIfInBounds_toArray, List.set_cons_zero, List.set_cons_succ]
          refine ⟨by kernel_rfl, ?_⟩
          simp only [List.drop_succ_cons, List.drop_zero]
          have HSZ := Lib.hid HS
          clear inv HS
          go_wp2_with fail
          exact KEY.out p m k bt lv2 fv _ PB.out DB.out HB.out HSZ.out
        by_cases k5 : kd = 5
        · as_aux_lemma =>
          subst k5
          have KB1 : Hid (∀ X, PT X p m k i t → _) := Lib.hid fun X hX => aRaise X p m k i t hX x.n x.l un HOK.out.2.1.n HOK.out.2.1.l HOK.out.2.2.2.2 HC.out
          have KB2 : Hid (∀ X, DT X r t lv fv → _) := Lib.hid fun X hX => rseD X r t lv fv hX x.n x.l un HOK.out.2.1.n HOK.out.2.1.l HOK.out.2.2.2.2 LF.out
          go_wp2_with fail
          refine region_heldT (S := fun X : World => KP (fun q => w1.heap.size ≤ q ∧ q ≠ ka) u3 X) 8 (by kernel_rfl) (by decide) (fun inv => ?_)
          have HS : KP (fun q => w1.heap.size ≤ q ∧ q ≠ ka) u3 u3.drew := HS0.out.trans (KP.of_below (Below.refl _ u3).drew : KP (fun q => w1.heap.size ≤ q ∧ q ≠ ka) u3 u3.drew) (fun i _ e => e)
          have PA := Lib.hid (PA.out.below (Below.refl _ u3).drew)
          have DA := Lib.hid (DA.out.below (Below.refl _ u3).drew)
          change FirstH _ _ _ _ _ _ _ _ _ _ u3.drew
          generalize u3.drew = wd at *
          clear HS0
          refine FirstH.go (i := 0) (v := .pointer (some ⟨p, 0, none⟩)) rfl rfl 86 rfl (Op.move (Operand.tmp 5)) rfl (by kernel_rfl) (fun _ _ _ h => h) inv (fun W hS => by unfold bareO; go_simp) HS (fun inv => ?_)
          try simp only [Act.put, List.setIfInBounds_toArray, List.set_cons_zero, List.set_cons_succ]
          refine FirstH.go (i := 1) (v := .pointer (some ⟨ka, 0, none⟩)) rfl rfl 87 rfl (Op.fieldAddr 37 (Operand.tmp 8) 0) rfl (by kernel_rfl) (fun _ _ _ h => h) inv (fun W hS => by unfold bareO; go_simp) HS (fun inv => ?_)
          try simp only [Act.put, List.setIfInBounds_toArray, List.set_cons_zero, List.set_cons_succ]
          refine FirstH.go (i := 2) (v := .agg #[.int .u8 x.n, .int .u16 x.l]) rfl rfl 88 rfl (Op.load 31 (Operand.tmp 87)) rfl (by kernel_rfl) (fun _ _ _ h => h) inv (fun W hS => by have hb0 := (hS.block ka (bltA RK.out) (fun e => e.2 rfl)).trans RK.out; have c0 := cell_of hb0 0 (.int .u8 x.n) rfl; have c1 := cell_of hb0 1 (.int .u16 x.l) rfl; unfold bareO; go_simp) HS (fun inv => ?_)
          try simp only [Act.put, List.setIfInBounds_toArray, List.set_cons_zero, List.set_cons_succ]
          refine FirstH.go (i := 3) (v := .slice (some ⟨rb, ro, none⟩) n c) rfl rfl 89 rfl (Op.move (Operand.tmp 1)) rfl (by kernel_rfl) (fun _ _ _ h => h) inv (fun W hS => by unfold bareO; go_simp) HS (fun inv => ?_)
          try simp only [Act.put, List.setIfInBounds_toArray, List.set_cons_zero, List.set_cons_succ]
          refine FirstH.go (i := 4) (v := .int .i64 i) rfl rfl 90 rfl (Op.move (Operand.tmp 7)) rfl (by kernel_rfl) (fun _ _ _ h => h) inv (fun W hS => by unfold bareO; go_simp) HS (fun inv => ?_)
          try simp only [Act.put, List.setIfInBounds_toArray, List.set_cons_zero, List.set_cons_succ]
          refine FirstH.go (i := 5) (v := .pointer (some ⟨rb, (ro + i * 14), none⟩)) rfl rfl 91 rfl (Op.indexAddr 22 (Operand.tmp 89) (Operand.tmp 90)) rfl (by kernel_rfl) (fun _ _ _ h => h) inv (fun W hS => by unfold bareO; go_simp) HS (fun inv => ?_)
          try simp only [Act.put, List.setIfInBounds_toArray, List.set_cons_zero, List.set_cons_succ]
          refine FirstH.go (i := 6) (v := .pointer (some ⟨rb, (ro + i * 14 + 13), none⟩)) rfl rfl 92 rfl (Op.fieldAddr 47 (Operand.tmp 91) 3) rfl (by kernel_rfl) (fun _ _ _ h => h) inv (fun W hS => by unfold bareO; go_simp) HS (fun inv => ?_)
          try simp only [Act.put, List.setIfInBounds_toArray, List.set_cons_zero, List.set_cons_succ]
          refine FirstH.go (i := 7) (v := .int .u32 un) rfl rfl 93 rfl (Op.load 32 (Operand.tmp 92)) rfl (by kernel_rfl) (fun _ _ _ h => h) inv (fun W hS => by have c0 := HROW.out W (K3.out.trans hS (fun i _ e => e.1)) 13 (.int .u32 un) rfl; unfold bareO; go_simp) HS (fun inv => ?_)
          try simp only [Act.put, List.setIfInBounds_toArray, List.set_cons_zero, List.set_cons_succ]
          refine ⟨by kernel_rfl, ?_⟩
          simp only [List.drop_succ_cons, List.drop_zero]
          have HS1 := Lib.hid HS
          clear inv HS
          go_wp2_with fail
          refine (KB1.out wd PA.out).mono ?_
          rintro e y1 ⟨rfl, p1, k1⟩
          have PB := Lib.hid p1
          have DA := Lib.hid (DA.out.progK PA.out k1)
          have HS0 : Hid (KP (fun q => w1.heap.size ≤ q ∧ q ≠ ka) u3 y1) := Lib.hid (HS1.out.trans k1 (fun i hi e => e.elim (fun e => e ▸ HMK.out.1) (fun e => e ▸ HMK.out.2.1)))
          clear p1 k1
          go_wp2_with fail
          refine region_heldT (S := fun X : World => KP (fun q => w1.heap.size ≤ q ∧ q ≠ ka) u3 X) 12 (by kernel_rfl) (by decide) (fun inv => ?_)
          have HS : KP (fun q => w1.heap.size ≤ q ∧ q ≠ ka) u3 y1.drew := HS0.out.trans (KP.of_below (Below.refl _ y1).drew : KP (fun q => w1.heap.size ≤ q ∧ q ≠ ka) y1 y1.drew) (fun i _ e => e)
          have PB := Lib.hid (PB.out.below (Below.refl _ y1).drew)
          have DA := Lib.hid (DA.out.below (Below.refl _ y1).drew)
          change FirstH _ _ _ _ _ _ _ _ _ _ y1.drew
          generalize y1.drew = we at *
          clear HS0
          refine FirstH.go (i := 0) (v := .pointer (some ⟨r, 0, none⟩)) rfl rfl 95 rfl (Op.move (Operand.tmp 6)) rfl (by kernel_rfl) (fun _ _ _ h => h) inv (fun W hS => by unfold bareO; go_simp) HS (fun inv => ?_)
          try simp only [Act.put, List.setIfInBounds_toArray, List.set_cons_zero, List.set_cons_succ]
          refine FirstH.go (i := 1) (v := .slice (some ⟨rb, ro, none⟩) n c) rfl rfl 96 rfl (Op.move (Operand.tmp 1)) rfl (by kernel_rfl) (fun _ _ _ h => h) inv (fun W hS => by unfold bareO; go_simp) HS (fun inv => ?_)
          try simp only [Act.put, List.setIfInBounds_toArray, List.set_cons_zero, List.set_cons_succ]
          refine FirstH.go (i := 2) (v := .int .i64 i) rfl rfl 97 rfl (Op.move (Operand.tmp 7)) rfl (by kernel_rfl) (fun _ _ _ h => h) inv (fun W hS => by unfold bareO; go_simp) HS (fun inv => ?_)
          try simp only [Act.put, List.setIfInBounds_toArray, List.set_cons_zero, List.set_cons_succ]
          refine FirstH.go (i := 3) (v := .pointer (some ⟨rb, (ro + i * 14), none⟩)) rfl rfl 98 rfl (Op.indexAddr 22 (Operand.tmp 96) (Operand.tmp 97)) rfl (by kernel_rfl) (fun _ _ _ h => h) inv (fun W hS => by unfold bareO; go_simp) HS (fun inv => ?_)
          try simp only [Act.put, List.setIfInBounds_toArray, List.set_cons_zero, List.set_cons_succ]
          refine FirstH.go (i := 4) (v := .pointer (some ⟨rb, (ro + i * 14 + 1), none⟩)) rfl rfl 99 rfl (Op.fieldAddr 47 (Operand.tmp 98) 1) rfl (by kernel_rfl) (fun _ _ _ h => h) inv (fun W hS => by unfold bareO; go_simp) HS (fun inv => ?_)
          try simp only [Act.put, List.setIfInBounds_toArray, List.set_cons_zero, List.set_cons_succ]
          refine FirstH.go (i := 5) (v := .pointer (some ⟨rb, (ro + i * 14 + 1), none⟩)) rfl rfl 100 rfl (Op.fieldAddr 43 (Operand.tmp 99) 0) rfl (by kernel_rfl) (fun _ _ _ h => h) inv (fun W hS => by unfold bareO; go_simp) HS (fun inv => ?_)
          try simp only [Act.put, List.setIfInBounds_toArray, List.set_cons_zero, List.set_cons_succ]
          refine FirstH.go (i := 6) (v := .agg #[.int .u8 x.n, .int .u16 x.l]) rfl rfl 101 rfl (Op.load 39 (Operand.tmp 100)) rfl (by kernel_rfl) (fun _ _ _ h => h) inv (fun W hS => by have c0 := HROW.out W (K3.out.trans hS (fun i _ e => e.1)) 1 (.int .u8 x.n) rfl; have c1 := HROW.out W (K3.out.trans hS (fun i _ e => e.1)) 2 (.int .u16 x.l) rfl; unfold bareO; go_simp) HS (fun inv => ?_)
          try simp only [Act.put, List.setIfInBounds_toArray, List.set_cons_zero, List.set_cons_succ]
          refine FirstH.go (i := 7) (v := .slice (some ⟨rb, ro, none⟩) n c) rfl rfl 102 rfl (Op.move (Operand.tmp 1)) rfl (by kernel_rfl) (fun _ _ _ h => h) inv (fun W hS => by unfold bareO; go_simp) HS (fun inv => ?_)
          try simp only [Act.put, List.setIfInBounds_toArray, List.set_cons_zero, List.set_cons_succ]
          refine FirstH.go (i := 8) (v := .int .i64 i) rfl rfl 103 rfl (Op.move (Operand.tmp 7)) rfl (by kernel_rfl) (fun _ _ _ h => h) inv (fun W hS => by unfold bareO; go_simp) HS (fun inv => ?_)
          try simp only [Act.put, List.setIfInBounds_toArray, List.set_cons_zero, List.set_cons_succ]
          refine FirstH.go (i := 9) (v := .pointer (some ⟨rb, (ro + i * 14), none⟩)) rfl rfl 104 rfl (Op.indexAddr 22 (Operand.tmp 102) (Operand.tmp 103)) rfl (by kernel_rfl) (fun _ _ _ h => h) inv (fun W hS => by unfold bareO; go_simp) HS (fun inv => ?_)
          try simp only [Act.put, List.setIfInBounds_toArray, List.set_cons_zero, List.set_cons_succ]
          refine FirstH.go (i := 10) (v := .pointer (some ⟨rb, (ro + i * 14 + 13), none⟩)) rfl rfl 105 rfl (Op.fieldAddr 47 (Operand.tmp 104) 3) rfl (by kernel_rfl) (fun _ _ _ h => h) inv (fun W hS => by unfold bareO; go_simp) HS (fun inv => ?_)
          try simp only [Act.put, List.setIfInBounds_toArray, List.set_cons_zero, List.set_cons_succ]
          refine FirstH.go (i := 11) (v := .int .u32 un) rfl rfl 106 rfl (Op.load 32 (Operand.tmp 105)) rfl (by kernel_rfl) (fun _ _ _ h => h) inv (fun W hS => by have c0 := HROW.out W (K3.out.trans hS (fun i _ e => e.1)) 13 (.int .u32 un) rfl; unfold bareO; go_simp) HS (fun inv => ?_)
          try simp only [Act.put, List.setIfInBounds_toArray, List.set_cons_zero, List.set_cons_succ]
          refine ⟨by kernel_rfl, ?_⟩
          simp only [List.drop_succ_cons, List.drop_zero]
          have HS1 := Lib.hid HS
          clear inv HS
          go_wp2_with fail
          refine (KB2.out we DA.out).mono ?_
          rintro e y3 ⟨rfl, lv2, fv2, d3, k3⟩
          have PB := Lib.hid (PB.out.docK DA.out k3)
          have DB := Lib.hid d3
          have HSZ : Hid (KP (fun q => w1.heap.size ≤ q ∧ q ≠ ka) u3 y3) := Lib.hid (HS1.out.trans k3 (fun i hi e => e ▸ HMK.out.2.2))
          clear d3 k3
          go_wp2_with fail
          exact KEY.out p m k (t.rse x.n x.l un) lv2 fv2 _ PB.out DB.out HB.out HSZ.out
        by_cases k6 : kd = 6
        · as_aux_lemma =>
          subst k6
          go_wp2_with fail
          refine (aClone u3 p m k i t PA.out).mono ?_
          rintro e y1 ⟨b', m', k', rfl, p1, g1, g2, g3, bb⟩
          have PB := Lib.hid (p1.mono (Nat.le_succ i))
          have DB := Lib.hid (DA.out.below bb)
          have HSZ : Hid (KP (fun q => w1.heap.size ≤ q ∧ q ≠ ka) u3 y1) := Lib.hid (KP.of_below bb)
          have GB : Hid (w1.heap.size ≤ b' ∧ w1.heap.size ≤ m' ∧ w1.heap.size ≤ k') := Lib.hid ⟨Nat.le_trans BB3.out.size g1, Nat.le_trans BB3.out.size g2, Nat.le_trans BB3.out.size g3⟩
          clear p1 g1 g2 g3 bb
          go_wp2_with fail
          exact KEY.out b' m' k' t lv fv _ PB.out DB.out GB.out HSZ.out
        have d0 : decide (kd = 0) = false := by simpa using k0
        have d1 : decide (kd = 1) = false := by simpa using k1
        have d2 : decide (kd = 2) = false := by simpa using k2
        have d3 : decide (kd = 3) = false := by simpa using k3
        have d4 : decide (kd = 4) = false := by simpa using k4
        have d5 : decide (kd = 5) = false := by simpa using k5
        have d6 : decide (kd = 6) = false := by simpa using k6
        go_wp2_with fail
        exact KEY.out p m k t lv fv _ (PA.out.mono (Nat.le_succ i)) DA.out HB.out HS0.out
      · obtain rfl : i = n := by omega
        have BZ : Hid (Below W.heap.size W u0) := Lib.hid (B1.out.trans (BB.out.mono B1.out.size))
        go_wp2_with fail
        go_ret
        exact ⟨rfl, BZ.out⟩
end
end Go.Proofs.Ytldbmmganicliaa
