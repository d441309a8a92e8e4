/-
  The law's field: something told comes. Condition: all lies in memory.
-/
import Derived.Test.YtjdmjiikpnlkjaaRoq
import Derived.Deep.MidRow
namespace Go.Proofs.Ytjdmjiikpnlkjaa
set_option linter.unusedSimpArgs false
set_option linter.unusedVariables false
open Go.RowKit Go.Maps Go.Sort
open V (P2)

theorem RP.hc {W : World} {b m : Nat} {lb : Option Nat} {d : Rd} (h : RP W b m lb d) : d.commit ≤ d.L.length ∧ d.L.length ≤ 400 := by
  obtain ⟨w, _, q⟩ := h
  exact ⟨q.hc, q.few⟩
theorem Inv.acked {n : Nat} {R : Nat → Rd} {F : List Tp} (h : Inv n R F) (x fr : Nat) (h1 : 1 ≤ x) (hx : x < n) (hfr : fr ≤ (R x).L.length) (hc : ((R 0).acked (pr x) fr).commit ≤ ((R 0).acked (pr x) fr).L.length) (hl : (R 0).L.length ≤ 400) : Inv n (up R 0 ((R 0).acked (pr x) fr)) F := by
  unfold Rd.acked at hc ⊢
  by_cases hok : (R 0).ackOk (pr x) fr = true
  · rw [if_pos hok] at hc ⊢
    refine h.counted ((R 0).told (pr x) fr) [] rfl rfl rfl (by simp [Rd.told]) (fun i hi hi1 => ?_) rfl hl ?_
    · show setT (R 0).T (pr x) ((fr : Nat) : Int).toNat (pr i) ≤ _
      unfold setT
      split
      · rename_i e
        have := pr_inj e
        subst this
        omega
      · exact h.told i hi hi1
    · have : max ((R 0).told (pr x) fr).commit ((R 0).told (pr x) fr).top ≤ (R 0).L.length := hc
      show ((R 0).told (pr x) fr).top ≤ (R 0).L.length
      omega
  · rw [if_neg hok]
    refine h.head _ [] rfl rfl rfl (by simp) (fun i hi hi1 => h.told i hi hi1) (Nat.le_refl _) (h.com 0 h.pos) ?_
    rcases h.maj with e | e
    · exact .inl e
    · refine .inr (Nat.le_trans e (many_mono fun i hi hp => ?_))
      simp only [decide_eq_true_eq] at hp ⊢
      by_cases e : i = 0
      · subst e
        rw [up_same]
        exact hp
      · rw [up_ne _ _ e]
        exact hp
set_option maxRecDepth 100000 in
set_option maxHeartbeats 2000000 in
theorem comeC (base : Nat) (W : World) (a : Fa) (R : Nat → Rd) (F : List Tl) (c : Nat) (h : FM base W a R F c) (G : List Tp) (hI : Inv a.n R G) (t : Tl) (hx : EnO W t.v t.L) (ht0 : t.to = 0 → 1 ≤ t.co ∧ t.co < a.n ∧ t.fr ≤ (R t.co).L.length)
    (ht1 : t.to ≠ 0 → t.to < a.n ∧ t.co ≤ (R 0).commit ∧ t.fr ≤ (R 0).L.length ∧ t.L.map Le.v = ((R 0).L.drop t.fr).take (t.L.map Le.v).length) (hk : (R 0).k ≤ 100000) (hs : base ≤ W.heap.size) :
    Calls Try.prog 30 #[.pointer (some ⟨a.bf, 0, none⟩), .agg t.cs] W fun e W' => e = .returned (.tuple #[]) ∧ ∃ lbs R', FM base W' { a with lbs := lbs } R' F c ∧ Inv a.n R' G ∧ Held a.n R R' ∧ Below base W W' := by
  have HF := Lib.hid h
  have HI := Lib.hid hI
  have HX := Lib.hid hx
  have HT0 := Lib.hid ht0
  have HT1 := Lib.hid ht1
  have HKK := Lib.hid hk
  have HSS := Lib.hid hs
  obtain ⟨g, o, cp, hvr, hcp, hcm⟩ := h.rs hI.pos
  have HVR := Lib.hid hvr
  have h5 := hI.five
  have h0n := hI.pos
  obtain ⟨k0, hk0⟩ : ∃ k, W.heap.size = k := ⟨_, rfl⟩
  obtain ⟨w1, hw1⟩ : ∃ z, W.alloc (.cells t.cs 84) = z := ⟨_, rfl⟩
  have b1 : Below W.heap.size W w1 := by rw [← hw1]; exact (Below.refl _ _).alloc (Nat.le_refl _) _
  have r1 : w1.heap[k0]? = some (.cells t.cs 84 (0, 0)) := by rw [← hw1, ← hk0]; exact heap_alloc_new _ _
  have f1 : w1.heap[a.bf]? = some (.cells #[.slice (some ⟨g, o, none⟩) a.n cp, a.vf, .int .i64 c] 35 (0, 0)) := by rw [← hvr]; exact (b1.block a.bf (heap_lt h.fld)).trans h.fld
  have B1 := Lib.hid b1
  have R1 := Lib.hid r1
  have F1 := Lib.hid f1
  have HW1 := Lib.hid hw1
  have HK := Lib.hid hk0
  have HGL : Hid (g < W.heap.size) := Lib.hid (by have := RowO.lt h.rr g (by rw [hvr]; rfl); exact this)
  have t0 := cell_of r1 0 (.int .i64 t.to) rfl
  unfold maxLen at hcm
  clear h hI hx ht0 ht1 hk hs hvr hw1 b1 r1 f1 hk0
  by_cases hto : t.to = 0
  · obtain ⟨h1, h2, h3⟩ := HT0.out hto
    have H123 := Lib.hid (And.intro h1 (And.intro h2 h3))
    rw [hto] at t0
    obtain ⟨bx, hbx⟩ : ∃ z, a.bs 0 = z := ⟨_, rfl⟩
    have HBX := Lib.hid hbx
    have hpt : W.cell? ⟨g, o, none⟩ = some (.pointer (some ⟨bx, 0, none⟩)) := by rw [← hbx]; exact HF.out.ptr HVR.out h0n
    have R1d : Hid (w1.drew.heap[a.bf]? = some (.cells #[.slice (some ⟨g, o, none⟩) a.n cp, a.vf, .int .i64 c] 35 (0, 0)) ∧ w1.drew.cell? ⟨g, o, none⟩ = some (.pointer (some ⟨bx, 0, none⟩)) ∧ g < w1.drew.heap.size ∧ w1.drew.heap[k0]? = some (.cells t.cs 84 (0, 0))) := Lib.hid ⟨F1.out, (B1.out.cell (p := ⟨g, o, none⟩) HGL.out).trans hpt, Nat.lt_of_lt_of_le HGL.out B1.out.size, R1.out⟩
    have B1d : Hid (Below W.heap.size W w1.drew) := Lib.hid B1.out.drew
    have hco15 : t.co ≤ 15 := by omega
    clear hpt hbx h1 h2 h3 R1 F1
    go_enter Try.func30, Try.ntmps30
    go_wp2_with (first
      | (rw [HW1.out, HK.out])
      | fail)
    refine region_heldT (S := fun u => u.heap[a.bf]? = some (.cells #[.slice (some ⟨g, o, none⟩) a.n cp, a.vf, .int .i64 c] 35 (0, 0)) ∧ u.cell? ⟨g, o, none⟩ = some (.pointer (some ⟨bx, 0, none⟩)) ∧ g < u.heap.size ∧ u.heap[k0]? = some (.cells t.cs 84 (0, 0))) 11 (by kernel_rfl) (by decide) (fun inv => ?_)
    have HS := R1d.out
    change FirstH _ _ _ _ _ _ _ _ _ _ w1.drew
    generalize w1.drew = wd at *
    refine FirstH.go (i := 0) (v := .pointer (some ⟨a.bf, 0, none⟩)) rfl rfl 7 rfl (Op.move (Operand.tmp 0)) rfl (by kernel_rfl) (fun _ _ _ h => h) inv (fun W hS => by unfold bareO; go_simp) HS (fun inv => ?_)
    try simp only [Act.put, List.setIfInBounds_toArray, List.set_cons_zero, List.set_cons_succ]
    refine FirstH.go (i := 1) (v := .pointer (some ⟨a.bf, 0, none⟩)) rfl rfl 8 rfl (Op.nilCheck (Operand.tmp 7)) rfl (by kernel_rfl) (fun _ _ _ h => h) inv (fun W hS => by unfold bareO; go_simp) HS (fun inv => ?_)
    try simp only [Act.put, List.setIfInBounds_toArray, List.set_cons_zero, List.set_cons_succ]
    refine FirstH.go (i := 2) (v := .pointer (some ⟨a.bf, 0, none⟩)) rfl rfl 9 rfl (Op.fieldAddr 35 (Operand.tmp 8) 0) rfl (by kernel_rfl) (fun _ _ _ h => h) inv (fun W hS => by unfold bareO; go_simp) HS (fun inv => ?_)
    try simp only [Act.put, List.setIfInBounds_toArray, List.set_cons_zero, List.set_cons_succ]
    refine FirstH.go (i := 3) (v := .slice (some ⟨g, o, none⟩) a.n cp) rfl rfl 10 rfl (Op.load 32 (Operand.tmp 9)) rfl (by kernel_rfl) (fun _ _ _ h => h) inv (fun W hS => by have q0 := cell_of hS.1 0 (.slice (some ⟨g, o, none⟩) a.n cp) rfl; have q1 := hS.2.1; have q2 := cell_of hS.2.2.2 0 (.int .i64 t.to) rfl; have q3 := cell_of hS.2.2.2 1 (.int .i64 t.fr) rfl; have q4 := cell_of hS.2.2.2 2 (.int .i64 t.co) rfl; have q5 := cell_of hS.2.2.2 3 (.slice t.A t.L.length t.c) rfl; unfold bareO; go_simp) HS (fun inv => ?_)
    try simp only [Act.put, List.setIfInBounds_toArray, List.set_cons_zero, List.set_cons_succ]
    refine FirstH.go (i := 4) (v := .pointer (some ⟨g, o, none⟩)) rfl rfl 11 rfl (Op.indexAddr 32 (Operand.tmp 10) (Operand.const (Value.int IntKind.i64 0))) rfl (by kernel_rfl) (fun _ _ _ h => h) inv (fun W hS => by have hp := h0n; unfold bareO; go_simp) HS (fun inv => ?_)
    try simp only [Act.put, List.setIfInBounds_toArray, List.set_cons_zero, List.set_cons_succ]
    refine FirstH.go (i := 5) (v := .pointer (some ⟨bx, 0, none⟩)) rfl rfl 12 rfl (Op.load 36 (Operand.tmp 11)) rfl (by kernel_rfl) (fun _ _ _ h => h) inv (fun W hS => by have q0 := cell_of hS.1 0 (.slice (some ⟨g, o, none⟩) a.n cp) rfl; have q1 := hS.2.1; have q2 := cell_of hS.2.2.2 0 (.int .i64 t.to) rfl; have q3 := cell_of hS.2.2.2 1 (.int .i64 t.fr) rfl; have q4 := cell_of hS.2.2.2 2 (.int .i64 t.co) rfl; have q5 := cell_of hS.2.2.2 3 (.slice t.A t.L.length t.c) rfl; unfold bareO; go_simp) HS (fun inv => ?_)
    try simp only [Act.put, List.setIfInBounds_toArray, List.set_cons_zero, List.set_cons_succ]
    refine FirstH.go (i := 6) (v := .pointer (some ⟨k0, 2, none⟩)) rfl rfl 13 rfl (Op.fieldAddr 84 (Operand.tmp 3) 2) rfl (by kernel_rfl) (fun _ _ _ h => h) inv (fun W hS => by unfold bareO; go_simp) HS (fun inv => ?_)
    try simp only [Act.put, List.setIfInBounds_toArray, List.set_cons_zero, List.set_cons_succ]
    refine FirstH.go (i := 7) (v := .int .i64 t.co) rfl rfl 14 rfl (Op.load 3 (Operand.tmp 13)) rfl (by kernel_rfl) (fun _ _ _ h => h) inv (fun W hS => by have q0 := cell_of hS.1 0 (.slice (some ⟨g, o, none⟩) a.n cp) rfl; have q1 := hS.2.1; have q2 := cell_of hS.2.2.2 0 (.int .i64 t.to) rfl; have q3 := cell_of hS.2.2.2 1 (.int .i64 t.fr) rfl; have q4 := cell_of hS.2.2.2 2 (.int .i64 t.co) rfl; have q5 := cell_of hS.2.2.2 3 (.slice t.A t.L.length t.c) rfl; unfold bareO; go_simp) HS (fun inv => ?_)
    try simp only [Act.put, List.setIfInBounds_toArray, List.set_cons_zero, List.set_cons_succ]
    refine FirstH.go (i := 9) (v := .pointer (some ⟨k0, 1, none⟩)) rfl rfl 16 rfl (Op.fieldAddr 84 (Operand.tmp 3) 1) rfl (by kernel_rfl) (fun _ _ _ h => h) inv (fun W hS => by unfold bareO; go_simp) HS (fun inv => ?_)
    try simp only [Act.put, List.setIfInBounds_toArray, List.set_cons_zero, List.set_cons_succ]
    refine FirstH.go (i := 10) (v := .int .i64 t.fr) rfl rfl 17 rfl (Op.load 3 (Operand.tmp 16)) rfl (by kernel_rfl) (fun _ _ _ h => h) inv (fun W hS => by have q0 := cell_of hS.1 0 (.slice (some ⟨g, o, none⟩) a.n cp) rfl; have q1 := hS.2.1; have q2 := cell_of hS.2.2.2 0 (.int .i64 t.to) rfl; have q3 := cell_of hS.2.2.2 1 (.int .i64 t.fr) rfl; have q4 := cell_of hS.2.2.2 2 (.int .i64 t.co) rfl; have q5 := cell_of hS.2.2.2 3 (.slice t.A t.L.length t.c) rfl; unfold bareO; go_simp) HS (fun inv => ?_)
    try simp only [Act.put, List.setIfInBounds_toArray, List.set_cons_zero, List.set_cons_succ]
    refine FirstH.only (i := 8) (by kernel_rfl) (by decide) inv (fun inv => wpOp_call (i := 8) rfl rfl 15 rfl (Op.call { callee := Callee.value (.func 16), args := #[Operand.tmp 14], argTypes := #[3] }) rfl 16 #[.int .i64 t.co] (by unfold bareO; go_simp) (procC t.co hco15 wd) ?_)
    rintro e w2 ⟨rfl, b2⟩
    have HS2 : w2.heap[a.bf]? = some (.cells #[.slice (some ⟨g, o, none⟩) a.n cp, a.vf, .int .i64 c] 35 (0, 0)) ∧ w2.cell? ⟨g, o, none⟩ = some (.pointer (some ⟨bx, 0, none⟩)) ∧ g < w2.heap.size ∧ w2.heap[k0]? = some (.cells t.cs 84 (0, 0)) := ⟨(b2.block a.bf (heap_lt HS.1)).trans HS.1, (b2.cell (p := ⟨g, o, none⟩) HS.2.2.1).trans HS.2.1, Nat.lt_of_lt_of_le HS.2.2.1 b2.size, (b2.block k0 (heap_lt HS.2.2.2)).trans HS.2.2.2⟩
    have B2 := Lib.hid (B1d.out.trans (b2.mono B1d.out.size))
    have HF2 := Lib.hid (HF.out.below B2.out)
    clear b2 HS
    refine ⟨_, rfl, HS2, ?_⟩
    try simp only [Act.put, List.setIfInBounds_toArray, List.set_cons_zero, List.set_cons_succ]
    refine ⟨by kernel_rfl, ?_⟩
    simp only [List.drop_succ_cons, List.drop_zero]
    have KA := Lib.hid (HBX.out ▸ rAcked w2 (a.bs 0) (a.ms 0) (a.lbs 0) (R 0) (HF2.out.rolls 0 h0n) (pr t.co) (pr_rg hco15) t.fr HKK.out : Calls Try.prog 23 #[.pointer (some ⟨bx, 0, none⟩), .agg #[.int .u8 (pr t.co).n, .int .u16 (pr t.co).l], .int .i64 t.fr] w2 fun e W' => e = .returned (.tuple #[]) ∧ RP W' bx (a.ms 0) (a.lbs 0) ((R 0).acked (pr t.co) t.fr) ∧ KP (fun j => j = bx ∨ j = a.ms 0) w2 W')
    clear HS2
    go_wp2_with fail
    refine KA.out.mono ?_
    rintro e w3 ⟨rfl, hp3, kp3⟩
    have hp3' : RP w3 (a.bs 0) (a.ms 0) (a.lbs 0) ((R 0).acked (pr t.co) t.fr) := HBX.out ▸ hp3
    have kp3' : KP (FR (a.bs 0) (a.ms 0) (a.lbs 0)) w2 w3 := HBX.out ▸ kp3.mono fun j hj => by
      rcases hj with e | e
      · exact .inl e
      · exact .inr (.inl e)
    have HF3 := Lib.hid (HF2.out.roll h0n (a.lbs 0) _ kp3' hp3' (.inl rfl) (Nat.le_trans HSS.out B2.out.size))
    have HI3 := Lib.hid (HI.out.acked t.co t.fr H123.out.1 H123.out.2.1 H123.out.2.2 hp3'.hc.1 (HF2.out.rolls 0 h0n).hc.2)
    have SZ3 : Hid (Below base W w3) := Lib.hid ((B2.out.mono HSS.out).trans (HF2.out.belowR h0n kp3' (Nat.le_trans HSS.out B2.out.size)))
    clear hp3 kp3 hp3' kp3'
    go_wp2
    refine bodyPost_ret (results_none rfl _ _ _) rfl ⟨rfl, _, _, HF3.out, HI3.out, Held.up (acked_held _ _ _).1 (acked_held _ _ _).2, SZ3.out⟩
  · obtain ⟨h1, h2, h3, h4⟩ := HT1.out hto
    have HTX := Lib.hid (And.intro h1 (And.intro h2 (And.intro h3 h4)))
    have hti : ¬ ((t.to : Nat) : Int) = 0 := by omega
    have htb : (((t.to : Nat) : Int) == 0) = false := by simpa using hti
    obtain ⟨bx, hbx⟩ : ∃ z, a.bs t.to = z := ⟨_, rfl⟩
    have HBX := Lib.hid hbx
    have hpt : W.cell? ⟨g, o + t.to, none⟩ = some (.pointer (some ⟨bx, 0, none⟩)) := by rw [← hbx]; exact HF.out.ptr HVR.out h1
    have R1d : Hid (w1.drew.heap[a.bf]? = some (.cells #[.slice (some ⟨g, o, none⟩) a.n cp, a.vf, .int .i64 c] 35 (0, 0)) ∧ w1.drew.cell? ⟨g, o + t.to, none⟩ = some (.pointer (some ⟨bx, 0, none⟩)) ∧ g < w1.drew.heap.size ∧ w1.drew.heap[k0]? = some (.cells t.cs 84 (0, 0))) := Lib.hid ⟨F1.out, (B1.out.cell (p := ⟨g, o + t.to, none⟩) HGL.out).trans hpt, Nat.lt_of_lt_of_le HGL.out B1.out.size, R1.out⟩
    have B1d : Hid (Below W.heap.size W w1.drew) := Lib.hid B1.out.drew
    have HF1 := Lib.hid (HF.out.below B1d.out)
    have HX1 := Lib.hid (HX.out.keep (Keeps.of_below B1d.out))
    have hto' : t.to < a.n := h1
    have hti2 : ((t.to : Nat) : Int) < (a.n : Int) := by omega
    have hli : t.L.length ≤ 1000 := by
      have := congrArg List.length h4
      rw [List.length_take, List.length_map, List.length_drop] at this
      have := (HF.out.rolls 0 h0n).hc.2
      omega
    have hfi : t.fr ≤ 400 := by
      have := (HF.out.rolls 0 h0n).hc.2
      omega
    have KT : Hid (Calls Try.prog 20 #[.pointer (some ⟨bx, 0, none⟩), .int .i64 t.fr, .slice t.A t.L.length t.c, .int .i64 t.co] w1.drew fun e W' => e = .returned (.bool ((R t.to).takeOk t.fr t.L.length)) ∧ After w1.drew W' (a.bs t.to) (a.ms t.to) (a.lbs t.to) ((R t.to).take t.fr (t.L.map Le.v) t.co)) := Lib.hid (by
      have := rTake w1.drew (a.bs t.to) (a.ms t.to) (a.lbs t.to) (R t.to) (HF1.out.rolls t.to h1) (HI.out.leadx h1 hto) t.fr t.co t.v t.L HX1.out hli (by omega)
      rw [← hbx]
      exact this)
    clear hpt hbx h1 h2 h3 h4 R1 F1
    go_enter Try.func30, Try.ntmps30
    go_wp2_with (first
      | (rw [HW1.out, HK.out])
      | fail)
    refine region_heldT (S := fun u => u.heap[a.bf]? = some (.cells #[.slice (some ⟨g, o, none⟩) a.n cp, a.vf, .int .i64 c] 35 (0, 0)) ∧ u.cell? ⟨g, o + t.to, none⟩ = some (.pointer (some ⟨bx, 0, none⟩)) ∧ g < u.heap.size ∧ u.heap[k0]? = some (.cells t.cs 84 (0, 0))) 14 (by kernel_rfl) (by decide) (fun inv => ?_)
    have HS := R1d.out
    change FirstH _ _ _ _ _ _ _ _ _ _ w1.drew
    generalize w1.drew = wd at *
    refine FirstH.go (i := 0) (v := .pointer (some ⟨a.bf, 0, none⟩)) rfl rfl 19 rfl (Op.move (Operand.tmp 0)) rfl (by kernel_rfl) (fun _ _ _ h => h) inv (fun W hS => by unfold bareO; go_simp) HS (fun inv => ?_)
    try simp only [Act.put, List.setIfInBounds_toArray, List.set_cons_zero, List.set_cons_succ]
    refine FirstH.go (i := 1) (v := .pointer (some ⟨a.bf, 0, none⟩)) rfl rfl 20 rfl (Op.nilCheck (Operand.tmp 19)) rfl (by kernel_rfl) (fun _ _ _ h => h) inv (fun W hS => by unfold bareO; go_simp) HS (fun inv => ?_)
    try simp only [Act.put, List.setIfInBounds_toArray, List.set_cons_zero, List.set_cons_succ]
    refine FirstH.go (i := 2) (v := .pointer (some ⟨a.bf, 0, none⟩)) rfl rfl 21 rfl (Op.fieldAddr 35 (Operand.tmp 20) 0) rfl (by kernel_rfl) (fun _ _ _ h => h) inv (fun W hS => by unfold bareO; go_simp) HS (fun inv => ?_)
    try simp only [Act.put, List.setIfInBounds_toArray, List.set_cons_zero, List.set_cons_succ]
    refine FirstH.go (i := 3) (v := .slice (some ⟨g, o, none⟩) a.n cp) rfl rfl 22 rfl (Op.load 32 (Operand.tmp 21)) rfl (by kernel_rfl) (fun _ _ _ h => h) inv (fun W hS => by have q0 := cell_of hS.1 0 (.slice (some ⟨g, o, none⟩) a.n cp) rfl; have q1 := hS.2.1; have q2 := cell_of hS.2.2.2 0 (.int .i64 t.to) rfl; have q3 := cell_of hS.2.2.2 1 (.int .i64 t.fr) rfl; have q4 := cell_of hS.2.2.2 2 (.int .i64 t.co) rfl; have q5 := cell_of hS.2.2.2 3 (.slice t.A t.L.length t.c) rfl; unfold bareO; go_simp) HS (fun inv => ?_)
    try simp only [Act.put, List.setIfInBounds_toArray, List.set_cons_zero, List.set_cons_succ]
    refine FirstH.go (i := 4) (v := .pointer (some ⟨k0, 0, none⟩)) rfl rfl 23 rfl (Op.fieldAddr 84 (Operand.tmp 3) 0) rfl (by kernel_rfl) (fun _ _ _ h => h) inv (fun W hS => by unfold bareO; go_simp) HS (fun inv => ?_)
    try simp only [Act.put, List.setIfInBounds_toArray, List.set_cons_zero, List.set_cons_succ]
    refine FirstH.go (i := 5) (v := .int .i64 t.to) rfl rfl 24 rfl (Op.load 3 (Operand.tmp 23)) rfl (by kernel_rfl) (fun _ _ _ h => h) inv (fun W hS => by have q0 := cell_of hS.1 0 (.slice (some ⟨g, o, none⟩) a.n cp) rfl; have q1 := hS.2.1; have q2 := cell_of hS.2.2.2 0 (.int .i64 t.to) rfl; have q3 := cell_of hS.2.2.2 1 (.int .i64 t.fr) rfl; have q4 := cell_of hS.2.2.2 2 (.int .i64 t.co) rfl; have q5 := cell_of hS.2.2.2 3 (.slice t.A t.L.length t.c) rfl; unfold bareO; go_simp) HS (fun inv => ?_)
    try simp only [Act.put, List.setIfInBounds_toArray, List.set_cons_zero, List.set_cons_succ]
    refine FirstH.go (i := 6) (v := .pointer (some ⟨g, o + t.to, none⟩)) rfl rfl 25 rfl (Op.indexAddr 32 (Operand.tmp 22) (Operand.tmp 24)) rfl (by kernel_rfl) (fun _ _ _ h => h) inv (fun W hS => by have hp := hto'; have hp2 := hti2; unfold bareO; go_simp) HS (fun inv => ?_)
    try simp only [Act.put, List.setIfInBounds_toArray, List.set_cons_zero, List.set_cons_succ]
    refine FirstH.go (i := 7) (v := .pointer (some ⟨bx, 0, none⟩)) rfl rfl 26 rfl (Op.load 36 (Operand.tmp 25)) rfl (by kernel_rfl) (fun _ _ _ h => h) inv (fun W hS => by have q0 := cell_of hS.1 0 (.slice (some ⟨g, o, none⟩) a.n cp) rfl; have q1 := hS.2.1; have q2 := cell_of hS.2.2.2 0 (.int .i64 t.to) rfl; have q3 := cell_of hS.2.2.2 1 (.int .i64 t.fr) rfl; have q4 := cell_of hS.2.2.2 2 (.int .i64 t.co) rfl; have q5 := cell_of hS.2.2.2 3 (.slice t.A t.L.length t.c) rfl; unfold bareO; go_simp) HS (fun inv => ?_)
    try simp only [Act.put, List.setIfInBounds_toArray, List.set_cons_zero, List.set_cons_succ]
    refine FirstH.go (i := 8) (v := .pointer (some ⟨k0, 1, none⟩)) rfl rfl 27 rfl (Op.fieldAddr 84 (Operand.tmp 3) 1) rfl (by kernel_rfl) (fun _ _ _ h => h) inv (fun W hS => by unfold bareO; go_simp) HS (fun inv => ?_)
    try simp only [Act.put, List.setIfInBounds_toArray, List.set_cons_zero, List.set_cons_succ]
    refine FirstH.go (i := 9) (v := .int .i64 t.fr) rfl rfl 28 rfl (Op.load 3 (Operand.tmp 27)) rfl (by kernel_rfl) (fun _ _ _ h => h) inv (fun W hS => by have q0 := cell_of hS.1 0 (.slice (some ⟨g, o, none⟩) a.n cp) rfl; have q1 := hS.2.1; have q2 := cell_of hS.2.2.2 0 (.int .i64 t.to) rfl; have q3 := cell_of hS.2.2.2 1 (.int .i64 t.fr) rfl; have q4 := cell_of hS.2.2.2 2 (.int .i64 t.co) rfl; have q5 := cell_of hS.2.2.2 3 (.slice t.A t.L.length t.c) rfl; unfold bareO; go_simp) HS (fun inv => ?_)
    try simp only [Act.put, List.setIfInBounds_toArray, List.set_cons_zero, List.set_cons_succ]
    refine FirstH.go (i := 10) (v := .pointer (some ⟨k0, 3, none⟩)) rfl rfl 29 rfl (Op.fieldAddr 84 (Operand.tmp 3) 3) rfl (by kernel_rfl) (fun _ _ _ h => h) inv (fun W hS => by unfold bareO; go_simp) HS (fun inv => ?_)
    try simp only [Act.put, List.setIfInBounds_toArray, List.set_cons_zero, List.set_cons_succ]
    refine FirstH.go (i := 11) (v := .slice t.A t.L.length t.c) rfl rfl 30 rfl (Op.load 37 (Operand.tmp 29)) rfl (by kernel_rfl) (fun _ _ _ h => h) inv (fun W hS => by have q0 := cell_of hS.1 0 (.slice (some ⟨g, o, none⟩) a.n cp) rfl; have q1 := hS.2.1; have q2 := cell_of hS.2.2.2 0 (.int .i64 t.to) rfl; have q3 := cell_of hS.2.2.2 1 (.int .i64 t.fr) rfl; have q4 := cell_of hS.2.2.2 2 (.int .i64 t.co) rfl; have q5 := cell_of hS.2.2.2 3 (.slice t.A t.L.length t.c) rfl; unfold bareO; go_simp) HS (fun inv => ?_)
    try simp only [Act.put, List.setIfInBounds_toArray, List.set_cons_zero, List.set_cons_succ]
    refine FirstH.go (i := 12) (v := .pointer (some ⟨k0, 2, none⟩)) rfl rfl 31 rfl (Op.fieldAddr 84 (Operand.tmp 3) 2) rfl (by kernel_rfl) (fun _ _ _ h => h) inv (fun W hS => by unfold bareO; go_simp) HS (fun inv => ?_)
    try simp only [Act.put, List.setIfInBounds_toArray, List.set_cons_zero, List.set_cons_succ]
    refine FirstH.go (i := 13) (v := .int .i64 t.co) rfl rfl 32 rfl (Op.load 3 (Operand.tmp 31)) rfl (by kernel_rfl) (fun _ _ _ h => h) inv (fun W hS => by have q0 := cell_of hS.1 0 (.slice (some ⟨g, o, none⟩) a.n cp) rfl; have q1 := hS.2.1; have q2 := cell_of hS.2.2.2 0 (.int .i64 t.to) rfl; have q3 := cell_of hS.2.2.2 1 (.int .i64 t.fr) rfl; have q4 := cell_of hS.2.2.2 2 (.int .i64 t.co) rfl; have q5 := cell_of hS.2.2.2 3 (.slice t.A t.L.length t.c) rfl; unfold bareO; go_simp) HS (fun inv => ?_)
    try simp only [Act.put, List.setIfInBounds_toArray, List.set_cons_zero, List.set_cons_succ]
    refine ⟨by kernel_rfl, ?_⟩
    simp only [List.drop_succ_cons, List.drop_zero]
    clear HS
    go_wp2_with fail
    refine KT.out.mono ?_
    rintro e w3 ⟨rfl, lb3, hp3, kp3, hl3⟩
    have HF3 := Lib.hid (HF1.out.roll hto' lb3 _ kp3 hp3 hl3 (Nat.le_trans HSS.out B1d.out.size))
    have HI3 := Lib.hid (HI.out.take t.to hto' hto t.fr t.co (t.L.map Le.v) HTX.out.2.1 HTX.out.2.2.1 HTX.out.2.2.2)
    have SZ3 : Hid (Below base W w3) := Lib.hid ((B1d.out.mono HSS.out).trans (HF1.out.belowR hto' kp3 (Nat.le_trans HSS.out B1d.out.size)))
    clear hp3 kp3 hl3
    go_wp2
    refine bodyPost_end (results_none rfl _ _ _) rfl ⟨rfl, _, _, HF3.out, HI3.out, Held.up (take_held _ _ _ _).1 (take_held _ _ _ _).2, SZ3.out⟩

end Go.Proofs.Ytjdmjiikpnlkjaa
