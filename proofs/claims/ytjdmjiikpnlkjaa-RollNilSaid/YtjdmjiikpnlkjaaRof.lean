/-
  The program's order: Shut, Add, by exact answers. Condition: it lies in memory; whether the entry may be is given by its contract.
-/
import Derived.Test.YtjdmjiikpnlkjaaRoe
import Derived.Test.YtjdmjiikpnlkjaaRoc
import Derived.Test.YtjdmjiikpnlkjaaGvl
import Derived.Deep.MidRow
import Derived.Deep.WholeRow
import Derived.Great.BuildSlice
namespace Go.Proofs.Ytjdmjiikpnlkjaa
set_option linter.unusedSimpArgs false
set_option linter.unusedVariables false
open Go.RowKit Go.Maps Go.Sort
open V (P2)

theorem wp_bsE {o : Oper} {a : Act} {w : World} {K : Act → World → Prop} {Q : Exit → Act → World → Prop} (x : Operand) (ho : o.op = .buildSlice 37 1 #[(0, x)]) (e : Le) (hx : a.eval x = .agg e.cs) (h : K (a.put o.dst (.slice (some ⟨w.heap.size, 0, none⟩) 1 1)) (w.alloc (.cells e.cs 63))) : o.wp Try.prog a w K Q := by
  obtain ⟨i0, hi0, hz0, hz1, hz2⟩ := info_parts entI
  refine wp_buildSlice 37 63 1 #[(0, x)] ho e.cs i0 _ Try.underlying37 hi0 hz0 (by rw [hz1]; decide) (by rw [hz1]; decide) ?_ h
  have := fillE e
  rw [hz1]
  simpa [hx] using this
/-- what a call leaves behind. -/
def After (W W' : World) (b m : Nat) (lb : Option Nat) (d : Rd) : Prop := ∃ lb', RP W' b m lb' d ∧ KP (FR b m lb) W W' ∧ (lb' = lb ∨ ∃ j, lb' = some j ∧ W.heap.size ≤ j)
theorem After.same {W W' : World} {b m : Nat} {lb : Option Nat} {d : Rd} (h : RP W' b m lb d) (k : KP (FR b m lb) W W') : After W W' b m lb d := ⟨lb, h, k, .inl rfl⟩
theorem After.below {W W' : World} {b m : Nat} {lb : Option Nat} {d : Rd} (h : RP W b m lb d) (k : Below W.heap.size W W') : After W W' b m lb d := ⟨lb, h.below k, KP.of_below k, .inl rfl⟩
/-- the row of entries grown, and its cell set anew. -/
theorem RQ.grow {W W' : World} {b m n c c' : Nat} {A A' : Option Addr} {d : Rd} {mv : Value} {Lg L2 : List Le} (h : RQ W b m d ⟨mv, .slice A n c, Lg⟩) (k : KP (fun j => (Value.slice A n c).ownBlock = some j) W W')
    (hb : W'.heap[b]? = some (.cells (d.cs ⟨mv, .slice A n c, Lg⟩ m) 81 (0, 0)))
    (hr : RowO W' 63 18 (.slice A' (Lg ++ L2).length c') (Lg ++ L2).length (cellsE (Lg ++ L2))) (hL : ∀ e ∈ L2, LeO e W) (hf : d.L.length + L2.length ≤ 400) :
    RQ (W'.setCell ⟨b, 5, none⟩ (.slice A' (Lg ++ L2).length c')) b m { d with L := d.L ++ L2.map Le.v } ⟨mv, .slice A' (Lg ++ L2).length c', Lg ++ L2⟩ ∧ KP (FR b m (Value.slice A n c).ownBlock) W (W'.setCell ⟨b, 5, none⟩ (.slice A' (Lg ++ L2).length c')) := by
  have k2 : KP (fun j => j = b) W' (W'.setCell ⟨b, 5, none⟩ (.slice A' (Lg ++ L2).length c')) := KP.set (S := fun j => j = b) W' b 5 _ rfl
  have kk : KP (FR b m (Value.slice A n c).ownBlock) W (W'.setCell ⟨b, 5, none⟩ (.slice A' (Lg ++ L2).length c')) := (k.mono fun j hj => .inr (.inr hj)).trans (k2.mono fun j hj => .inl hj) fun _ _ h => h
  have k3 := h.keep3 kk
  obtain ⟨es, cl, hm⟩ := h.tl.lt
  refine ⟨⟨(row_set (i := 5) hb _).trans rfl, h.tl.keep ((k2.block m (Nat.lt_of_lt_of_le (heap_lt hm) k.size) (Ne.symm h.ne)).trans (k.block m (heap_lt hm) h.nel.2)), RowO.keepB h.mem fun g hg => ?_, ?_, fun e he => ?_, by rw [List.map_append, h.lgd], h.right, by show (d.L ++ L2.map Le.v).length ≤ 400; rw [List.length_append, List.length_map]; exact hf, ?_, ?_, fun p => ?_, h.rm, h.rM⟩, kk⟩
  · obtain ⟨cur, hc⟩ := RowO.block h.mem g hg
    exact (k3 g cur _ hc (.inl rfl)).trans hc.symm
  · refine hr.keepB fun g hg => k2.block g (RowO.lt hr g hg) ?_
    rintro rfl
    obtain ⟨cur, hc⟩ := RowO.block hr g hg
    rw [hb] at hc
    injection hc with hc
    injection hc with _ e _
    revert e
    decide
  · rcases List.mem_append.1 he with he | he
    · exact (h.all e he).keepL k3.l
    · exact (hL e he).keepL k3.l
  · show d.base ≤ (d.L ++ L2.map Le.v).length
    rw [List.length_append]
    exact Nat.le_trans h.hb (Nat.le_add_right _ _)
  · show d.commit ≤ (d.L ++ L2.map Le.v).length
    rw [List.length_append]
    exact Nat.le_trans h.hc (Nat.le_add_right _ _)
  · show d.T p ≤ (d.L ++ L2.map Le.v).length
    rw [List.length_append]
    exact Nat.le_trans (h.ht p) (Nat.le_add_right _ _)
def Rd.closed (d : Rd) : Rd := { d with shut := true }
def Rd.addC (d : Rd) (rb : Bool) : Int := if (d.lead && rb) = true then (if d.shut = true then 17 else if 400 ≤ d.L.length then 11 else 0) else 1
def Rd.addD (d : Rd) (rb : Bool) (v : EV) : Rd := if (d.lead && rb && !d.shut && decide (d.L.length < 400)) = true then Rd.counted { d with L := d.L ++ [v] } else d
set_option maxRecDepth 100000 in
set_option maxHeartbeats 2000000 in
theorem rShut (W : World) (b m : Nat) (lb : Option Nat) (d : Rd) (h : RP W b m lb d) :
    Calls Try.prog 11 #[.pointer (some ⟨b, 0, none⟩)] W fun e W' => e = .returned (.tuple #[]) ∧ RP W' b m lb d.closed ∧ KP (fun j => j = b) W W' := by
  have K1 := Lib.hid (rMade W b m lb d h)
  obtain ⟨w, hlb, h⟩ := h
  have c8 := cell_of h.blk 8 (.bool d.shut) rfl
  have f8 := frz_row 8 h.blk
  have HQ := Lib.hid h
  clear h
  go_enter Try.func11, Try.ntmps11
  go_wp2_with (go_at_call 32; refine K1.out.mono ?_; rintro e w1 ⟨rfl, rfl⟩)
  have kp : KP (fun j => j = b) W (W.setCell ⟨b, 8, none⟩ (.bool true)) := KP.set (S := fun j => j = b) W b 8 _ rfl
  refine bodyPost_end (results_none rfl _ _ _) rfl ⟨rfl, ⟨w, hlb, ?_⟩, kp⟩
  exact HQ.out.set kp ((row_set (i := 8) HQ.out.blk (.bool true)).trans rfl) rfl rfl rfl rfl rfl rfl rfl rfl HQ.out.hc
set_option maxRecDepth 100000 in
set_option maxHeartbeats 2000000 in
theorem rAdd (W : World) (b m : Nat) (lb : Option Nat) (d : Rd) (h : RP W b m lb d) (e : Le) (he : LeO e W) (rb : Bool)
    (hrt : ∀ u, Below W.heap.size W u → Calls Try.prog 39 #[.agg e.cs, .int .u8 d.g] u fun r W' => r = .returned (.bool rb) ∧ Below u.heap.size u W') :
    Calls Try.prog 17 #[.pointer (some ⟨b, 0, none⟩), .agg e.cs] W fun r W' => r = .returned (.int .i64 (d.addC rb)) ∧ After W W' b m lb (d.addD rb e.v) := by
  have HRP := Lib.hid h
  have HRT := Lib.hid hrt
  have HE := Lib.hid he
  obtain ⟨k0, hk0⟩ : ∃ k, W.heap.size = k := ⟨_, rfl⟩
  obtain ⟨w1, hw1⟩ : ∃ z, W.alloc (.cells e.cs 63) = z := ⟨_, rfl⟩
  have b1 : Below k0 W w1 := by rw [← hw1, ← hk0]; exact (Below.refl _ _).alloc (Nat.le_refl _) _
  have r1 : w1.heap[k0]? = some (.cells e.cs 63 (0, 0)) := by rw [← hw1, ← hk0]; exact heap_alloc_new _ _
  obtain ⟨⟨mv, lv, Lg⟩, hlb, hq⟩ := id h
  have HQ := Lib.hid hq
  have HLB := Lib.hid hlb
  have R1 : Hid (w1.heap[b]? = some (.cells #[.int .u8 d.g, .int .u32 d.N, mv, .int .u8 d.me.n, .int .u16 d.me.l, lv, .int .i64 d.base, .int .i64 d.commit, .bool d.shut, .map (some m)] 81 (0, 0)) ∧ w1.heap[k0]? = some (.cells e.cs 63 (0, 0))) := Lib.hid ⟨(b1.block b (hk0 ▸ hq.ltb)).trans hq.blk, r1⟩
  have B1 := Lib.hid b1
  have HW1 := Lib.hid hw1
  have HK := Lib.hid hk0
  have HB0 : Hid (b < k0) := Lib.hid (by
    obtain ⟨_, _, q⟩ := h
    rw [← hk0]
    exact q.ltb)
  have HLN : Hid (d.L.length ≤ 400) := Lib.hid hq.few
  clear h hrt he b1 r1 hw1 hk0 hlb hq
  cases hld : d.lead with
  | false =>
    have HE0 : Hid (d.addC rb = 1 ∧ d.addD rb e.v = d) := Lib.hid (by simp [Rd.addC, Rd.addD, hld])
    have KL : Hid (∀ dd os, Calls Try.prog 38 #[.pointer (some ⟨b, 0, none⟩)] (grow (redrawn w1 dd) os) fun e w' => e = .returned (.bool false) ∧ Below (grow (redrawn w1 dd) os).heap.size (grow (redrawn w1 dd) os) w') := Lib.hid fun dd os => by
      have := rLeads _ b m lb d ((HRP.out.below (HK.out.symm ▸ B1.out)).below (below_regrown w1 dd os))
      rwa [hld] at this
    clear hld
    go_enter Try.func17, Try.ntmps17
    go_wp2_with (first
      | (rw [HW1.out, HK.out])
      | fail)
    refine wp_region_quiet_below (by kernel_rfl) (by kernel_rfl) ?_
    repeat (go_big_quiet_step (first | (go_at_call 38; exact Calls.regrown_of (KL.out _ _)) | fail))
    refine wpQuiet_nil ?_
    rintro W9 ⟨p9, rfl⟩
    have B9 := Lib.hid (B1.out.trans ((below_regrown w1 p9.d p9.os).mono (HK.out ▸ B1.out.size)))
    generalize grow (redrawn w1 p9.d) p9.os = W9 at *
    go_wp2_with fail
    go_ret
    refine ⟨ret_int HE0.out.1.symm, ?_⟩
    rw [HE0.out.2]
    exact After.below HRP.out (by rw [HK.out]; exact B9.out)
  | true =>
    have KL : Hid (Calls Try.prog 38 #[.pointer (some ⟨b, 0, none⟩)] w1.drew fun e w' => e = .returned (.bool true) ∧ Below w1.drew.heap.size w1.drew w') := Lib.hid (by
      have := rLeads _ b m lb d ((HRP.out.below (HK.out.symm ▸ B1.out)).below (Below.refl _ _).drew)
      rwa [hld] at this)
    have HLD := Lib.hid hld
    have B1d : Hid (Below k0 W w1.drew) := Lib.hid B1.out.drew
    have R1d : Hid (w1.drew.heap[b]? = some (.cells #[.int .u8 d.g, .int .u32 d.N, mv, .int .u8 d.me.n, .int .u16 d.me.l, lv, .int .i64 d.base, .int .i64 d.commit, .bool d.shut, .map (some m)] 81 (0, 0)) ∧ w1.drew.heap[k0]? = some (.cells e.cs 63 (0, 0))) := Lib.hid R1.out
    clear hld
    go_enter Try.func17, Try.ntmps17
    go_wp2_with (first
      | (rw [HW1.out, HK.out])
      | fail)
    refine region_heldT (S := fun u => u.heap[b]? = some (.cells #[.int .u8 d.g, .int .u32 d.N, mv, .int .u8 d.me.n, .int .u16 d.me.l, lv, .int .i64 d.base, .int .i64 d.commit, .bool d.shut, .map (some m)] 81 (0, 0)) ∧ u.heap[k0]? = some (.cells e.cs 63 (0, 0))) 13 (by kernel_rfl) (by decide) (fun inv => ?_)
    have HS := R1d.out
    change FirstH _ _ _ _ _ _ _ _ _ _ w1.drew
    generalize w1.drew = wd at *
    refine FirstH.go (i := 0) (v := .pointer (some ⟨b, 0, none⟩)) rfl rfl 6 rfl (Op.move (Operand.tmp 0)) rfl (by kernel_rfl) (fun _ _ _ h => h) inv (fun W hS => by unfold bareO; go_simp) HS (fun inv => ?_)
    try simp only [Act.put, List.setIfInBounds_toArray, List.set_cons_zero, List.set_cons_succ]
    refine FirstH.only (i := 1) (by kernel_rfl) (by decide) inv (fun inv => wpOp_call (i := 1) rfl rfl 7 rfl (Op.call { callee := Callee.value (.func 38), args := #[Operand.tmp 6], argTypes := #[36] }) rfl 38 #[.pointer (some ⟨b, 0, none⟩)] (by unfold bareO; go_simp) (KL.out) ?_)
    rintro r w2 ⟨rfl, b2⟩
    have HS2 : w2.heap[b]? = some (.cells #[.int .u8 d.g, .int .u32 d.N, mv, .int .u8 d.me.n, .int .u16 d.me.l, lv, .int .i64 d.base, .int .i64 d.commit, .bool d.shut, .map (some m)] 81 (0, 0)) ∧ w2.heap[k0]? = some (.cells e.cs 63 (0, 0)) := ⟨(b2.block b (heap_lt HS.1)).trans HS.1, (b2.block k0 (heap_lt HS.2)).trans HS.2⟩
    have B2 := Lib.hid (B1d.out.trans (b2.mono (by have := heap_lt HS.2; omega)))
    clear b2 HS
    refine ⟨_, rfl, HS2, ?_⟩
    try simp only [Act.put, List.setIfInBounds_toArray, List.set_cons_zero, List.set_cons_succ]
    refine FirstH.go (i := 2) (v := .bool false) rfl rfl 8 rfl (Op.unOp UnOp.not 4 (Operand.tmp 7)) rfl (by kernel_rfl) (fun _ _ _ h => h) inv (fun W hS => by unfold bareO; go_simp) HS2 (fun inv => ?_)
    try simp only [Act.put, List.setIfInBounds_toArray, List.set_cons_zero, List.set_cons_succ]
    refine FirstH.go (i := 3) (v := .bool false) rfl rfl 9 rfl (Op.move (Operand.tmp 8)) rfl (by kernel_rfl) (fun _ _ _ h => h) inv (fun W hS => by unfold bareO; go_simp) HS2 (fun inv => ?_)
    try simp only [Act.put, List.setIfInBounds_toArray, List.set_cons_zero, List.set_cons_succ]
    refine FirstH.goG (i := 4) (v := .agg e.cs) rfl (by rfl) 10 rfl (Op.load 63 (Operand.tmp 3)) rfl (by kernel_rfl) (fun _ _ _ h => h) inv (fun W hS => by exact run_load_row 63 _ _ k0 rfl 63 e.cs (0, 0) _ hS.2 Try.underlying63 rfl (by kernel_rfl)) HS2 (fun inv => ?_)
    try simp only [Act.put, List.setIfInBounds_toArray, List.set_cons_zero, List.set_cons_succ]
    refine FirstH.goG (i := 5) (v := .pointer (some ⟨b, 0, none⟩)) rfl (by rfl) 11 rfl (Op.move (Operand.tmp 0)) rfl (by kernel_rfl) (fun _ _ _ h => h) inv (fun W hS => by unfold bareO; go_simp) HS2 (fun inv => ?_)
    try simp only [Act.put, List.setIfInBounds_toArray, List.set_cons_zero, List.set_cons_succ]
    refine FirstH.goG (i := 6) (v := .pointer (some ⟨b, 0, none⟩)) rfl (by rfl) 12 rfl (Op.nilCheck (Operand.tmp 11)) rfl (by kernel_rfl) (fun _ _ _ h => h) inv (fun W hS => by unfold bareO; go_simp) HS2 (fun inv => ?_)
    try simp only [Act.put, List.setIfInBounds_toArray, List.set_cons_zero, List.set_cons_succ]
    refine FirstH.goG (i := 7) (v := .pointer (some ⟨b, 0, none⟩)) rfl (by rfl) 13 rfl (Op.fieldAddr 81 (Operand.tmp 12) 0) rfl (by kernel_rfl) (fun _ _ _ h => h) inv (fun W hS => by unfold bareO; go_simp) HS2 (fun inv => ?_)
    try simp only [Act.put, List.setIfInBounds_toArray, List.set_cons_zero, List.set_cons_succ]
    refine FirstH.goG (i := 8) (v := .pointer (some ⟨b, 0, none⟩)) rfl (by rfl) 14 rfl (Op.fieldAddr 45 (Operand.tmp 13) 0) rfl (by kernel_rfl) (fun _ _ _ h => h) inv (fun W hS => by unfold bareO; go_simp) HS2 (fun inv => ?_)
    try simp only [Act.put, List.setIfInBounds_toArray, List.set_cons_zero, List.set_cons_succ]
    refine FirstH.goG (i := 9) (v := .int .u8 d.g) rfl (by rfl) 15 rfl (Op.load 5 (Operand.tmp 14)) rfl (by kernel_rfl) (fun _ _ _ h => h) inv (fun W hS => by have k0' := cell_of hS.1 0 (.int .u8 d.g) rfl; have k5 := cell_of hS.1 5 lv rfl; unfold bareO; go_simp) HS2 (fun inv => ?_)
    try simp only [Act.put, List.setIfInBounds_toArray, List.set_cons_zero, List.set_cons_succ]
    refine FirstH.only (i := 10) (by kernel_rfl) (by decide) inv (fun inv => wpOp_callG (i := 10) rfl (by rfl) 16 rfl (Op.call { callee := Callee.value (.func 39), args := #[Operand.tmp 10, Operand.tmp 15], argTypes := #[63, 5] }) rfl 39 #[.agg e.cs, .int .u8 d.g] (by unfold bareO; go_simp) (HRT.out w2 (HK.out.symm ▸ B2.out)) ?_)
    rintro r w3 ⟨rfl, b3⟩
    have HS3 : w3.heap[b]? = some (.cells #[.int .u8 d.g, .int .u32 d.N, mv, .int .u8 d.me.n, .int .u16 d.me.l, lv, .int .i64 d.base, .int .i64 d.commit, .bool d.shut, .map (some m)] 81 (0, 0)) ∧ w3.heap[k0]? = some (.cells e.cs 63 (0, 0)) := ⟨(b3.block b (heap_lt HS2.1)).trans HS2.1, (b3.block k0 (heap_lt HS2.2)).trans HS2.2⟩
    have B3 := Lib.hid (B2.out.trans (b3.mono (by have := heap_lt HS2.2; omega)))
    clear b3 HS2
    refine ⟨_, rfl, HS3, ?_⟩
    try simp only [Act.put, List.setIfInBounds_toArray, List.set_cons_zero, List.set_cons_succ]
    refine FirstH.goG (i := 11) (v := .bool (!rb)) rfl (by rfl) 17 rfl (Op.unOp UnOp.not 4 (Operand.tmp 16)) rfl (by kernel_rfl) (fun _ _ _ h => h) inv (fun W hS => by unfold bareO; go_simp) HS3 (fun inv => ?_)
    try simp only [Act.put, List.setIfInBounds_toArray, List.set_cons_zero, List.set_cons_succ]
    refine FirstH.go (i := 12) (v := .bool (!rb)) rfl rfl 18 rfl (Op.pick (Operand.tmp 9) (Operand.const (Value.bool true)) (Operand.tmp 17)) rfl (by kernel_rfl) (fun _ _ _ h => h) inv (fun W hS => by cases rb <;> (unfold bareO; go_simp)) HS3 (fun inv => ?_)
    try simp only [Act.put, List.setIfInBounds_toArray, List.set_cons_zero, List.set_cons_succ]
    refine ⟨by kernel_rfl, ?_⟩
    simp only [List.drop_succ_cons, List.drop_zero]
    have R3 := Lib.hid HS3
    clear HS3
    cases rb with
    | false =>
      have HE0 : Hid (d.addC false = 1 ∧ d.addD false e.v = d) := Lib.hid (by simp [Rd.addC, Rd.addD])
      go_wp2_with fail
      go_ret
      refine ⟨ret_int HE0.out.1.symm, ?_⟩
      rw [HE0.out.2]
      exact After.below HRP.out (by rw [HK.out]; exact B3.out)
    | true =>
      have k8 := cell_of R3.out.1 8 (.bool d.shut) rfl
      cases hsh : d.shut with
      | true =>
        have HE0 : Hid (d.addC true = 17 ∧ d.addD true e.v = d) := Lib.hid (by simp [Rd.addC, Rd.addD, hsh, HLD.out])
        rw [hsh] at k8
        clear hsh
        go_wp2_with fail
        go_ret
        refine ⟨ret_int HE0.out.1.symm, ?_⟩
        rw [HE0.out.2]
        exact After.below HRP.out (by rw [HK.out]; exact B3.out)
      | false =>
        rw [hsh] at k8
        have HSH := Lib.hid hsh
        have hq3 := HQ.out.below (HK.out.symm ▸ B3.out)
        obtain ⟨A, c, hlv, h1, h2, h3⟩ := RowO.slice hq3.row
        have hl := hq3.len
        dsimp only at hlv hl
        rw [hl] at hlv h1
        obtain ⟨n, hn⟩ : ∃ n, d.L.length = n := ⟨_, rfl⟩
        rw [hn] at hlv h1
        subst hlv
        have HN := Lib.hid hn
        have HLl := Lib.hid hl
        have hm : c ≤ 9223372036854775807 := by unfold maxLen at h2; omega
        have k5 := cell_of R3.out.1 5 (.slice A n c) rfl
        have q5 : ∀ (W : World) (ty : TypeId), (Builtin.len_ #[37] ty #[.slice A n c]).run Try.prog W = .ok (.int .i64 n) W := fun W ty => by first | rfl | go_simp
        clear hsh hq3 hl hn h2 h3
        by_cases hfl : 400 ≤ n
        · have HE0 : Hid (d.addC true = 11 ∧ d.addD true e.v = d) := Lib.hid (by
            refine ⟨by simp [Rd.addC, HSH.out, HLD.out, HN.out, hfl], ?_⟩
            have : decide (d.L.length < 400) = false := by rw [HN.out]; simp; omega
            simp [Rd.addD, this])
          have hfi : (400 : Int) ≤ (n : Int) := by omega
          clear hfl
          go_wp2_with fail
          go_ret
          refine ⟨ret_int HE0.out.1.symm, ?_⟩
          rw [HE0.out.2]
          exact After.below HRP.out (by rw [HK.out]; exact B3.out)
        · have HE0 : Hid (d.addC true = 0 ∧ d.addD true e.v = Rd.counted { d with L := d.L ++ [e.v] }) := Lib.hid (by
            have : decide (d.L.length < 400) = true := by rw [HN.out]; simp; omega
            exact ⟨by simp [Rd.addC, HSH.out, HLD.out, HN.out, hfl], by simp [Rd.addD, this, HSH.out, HLD.out]⟩)
          have hfi : ¬ (400 : Int) ≤ (n : Int) := by omega
          have HFL := Lib.hid hfl
          clear hfl
          go_wp2_with fail
          have B3d : Hid (Below k0 W w3.drew) := Lib.hid B3.out.drew
          have R3d : Hid (w3.drew.heap[b]? = some (.cells #[.int .u8 d.g, .int .u32 d.N, mv, .int .u8 d.me.n, .int .u16 d.me.l, .slice A n c, .int .i64 d.base, .int .i64 d.commit, .bool d.shut, .map (some m)] 81 (0, 0)) ∧ w3.drew.heap[k0]? = some (.cells e.cs 63 (0, 0))) := Lib.hid R3.out
          clear k5 k8
          refine region_heldT (S := fun u => u.heap[b]? = some (.cells #[.int .u8 d.g, .int .u32 d.N, mv, .int .u8 d.me.n, .int .u16 d.me.l, .slice A n c, .int .i64 d.base, .int .i64 d.commit, .bool d.shut, .map (some m)] 81 (0, 0)) ∧ u.heap[k0]? = some (.cells e.cs 63 (0, 0))) 9 (by kernel_rfl) (by decide) (fun inv => ?_)
          have HS := R3d.out
          change FirstH _ _ _ _ _ _ _ _ _ _ w3.drew
          generalize w3.drew = wd at *
          refine FirstH.go (i := 0) (v := .pointer (some ⟨b, 0, none⟩)) rfl rfl 31 rfl (Op.move (Operand.tmp 0)) rfl (by kernel_rfl) (fun _ _ _ h => h) inv (fun W hS => by unfold bareO; go_simp) HS (fun inv => ?_)
          try simp only [Act.put, List.setIfInBounds_toArray, List.set_cons_zero, List.set_cons_succ]
          refine FirstH.go (i := 1) (v := .pointer (some ⟨b, 0, none⟩)) rfl rfl 32 rfl (Op.move (Operand.tmp 0)) rfl (by kernel_rfl) (fun _ _ _ h => h) inv (fun W hS => by unfold bareO; go_simp) HS (fun inv => ?_)
          try simp only [Act.put, List.setIfInBounds_toArray, List.set_cons_zero, List.set_cons_succ]
          refine FirstH.go (i := 2) (v := .pointer (some ⟨b, 0, none⟩)) rfl rfl 33 rfl (Op.nilCheck (Operand.tmp 32)) rfl (by kernel_rfl) (fun _ _ _ h => h) inv (fun W hS => by unfold bareO; go_simp) HS (fun inv => ?_)
          try simp only [Act.put, List.setIfInBounds_toArray, List.set_cons_zero, List.set_cons_succ]
          refine FirstH.go (i := 3) (v := .pointer (some ⟨b, 5, none⟩)) rfl rfl 34 rfl (Op.fieldAddr 81 (Operand.tmp 33) 2) rfl (by kernel_rfl) (fun _ _ _ h => h) inv (fun W hS => by unfold bareO; go_simp) HS (fun inv => ?_)
          try simp only [Act.put, List.setIfInBounds_toArray, List.set_cons_zero, List.set_cons_succ]
          refine FirstH.go (i := 4) (v := .slice A n c) rfl rfl 35 rfl (Op.load 37 (Operand.tmp 34)) rfl (by kernel_rfl) (fun _ _ _ h => h) inv (fun W hS => by have k5 := cell_of hS.1 5 (.slice A n c) rfl; unfold bareO; go_simp) HS (fun inv => ?_)
          try simp only [Act.put, List.setIfInBounds_toArray, List.set_cons_zero, List.set_cons_succ]
          refine FirstH.go (i := 5) (v := .agg e.cs) rfl rfl 36 rfl (Op.load 63 (Operand.tmp 3)) rfl (by kernel_rfl) (fun _ _ _ h => h) inv (fun W hS => by exact run_load_row 63 _ _ k0 rfl 63 e.cs (0, 0) _ hS.2 Try.underlying63 rfl (by kernel_rfl)) HS (fun inv => ?_)
          try simp only [Act.put, List.setIfInBounds_toArray, List.set_cons_zero, List.set_cons_succ]
          refine FirstH.only (i := 6) (by kernel_rfl) (by decide) inv (fun inv => wpOp_call (i := 6) rfl rfl 37 rfl (Op.call { callee := Callee.value (.func 40), args := #[Operand.tmp 36], argTypes := #[63] }) rfl 40 #[.agg e.cs] (by unfold bareO; go_simp) (cloneL e wd (HE.out.keep (Keeps.of_below (HK.out.symm ▸ B3d.out))).at_) ?_)
          rintro r w5 ⟨e2, rfl, hv2, own2, b5⟩
          have HS5 : w5.heap[b]? = some (.cells #[.int .u8 d.g, .int .u32 d.N, mv, .int .u8 d.me.n, .int .u16 d.me.l, .slice A n c, .int .i64 d.base, .int .i64 d.commit, .bool d.shut, .map (some m)] 81 (0, 0)) ∧ w5.heap[k0]? = some (.cells e.cs 63 (0, 0)) := ⟨(b5.block b (heap_lt HS.1)).trans HS.1, (b5.block k0 (heap_lt HS.2)).trans HS.2⟩
          have hks : k0 ≤ wd.heap.size := Nat.le_of_lt (heap_lt HS.2)
          have B5 := Lib.hid (B3d.out.trans (b5.mono hks))
          have LE5 := Lib.hid (LeO.of_own own2)
          have HV2 := Lib.hid hv2
          clear b5 HS own2 hv2
          refine ⟨_, rfl, HS5, ?_⟩
          try simp only [Act.put, List.setIfInBounds_toArray, List.set_cons_zero, List.set_cons_succ]
          obtain ⟨i0, hi0, hz0, hz1, hz2⟩ := info_parts entI
          obtain ⟨ka, hka⟩ : ∃ k, w5.heap.size = k := ⟨_, rfl⟩
          obtain ⟨w6, hw6⟩ : ∃ z, w5.alloc (.cells e2.cs 63) = z := ⟨_, rfl⟩
          have b6 : Below w5.heap.size w5 w6 := by rw [← hw6]; exact (Below.refl _ _).alloc (Nat.le_refl _) _
          have r6 : w6.heap[ka]? = some (.cells e2.cs 63 (0, 0)) := by rw [← hw6, ← hka]; exact heap_alloc_new _ _
          have HS6 : w6.heap[b]? = some (.cells #[.int .u8 d.g, .int .u32 d.N, mv, .int .u8 d.me.n, .int .u16 d.me.l, .slice A n c, .int .i64 d.base, .int .i64 d.commit, .bool d.shut, .map (some m)] 81 (0, 0)) ∧ w6.heap[k0]? = some (.cells e.cs 63 (0, 0)) := ⟨(b6.block b (heap_lt HS5.1)).trans HS5.1, (b6.block k0 (heap_lt HS5.2)).trans HS5.2⟩
          have B6 := Lib.hid (B5.out.trans (b6.mono (Nat.le_of_lt (heap_lt HS5.2))))
          have LE6 := Lib.hid (LE5.out.keep (Keeps.of_below b6))
          refine FirstH.only (i := 7) (by kernel_rfl) (by decide) inv (fun inv => wpOp_any rfl rfl (wp_bsE (.tmp 37) rfl e2 rfl ?_))
          rw [hw6, hka]
          refine ⟨HS6, ?_⟩
          try simp only [Act.put, List.setIfInBounds_toArray, List.set_cons_zero, List.set_cons_succ]
          have R6 := Lib.hid r6
          have HQ6 := Lib.hid (HQ.out.below (HK.out.symm ▸ B6.out))
          clear hw6 hka b6 r6 HS5
          refine FirstH.only (i := 8) (by kernel_rfl) (by decide) inv (fun inv => wpOp_any rfl rfl (wp_appO 39 rfl (.tmp 35) (.tmp 38) 37 63 rfl i0 _ 18 104 Try.underlying37 hi0 hz0 hz1 hz2 rfl (by decide) (.slice A n c) n (cellsE Lg) rfl (by have := HQ6.out.row; rw [show Lg.length = n from HLl.out.trans HN.out] at this; exact this) ⟨ka, 0, none⟩ 1 1 e2.cs.toList rfl rfl (fun j u hu => by rw [addr_add, Nat.zero_add, cell_of_row _ _ j _ _ _ R6.out]; simpa using hu) (cellsE_one e2) (by decide) (by have := HFL.out; omega) (by decide) ?_))
          intro v7 w7 O7 g7 f7
          obtain ⟨A7, c7, rfl, _, _, _⟩ := O7.slice
          have kp7 : KP (fun k => (Value.slice A n c).ownBlock = some k) w6 w7 := KP.grown g7 fun k hk => hk
          have hnb : ¬ (Value.slice A n c).ownBlock = some b := HQ.out.nel.1
          have hnk : ¬ (Value.slice A n c).ownBlock = some k0 := fun e => by
            have := RowO.lt HQ.out.row k0 e
            have := HK.out
            omega
          have HS7 : w7.heap[b]? = some (.cells #[.int .u8 d.g, .int .u32 d.N, mv, .int .u8 d.me.n, .int .u16 d.me.l, .slice A n c, .int .i64 d.base, .int .i64 d.commit, .bool d.shut, .map (some m)] 81 (0, 0)) ∧ w7.heap[k0]? = some (.cells e.cs 63 (0, 0)) := ⟨(kp7.block b (heap_lt HS6.1) hnb).trans HS6.1, (kp7.block k0 (heap_lt HS6.2) hnk).trans HS6.2⟩
          refine ⟨HS7, ?_⟩
          try simp only [Act.put, List.setIfInBounds_toArray, List.set_cons_zero, List.set_cons_succ]
          have c5 := cell_of HS7.1 5 (.slice A n c) rfl
          have f5 := frz_row 5 HS7.1
          have L7 := Lib.hid HS7.1
          have KP7 := Lib.hid kp7
          have F7 := Lib.hid f7
          have O7' := Lib.hid O7
          clear HS7 HS6 kp7 g7 f7 O7 hi0 hz0 hz1 hz2 hnb hnk
          refine ⟨by kernel_rfl, ?_⟩
          simp only [List.drop_succ_cons, List.drop_zero]
          have HRP8 : Hid (RP (w7.setCell ⟨b, 5, none⟩ (.slice A7 (n + 1) c7)) b m (Value.slice A7 (n + 1) c7).ownBlock { d with L := d.L ++ [e.v] } ∧ KP (FR b m lb) W (w7.setCell ⟨b, 5, none⟩ (.slice A7 (n + 1) c7))) := Lib.hid (by
            have := HQ6.out.grow (L2 := [e2]) KP7.out L7.out (by
              have := O7'.out
              rw [show cellsE Lg ++ e2.cs.toList = cellsE (Lg ++ [e2]) by rw [cellsE_append]; simp [cellsE], show n + 1 = (Lg ++ [e2]).length by rw [List.length_append, HLl.out, HN.out]; rfl] at this
              exact this) (by
              intro x hx
              obtain rfl : x = e2 := by simpa using hx
              exact LE6.out) (by rw [HN.out]; have := HFL.out; simp; omega)
            rw [show (Lg ++ [e2]).length = n + 1 by rw [List.length_append, HLl.out, HN.out]; rfl] at this
            simp only [List.map_cons, List.map_nil, HV2.out] at this
            refine ⟨⟨_, rfl, this.1⟩, ?_⟩
            rw [← HLB.out]
            exact (KP.of_below (HK.out.symm ▸ B6.out)).trans this.2 fun _ _ h => h)
          obtain ⟨w8, hw8⟩ : ∃ z, w7.setCell ⟨b, 5, none⟩ (.slice A7 (n + 1) c7) = z := ⟨_, rfl⟩
          rw [hw8] at HRP8
          have HW8 := Lib.hid hw8
          have KC := Lib.hid (rCount w8 b m _ _ HRP8.out.1)
          clear hw8
          go_wp2_with (first
            | (rw [HW8.out])
            | (go_at_call 41; refine KC.out.mono ?_; rintro r w9 ⟨rfl, hp9, kp9⟩; have HP9 := Lib.hid hp9; have KP9 := Lib.hid kp9; clear hp9 kp9)
            | fail)
          go_ret
          refine ⟨ret_int HE0.out.1.symm, ?_⟩
          rw [HE0.out.2]
          refine ⟨_, HP9.out, HRP8.out.2.trans (KP9.out.mono fun j hj => .inl hj) fun _ _ h => h, ?_⟩
          rw [← HLB.out]
          rcases F7.out with h | ⟨j, h, hj⟩
          · exact .inl h
          · exact .inr ⟨j, h, Nat.le_trans B6.out.size hj⟩

end Go.Proofs.Ytjdmjiikpnlkjaa
