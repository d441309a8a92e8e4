/-
  The law's field looked at for its rights, and made. No condition.
-/
import Derived.Test.YtjdmjiikpnlkjaaRor
import Derived.Deep.MidRow
import Derived.LoopN
namespace Go.Proofs.Ytjdmjiikpnlkjaa
section
set_option linter.unusedSimpArgs false
set_option linter.unusedVariables false
open Go.RowKit Go.Maps Go.Sort
open V (P2)

set_option maxRecDepth 100000 in
set_option maxHeartbeats 2000000 in
theorem rightC (base : Nat) (W : World) (a : Fa) (R : Nat → Rd) (F : List Tl) (c : Nat) (h : FM base W a R F c) (G : List Tp) (hI : Inv a.n R G) :
    Calls Try.prog 10 #[.pointer (some ⟨a.bf, 0, none⟩)] W fun e W' => e = .returned (.bool true) ∧ Below W.heap.size W W' := by
  have HF := Lib.hid h
  have HI := Lib.hid hI
  obtain ⟨g, o, cp, hvr, hcp, hcm⟩ := h.rs hI.pos
  have HVR := Lib.hid hvr
  have h5 := hI.five
  have h0n := hI.pos
  obtain ⟨b0, hb0⟩ : ∃ z, a.bs 0 = z := ⟨_, rfl⟩
  have HB0 := Lib.hid hb0
  unfold maxLen at hcm
  have hci : (a.n : Int) ≤ (cp : Int) := by omega
  have qlr : ∀ (W : World) (ty : TypeId), (Builtin.len_ #[32] ty #[.slice (some ⟨g, o, none⟩) a.n cp]).run Try.prog W = .ok (.int .i64 a.n) W := fun W ty => by first | rfl | go_simp
  have KL0 := Lib.hid (rLog W (a.bs 0) (a.ms 0) (a.lbs 0) (R 0) (h.rolls 0 h0n))
  rw [hb0] at KL0
  clear h hI hvr hb0
  have q0 := cell_of (show W.heap[a.bf]? = some (.cells #[.slice (some ⟨g, o, none⟩) a.n cp, a.vf, .int .i64 c] 35 (0, 0)) by rw [← HVR.out]; exact HF.out.fld) 0 (.slice (some ⟨g, o, none⟩) a.n cp) rfl
  have y0 : W.cell? ⟨g, o, none⟩ = some (.pointer (some ⟨a.bs 0, 0, none⟩)) := HF.out.ptr HVR.out h0n
  rw [HB0.out] at y0
  go_enter Try.func10, Try.ntmps10
  go_wp2_with fail
  refine KL0.out.mono ?_
  rintro e w1 ⟨v0, rfl, L0, hm0, hx0, hf0, b1⟩
  have B1 := Lib.hid b1
  have HM0 := Lib.hid hm0
  have HX0 := Lib.hid hx0
  obtain ⟨A0, c0, rfl, -, hc0, hc0m, -⟩ := hx0.rows
  obtain ⟨n0, hn0⟩ : ∃ z, L0.length = z := ⟨_, rfl⟩
  have HN0 := Lib.hid hn0
  have HL0 : Hid (n0 = (R 0).L.length) := Lib.hid (by rw [← hn0, ← hm0, List.length_map])
  rw [hn0] at hc0 ⊢
  have HF1 := Lib.hid (HF.out.below b1)
  unfold maxLen at hc0m
  have ql0 : ∀ (W : World) (ty : TypeId), (Builtin.len_ #[37] ty #[.slice A0 n0 c0]).run Try.prog W = .ok (.int .i64 n0) W := fun W ty => by first | rfl | go_simp
  clear b1 hm0 hx0 hf0 hn0 q0 y0 KL0
  go_wp2_with fail
  go_loopw [4] (fun i wx => ∃ j : Nat, i = .int .i64 j ∧ j ≤ a.n ∧ Hid (Below w1.heap.size w1 wx)) (fun i _ => a.n - (intOf i).toNat)
  case atStart => exact ⟨0, rfl, Nat.zero_le _, Lib.hid (Below.refl _ _)⟩
  case round =>
    obtain ⟨j, rfl, hj, BB⟩ := hrel
    obtain ⟨u, hu⟩ : ∃ z : World, z = wr := ⟨_, rfl⟩
    subst hu
    have HFu := Lib.hid (HF1.out.below BB.out)
    have BU : Hid (Below W.heap.size W u) := Lib.hid (B1.out.trans (BB.out.mono B1.out.size))
    by_cases hjn : j < a.n
    · as_aux_lemma =>
      skip
      have hji : (j : Int) < (a.n : Int) := by omega
      have hj0 : (0 : Int) ≤ (j : Int) := by omega
      have HJ := Lib.hid hjn
      obtain ⟨bj, hbj⟩ : ∃ z, a.bs j = z := ⟨_, rfl⟩
      have HBJ := Lib.hid hbj
      have KLj := Lib.hid (rLog u (a.bs j) (a.ms j) (a.lbs j) (R j) (HFu.out.rolls j hjn))
      rw [hbj] at KLj
      clear hbj
      have q0 := cell_of (show u.heap[a.bf]? = some (.cells #[.slice (some ⟨g, o, none⟩) a.n cp, a.vf, .int .i64 c] 35 (0, 0)) by rw [← HVR.out]; exact HFu.out.fld) 0 (.slice (some ⟨g, o, none⟩) a.n cp) rfl
      have y0 : u.cell? ⟨g, o, none⟩ = some (.pointer (some ⟨a.bs 0, 0, none⟩)) := HFu.out.ptr HVR.out h0n
      rw [HB0.out] at y0
      have yi := HFu.out.ptr HVR.out HJ.out
      rw [HBJ.out] at yi
      go_wp2_with fail
      refine KLj.out.mono ?_
      rintro e w2 ⟨vj, rfl, Lj, hmj, hxj, hfj, b2⟩
      have HMJ := Lib.hid hmj
      obtain ⟨Aj, cj, rfl, hrj, hcj, hcjm, -⟩ := hxj.rows
      obtain ⟨nj, hnj⟩ : ∃ z, Lj.length = z := ⟨_, rfl⟩
      have HLj : Hid (nj = (R j).L.length) := Lib.hid (by rw [← hnj, ← hmj, List.length_map])
      rw [hnj] at hcj ⊢
      have B2 := Lib.hid (BU.out.trans (b2.mono BU.out.size))
      have HF2 := Lib.hid (HFu.out.below b2)
      have HX02 := Lib.hid (HX0.out.keep ((Keeps.of_below BB.out).trans (Keeps.of_below b2)))
      have hle : nj ≤ n0 := by rw [HLj.out, HL0.out]; exact HI.out.le HJ.out
      have hlei : ¬ (n0 : Int) < (nj : Int) := by omega
      have hlei2 : (nj : Int) ≤ (n0 : Int) := by omega
      have hn0c : (n0 : Int) ≤ (c0 : Int) := by omega
      have hnj0 : (0 : Int) ≤ (nj : Int) := by omega
      have hncj : (nj : Int) ≤ (c0 : Int) := by omega
      unfold maxLen at hcjm
      have qlj : ∀ (W : World) (ty : TypeId), (Builtin.len_ #[37] ty #[.slice Aj nj cj]).run Try.prog W = .ok (.int .i64 nj) W := fun W ty => by first | rfl | go_simp
      have hcom : (R j).commit ≤ nj := by rw [HLj.out]; exact HI.out.com j HJ.out
      have hcoi : ¬ (nj : Int) < ((R j).commit : Int) := by omega
      have htop := HI.out.top j HJ.out
      have htoi : ¬ ((R 0).commit : Int) < ((R j).commit : Int) := by omega
      have hdc : decide ((nj : Int) < ((R j).commit : Int)) = false := decide_eq_false hcoi
      have hdt : decide (((R 0).commit : Int) < ((R j).commit : Int)) = false := decide_eq_false htoi
      have hdl : decide ((n0 : Int) < (nj : Int)) = false := decide_eq_false hlei
      have hdl' : decide (n0 < nj) = false := decide_eq_false (by omega)
      have hdc' : decide (nj < (R j).commit) = false := decide_eq_false (by omega)
      have hdt' : decide ((R 0).commit < (R j).commit) = false := decide_eq_false (by omega)
      -- the contracts in every world behind this one
      have KSA : Hid (∀ dd os, Calls Try.prog 31 #[.slice Aj nj cj, .slice A0 nj c0] (grow (redrawn w2 dd) os) fun e w' => e = .returned (.bool true) ∧ Below (grow (redrawn w2 dd) os).heap.size (grow (redrawn w2 dd) os) w') := Lib.hid fun dd os => by
        have hb := below_regrown w2 dd os
        have hxj' := hxj.keep (Keeps.of_below hb)
        have hx0' := HX02.out.keep (Keeps.of_below hb)
        obtain ⟨Aj', cj', ej, hrj', -, -, -⟩ := hxj'.rows
        cases ej
        have hl0 : (L0.take nj).length = nj := by rw [List.length_take, HN0.out]; omega
        have hr0 : RowsE (grow (redrawn w2 dd) os) (grow (redrawn w2 dd) os).heap.size A0 (L0.take nj) := by
          obtain ⟨A0', c0', e0, hr0, -, -, -⟩ := hx0'.rows
          cases e0
          intro hne
          obtain ⟨b', o', e', hlt, hc'⟩ := hr0 (by rintro rfl; simp at hne)
          exact ⟨b', o', e', hlt, fun i x hx => hc' i x (by
            rw [List.getElem?_take] at hx
            split at hx
            · exact hx
            · cases hx)⟩
        have := sameAllE _ A0 Lj (L0.take nj) _ c0 _ hrj' hr0 (by
          rw [List.map_take, HM0.out, hmj, HI.out.pre j HJ.out, ← HLj.out]) (by rw [hnj]; exact hcj) (by unfold maxLen; omega) (by rw [hl0]; omega) (by unfold maxLen; omega)
        rw [hnj, hl0] at this
        exact this
      have KCJ : Hid (∀ dd os, Calls Try.prog 13 #[.pointer (some ⟨bj, 0, none⟩)] (grow (redrawn w2 dd) os) fun e w' => e = .returned (.int .i64 (R j).commit) ∧ Below (grow (redrawn w2 dd) os).heap.size (grow (redrawn w2 dd) os) w') := Lib.hid fun dd os => HBJ.out ▸ (rCommit _ (a.bs j) (a.ms j) (a.lbs j) (R j) ((HF2.out.below (below_regrown w2 dd os)).rolls j HJ.out)).mono fun e w' h => ⟨h.1, h.2 ▸ Below.refl _ _⟩
      have KC0 : Hid (∀ dd os, Calls Try.prog 13 #[.pointer (some ⟨b0, 0, none⟩)] (grow (redrawn w2 dd) os) fun e w' => e = .returned (.int .i64 (R 0).commit) ∧ Below (grow (redrawn w2 dd) os).heap.size (grow (redrawn w2 dd) os) w') := Lib.hid fun dd os => HB0.out ▸ (rCommit _ (a.bs 0) (a.ms 0) (a.lbs 0) (R 0) ((HF2.out.below (below_regrown w2 dd os)).rolls 0 h0n)).mono fun e w' h => ⟨h.1, h.2 ▸ Below.refl _ _⟩
      have BW2 := Lib.hid (BB.out.trans (b2.mono BB.out.size))
      clear b2 hmj hxj hfj hrj hnj q0 y0 yi KLj hcom htop hcoi htoi hlei
      have k0 := cell_regrown (cell_of (show w2.heap[a.bf]? = some (.cells #[.slice (some ⟨g, o, none⟩) a.n cp, a.vf, .int .i64 c] 35 (0, 0)) by rw [← HVR.out]; exact HF2.out.fld) 0 (.slice (some ⟨g, o, none⟩) a.n cp) rfl)
      have y0 : w2.cell? ⟨g, o, none⟩ = some (.pointer (some ⟨a.bs 0, 0, none⟩)) := HF2.out.ptr HVR.out h0n
      rw [HB0.out] at y0
      have k1 := cell_regrown y0
      have yi := HF2.out.ptr HVR.out HJ.out
      rw [HBJ.out] at yi
      have k2 := cell_regrown yi
      go_wp2_with fail
      refine wp_region_quiet_below (by kernel_rfl) (by kernel_rfl) ?_
      repeat (go_big_quiet_step (first | (go_at_call 31; exact Calls.regrown_of (KSA.out _ _)) | (go_at_call 13; first | (with_reducible exact Calls.regrown_of (KCJ.out _ _)) | (with_reducible exact Calls.regrown_of (KC0.out _ _))) | fail))
      refine wpQuiet_nil ?_
      rintro W9 ⟨p9, rfl⟩
      have b9 := below_regrown w2 p9.d p9.os
      have BW9 := Lib.hid (BW2.out.trans (b9.mono BW2.out.size))
      generalize grow (redrawn w2 p9.d) p9.os = W9 at *
      clear k0 k1 k2 y0 yi b9
      go_wp2_with fail
      go_roundw
      case rel => exact ⟨j + 1, by have := HJ.out; go_num, by have := HJ.out; omega, BW9⟩
      case measure => have := HJ.out; simp [intOf]; omega
    · obtain rfl : a.n = j := by omega
      have hk1 : ¬ (a.n : Int) < (a.n : Int) := by omega
      have q0 := cell_of (show u.heap[a.bf]? = some (.cells #[.slice (some ⟨g, o, none⟩) a.n cp, a.vf, .int .i64 c] 35 (0, 0)) by rw [← HVR.out]; exact HFu.out.fld) 0 (.slice (some ⟨g, o, none⟩) a.n cp) rfl
      have y0 : u.cell? ⟨g, o, none⟩ = some (.pointer (some ⟨a.bs 0, 0, none⟩)) := HFu.out.ptr HVR.out h0n
      rw [HB0.out] at y0
      go_wp2_with fail
      go_ret
      exact ⟨rfl, BU.out⟩
end

section
set_option linter.unusedSimpArgs false
set_option linter.unusedVariables false
open Go.RowKit Go.Maps Go.Sort
open V (P2)

/-- blocks of none of an order's types are turned. -/
theorem RP.other {S : Nat → Prop} {W W' : World} {b m : Nat} {lb : Option Nat} {d : Rd} (h : RP W b m lb d) (k : KP S W W') (hS : ∀ j, S j → j < W.heap.size → ∃ cur t, W.heap[j]? = some (.cells cur t (0, 0)) ∧ t ≠ 81 ∧ t ≠ 63 ∧ t ≠ 49 ∧ t ≠ 114 ∧ t ≠ 117) : RP W' b m lb d := by
  obtain ⟨w, e, q⟩ := h
  obtain ⟨es, cl, hm⟩ := q.tl.lt
  have keep : ∀ (g : Nat) (cur : Array Value) (t : TypeId), W.heap[g]? = some (.cells cur t (0, 0)) → (t = 81 ∨ t = 63 ∨ t = 49 ∨ t = 114 ∨ t = 117) → W'.heap[g]? = W.heap[g]? := fun g cur t hg ht => k.block g (heap_lt hg) fun hs => by
    obtain ⟨cur', t', hg', h1, h2, h3, h4, h5⟩ := hS g hs (heap_lt hg)
    have := heap_ty hg hg'
    subst this
    rcases ht with e | e | e | e | e
    · exact h1 e
    · exact h2 e
    · exact h3 e
    · exact h4 e
    · exact h5 e
  refine ⟨w, e, q.keep (keep _ _ _ q.blk (.inl rfl)) (k.block m q.ltm fun hs => ?_) (fun j hj => ?_) fun g cur t hg ht => (keep g cur t hg (.inr (.inr ht))).trans hg⟩
  · obtain ⟨cur', t', hg', _⟩ := hS m hs q.ltm
    exact heap_nomap hg' hm
  · obtain ⟨cur, hc⟩ := RowO.block q.row j hj
    exact keep j cur _ hc (.inr (.inl rfl))
def ptrs (bs : Nat → Nat) (j : Nat) : List Value := (List.range j).map fun i => Value.pointer (some ⟨bs i, 0, none⟩)
/-- a field half made. -/
structure MP (base : Nat) (W : World) (bf q j : Nat) (vr : Value) (bs ms : Nat → Nat) (lbs : Nat → Option Nat) : Prop where
  fld : W.heap[bf]? = some (.cells #[vr, .slice none 0 0, .int .i64 0] 35 (0, 0))
  rr : W.ownsRow base 36 1 vr j (ptrs bs j)
  rolls : ∀ i, i < j → RP W (bs i) (ms i) (lbs i) (newD 0 1 (mem q) (pr i) [])
  db : ∀ i k, i < j → k < j → bs i = bs k → i = k
  dm : ∀ i k, i < j → k < j → ms i = ms k → i = k
  dl : ∀ i k r, i < j → k < j → lbs i = some r → lbs k = some r → i = k
  lo : base ≤ bf ∧ ∀ i, i < j → base ≤ bs i ∧ base ≤ ms i ∧ ∀ k, lbs i = some k → base ≤ k
theorem MP.below {base : Nat} {W W' : World} {bf q j : Nat} {vr : Value} {bs ms : Nat → Nat} {lbs : Nat → Option Nat} (h : MP base W bf q j vr bs ms lbs) (hb : Below W.heap.size W W') : MP base W' bf q j vr bs ms lbs :=
  ⟨(hb.block bf (heap_lt h.fld)).trans h.fld, own_belowR h.rr hb, fun i hi => (h.rolls i hi).below hb, h.db, h.dm, h.dl, h.lo⟩
theorem RP.lts {W : World} {b m : Nat} {lb : Option Nat} {d : Rd} (h : RP W b m lb d) : b < W.heap.size ∧ m < W.heap.size ∧ ∀ j, lb = some j → j < W.heap.size := by
  obtain ⟨w, e, q⟩ := h
  exact ⟨q.ltb, q.ltm, fun j hj => RowO.lt q.row j (e.trans hj)⟩
theorem ptrs_succ (bs : Nat → Nat) (j b : Nat) : ptrs (up bs j b) (j + 1) = ptrs bs j ++ [Value.pointer (some ⟨b, 0, none⟩)] := by
  unfold ptrs
  rw [List.range_succ, List.map_append]
  congr 1
  · refine List.map_congr_left fun i hi => ?_
    rw [up_ne _ _ (by have := List.mem_range.1 hi; omega)]
  · simp [up_same]
/-- one more. -/
theorem MP.push {base : Nat} {W W' : World} {bf q j : Nat} {vr vr' : Value} {bs ms : Nat → Nat} {lbs : Nat → Option Nat} (h : MP base W bf q j vr bs ms lbs) {b m s : Nat} {lb : Option Nat} (hp : RP W b m lb (newD 0 1 (mem q) (pr j) [])) (hs : ∀ i, i < j → bs i < s ∧ ms i < s ∧ ∀ k, lbs i = some k → k < s) (hb : s ≤ b) (hm : s ≤ m) (hl : ∀ k, lb = some k → s ≤ k) (hbs : base ≤ s)
    (k : KP (fun r => vr.ownBlock = some r ∨ r = bf) W W') (hf : W'.heap[bf]? = some (.cells #[vr', .slice none 0 0, .int .i64 0] 35 (0, 0))) (hr : W'.ownsRow base 36 1 vr' (j + 1) (ptrs bs j ++ [Value.pointer (some ⟨b, 0, none⟩)])) : MP base W' bf q (j + 1) vr' (up bs j b) (up ms j m) (up lbs j lb) := by
  have hS : ∀ r, (vr.ownBlock = some r ∨ r = bf) → r < W.heap.size → ∃ cur t, W.heap[r]? = some (.cells cur t (0, 0)) ∧ t ≠ 81 ∧ t ≠ 63 ∧ t ≠ 49 ∧ t ≠ 114 ∧ t ≠ 117 := fun r hr _ => by
    rcases hr with e | rfl
    · obtain ⟨cur, hc⟩ := RowO.block (RowO.of_owns h.rr) r e
      exact ⟨cur, _, hc, by decide, by decide, by decide, by decide, by decide⟩
    · exact ⟨_, _, h.fld, by decide, by decide, by decide, by decide, by decide⟩
  have low : ∀ i, i < j + 1 → i ≠ j → i < j := fun i hi e => by omega
  refine ⟨hf, by rw [ptrs_succ]; exact hr, fun i hi => ?_, fun i k hi hk e => ?_, fun i k hi hk e => ?_, fun i k r hi hk e1 e2 => ?_, h.lo.1, fun i hi => ?_⟩
  · by_cases e : i = j
    · subst e
      rw [up_same, up_same, up_same]
      exact hp.other k hS
    · rw [up_ne _ _ e, up_ne _ _ e, up_ne _ _ e]
      exact (h.rolls i (low i hi e)).other k hS
  · by_cases ei : i = j <;> by_cases ek : k = j
    · omega
    · rw [ei, up_same, up_ne _ _ ek] at e
      have := (hs k (low k hk ek)).1
      omega
    · rw [ek, up_same, up_ne _ _ ei] at e
      have := (hs i (low i hi ei)).1
      omega
    · rw [up_ne _ _ ei, up_ne _ _ ek] at e
      exact h.db i k (low i hi ei) (low k hk ek) e
  · by_cases ei : i = j <;> by_cases ek : k = j
    · omega
    · rw [ei, up_same, up_ne _ _ ek] at e
      have := (hs k (low k hk ek)).2.1
      omega
    · rw [ek, up_same, up_ne _ _ ei] at e
      have := (hs i (low i hi ei)).2.1
      omega
    · rw [up_ne _ _ ei, up_ne _ _ ek] at e
      exact h.dm i k (low i hi ei) (low k hk ek) e
  · by_cases ei : i = j <;> by_cases ek : k = j
    · omega
    · rw [ei, up_same] at e1
      rw [up_ne _ _ ek] at e2
      have := (hs k (low k hk ek)).2.2 r e2
      have := hl r e1
      omega
    · rw [ek, up_same] at e2
      rw [up_ne _ _ ei] at e1
      have := (hs i (low i hi ei)).2.2 r e1
      have := hl r e2
      omega
    · rw [up_ne _ _ ei] at e1
      rw [up_ne _ _ ek] at e2
      exact h.dl i k r (low i hi ei) (low k hk ek) e1 e2
  · by_cases e : i = j
    · subst e
      rw [up_same, up_same, up_same]
      exact ⟨by omega, by omega, fun k hk => Nat.le_trans hbs (hl k hk)⟩
    · rw [up_ne _ _ e, up_ne _ _ e, up_ne _ _ e]
      exact h.lo.2 i (low i hi e)
theorem Inv.start {n : Nat} (h : 0 < n) (h5 : n ≤ 5) : Inv n (fun i => newD 0 1 (mem n) (pr i) []) [] :=
  ⟨h, h5, fun i hi => ⟨rfl, rfl, rfl⟩, fun i hi => by simp [newD], fun i hi => Nat.le_refl _, fun i hi => Nat.le_refl _, fun i hi _ => Nat.le_refl _, .inl rfl, fun t ht => by cases ht⟩
theorem rem_inM (z : Int) (n : Nat) (hn : 0 < n) : ∃ (r : Int) (x : Nat), z.tmod n = r ∧ -(n : Int) < r ∧ r < n ∧ (r + n).tmod n = x ∧ x < n := by
  have h1 := Int.lt_tmod_of_pos z (show (0 : Int) < n by omega)
  have h2 := Int.tmod_lt_of_pos z (show (0 : Int) < n by omega)
  have h3 := Int.tmod_nonneg (a := z.tmod n + n) n (by omega)
  have h4 := Int.tmod_lt_of_pos (z.tmod n + n) (show (0 : Int) < n by omega)
  exact ⟨z.tmod n, ((z.tmod n + n).tmod n).toNat, rfl, by omega, h2, by omega, by omega⟩
/-- what is made. -/
def MadeR (base : Nat) (W : World) (e : Ending) (W' : World) : Prop := ∃ a R, e = .returned (.pointer (some ⟨a.bf, 0, none⟩)) ∧ FM base W' a R [] 0 ∧ Inv a.n R [] ∧ (∀ i, i < a.n → (R i).k = 0) ∧ Below base W W'
theorem prlI : (Try.prog.info? 36).map (fun i => (i.zero, i.size, i.bytes)) = some (some (.pointer none), 1, 8) := by kernel_rfl
set_option maxRecDepth 100000 in
set_option maxHeartbeats 2000000 in
theorem madeF (z : Int) (W : World) : Calls Try.prog 8 #[.int .i64 z] W fun e W' => MadeR W.heap.size W e W' := by
  obtain ⟨r1, nn, hr1, hra, hrb, hx, hxn⟩ := rem_inM z 5 (by decide)
  replace hr1 : z.tmod 5 = r1 := hr1
  replace hx : (r1 + 5).tmod 5 = (nn : Int) := hx
  have hw1 : IntKind.i64.wrap r1 = r1 := wrapI (by omega) (by omega)
  obtain ⟨base, hb⟩ : ∃ z, W.heap.size = z := ⟨_, rfl⟩
  have HBS := Lib.hid hb
  rw [hb]
  obtain ⟨q, hq⟩ : ∃ q : Nat, 1 + nn = q := ⟨_, rfl⟩
  have HQ := Lib.hid hq
  have hqc : (1 : Int) + (nn : Int) = (q : Int) := by omega
  have HQ5 : Hid (0 < q ∧ q ≤ 5) := Lib.hid (by omega)
  obtain ⟨w1, hw⟩ : ∃ u, W.alloc (.cells #[.slice none 0 0, .slice none 0 0, .int .i64 0] 35) = u := ⟨_, rfl⟩
  have b1 : Below base W w1 := by rw [← hw, ← hb]; exact (Below.refl _ _).alloc (Nat.le_refl _) _
  have r1' : w1.heap[base]? = some (.cells #[.slice none 0 0, .slice none 0 0, .int .i64 0] 35 (0, 0)) := by rw [← hw, ← hb]; exact heap_alloc_new _ _
  have HMP : Hid (MP base w1 base q 0 (.slice none 0 0) (fun _ => 0) (fun _ => 0) (fun _ => none)) := Lib.hid ⟨r1', ⟨rfl, .inl ⟨rfl, rfl⟩⟩, fun i hi => absurd hi (by omega), fun i k hi => absurd hi (by omega), fun i k hi => absurd hi (by omega), fun i k r hi => absurd hi (by omega), Nat.le_refl _, fun i hi => absurd hi (by omega)⟩
  have B1 := Lib.hid b1
  have HW1 := Lib.hid hw
  obtain ⟨i0, hi0, hz0, hz1, hz2⟩ := info_parts prlI
  clear hb hw b1 r1' hq
  go_enter Try.func8, Try.ntmps8
  go_wp2_with (first
    | (rw [HW1.out, HBS.out])
    | fail)
  go_loopw [4] (fun i wx => ∃ (j : Nat) (vr : Value) (bs ms : Nat → Nat) (lbs : Nat → Option Nat), i = .int .i64 j ∧ j ≤ q ∧ Hid (MP base wx base q j vr bs ms lbs) ∧ Hid (Below base W wx)) (fun i _ => q - (intOf i).toNat)
  case atStart => exact ⟨0, _, _, _, _, rfl, Nat.zero_le _, HMP, B1⟩
  case round =>
    obtain ⟨j, vr, bs, ms, lbs, rfl, hj, MM, BB⟩ := hrel
    obtain ⟨u, hu⟩ : ∃ z : World, z = wr := ⟨_, rfl⟩
    subst hu
    by_cases hjn : j < q
    · as_aux_lemma =>
      skip
      have hji : (j : Int) < (q : Int) := by omega
      have HJ := Lib.hid hjn
      have BBd : Hid (Below base W u.drew) := Lib.hid BB.out.drew
      have MMd := Lib.hid (MM.out.below (Below.refl _ _).drew)
      have Rd : Hid (u.drew.heap[base]? = some (.cells #[vr, .slice none 0 0, .int .i64 0] 35 (0, 0))) := Lib.hid MM.out.fld
      have HLT : Hid (∀ i, i < j → bs i < u.drew.heap.size ∧ ms i < u.drew.heap.size ∧ ∀ k, lbs i = some k → k < u.drew.heap.size) := Lib.hid fun i hi => (MMd.out.rolls i hi).lts
      have SZd : Hid (base ≤ u.drew.heap.size) := Lib.hid (by have := BBd.out.size; have := HBS.out; omega)
      go_wp2_with fail
      refine region_heldT (S := fun u => u.heap[base]? = some (.cells #[vr, .slice none 0 0, .int .i64 0] 35 (0, 0))) 12 (by kernel_rfl) (by decide) (fun inv => ?_)
      have HS := Rd.out
      change FirstH _ _ _ _ _ _ _ _ _ _ u.drew
      generalize u.drew = wd at *
      refine FirstH.go (i := 0) (v := .pointer (some ⟨base, 0, none⟩)) rfl rfl 17 rfl (Op.move (Operand.tmp 3)) rfl (by kernel_rfl) (fun _ _ _ h => h) inv (fun W hS => by unfold bareO; go_simp) HS (fun inv => ?_)
      try simp only [Act.put, List.setIfInBounds_toArray, List.set_cons_zero, List.set_cons_succ]
      refine FirstH.go (i := 1) (v := .pointer (some ⟨base, 0, none⟩)) rfl rfl 18 rfl (Op.move (Operand.tmp 3)) rfl (by kernel_rfl) (fun _ _ _ h => h) inv (fun W hS => by unfold bareO; go_simp) HS (fun inv => ?_)
      try simp only [Act.put, List.setIfInBounds_toArray, List.set_cons_zero, List.set_cons_succ]
      refine FirstH.go (i := 2) (v := .pointer (some ⟨base, 0, none⟩)) rfl rfl 19 rfl (Op.nilCheck (Operand.tmp 18)) rfl (by kernel_rfl) (fun _ _ _ h => h) inv (fun W hS => by unfold bareO; go_simp) HS (fun inv => ?_)
      try simp only [Act.put, List.setIfInBounds_toArray, List.set_cons_zero, List.set_cons_succ]
      refine FirstH.go (i := 3) (v := .pointer (some ⟨base, 0, none⟩)) rfl rfl 20 rfl (Op.fieldAddr 35 (Operand.tmp 19) 0) rfl (by kernel_rfl) (fun _ _ _ h => h) inv (fun W hS => by unfold bareO; go_simp) HS (fun inv => ?_)
      try simp only [Act.put, List.setIfInBounds_toArray, List.set_cons_zero, List.set_cons_succ]
      refine FirstH.go (i := 4) (v := vr) rfl rfl 21 rfl (Op.load 32 (Operand.tmp 20)) rfl (by kernel_rfl) (fun _ _ _ h => h) inv (fun W hS => by have k0 := cell_of hS 0 vr rfl; unfold bareO; go_simp) HS (fun inv => ?_)
      try simp only [Act.put, List.setIfInBounds_toArray, List.set_cons_zero, List.set_cons_succ]
      refine FirstH.go (i := 5) (v := .int .i64 q) rfl rfl 22 rfl (Op.move (Operand.tmp 0)) rfl (by kernel_rfl) (fun _ _ _ h => h) inv (fun W hS => by unfold bareO; go_simp) HS (fun inv => ?_)
      try simp only [Act.put, List.setIfInBounds_toArray, List.set_cons_zero, List.set_cons_succ]
      refine FirstH.go (i := 7) (v := .int .i64 j) rfl rfl 24 rfl (Op.move (Operand.tmp 4)) rfl (by kernel_rfl) (fun _ _ _ h => h) inv (fun W hS => by unfold bareO; go_simp) HS (fun inv => ?_)
      try simp only [Act.put, List.setIfInBounds_toArray, List.set_cons_zero, List.set_cons_succ]
      refine FirstH.only (i := 6) (by kernel_rfl) (by decide) inv (fun inv => wpOp_call (i := 6) rfl rfl 23 rfl (Op.call { callee := Callee.value (.func 15), args := #[Operand.tmp 22], argTypes := #[3] }) rfl 15 #[.int .i64 q] (by unfold bareO; go_simp) (viewC q (by have := HQ5.out; omega) wd) ?_)
      rintro e w5 ⟨A, cA, rfl, hrA, hcA, hmA, b5⟩
      have HS5 : w5.heap[base]? = some (.cells #[vr, .slice none 0 0, .int .i64 0] 35 (0, 0)) := (b5.block base (heap_lt HS)).trans HS
      have B5 := Lib.hid (BBd.out.trans (b5.mono SZd.out))
      have M5 := Lib.hid (MMd.out.below b5)
      have S5 : Hid (wd.heap.size ≤ w5.heap.size) := Lib.hid b5.size
      have HRA := Lib.hid hrA
      have HCA := Lib.hid (And.intro hcA hmA)
      clear b5 HS hrA hcA hmA
      refine ⟨_, rfl, HS5, ?_⟩
      try simp only [Act.put, List.setIfInBounds_toArray, List.set_cons_zero, List.set_cons_succ]
      refine FirstH.only (i := 8) (by kernel_rfl) (by decide) inv (fun inv => wpOp_call (i := 8) rfl rfl 25 rfl (Op.call { callee := Callee.value (.func 16), args := #[Operand.tmp 24], argTypes := #[3] }) rfl 16 #[.int .i64 j] (by unfold bareO; go_simp) (procC j (by have := HQ5.out; have := HJ.out; omega) w5) ?_)
      rintro e w6 ⟨rfl, b6⟩
      have HS6 : w6.heap[base]? = some (.cells #[vr, .slice none 0 0, .int .i64 0] 35 (0, 0)) := (b6.block base (heap_lt HS5)).trans HS5
      have S6 : Hid (wd.heap.size ≤ w6.heap.size) := Lib.hid (Nat.le_trans S5.out b6.size)
      have B6 := Lib.hid (B5.out.trans (b6.mono (Nat.le_trans SZd.out S5.out)))
      have M6 := Lib.hid (M5.out.below b6)
      have HRA6 := Lib.hid (HRA.out.below b6 (Nat.le_refl _) b6.size)
      clear b6 HS5
      refine ⟨_, rfl, HS6, ?_⟩
      try simp only [Act.put, List.setIfInBounds_toArray, List.set_cons_zero, List.set_cons_succ]
      refine FirstH.only (i := 9) (by kernel_rfl) (by decide) inv (fun inv => wpOp_call (i := 9) rfl rfl 26 rfl (Op.call { callee := Callee.value (.func 14), args := #[Operand.tmp 23, Operand.tmp 25, Operand.const (Value.slice none 0 0)], argTypes := #[45, 49, 37] }) rfl 14 #[.agg #[.int .u8 0, .int .u32 1, .slice A q cA], .agg #[.int .u8 (pr j).n, .int .u16 (pr j).l], .slice none 0 0] (by unfold bareO; go_simp) (newC q j (by have := HQ5.out; omega) HJ.out A cA w6 HRA6.out HCA.out.1 HCA.out.2) ?_)
      rintro e w7 ⟨bn, mn, ln, rfl, hp7, hb7, hm7, hl7, b7⟩
      have HS7 : w7.heap[base]? = some (.cells #[vr, .slice none 0 0, .int .i64 0] 35 (0, 0)) := (b7.block base (heap_lt HS6)).trans HS6
      have S7 : Hid (wd.heap.size ≤ w7.heap.size) := Lib.hid (Nat.le_trans S6.out b7.size)
      have B7 := Lib.hid (B6.out.trans (b7.mono (Nat.le_trans SZd.out S6.out)))
      have M7 := Lib.hid (M6.out.below b7)
      have HP7 := Lib.hid hp7
      have HL7 : Hid (wd.heap.size ≤ bn ∧ wd.heap.size ≤ mn ∧ ∀ k, ln = some k → wd.heap.size ≤ k) := Lib.hid ⟨Nat.le_trans S6.out hb7, Nat.le_trans S6.out hm7, fun k hk => Nat.le_trans S6.out (hl7 k hk)⟩
      clear b7 HS6 hp7 hb7 hm7 hl7
      refine ⟨_, rfl, HS7, ?_⟩
      try simp only [Act.put, List.setIfInBounds_toArray, List.set_cons_zero, List.set_cons_succ]
      obtain ⟨ka, hka⟩ : ∃ z, w7.heap.size = z := ⟨_, rfl⟩
      obtain ⟨w8, hw8⟩ : ∃ z, w7.alloc (.cells #[.pointer (some ⟨bn, 0, none⟩)] 36) = z := ⟨_, rfl⟩
      have b8 : Below w7.heap.size w7 w8 := by rw [← hw8]; exact (Below.refl _ _).alloc (Nat.le_refl _) _
      have r8 : w8.heap[ka]? = some (.cells #[.pointer (some ⟨bn, 0, none⟩)] 36 (0, 0)) := by rw [← hw8, ← hka]; exact heap_alloc_new _ _
      have HS8 : w8.heap[base]? = some (.cells #[vr, .slice none 0 0, .int .i64 0] 35 (0, 0)) := (b8.block base (heap_lt HS7)).trans HS7
      refine FirstH.only (i := 10) (by kernel_rfl) (by decide) inv (fun inv => wpOp_vl (i := 10) (v := .slice (some ⟨ka, 0, none⟩) 1 1) (w' := w8) rfl rfl 27 rfl _ rfl (by rw [← hw8, ← hka]; unfold bareO; go_simp) ?_)
      refine ⟨HS8, ?_⟩
      try simp only [Act.put, List.setIfInBounds_toArray, List.set_cons_zero, List.set_cons_succ]
      have S8 : Hid (wd.heap.size ≤ w8.heap.size) := Lib.hid (Nat.le_trans S7.out b8.size)
      have B8 := Lib.hid (B7.out.trans (b8.mono (Nat.le_trans SZd.out S7.out)))
      have M8 := Lib.hid (M7.out.below b8)
      have HP8 := Lib.hid (HP7.out.below b8)
      have R8 := Lib.hid r8
      clear hw8 hka b8 r8 HS7
      refine FirstH.only (i := 11) (by kernel_rfl) (by decide) inv (fun inv => wpOp_any rfl rfl (wp_append_own w8 (.tmp 21) (.tmp 27) 32 rfl base 36 i0 _ 1 8 Try.underlying32 hi0 hz0 hz1 hz2 rfl (by decide) vr j _ rfl M8.out.rr ⟨ka, 0, none⟩ 1 1 [.pointer (some ⟨bn, 0, none⟩)] rfl rfl (fun r x hx => by rw [addr_add, Nat.zero_add, cell_of_row _ _ r _ _ _ R8.out]; simpa using hx) (by intro v hv; simp at hv; subst hv; rfl) (by have := HJ.out; have := HQ5.out; unfold maxLen; omega) (by have := HJ.out; have := HQ5.out; omega) (Nat.le_trans SZd.out S8.out) ?_))
      rintro v9 w9 o9 g9 -
      obtain ⟨A9, c9, rfl, -, -, -⟩ := (RowO.of_owns o9).slice
      have kp9 : KP (fun r => vr.ownBlock = some r) w8 w9 := KP.grown g9 fun k hk => hk
      have hne : ¬ vr.ownBlock = some base := fun e => by
        obtain ⟨cur, hc⟩ := RowO.block (RowO.of_owns M8.out.rr) base e
        exact absurd (heap_ty hc M8.out.fld) (by decide)
      have HS9 : w9.heap[base]? = some (.cells #[vr, .slice none 0 0, .int .i64 0] 35 (0, 0)) := (kp9.block base (heap_lt HS8) hne).trans HS8
      have O9 := Lib.hid o9
      have KP9 := Lib.hid kp9
      refine ⟨HS9, ?_⟩
      try simp only [Act.put, List.setIfInBounds_toArray, List.set_cons_zero, List.set_cons_succ]
      have f0 := frz_row 0 HS9
      have c0' := cell_of HS9 0 vr rfl
      have R9 := Lib.hid HS9
      clear HS8 HS9 g9 o9 kp9 hne hi0 hz0 hz1 hz2
      refine ⟨by kernel_rfl, ?_⟩
      simp only [List.drop_succ_cons, List.drop_zero]
      clear inv
      have HEND : Hid (MP base (w9.setCell ⟨base, 0, none⟩ (.slice A9 (j + 1) c9)) base q (j + 1) (.slice A9 (j + 1) c9) (up bs j bn) (up ms j mn) (up lbs j ln) ∧ Below base W (w9.setCell ⟨base, 0, none⟩ (.slice A9 (j + 1) c9))) := Lib.hid (by
        have kset : KP (fun r => r = base) w9 (w9.setCell ⟨base, 0, none⟩ (.slice A9 (j + 1) c9)) := KP.set (S := fun r => r = base) w9 base 0 _ rfl
        have kall : KP (fun r => vr.ownBlock = some r ∨ r = base) w8 (w9.setCell ⟨base, 0, none⟩ (.slice A9 (j + 1) c9)) := (KP9.out.mono fun r hr => .inl hr).trans (kset.mono fun r hr => .inr hr) fun _ _ h => h
        refine ⟨M8.out.push HP8.out HLT.out HL7.out.1 HL7.out.2.1 HL7.out.2.2 SZd.out kall ((row_set (i := 0) R9.out _).trans rfl) ?_, B8.out.trans (kall.below (Nat.le_trans SZd.out S8.out) fun r hr => ?_)⟩
        · refine ⟨O9.out.1, ?_⟩
          rcases O9.out.2 with h | ⟨g, cap, cur, h1, h2, h3, h4⟩
          · exact .inl h
          · refine .inr ⟨g, cap, cur, h1, h2, other_set h3 ?_ _, h4⟩
            rintro rfl
            exact absurd (heap_ty h3 R9.out) (by decide)
        · rcases hr with e | rfl
          · exact (M8.out.rr.lt r e).1
          · exact Nat.le_refl _)
      go_wp2
      go_roundw
      case rel => exact ⟨j + 1, _, _, _, _, by have := HQ5.out; have := HJ.out; go_num, by have := HJ.out; omega, Lib.hid HEND.out.1, Lib.hid HEND.out.2⟩
      case measure => have := HJ.out; have := HQ5.out; simp [intOf]; omega
    · obtain rfl : q = j := by omega
      have hk1 : ¬ (q : Int) < (q : Int) := by omega
      go_wp2_with fail
      go_ret
      obtain ⟨Av, cv, e, hcv, hmv, -⟩ := (RowO.of_owns MM.out.rr).slice
      exact ⟨⟨base, q, vr, bs, ms, lbs, .slice none 0 0⟩, fun i => newD 0 1 (mem q) (pr i) [], rfl, ⟨MM.out.fld, RowO.of_owns MM.out.rr, RowO.nil u _ _, MM.out.rolls, MM.out.db, MM.out.dm, MM.out.dl, (fun t ht => by cases ht), ⟨MM.out.lo.1, MM.out.lo.2, fun g hg => by simp [Value.ownBlock] at hg⟩, Nat.zero_le _⟩, Inv.start HQ5.out.1 HQ5.out.2, fun i hi => rfl, BB.out⟩
end
end Go.Proofs.Ytjdmjiikpnlkjaa
