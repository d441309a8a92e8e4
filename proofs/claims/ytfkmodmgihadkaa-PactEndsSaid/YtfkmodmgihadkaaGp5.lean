/-
  The program's proposer: Propose, by an exact answer. Condition: it lies in memory, as does the wish.
-/
import Derived.Test.YtfkmodmgihadkaaGp4
import Derived.Deep.MidRow
namespace Go.Proofs.Ytfkmodmgihadkaa
set_option linter.unusedSimpArgs false
set_option linter.unusedVariables false
open Go.RowKit Go.Maps Go.Sort
open V (P2)

/-- what Propose makes. -/
def ProR (base : Nat) (W : World) (b m : Nat) (d : Pd) (X : List P2) (e : Ending) (W' : World) : Prop :=
  ∃ x : Vl, e = .returned (.tuple #[.agg x.cs, .bool d.ready]) ∧ x.Ok W' ∧ x.d = (if d.ready then d.choose X else ([], [])) ∧ PP base W' b m (if d.ready then d.propose X else d) ∧ KP (FP b m) W W'
theorem PQ.clear {base : Nat} {W W' : World} {b m : Nat} {d : Pd} {w : Pw} (h : PQ base W b m d w) (ct : CtAt W' m []) (k : KP (fun j => j = m) W W') : PQ base W' b m { d with C := [] } w := by
  have ks := h.keeps (k.mono fun i e => .inr e)
  exact ⟨h.hb, h.hm, (k.block b (heap_lt h.blk) h.ne).trans h.blk, ct, h.mem.keep ks, h.lg.keep ks, h.lgd, h.lgl, h.hv.keep ks, h.hvd, h.vl.keep ks, h.vld, h.right, fun _ hx => by cases hx⟩
theorem wpList_clr {P : Program} {ops : Array Oper} {rest : List Oper} {o : Oper} {a : Act} {w w' : World} {Q : Exit → Act → World → Prop} (hg : o.guard = none) (hd : o.dst = none) (t : TypeId) (m : Operand) (ho : o.op = .call { callee := .builtin .clear, args := #[m], argTypes := #[t] })
    (hrun : (Builtin.clear_ #[t] o.type #[a.eval m]).run P w = .ok (.tuple #[]) w') (h : wpList P ops Q rest (a.put o.dst (.tuple #[])) w') : wpList P ops Q (o :: rest) a w := by
  refine wpList_plain hg fun K hK => ?_
  unfold Oper.wp
  simp [execOp, ho, resolve, invoke, builtin, hrun, Result.andThen]
  exact hK _ _ h
set_option maxRecDepth 100000 in
set_option maxHeartbeats 2000000 in
theorem pPropose (base : Nat) (W : World) (b m : Nat) (d : Pd) (h : PP base W b m d) (wv : Value) (X : List P2) (hw : PrO W wv X) (hx : X.length ≤ 1000) :
    Calls Try.prog 18 #[.pointer (some ⟨b, 0, none⟩), wv] W fun e W' => ProR base W b m d X e W' := by
  obtain ⟨k, hk⟩ : ∃ k, W.heap.size = k := ⟨_, rfl⟩
  have hkb : b < k := by obtain ⟨w, h⟩ := h; rw [← hk]; exact heap_lt h.blk
  have hkm : m < k := by obtain ⟨w, h⟩ := h; obtain ⟨es, cl, hm⟩ := h.ct.lt; rw [← hk]; exact heap_lt hm
  obtain ⟨w1, hw1⟩ : ∃ z, W.alloc (.cells #[.slice none 0 0, .slice none 0 0] 32) = z := ⟨_, rfl⟩
  have b1 : Below W.heap.size W w1 := by rw [← hw1]; exact (Below.refl _ _).alloc (Nat.le_refl _) _
  have r1 : w1.heap[k]? = some (.cells #[.slice none 0 0, .slice none 0 0] 32 (0, 0)) := by rw [← hw1, ← hk]; exact heap_alloc_new _ _
  have KR := Lib.hid (pReady base w1 b m d (h.below b1))
  have H1 := Lib.hid (h.below b1)
  have HW1 := Lib.hid hw1
  have HK := Lib.hid hk
  have B1 := Lib.hid b1
  have R1 := Lib.hid r1
  have HPW := Lib.hid hw
  have HXL := Lib.hid hx
  clear h hw1 b1 r1 hk hw hx
  obtain ⟨rd, hrd⟩ : ∃ z, d.ready = z := ⟨_, rfl⟩
  rw [hrd] at KR
  have HRD := Lib.hid hrd
  clear hrd
  cases rd with
  | false =>
    go_enter Try.func18, Try.ntmps18
    go_wp2_with (first
      | (rw [HW1.out, HK.out])
      | (go_at_call 17; refine KR.out.mono ?_; rintro e w2 ⟨rfl, b2⟩
         have r2 : w2.heap[k]? = some (.cells #[.slice none 0 0, .slice none 0 0] 32 (0, 0)) := (b2.block k (heap_lt R1.out)).trans R1.out
         have B2 := Lib.hid (B1.out.trans (b2.mono B1.out.size))
         have H2 := Lib.hid (H1.out.below b2)
         have R2 := Lib.hid r2
         obtain ⟨w3, hw3⟩ : ∃ z, w2.setRow k #[.slice none 0 0, .slice none 0 0] = z := ⟨_, rfl⟩
         have r3 : w3.heap[k]? = some (.cells #[.slice none 0 0, .slice none 0 0] 32 (0, 0)) := by rw [← hw3]; exact setRow_heapG _ _ _ _ _ _ r2
         have bb3 : Below k w2 w3 := by rw [← hw3]; exact (KP.setRow (S := fun j => j = k) w2 k _ rfl).below (Nat.le_of_lt (heap_lt r2)) fun j hj => Nat.le_of_eq hj.symm
         have B3 : Hid (Below W.heap.size W w3) := Lib.hid (B2.out.trans (HK.out ▸ bb3))
         have H3 : Hid (PP base w3 b m d) := Lib.hid (by
           obtain ⟨w, h⟩ := H2.out
           obtain ⟨es, cl, hm⟩ := h.ct.lt
           have kp : KP (fun j => j = k) w2 w3 := by rw [← hw3]; exact KP.setRow w2 k _ rfl
           exact ⟨w, h.keep (kp.block b (heap_lt h.blk) (by omega)) (kp.block m (heap_lt hm) (by omega)) (Keeps.of_KP kp fun g cur t hg ht => apart_of hg r2 (by
             intro e
             rw [e] at ht
             revert ht
             simp [Ty]))⟩)
         have R3 := Lib.hid r3
         have HW3 := Lib.hid hw3
         clear b2 r2 r3 hw3 bb3)
      | (have R2x := R2.out
         refine wpList_store_row rfl 32 (.tmp 4) (.tmp 9) rfl k #[.slice none 0 0, .slice none 0 0] (by rfl) (by rfl) 32 _ R2x (by kernel_rfl) rfl (by simp [Value.oneCell']) ?_
         rw [HW3.out]))
    refine bodyPost_ret (v := .tuple #[.agg #[.slice none 0 0, .slice none 0 0], .bool false]) (by
      have c0 := cell_of R3.out 0 (.slice none 0 0) rfl
      have c1 := cell_of R3.out 1 (.slice none 0 0) rfl
      simp [results, Try.results18, go_sem]
      try go_simp) rfl ⟨V0, by rw [HRD.out]; rfl, V0.ok _, by rw [HRD.out]; rfl, by rw [HRD.out]; exact H3.out, KP.of_below B3.out⟩
  | true =>
    go_enter Try.func18, Try.ntmps18
    go_wp2_with (first
      | (rw [HW1.out, HK.out])
      | (go_at_call 17; refine KR.out.mono ?_; rintro e w2 ⟨rfl, b2⟩
         have B2 := Lib.hid (B1.out.trans (b2.mono B1.out.size))
         have H2 := Lib.hid (H1.out.below b2)
         have R2 : Hid (w2.heap[k]? = some (.cells #[.slice none 0 0, .slice none 0 0] 32 (0, 0))) := Lib.hid ((b2.block k (heap_lt R1.out)).trans R1.out)
         have KC := Lib.hid (pChoose base w2 b m d H2.out wv X (HPW.out.keep (Keeps.of_below B2.out)) HXL.out)
         clear b2)
      | (go_at_call 34
         have KCx := KC.out
         refine KCx.mono ?_
         rintro e u3 ⟨⟨m3, X3, t3, L3⟩, rfl, ok3, d3, b3⟩
         obtain ⟨w0, h2⟩ := H2.out
         have h3 := h2.below b3
         have B3 := B2.out.trans (b3.mono B2.out.size)
         have r3 := (b3.block k (heap_lt R2.out)).trans R2.out
         obtain ⟨A3, c3, e3, -, -, -, -⟩ := ok3.m.rows
         obtain ⟨A4, c4, e4, -, -, -, -⟩ := ok3.t.rows
         dsimp only at e3 e4
         subst e3 e4
         have h4 := h3.setVal _ ok3
         dsimp only [Vl.cs] at h4 ⊢
         obtain ⟨n3, hn3⟩ : ∃ z, X3.length = z := ⟨_, rfl⟩
         obtain ⟨n4, hn4⟩ : ∃ z, L3.length = z := ⟨_, rfl⟩
         simp only [hn3, hn4] at h4 ⊢
         have T3 : Hid (u3.there b 11 2) := Lib.hid (there_row h3.blk (by show 11 + 2 ≤ 13; omega))
         -- the value
         obtain ⟨u4, hu4⟩ : ∃ z, u3.setCells b 11 [.slice A3 n3 c3, .slice A4 n4 c4] = z := ⟨_, rfl⟩
         rw [hu4] at h4
         have kp4 : KP (fun j => j = b) u3 u4 := by rw [← hu4]; exact KP.setCells (S := fun j => j = b) rfl _ _ _
         have q4 := cell_of h4.blk 4 (.int .i64 d.ph) rfl
         have f4 := frz_row 4 h4.blk
         -- the phase
         have h5 := h4.setPh 1
         obtain ⟨u5, hu5⟩ : ∃ z, u4.setCell ⟨b, 4, none⟩ (.int .i64 1) = z := ⟨_, rfl⟩
         rw [hu5] at h5
         have kp5 : KP (fun j => j = b) u4 u5 := by rw [← hu5]; exact KP.set (S := fun j => j = b) u4 b 4 _ rfl
         have q5 := cell_of h5.blk 5 (.map (some m)) rfl
         -- the map
         obtain ⟨u6, hrun0, ct6, kp6⟩ := h5.ct.clear 0
         have RUN : Hid (∀ ty, (Builtin.clear_ #[71] ty #[.map (some m)]).run Try.prog u5 = .ok (.tuple #[]) u6) := Lib.hid fun ty => hrun0
         have h6 := h5.clear ct6 kp6
         have q6 := cell_of h6.blk 6 w0.lv rfl
         have f6 := frz_row 6 h6.blk
         -- the longest
         have h7 := h6.setLg (.slice none 0 0) [] (EnO.nil _) (by simp)
         obtain ⟨u7, hu7⟩ : ∃ z, u6.setCell ⟨b, 6, none⟩ (.slice none 0 0) = z := ⟨_, rfl⟩
         rw [hu7] at h7
         have kp7 : KP (fun j => j = b) u6 u7 := by rw [← hu7]; exact KP.set (S := fun j => j = b) u6 b 6 _ rfl
         have T7 : Hid (u7.there b 7 4) := Lib.hid (there_row h7.blk (by show 7 + 4 ≤ 13; omega))
         -- what was held
         have h8 := h7.setHeld 0 V0 false (V0.ok _)
         obtain ⟨u8, hu8⟩ : ∃ z, u7.setCells b 7 [.int .u64 0, .slice none 0 0, .slice none 0 0, .bool false] = z := ⟨_, rfl⟩
         have h8' := h8
         dsimp only [V0] at h8'
         rw [hu8] at h8'
         have kp8 : KP (fun j => j = b) u7 u8 := by rw [← hu8]; exact KP.setCells (S := fun j => j = b) rfl _ _ _
         have q11 := cell_of h8'.blk 11 (.slice A3 n3 c3) rfl
         have q12 := cell_of h8'.blk 12 (.slice A4 n4 c4) rfl
         have kf : KP (FP b m) u3 u8 := ((((kp4.mono fun i e => .inl e).trans (kp5.mono fun i e => .inl e) fun _ _ h => h).trans (kp6.mono fun i e => .inr e) fun _ _ h => h).trans (kp7.mono fun i e => .inl e) fun _ _ h => h).trans (kp8.mono fun i e => .inl e) fun _ _ h => h
         have KF : Hid (KP (FP b m) W u8) := Lib.hid ((KP.of_below (S := FP b m) B3).trans kf fun _ _ h => h)
         have R8 : Hid (u8.heap[k]? = some (.cells #[.slice none 0 0, .slice none 0 0] 32 (0, 0))) := Lib.hid ((kf.block k (heap_lt r3) (by rintro (e | e) <;> omega)).trans r3)
         have H8 := Lib.hid h8'
         have KV := Lib.hid (valClone _ u8 h8'.vl)
         have HD3 := Lib.hid d3
         have HU4 := Lib.hid hu4
         have HU5 := Lib.hid hu5
         have HU7 := Lib.hid hu7
         have HU8 := Lib.hid hu8
         clear h2 h3 h4 h5 h6 h7 h8 h8' kp4 kp5 kp6 kp7 kp8 kf ct6 hrun0 hu4 hu5 hu7 hu8 r3 B3 b3 ok3 d3 hn3 hn4)
      | (have T3x := T3.out
         refine wpList_store_mid rfl 32 (.tmp 15) (.tmp 13) rfl b 11 #[.slice A3 n3 c3, .slice A4 n4 c4] (by rfl) (by rfl) T3x (by kernel_rfl) (by simp [Value.oneCell']) ?_
         rw [HU4.out])
      | (rw [HU5.out])
      | (rw [HU7.out])
      | (have RUNx := RUN.out
         refine wpList_clr rfl rfl 71 (.tmp 22) rfl (w' := u6) (RUNx _) ?_)
      | (have T7x := T7.out
         refine wpList_store_mid rfl 65 (.tmp 29) (.tmp 25) rfl b 7 #[.int .u64 0, .slice none 0 0, .slice none 0 0, .bool false] (by rfl) (by rfl) T7x (by kernel_rfl) (by simp [Value.oneCell']) ?_
         rw [HU8.out])
      | (go_at_call 25
         have KVx := KV.out
         refine KVx.mono ?_
         rintro e u9 ⟨⟨m9, X9, t9, L9⟩, rfl, ok9, d9, b9⟩
         have h9 := H8.out.below b9
         have r9 := (b9.block k (heap_lt R8.out)).trans R8.out
         obtain ⟨A9, c9, e9, -, -, -, -⟩ := ok9.m.rows
         obtain ⟨A10, c10, e10, -, -, -, -⟩ := ok9.t.rows
         dsimp only at e9 e10
         subst e9 e10
         dsimp only [Vl.cs]
         obtain ⟨n9, hn9⟩ : ∃ z, X9.length = z := ⟨_, rfl⟩
         obtain ⟨n10, hn10⟩ : ∃ z, L9.length = z := ⟨_, rfl⟩
         simp only [hn9, hn10] at ok9 d9 ⊢
         obtain ⟨u10, hu10⟩ : ∃ z, u9.setRow k #[.slice A9 n9 c9, .slice A10 n10 c10] = z := ⟨_, rfl⟩
         have kp10 : KP (fun j => j = k) u9 u10 := by rw [← hu10]; exact KP.setRow u9 k _ rfl
         have ks10 : Keeps u9 u10 := Keeps.of_KP kp10 fun g cur t hg ht => apart_of hg r9 (by
           intro e
           rw [e] at ht
           revert ht
           simp [Ty])
         obtain ⟨es9, cl9, hm9⟩ := h9.ct.lt
         have H10 : Hid (PP base u10 b m (d.propose X)) := Lib.hid (by
           have h10 := h9.keep (kp10.block b (heap_lt h9.blk) (by omega)) (kp10.block m (heap_lt hm9) (by omega)) ks10
           rw [show d.propose X = _ from by unfold Pd.propose; rw [← HD3.out]]
           exact ⟨_, h10⟩)
         have KF10 : Hid (KP (FP b m) W u10) := Lib.hid ((KF.out.trans (KP.of_below (S := FP b m) b9) fun _ _ h => h).trans (kp10.mono (T := fun j => j = k) fun i e => e) fun i hi e => absurd hi (by rw [e, HK.out]; omega))
         have OK10 := Lib.hid (ok9.keep ks10)
         have HD9 := Lib.hid d9
         have R9 := Lib.hid r9
         have R10 : Hid (u10.heap[k]? = some (.cells #[.slice A9 n9 c9, .slice A10 n10 c10] 32 (0, 0))) := Lib.hid (by rw [← hu10]; exact setRow_heapG _ _ _ _ _ _ r9)
         have HU10 := Lib.hid hu10
         clear h9 r9 kp10 ks10 hm9 hu10 ok9 d9 b9 hn9 hn10)
      | (have R9x := R9.out
         refine wpList_store_row rfl 32 (.tmp 4) (.tmp 34) rfl k #[.slice A9 n9 c9, .slice A10 n10 c10] (by rfl) (by rfl) 32 _ R9x (by kernel_rfl) rfl (by simp [Value.oneCell']) ?_
         rw [HU10.out])
      | fail)
    refine bodyPost_ret (v := .tuple #[.agg #[.slice A9 n9 c9, .slice A10 n10 c10], .bool true]) (by
      have c0 := cell_of R10.out 0 (.slice A9 n9 c9) rfl
      have c1 := cell_of R10.out 1 (.slice A10 n10 c10) rfl
      simp [results, Try.results18, go_sem]
      try go_simp) rfl ⟨⟨.slice A9 n9 c9, X9, .slice A10 n10 c10, L9⟩, by rw [HRD.out]; rfl, OK10.out, by rw [HRD.out, HD9.out]; exact HD3.out, by rw [HRD.out]; exact H10.out, KF10.out⟩

end Go.Proofs.Ytfkmodmgihadkaa
