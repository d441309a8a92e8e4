/-
  Unframe: bytes as a packet, by exact answers. Condition: the bytes and the table of sums lie in memory.
-/
import Derived.Test.YtkmbgehknpefiaaGreatDoorWun
namespace Go.Proofs.YtkmbgehknpefiaaGreatDoor
set_option linter.unusedSimpArgs false
set_option linter.unusedVariables false
open Go.RowKit

theorem fin_of {s : RS} (h : s.E ≠ 0) : s.fin = s.E := by unfold RS.fin; rw [if_neg h]
theorem has_one {s : RS} {h : Bool} {s' : RS} (e : s.has = (h, s')) : ∀ n t, s.b = (n, t) → (n ≤ 1 → h = decide (n = 1) ∧ s' = t) ∧ (1 < n → h = false ∧ s' = t.fail 6) := by
  intro n t hb
  unfold RS.has at e
  rw [hb] at e
  simp only at e
  constructor
  · intro hn
    rw [if_neg (by omega)] at e
    cases e
    exact ⟨rfl, rfl⟩
  · intro hn
    rw [if_pos hn] at e
    cases e
    exact ⟨decide_eq_false (by omega), rfl⟩
/-- the program's reading is the document's. -/
theorem unframe_is (x : List UInt8) : unframe x =
    (if 524288 < x.length then (Pk.zero, 5)
     else if summedB x = false then (Pk.zero, 7)
     else if (gotP ⟨x.take (x.length - 4), 0⟩).2.fin ≠ 0 then (Pk.zero, (gotP ⟨x.take (x.length - 4), 0⟩).2.fin)
     else if (gotP ⟨x.take (x.length - 4), 0⟩).1.rightB then ((gotP ⟨x.take (x.length - 4), 0⟩).1, 0) else (Pk.zero, 6)) := by
  unfold unframe
  by_cases h1 : 524288 < x.length
  · rw [if_pos h1, if_pos h1]
  rw [if_neg h1, if_neg h1]
  by_cases h2 : x.length < 4
  · have hs : summedB x = false := decide_eq_false (by omega)
    rw [if_pos h2, hs, if_pos rfl]
  rw [if_neg h2]
  by_cases h3 : x.drop (x.length - 4) = be4 (Crc.sumN (x.take (x.length - 4)))
  · have hs : summedB x = true := decide_eq_true ⟨by omega, h3⟩
    rw [hs, if_neg (fun h => h h3), if_neg (show ¬ (true = false) by decide)]
    clear h3 hs h2 h1
    generalize x.take (x.length - 4) = d
    unfold got gotP
    obtain ⟨⟨⟨fn, fl⟩, s1⟩, e1⟩ : ∃ q, RS.proc ⟨d, 0⟩ = q := ⟨_, rfl⟩
    obtain ⟨⟨⟨tn, tl⟩, s2⟩, e2⟩ : ∃ q, s1.proc = q := ⟨_, rfl⟩
    obtain ⟨⟨seq, s3⟩, e3⟩ : ∃ q, s2.u 18446744073709551615 = q := ⟨_, rfl⟩
    obtain ⟨⟨ack, s4⟩, e4⟩ : ∃ q, s3.u 18446744073709551615 = q := ⟨_, rfl⟩
    obtain ⟨⟨has, s5⟩, e5⟩ : ∃ q, s4.has = q := ⟨_, rfl⟩
    obtain ⟨⟨n, t5⟩, e5'⟩ : ∃ q, s4.b = q := ⟨_, rfl⟩
    obtain ⟨k1, k2⟩ := has_one e5 n t5 e5'
    simp only [e1, e2, e3, e4, e5, e5']
    by_cases hn : n ≤ 1
    · obtain ⟨rfl, rfl⟩ := k1 hn
      simp only [decide_eq_true_eq]
      obtain ⟨⟨body, s6⟩, e6⟩ : ∃ q, (if n = 1 then s5.text 524288 else ([], s5)) = q := ⟨_, rfl⟩
      simp only [e6]
      by_cases hf : s6.fin = 0
      · obtain ⟨z1, z2⟩ := fin_zero hf
        have hbody : n ≠ 1 → body = [] := by
          intro h
          rw [if_neg h] at e6
          exact (Prod.mk.inj e6).1.symm
        have z5 : s5.E = 0 := by
          by_cases h : n = 1
          · rw [if_pos h] at e6
            exact (text_back e6 z1).1
          · rw [if_neg h] at e6
            rw [(Prod.mk.inj e6).2]
            exact z1
        obtain ⟨f1, -, -⟩ := b_back e5' z5
        obtain ⟨g1, -, -⟩ := u_back e4 f1
        obtain ⟨i1, -, -⟩ := u_back e3 g1
        obtain ⟨j1, -, -, -⟩ := proc_back e2 i1
        rw [hf, if_neg (show ¬ ((0 : Nat) ≠ 0) from fun h => h rfl), if_neg (show ¬ ((0 : Nat) ≠ 0) from fun h => h rfl)]
        simp only [i1, j1, if_true]
        unfold Pk.rightB
        simp only
        have hh : (decide (n = 1) || body.isEmpty) = true := by
          by_cases h : n = 1
          · simp [h]
          · simp [h, hbody h]
        rw [hh, Bool.and_true]
        by_cases hr : rp fn fl = true ∧ rp tn tl = true
        · rw [if_pos ⟨hn, hr⟩, if_pos (by simp [hr])]
        · rw [if_neg (fun h => hr h.2), if_neg (by simpa using hr)]
      · rw [if_pos hf, if_pos hf]
    · obtain ⟨rfl, rfl⟩ := k2 (by omega)
      have hn1 : ¬ n = 1 := by omega
      have hE4 : s4.E = 0 := by
        rcases Nat.eq_zero_or_pos s4.E with h | h
        · exact h
        · unfold RS.b at e5'
          rw [if_neg (by omega)] at e5'
          have := (Prod.mk.inj e5').1
          omega
      have hE5 : t5.E = 0 := by
        unfold RS.b at e5'
        rw [if_pos hE4] at e5'
        split at e5'
        · have := (Prod.mk.inj e5').1
          omega
        · rw [← (Prod.mk.inj e5').2]
      have hf6 : (t5.fail 6).fin = 6 := by
        unfold RS.fail
        rw [if_pos ⟨hE5, by decide⟩]
        rfl
      simp only [hn1, if_false, hf6]
      have hf5 : t5.fin = 0 ∨ t5.fin = 6 := by
        unfold RS.fin
        rw [if_pos hE5]
        split
        · exact .inl rfl
        · exact .inr rfl
      rcases hf5 with h | h
      · rw [h]
        simp [show ¬ n ≤ 1 by omega, hf6]
      · rw [h]
        simp [hf6]
  · have hs : summedB x = false := decide_eq_false (fun h => h3 h.2)
    rw [if_pos h3, hs, if_pos rfl]

theorem results_cell2_row {P : Program} {fn : Func} {p u : Tmp} {ty : TypeId} (h : fn.results = #[.cell p ty, .tmp u]) (tmps : Array Value) (w : World) (g : Nat) (t : TypeId) (cs : Array Value) (fr : Nat × Nat) (d : TypeDesc)
    (hp : tmps.getD p undef = .pointer (some ⟨g, 0, none⟩)) (hg : w.heap[g]? = some (.cells cs t fr))
    (hu : P.underlying ty = some d) (hd : (match d with | .struct _ | .array _ _ => true | _ => false) = true) (hi : (P.info? ty).map (·.size) = some cs.size) :
    Sem.run P (results fn tmps) w = .ok (.tuple #[.agg cs, tmps.getD u undef]) w := by
  have hp' : tmps[p]?.getD undef = .pointer (some ⟨g, 0, none⟩) := by simpa using hp
  simp [results, h, hp', asAddr, run_loadVar_row w g t ty cs fr d hg hu hd hi]

set_option maxRecDepth 100000 in
set_option maxHeartbeats 2000000 in
theorem unframeO (A : Option Addr) (x : List UInt8) (c : Nat) (W : World) (h : BytesAt W W.heap.size A x) (hl : x.length ≤ 140737488355328) (hc : x.length ≤ c) (hm : c ≤ maxLen) (hT : TabAt W.heap.size W) :
    Calls Tryz.prog 20 #[.slice A x.length c] W fun e W' => ∃ B d, e = .returned (.tuple #[pkV (unframe x).1 B d, .int .i64 (unframe x).2]) ∧ BytesAt W' W'.heap.size B (unframe x).1.body ∧ Below W.heap.size W W' := by
  rw [unframe_is x]
  obtain ⟨W0, hW0⟩ : ∃ W0, W.alloc (.cells #[.int .u8 0, .int .u16 0, .int .u8 0, .int .u16 0, .int .u64 0, .int .u64 0, .bool false, .slice none 0 0] 76) = W0 := ⟨_, rfl⟩
  have b0 : Below W.heap.size W W0 := by rw [← hW0]; exact (Below.refl _ _).alloc (Nat.le_refl _) _
  have R0 : Hid (W0.heap[W.heap.size]? = some (.cells #[.int .u8 0, .int .u16 0, .int .u8 0, .int .u16 0, .int .u64 0, .int .u64 0, .bool false, .slice none 0 0] 76 (0, 0))) := Lib.hid (by rw [← hW0]; exact heap_alloc_new W _)
  have S0 : W.heap.size < W0.heap.size := by rw [← hW0]; simp
  have a0 : BytesAt W0 W0.heap.size A x := h.below b0 (Nat.le_refl _) b0.size
  have t0 : TabAt W0.heap.size W0 := (hT.below b0 (Nat.le_refl _)).up b0.size
  have K1 := Lib.hid (summedO A x c W0 a0 hl hc t0)
  have HA := Lib.hid a0
  have B0 := Lib.hid b0
  have HW0 := Lib.hid hW0
  clear h hT b0 a0 t0 hW0
  by_cases h1 : 524288 < x.length
  · rw [if_pos h1]
    have h1' : (524288 : Int) < (x.length : Int) := by omega
    go_enter Tryz.func20, Tryz.ntmps20
    go_wp2_with (first
      | (rw [HW0.out]; refine wpList_store_row rfl 76 (.tmp 2) _ rfl W.heap.size #[.int .u8 0, .int .u16 0, .int .u8 0, .int .u16 0, .int .u64 0, .int .u64 0, .bool false, .slice none 0 0] (by rfl) (by rfl) 76 #[.int .u8 0, .int .u16 0, .int .u8 0, .int .u16 0, .int .u64 0, .int .u64 0, .bool false, .slice none 0 0] R0.out (by kernel_rfl) rfl (by simp [Value.oneCell']) ?_; have ER := Lib.hid (setRow_heap W0 W.heap.size _ #[.int .u8 0, .int .u16 0, .int .u8 0, .int .u16 0, .int .u64 0, .int .u64 0, .bool false, .slice none 0 0] _ _ R0.out)))
    exact bodyPost_ret (results_cell2_row (p := 2) (u := 3) (ty := 76) rfl _ _ W.heap.size 76 #[.int .u8 0, .int .u16 0, .int .u8 0, .int .u16 0, .int .u64 0, .int .u64 0, .bool false, .slice none 0 0] (0, 0) _ (by rfl) ER.out Tryz.underlying76 rfl (by kernel_rfl)) rfl ⟨none, 0, rfl, fun hx => absurd rfl hx, below_setRow B0.out (Nat.le_refl _) _⟩
  rw [if_neg h1]
  have h1' : ¬ (524288 : Int) < (x.length : Int) := by omega
  by_cases h2 : summedB x = false
  · rw [if_pos h2]
    rw [h2] at K1
    go_enter Tryz.func20, Tryz.ntmps20
    go_wp2_with fail
    rw [HW0.out]
    refine K1.out.mono ?_
    rintro e w1 ⟨rfl, b1⟩
    have R1 := Lib.hid ((b1.block _ S0).trans R0.out)
    have B1 := Lib.hid (B0.out.trans (b1.mono B0.out.size))
    clear b1
    go_wp2_with (first
      | (refine wpList_store_row rfl 76 (.tmp 2) _ rfl W.heap.size #[.int .u8 0, .int .u16 0, .int .u8 0, .int .u16 0, .int .u64 0, .int .u64 0, .bool false, .slice none 0 0] (by rfl) (by rfl) 76 #[.int .u8 0, .int .u16 0, .int .u8 0, .int .u16 0, .int .u64 0, .int .u64 0, .bool false, .slice none 0 0] R1.out (by kernel_rfl) rfl (by simp [Value.oneCell']) ?_; have ER := Lib.hid (setRow_heap w1 W.heap.size _ #[.int .u8 0, .int .u16 0, .int .u8 0, .int .u16 0, .int .u64 0, .int .u64 0, .bool false, .slice none 0 0] _ _ R1.out)))
    exact bodyPost_ret (results_cell2_row (p := 2) (u := 3) (ty := 76) rfl _ _ W.heap.size 76 #[.int .u8 0, .int .u16 0, .int .u8 0, .int .u16 0, .int .u64 0, .int .u64 0, .bool false, .slice none 0 0] (0, 0) _ (by rfl) ER.out Tryz.underlying76 rfl (by kernel_rfl)) rfl ⟨none, 0, rfl, fun hx => absurd rfl hx, below_setRow B1.out (Nat.le_refl _) _⟩
  rw [if_neg h2]
  have h2' : summedB x = true := by simpa using h2
  rw [h2'] at K1
  have h4 : 4 ≤ x.length := (of_decide_eq_true h2').1
  obtain ⟨n, hn⟩ : ∃ n, x.length = n + 4 := ⟨x.length - 4, by omega⟩
  have hl0 : x.length = n + 4 := hn
  have htl : (x.take n).length = n := by rw [List.length_take]; omega
  have hne4 : x.length - 4 = n := by omega
  rw [hne4]
  rw [hn] at K1 hl hc h1 ⊢
  clear h1'
  have HTL := Lib.hid htl
  have h1' : ¬ (524288 : Int) < (n : Int) + 4 := by omega
  have HL := Lib.hid hl
  have HCC := Lib.hid hc
  clear h4 hn hne4 h2 h2' htl h1
  obtain ⟨G, hG⟩ : ∃ G, gotP ⟨x.take n, 0⟩ = G := ⟨_, rfl⟩
  rw [hG]
  have HG := Lib.hid hG
  obtain ⟨F, hF⟩ : ∃ F, (if G.2.fin ≠ 0 then (Pk.zero, G.2.fin) else if G.1.rightB then (G.1, 0) else (Pk.zero, 6)) = F := ⟨_, rfl⟩
  rw [hF]
  have HF := Lib.hid hF
  obtain ⟨g, o, rfl, -, -⟩ := HA.out (by intro e; rw [e] at hl0; simp at hl0)
  have hs0 : (0 : Int) ≤ (n : Int) := by omega
  clear hl0 hG hF
  go_enter Tryz.func20, Tryz.ntmps20
  go_wp2_with fail
  rw [HW0.out]
  refine K1.out.mono ?_
  rintro e w1 ⟨rfl, b1⟩
  have R1 := Lib.hid ((b1.block _ S0).trans R0.out)
  have B1 := Lib.hid (B0.out.trans (b1.mono B0.out.size))
  have S1 := Nat.lt_of_lt_of_le S0 b1.size
  have K2 := readO (some ⟨g, o, none⟩) (x.take n) c w1 ((HA.out.below b1 (Nat.le_refl _) b1.size).take n) (by rw [HTL.out]; have := HL.out; omega) (by rw [HTL.out]; have := HCC.out; omega) hm
  rw [HTL.out] at K2
  have HK2 := Lib.hid K2
  clear b1 K2 R0 B0 K1
  go_wp2_with fail
  refine HK2.out.mono ?_
  rintro e w2 ⟨b, rfl, hb2, H2, b2⟩
  have R2 := Lib.hid ((b2.block _ S1).trans R1.out)
  have B2 := Lib.hid (B1.out.trans (b2.mono B1.out.size))
  have S2 := Nat.lt_of_lt_of_le S1 b2.size
  have K3 := getPacketO w2.heap.size b ⟨x.take n, 0⟩ w2 H2
  rw [HG.out] at K3
  unfold pkV at K3
  have HK3 := Lib.hid K3
  clear K3
  clear H2 b2 HK2 R1 B1
  go_wp2_with fail
  refine HK3.out.mono ?_
  rintro e w3 ⟨A3, c3, rfl, nw3, at3, H3, g3⟩
  have HNE := Lib.hid (fun g o h => Nat.lt_of_lt_of_le S2 (nw3 g o h))
  clear nw3
  have KR := Lib.hid (fun w => pkRight G.1 A3 c3 w)
  unfold pkV at KR
  obtain ⟨w4, hw4⟩ : ∃ w4, w3.alloc (.cells #[.int .u8 (G.1.fn : Nat), .int .u16 (G.1.fl : Nat), .int .u8 (G.1.tn : Nat), .int .u16 (G.1.tl : Nat), .int .u64 (G.1.seq : Nat), .int .u64 (G.1.ack : Nat), .bool G.1.has, .slice A3 G.1.body.length c3] 76) = w4 := ⟨_, rfl⟩
  have s3 : W.heap.size < w3.heap.size := Nat.lt_of_lt_of_le S2 g3.size
  have s34 : w3.heap.size < w4.heap.size := by rw [← hw4]; simp
  have R4 : Hid (w4.heap[W.heap.size]? = some (.cells #[.int .u8 0, .int .u16 0, .int .u8 0, .int .u16 0, .int .u64 0, .int .u64 0, .bool false, .slice none 0 0] 76 (0, 0))) := Lib.hid (by rw [← hw4, Below.heap_alloc _ _ _ s3, g3.block W.heap.size S2 (by simp; omega)]; exact R2.out)
  have RL : Hid (w4.heap[w3.heap.size]? = some (.cells #[.int .u8 (G.1.fn : Nat), .int .u16 (G.1.fl : Nat), .int .u8 (G.1.tn : Nat), .int .u16 (G.1.tl : Nat), .int .u64 (G.1.seq : Nat), .int .u64 (G.1.ack : Nat), .bool G.1.has, .slice A3 G.1.body.length c3] 76 (0, 0))) := Lib.hid (by rw [← hw4]; exact heap_alloc_new _ _)
  have b3 : Below W.heap.size W w3 := B2.out.grown g3 B2.out.size (fun j hj => by cases hj; have := B2.out.size; omega)
  have B4 := Lib.hid (show Below W.heap.size W w4 by rw [← hw4]; exact b3.alloc b3.size _)
  have A4 := Lib.hid (show BytesAt w4 w4.heap.size A3 G.1.body by rw [← hw4]; exact at3.below ((Below.refl _ _).alloc (Nat.le_refl _) _) (Nat.le_refl _) (by simp))
  have K4 := Lib.hid (endO w2.heap.size b G.2 w4 (by rw [← hw4]; exact H3.alloc _))
  have HW4 := Lib.hid hw4
  have S34 := Lib.hid s34
  have S3 := Lib.hid s3
  clear HK3 at3 H3 g3 R2 B2 S2 b3 hw4 s34 s3 hl hc hs0 hm hb2
  by_cases hf : G.2.fin = 0
  · have hF : (if G.1.rightB then (G.1, 0) else (Pk.zero, 6)) = F := by rw [← HF.out, hf]; rfl
    rw [hf] at K4
    clear hf
    go_wp2_with fail
    rw [HW4.out]
    refine K4.out.mono ?_
    rintro e w5 ⟨rfl, rfl⟩
    by_cases hr : G.1.rightB = true
    · obtain rfl : (G.1, 0) = F := by rw [← hF, if_pos hr]
      rw [hr] at KR
      clear hr hF
      go_wp2_with (first
        | (refine wpList_load_row rfl 76 (.tmp 5) rfl w3.heap.size (by rfl) 76 #[.int .u8 (G.1.fn : Nat), .int .u16 (G.1.fl : Nat), .int .u8 (G.1.tn : Nat), .int .u16 (G.1.tl : Nat), .int .u64 (G.1.seq : Nat), .int .u64 (G.1.ack : Nat), .bool G.1.has, .slice A3 G.1.body.length c3] (0, 0) _ RL.out Tryz.underlying76 rfl (by kernel_rfl) ?_))
      refine (KR.out _).mono ?_
      rintro e w6 ⟨rfl, b6⟩
      have RL6 := Lib.hid ((b6.block _ S34.out).trans RL.out)
      have R6 := Lib.hid ((b6.block _ (Nat.lt_trans S3.out S34.out)).trans R4.out)
      have A6 := Lib.hid (A4.out.below b6 (Nat.le_refl _) b6.size)
      have B6 := Lib.hid (B4.out.trans (b6.mono B4.out.size))
      clear b6
      go_wp2_with (first
        | (refine wpList_load_row rfl 76 (.tmp 5) rfl w3.heap.size (by rfl) 76 #[.int .u8 (G.1.fn : Nat), .int .u16 (G.1.fl : Nat), .int .u8 (G.1.tn : Nat), .int .u16 (G.1.tl : Nat), .int .u64 (G.1.seq : Nat), .int .u64 (G.1.ack : Nat), .bool G.1.has, .slice A3 G.1.body.length c3] (0, 0) _ RL6.out Tryz.underlying76 rfl (by kernel_rfl) ?_)
        | (refine wpList_store_row rfl 76 (.tmp 2) _ rfl W.heap.size #[.int .u8 (G.1.fn : Nat), .int .u16 (G.1.fl : Nat), .int .u8 (G.1.tn : Nat), .int .u16 (G.1.tl : Nat), .int .u64 (G.1.seq : Nat), .int .u64 (G.1.ack : Nat), .bool G.1.has, .slice A3 G.1.body.length c3] (by rfl) (by rfl) 76 #[.int .u8 0, .int .u16 0, .int .u8 0, .int .u16 0, .int .u64 0, .int .u64 0, .bool false, .slice none 0 0] R6.out (by kernel_rfl) rfl (by simp [Value.oneCell']) ?_
           have ER := Lib.hid (setRow_heap w6 W.heap.size _ #[.int .u8 (G.1.fn : Nat), .int .u16 (G.1.fl : Nat), .int .u8 (G.1.tn : Nat), .int .u16 (G.1.tl : Nat), .int .u64 (G.1.seq : Nat), .int .u64 (G.1.ack : Nat), .bool G.1.has, .slice A3 G.1.body.length c3] _ _ R6.out)))
      have A7 : BytesAt (w6.setRow W.heap.size #[.int .u8 (G.1.fn : Nat), .int .u16 (G.1.fl : Nat), .int .u8 (G.1.tn : Nat), .int .u16 (G.1.tl : Nat), .int .u64 (G.1.seq : Nat), .int .u64 (G.1.ack : Nat), .bool G.1.has, .slice A3 G.1.body.length c3]) (w6.setRow W.heap.size #[.int .u8 (G.1.fn : Nat), .int .u16 (G.1.fl : Nat), .int .u8 (G.1.tn : Nat), .int .u16 (G.1.tl : Nat), .int .u64 (G.1.seq : Nat), .int .u64 (G.1.ack : Nat), .bool G.1.has, .slice A3 G.1.body.length c3]).heap.size A3 G.1.body := fun hx => by
        obtain ⟨g', o', e, hg, hcl⟩ := A6.out hx
        cases e
        refine ⟨_, _, rfl, by simpa using hg, fun j y hj => ?_⟩
        rw [cell_setRow_other _ _ _ _ (by have := HNE.out g' o' rfl; simp; omega)]
        exact hcl j y hj
      have B7 := below_setRow B6.out (Nat.le_refl _) #[.int .u8 (G.1.fn : Nat), .int .u16 (G.1.fl : Nat), .int .u8 (G.1.tn : Nat), .int .u16 (G.1.tl : Nat), .int .u64 (G.1.seq : Nat), .int .u64 (G.1.ack : Nat), .bool G.1.has, .slice A3 G.1.body.length c3]
      first
        | exact bodyPost_ret (results_cell2_row (p := 2) (u := 3) (ty := 76) rfl _ _ W.heap.size 76 #[.int .u8 (G.1.fn : Nat), .int .u16 (G.1.fl : Nat), .int .u8 (G.1.tn : Nat), .int .u16 (G.1.tl : Nat), .int .u64 (G.1.seq : Nat), .int .u64 (G.1.ack : Nat), .bool G.1.has, .slice A3 G.1.body.length c3] (0, 0) _ (by rfl) ER.out Tryz.underlying76 rfl (by kernel_rfl)) rfl ⟨A3, c3, rfl, A7, B7⟩
        | exact bodyPost_ret (results_cell2_row (p := 2) (u := 3) (ty := 76) rfl _ _ W.heap.size 76 #[.int .u8 (G.1.fn : Nat), .int .u16 (G.1.fl : Nat), .int .u8 (G.1.tn : Nat), .int .u16 (G.1.tl : Nat), .int .u64 (G.1.seq : Nat), .int .u64 (G.1.ack : Nat), .bool G.1.has, .slice A3 G.1.body.length c3] (0, 0) _ (by rfl) ER.out Tryz.underlying76 rfl (by kernel_rfl)) rfl ⟨A3, ⟨c3, rfl⟩, A7, B7⟩
    · obtain rfl : (Pk.zero, 6) = F := by rw [← hF, if_neg hr]
      have hr' : G.1.rightB = false := by simpa using hr
      rw [hr'] at KR
      clear hr hr' hF
      go_wp2_with (first
        | (refine wpList_load_row rfl 76 (.tmp 5) rfl w3.heap.size (by rfl) 76 #[.int .u8 (G.1.fn : Nat), .int .u16 (G.1.fl : Nat), .int .u8 (G.1.tn : Nat), .int .u16 (G.1.tl : Nat), .int .u64 (G.1.seq : Nat), .int .u64 (G.1.ack : Nat), .bool G.1.has, .slice A3 G.1.body.length c3] (0, 0) _ RL.out Tryz.underlying76 rfl (by kernel_rfl) ?_))
      refine (KR.out _).mono ?_
      rintro e w6 ⟨rfl, b6⟩
      have R6 := Lib.hid ((b6.block _ (Nat.lt_trans S3.out S34.out)).trans R4.out)
      have B6 := Lib.hid (B4.out.trans (b6.mono B4.out.size))
      clear b6
      go_wp2_with (first
        | (refine wpList_store_row rfl 76 (.tmp 2) _ rfl W.heap.size #[.int .u8 0, .int .u16 0, .int .u8 0, .int .u16 0, .int .u64 0, .int .u64 0, .bool false, .slice none 0 0] (by rfl) (by rfl) 76 #[.int .u8 0, .int .u16 0, .int .u8 0, .int .u16 0, .int .u64 0, .int .u64 0, .bool false, .slice none 0 0] R6.out (by kernel_rfl) rfl (by simp [Value.oneCell']) ?_; have ER := Lib.hid (setRow_heap w6 W.heap.size _ #[.int .u8 0, .int .u16 0, .int .u8 0, .int .u16 0, .int .u64 0, .int .u64 0, .bool false, .slice none 0 0] _ _ R6.out)))
      first
        | exact bodyPost_ret (results_cell2_row (p := 2) (u := 3) (ty := 76) rfl _ _ W.heap.size 76 #[.int .u8 0, .int .u16 0, .int .u8 0, .int .u16 0, .int .u64 0, .int .u64 0, .bool false, .slice none 0 0] (0, 0) _ (by rfl) ER.out Tryz.underlying76 rfl (by kernel_rfl)) rfl ⟨none, 0, rfl, fun hx => absurd rfl hx, below_setRow B6.out (Nat.le_refl _) _⟩
        | exact bodyPost_ret (results_cell2_row (p := 2) (u := 3) (ty := 76) rfl _ _ W.heap.size 76 #[.int .u8 0, .int .u16 0, .int .u8 0, .int .u16 0, .int .u64 0, .int .u64 0, .bool false, .slice none 0 0] (0, 0) _ (by rfl) ER.out Tryz.underlying76 rfl (by kernel_rfl)) rfl ⟨none, ⟨0, rfl⟩, fun hx => absurd rfl hx, below_setRow B6.out (Nat.le_refl _) _⟩
  · obtain ⟨m, hm⟩ : ∃ m, G.2.fin = m := ⟨_, rfl⟩
    obtain rfl : (Pk.zero, m) = F := by rw [← HF.out, if_pos hf, hm]
    rw [hm] at K4
    have hm' : ¬ (m : Int) = 0 := by omega
    clear hm hf HF h1'
    go_wp2_with fail
    rw [HW4.out]
    refine K4.out.mono ?_
    rintro e w5 ⟨rfl, rfl⟩
    go_wp2_with (first
      | (refine wpList_store_row rfl 76 (.tmp 2) _ rfl W.heap.size #[.int .u8 0, .int .u16 0, .int .u8 0, .int .u16 0, .int .u64 0, .int .u64 0, .bool false, .slice none 0 0] (by rfl) (by rfl) 76 #[.int .u8 0, .int .u16 0, .int .u8 0, .int .u16 0, .int .u64 0, .int .u64 0, .bool false, .slice none 0 0] R4.out (by kernel_rfl) rfl (by simp [Value.oneCell']) ?_; have ER := Lib.hid (setRow_heap w5 W.heap.size _ #[.int .u8 0, .int .u16 0, .int .u8 0, .int .u16 0, .int .u64 0, .int .u64 0, .bool false, .slice none 0 0] _ _ R4.out)))
    first
      | exact bodyPost_ret (results_cell2_row (p := 2) (u := 3) (ty := 76) rfl _ _ W.heap.size 76 #[.int .u8 0, .int .u16 0, .int .u8 0, .int .u16 0, .int .u64 0, .int .u64 0, .bool false, .slice none 0 0] (0, 0) _ (by rfl) ER.out Tryz.underlying76 rfl (by kernel_rfl)) rfl ⟨none, 0, rfl, fun hx => absurd rfl hx, below_setRow B4.out (Nat.le_refl _) _⟩
      | exact bodyPost_ret (results_cell2_row (p := 2) (u := 3) (ty := 76) rfl _ _ W.heap.size 76 #[.int .u8 0, .int .u16 0, .int .u8 0, .int .u16 0, .int .u64 0, .int .u64 0, .bool false, .slice none 0 0] (0, 0) _ (by rfl) ER.out Tryz.underlying76 rfl (by kernel_rfl)) rfl ⟨none, ⟨0, rfl⟩, fun hx => absurd rfl hx, below_setRow B4.out (Nat.le_refl _) _⟩

end Go.Proofs.YtkmbgehknpefiaaGreatDoor
