/-
  The program's acknowledge: by an exact answer. Condition: the link lies in memory.
-/
import Derived.Test.YtnagbiicpecamaaJad
namespace Go.Proofs.Ytnagbiicpecamaa
set_option linter.unusedSimpArgs false
set_option linter.unusedVariables false
open Go.RowKit Go.Maps Go.Sort

/-- how many are acknowledged. -/
def ackN (next ack n : Nat) : Nat := if next < ack then 0 else ack + n - next
theorem ackN_le (next ack n : Nat) : ackN next ack n ≤ n := by
  unfold ackN
  split <;> omega
theorem ack_iff {next ack n q i : Nat} (h : ¬ next < ack) (hq : q + n = next + i) (hi : i < n) : q < ack ↔ i < ackN next ack n := by
  unfold ackN
  rw [if_neg h]
  omega
/-- a row whose head is gone: by what DeleteFunc leaves. -/
theorem PL.drop {base : Nat} {W W' : World} {b m : Nat} {v v' : Value} {c : Nat} {s : Sc} {L : List Ls} {K : List Kr} (h : PL base W b m v c s L K) (d : Nat) (hd : d ≤ L.length) (k : KP (fun k => k = b ∨ v.ownBlock = some k) W W') (hv : v'.ownBlock = v.ownBlock) (hl : W'.heap[b]? = some (.cells (s.cs v' m) 64 (0, 0))) (hr : RowO W' 60 4 v' (L.length - d) (flat Ls.cs (L.drop d))) :
    PL base W' b m v' c s (L.drop d) K := by
  have hu : ∀ (g' : Nat) (cur : Array Value), W.heap[g']? = some (.cells cur 5 (0, 0)) → ¬ (g' = b ∨ v.ownBlock = some g') := fun g' cur hg e => h.u8 g' cur hg (e.elim Or.inl fun e => Or.inr (Or.inr e))
  obtain ⟨nn, D, hk', ⟨es, cl, hmm, F, hs, hD⟩, M⟩ := h.map
  have hm : ¬ (m = b ∨ v.ownBlock = some m) := fun e => e.elim (fun e => h.ne_bm e.symm) fun e => h.ne_mv m e rfl
  refine ⟨h.hb, h.hm, fun g hg => h.hv g (by rw [← hv]; exact hg), hl, by rw [List.length_drop]; exact hr, fun y hy => (h.okL y (List.mem_of_mem_drop hy)).keepK k hu, ⟨nn, D, hk', ⟨es, cl, (k.block m (blt hmm) hm).trans hmm, F, hs, hD⟩, M⟩, fun y hy => (h.okK y hy).keepK k hu, by have := h.few; rw [List.length_drop]; omega, h.nxt, h.wnt, h.agn, fun i x hx => ?_, fun y hy => h.ats y (List.mem_of_mem_drop hy)⟩
  rw [List.getElem?_drop] at hx
  have := h.seqs _ x hx
  have hi := (List.getElem?_eq_some_iff.1 hx).1
  rw [List.length_drop]
  omega
def AckR (base : Nat) (W : World) (b m : Nat) (v : Value) (c : Nat) (s : Sc) (L : List Ls) (K : List Kr) (ack : Nat) (W' : World) : Prop :=
  ∃ v', v'.ownBlock = v.ownBlock ∧ PL base W' b m v' c s (L.drop (ackN s.next ack L.length)) K ∧ KP (fun k => k = b ∨ v.ownBlock = some k) W W'
set_option maxRecDepth 100000 in
set_option maxHeartbeats 2000000 in
theorem ackW (base : Nat) (W : World) (b m : Nat) (v : Value) (c : Nat) (s : Sc) (L : List Ls) (K : List Kr) (h : PL base W b m v c s L K) (ack : Nat) :
    Calls Try.prog 22 #[.pointer (some ⟨b, 0, none⟩), .int .u64 ack] W fun e W' => e = .returned (.tuple #[]) ∧ AckR base W b m v c s L K ack W' := by
  obtain ⟨A, cp, rfl, hn1, hn2, hA⟩ := h.row.slice
  have lnk := h.lnk
  obtain ⟨n, hn⟩ : ∃ n, L.length = n := ⟨_, rfl⟩
  have row := h.row
  have few := h.few
  have seqs := h.seqs
  simp only [hn] at row few seqs
  obtain ⟨mn, ml, pn, pl, ag, nx, wt, ow⟩ := s
  have hlit : W.heap[b]? = some (.cells #[.int .u8 mn, .int .u16 ml, .int .u8 pn, .int .u16 pl, .int .i64 ag, .int .u64 nx, .int .u64 wt, .slice A n cp, .bool ow, .map (some m)] 64 (0, 0)) := by
    have := lnk
    simp only [Sc.cs, hn] at this
    exact this
  obtain ⟨W1, hW1⟩ : ∃ Y, W.alloc (.cells #[.int .u64 ack] 22) = Y := ⟨_, rfl⟩
  have r1 : W1.heap[W.heap.size]? = some (.cells #[.int .u64 ack] 22 (0, 0)) := by rw [← hW1]; exact heap_alloc_new _ _
  have b1 : Below W.heap.size W W1 := by rw [← hW1]; exact (Below.refl _ _).alloc (Nat.le_refl _) _
  have l1 := (b1.block b (blt hlit)).trans hlit
  have c0 := cell_of r1 0 (.int .u64 ack) rfl
  have c5 := cell_of l1 5 (.int .u64 nx) rfl
  have HW1 := Lib.hid hW1
  have HN := Lib.hid hn
  have HP := Lib.hid h
  have B1 := Lib.hid b1
  have R1 := Lib.hid r1
  have L1 := Lib.hid l1
  have ROW0 := Lib.hid row
  have SEQ := Lib.hid seqs
  have HA := Lib.hid hA
  have HN1 := Lib.hid hn1
  have FEW := Lib.hid few
  clear h row seqs hW1 r1 b1 hlit lnk hA hn hn1 hn2 few l1
  go_enter Try.func22, Try.ntmps22
  go_wp2_with (rw [HW1.out])
  go_quiet (fail)
  obtain ⟨W3, hW3⟩ : ∃ Y, W1.drewN nq = Y := ⟨_, rfl⟩
  have bb3 : Below W1.heap.size W1 W3 := by rw [← hW3]; exact ⟨rfl, rfl, rfl, Nat.le_refl _, fun _ _ => rfl⟩
  have HH : Hid (W3.heap[b]? = some (.cells #[.int .u8 mn, .int .u16 ml, .int .u8 pn, .int .u16 pl, .int .i64 ag, .int .u64 nx, .int .u64 wt, .slice A n cp, .bool ow, .map (some m)] 64 (0, 0)) ∧ W3.heap[W.heap.size]? = some (.cells #[.int .u64 ack] 22 (0, 0))) := Lib.hid ⟨(bb3.block _ (blt L1.out)).trans L1.out, (bb3.block _ (blt R1.out)).trans R1.out⟩
  have B3 := Lib.hid (B1.out.trans (bb3.mono B1.out.size))
  have ROW3 := Lib.hid (ROW0.out.below B3.out)
  rw [hW3]
  clear hW3 bb3 c0 c5
  by_cases hlt : nx < ack
  · have e : decide (nx < ack) = true := by simpa using hlt
    rw [e]
    have HLT := Lib.hid hlt
    clear hlt e
    go_wp2
    refine bodyPost_ret (results_none rfl _ _ _) rfl ?_
    refine ⟨rfl, ?_⟩
    unfold AckR
    refine ⟨_, rfl, ?_, KP.of_below B3.out⟩
    have e : ackN nx ack L.length = 0 := by
      unfold ackN
      rw [if_pos HLT.out]
    show PL base W3 b m _ c _ (L.drop (ackN nx ack L.length)) K
    rw [e]
    exact HP.out.below B3.out
  · have e : decide (nx < ack) = false := by simpa using hlt
    rw [e]
    have HLT := Lib.hid hlt
    clear hlt e
    have c7 := cell_of HH.out.1 7 (.slice A n cp) rfl
    have z7 := frz_row 7 HH.out.1
    have fin : ∀ (A' : Option Addr) (n' : Nat) (w : World), KP (fun k => (Value.slice A n cp).ownBlock = some k) W3 w → A' = A → n' = n - ackN nx ack n → RowO w 60 4 (.slice A' n' cp) n' (flat Ls.cs (L.drop (ackN nx ack n))) → AckR base W b m (.slice A L.length cp) c ⟨mn, ml, pn, pl, ag, nx, wt, ow⟩ L K ack (w.setCell ⟨b, 7, none⟩ (.slice A' n' cp)) := by
      intro A' n' w k hA' hn' hr
      have hn := HN.out
      have PP := HP.out.below B3.out
      have nb : ∀ g, (Value.slice A n cp).ownBlock = some g → g ≠ b := fun g hg => PP.ne_bv g (by rw [hn]; exact hg)
      have lw : w.heap[b]? = some (.cells #[.int .u8 mn, .int .u16 ml, .int .u8 pn, .int .u16 pl, .int .i64 ag, .int .u64 nx, .int .u64 wt, .slice A n cp, .bool ow, .map (some m)] 64 (0, 0)) := (k.block b (blt HH.out.1) (fun e => nb b e rfl)).trans HH.out.1
      have k2 : KP (fun k => k = b ∨ (Value.slice A L.length cp).ownBlock = some k) W3 (w.setCell ⟨b, 7, none⟩ (.slice A' n' cp)) := by
        rw [hn]
        exact (k.mono fun k hk => Or.inr hk).trans (KP.set (S := fun k => k = b) w b 7 _ rfl) fun _ _ e => Or.inl e
      have hob : (Value.slice A' n' cp).ownBlock = (Value.slice A L.length cp).ownBlock := by
        rw [hA']
        cases A <;> rfl
      unfold AckR
      refine ⟨.slice A' n' cp, hob, ?_, (KP.of_below B3.out).trans k2 fun _ _ h => h⟩
      show PL base _ b m _ c _ (L.drop (ackN nx ack L.length)) K
      refine PP.drop (ackN nx ack L.length) (ackN_le _ _ _) k2 hob ((row_set lw _).trans rfl) ?_
      rw [hn, ← hn']
      refine hr.keepB fun g hg => Below.heap_setCell _ _ _ _ ?_
      rw [hA'] at hg
      exact nb g (by cases A with | none => cases hg | some a => exact hg)
    have FIN := Lib.hid fin
    clear fin
    rcases HA.out with ⟨rfl, rfl⟩ | ⟨g, o, rfl⟩
    · have hn0 : n = 0 := by have := HN1.out; have := HN.out; omega
      subst hn0
      have KD := delN W.heap.size W3
      go_wp2_with fail
      refine KD.mono ?_
      rintro e w ⟨rfl, rfl⟩
      go_wp2
      go_end0
      refine ⟨rfl, FIN.out none 0 _ (KP.refl _ _) rfl (by omega) ?_⟩
      have : L = [] := List.eq_nil_of_length_eq_zero HN.out
      subst this
      simp
      exact RowO.nil _ _ _
    · have hd : ∀ i x, L[i]? = some x → (x.seq < ack ↔ i < ackN nx ack n) := fun i x hx => ack_iff HLT.out (SEQ.out i x hx) (by have := (List.getElem?_eq_some_iff.1 hx).1; rw [HN.out] at this; exact this)
      by_cases h0 : 0 < ackN nx ack n
      · have KD := delY W3 g o n cp W.heap.size ack (ackN nx ack n) L HN.out ROW3.out HH.out.2 hd (ackN_le _ _ _) FEW.out h0
        clear hd
        go_wp2_with fail
        refine KD.mono ?_
        rintro e w ⟨rfl, ho, hk⟩
        have cw := (hk.block b (blt HH.out.1) (fun e => by
          obtain ⟨c2, h2⟩ := ROW3.out.block g rfl
          exact apart_of HH.out.1 h2 (by decide) e)).trans HH.out.1
        have c7 := cell_of cw 7 (.slice (some ⟨g, o, none⟩) n cp) rfl
        have z7 := frz_row 7 cw
        have HO := Lib.hid ho
        have HKK := Lib.hid hk
        clear ho hk cw KD
        go_wp2
        go_end0
        exact ⟨rfl, FIN.out _ _ _ (HKK.out.mono fun k e => by rw [e]; rfl) rfl rfl HO.out⟩
      · have KD := delZ W3 g o n cp W.heap.size ack (ackN nx ack n) L HN.out ROW3.out HH.out.2 hd (ackN_le _ _ _) FEW.out (by omega)
        have h00 : ackN nx ack n = 0 := by omega
        have H00 := Lib.hid h00
        clear hd h0 h00
        go_wp2_with fail
        refine KD.mono ?_
        rintro e w ⟨rfl, b4⟩
        have cw := (b4.block b (blt HH.out.1)).trans HH.out.1
        have c7 := cell_of cw 7 (.slice (some ⟨g, o, none⟩) n cp) rfl
        have z7 := frz_row 7 cw
        have B4 := Lib.hid b4
        clear b4 cw KD
        go_wp2
        go_end0
        refine ⟨rfl, FIN.out _ _ _ (KP.of_below B4.out) rfl (by have := H00.out; omega) ?_⟩
        rw [H00.out]
        exact ROW3.out.below B4.out

end Go.Proofs.Ytnagbiicpecamaa
