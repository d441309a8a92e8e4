/-
  A packet put into a Writer; the sum put behind it: by exact answers. Condition: Writer, body and table lie in memory.
-/
import Derived.Test.YtkmbgehknpefiaaGreatDoorWta
import Derived.Laws.IdiomStrings
import Derived.Laws.BytesArg
namespace Go.Proofs.YtkmbgehknpefiaaGreatDoor
set_option linter.unusedSimpArgs false
set_option linter.unusedVariables false
open Go.RowKit

/-- a packet in the program's form. -/
def pkV (p : Pk) (A : Option Addr) (c : Nat) : Value := .agg #[.int .u8 p.fn, .int .u16 p.fl, .int .u8 p.tn, .int .u16 p.tl, .int .u64 p.seq, .int .u64 p.ack, .bool p.has, .slice A p.body.length c]
theorem putP_len (n l : Nat) (h : l ≤ 65535) : (putP n l).length ≤ 11 := by
  unfold putP
  have := putU_length l (by omega)
  simp only [List.length_cons]
  omega
/-- bytes of memory as a text. -/
theorem conv_bytes {w : World} {B : Nat} {A : Option Addr} {L : List UInt8} (h : BytesAt w B A L) (c : Nat) : Sem.run Tryz.prog (convert 41 9 (.slice A L.length c)) w = .ok (.string ⟨L.toArray⟩) w := by
  cases A with
  | none =>
    have hl : L = [] := by
      rcases Classical.em (L = []) with h0 | h0
      · exact h0
      · obtain ⟨g, o, e, -⟩ := h h0
        cases e
    subst hl
    exact run_convert_bytes_nil w _ _ Tryz.underlying41 Tryz.underlying5 0 c _ Tryz.underlying9
  | some a =>
    exact run_convert_bytes_back w 41 9 5 a c L Tryz.underlying41 Tryz.underlying5 Tryz.underlying9 (fun j hj => by
      have hne : L ≠ [] := by intro e; rw [e] at hj; simp at hj
      obtain ⟨g, o, e, _, hc⟩ := h hne
      cases e
      rw [addr_add]
      exact hc j _ (List.getElem?_eq_getElem hj))

set_option maxRecDepth 100000 in
set_option maxHeartbeats 2000000 in
theorem putPacketO (base b : Nat) (L : List UInt8) (p : Pk) (A : Option Addr) (c : Nat) (W : World) (h : WrAt base b L W) (hB : base ≤ W.heap.size) (hp : p.fits) (hr : BytesAt W base A p.body) (hl : L.length + p.body.length + 100 ≤ 140737488355328) :
    Calls Tryz.prog 62 #[.pointer (some ⟨b, 0, none⟩), pkV p A c] W fun e W' => e = .returned (.tuple #[]) ∧ WrAt base b (L ++ p.plain) W' ∧ Below base W W' ∧ KeepW b W W' := by
  obtain ⟨fn, fl, tn, tl, seq, ack, has, body⟩ := p
  obtain ⟨p1, p2, p3, p4, p5, p6⟩ := hp
  simp only at p1 p2 p3 p4 p5 p6 hr hl
  unfold pkV
  simp only
  have l1 := putP_len fn fl p2
  have l2 := putP_len tn tl p4
  have l3 := putU_length seq (by omega)
  have l4 := putU_length ack (by omega)
  obtain ⟨O, hO⟩ : ∃ O, Obj.cells #[.int .u8 fn, .int .u16 fl, .int .u8 tn, .int .u16 tl, .int .u64 seq, .int .u64 ack, .bool has, .slice A body.length c] 76 (0, 0) = O := ⟨_, rfl⟩
  have hw : b < W.heap.size := by obtain ⟨_, v, bV, _⟩ := h; exact bV.lt
  have R0 := Lib.hid (heap_alloc_new W (.cells #[.int .u8 fn, .int .u16 fl, .int .u8 tn, .int .u16 tl, .int .u64 seq, .int .u64 ack, .bool has, .slice A body.length c] 76))
  have B0 := Lib.hid ((Below.refl base W).alloc hB (.cells #[.int .u8 fn, .int .u16 fl, .int .u8 tn, .int .u16 tl, .int .u64 seq, .int .u64 ack, .bool has, .slice A body.length c] 76))
  have Q0 := Lib.hid (KeepW.alloc (b := b) W (.cells #[.int .u8 fn, .int .u16 fl, .int .u8 tn, .int .u16 tl, .int .u64 seq, .int .u64 ack, .bool has, .slice A body.length c] 76))
  have K1 := Lib.hid (putProcO base b L fn fl (W.alloc (.cells #[.int .u8 fn, .int .u16 fl, .int .u8 tn, .int .u16 tl, .int .u64 seq, .int .u64 ack, .bool has, .slice A body.length c] 76)) (h.alloc _) (Nat.le_trans hB (by simp)) (by omega) p1 (by omega))
  have HR := Lib.hid hr
  clear h hr hO
  go_enter Tryz.func62, Tryz.ntmps62
  go_wp2_with fail
  refine K1.out.mono ?_
  rintro e w1 ⟨rfl, h1, b1, q1⟩
  have hr1 := q1.same _ _ (by omega) R0.out (by intro cs fr h; cases h)
  have c2 : w1.cell? ⟨W.heap.size, 2, none⟩ = some (.int .u8 tn) := (cell_of_row _ _ 2 _ _ _ hr1).trans rfl
  have c3 : w1.cell? ⟨W.heap.size, 3, none⟩ = some (.int .u16 tl) := (cell_of_row _ _ 3 _ _ _ hr1).trans rfl
  have K2 := Lib.hid (putProcO base b _ tn tl w1 h1 (Nat.le_trans hB (B0.out.trans b1).size) (by simp only [List.length_append]; omega) p3 (by omega))
  have B1 := Lib.hid (B0.out.trans b1)
  have Q1 := Lib.hid (Q0.out.trans q1)
  have R1 := Lib.hid hr1
  clear h1 b1 q1 hr1 K1 R0 B0 Q0
  go_wp2_with fail
  clear c2 c3
  refine K2.out.mono ?_
  rintro e w2 ⟨rfl, h2, b2, q2⟩
  have hr2 := q2.same _ _ (by omega) R1.out (by intro cs fr h; cases h)
  have c4 : w2.cell? ⟨W.heap.size, 4, none⟩ = some (.int .u64 seq) := (cell_of_row _ _ 4 _ _ _ hr2).trans rfl
  have K3 := Lib.hid (wU base b _ seq w2 h2 (Nat.le_trans hB (B1.out.trans b2).size) (by simp only [List.length_append]; omega) (by omega))
  have B2 := Lib.hid (B1.out.trans b2)
  have Q2 := Lib.hid (Q1.out.trans q2)
  have R2 := Lib.hid hr2
  clear h2 b2 q2 hr2 K2 R1 B1 Q1
  go_wp2_with fail
  clear c4
  refine K3.out.mono ?_
  rintro e w3 ⟨rfl, h3, b3, q3⟩
  have hr3 := q3.same _ _ (by omega) R2.out (by intro cs fr h; cases h)
  have c5 : w3.cell? ⟨W.heap.size, 5, none⟩ = some (.int .u64 ack) := (cell_of_row _ _ 5 _ _ _ hr3).trans rfl
  have K4 := Lib.hid (wU base b _ ack w3 h3 (Nat.le_trans hB (B2.out.trans b3).size) (by simp only [List.length_append]; omega) (by omega))
  have B3 := Lib.hid (B2.out.trans b3)
  have Q3 := Lib.hid (Q2.out.trans q3)
  have R3 := Lib.hid hr3
  clear h3 b3 q3 hr3 K3 R2 B2 Q2
  go_wp2_with fail
  clear c5
  refine K4.out.mono ?_
  rintro e w4 ⟨rfl, h4, b4, q4⟩
  have hr4 := q4.same _ _ (by omega) R3.out (by intro cs fr h; cases h)
  have c6 : w4.cell? ⟨W.heap.size, 6, none⟩ = some (.bool has) := (cell_of_row _ _ 6 _ _ _ hr4).trans rfl
  have K5 := Lib.hid (hasO base b _ has w4 h4 (Nat.le_trans hB (B3.out.trans b4).size) (by simp only [List.length_append]; omega))
  have B4 := Lib.hid (B3.out.trans b4)
  have Q4 := Lib.hid (Q3.out.trans q4)
  have R4 := Lib.hid hr4
  clear h4 b4 q4 hr4 K4 R3 B3 Q3
  go_wp2_with fail
  clear c6
  refine K5.out.mono ?_
  rintro e w5 ⟨rfl, h5, b5, q5⟩
  have hr5 := q5.same _ _ (by omega) R4.out (by intro cs fr h; cases h)
  have c6 : w5.cell? ⟨W.heap.size, 6, none⟩ = some (.bool has) := (cell_of_row _ _ 6 _ _ _ hr5).trans rfl
  have c7 : w5.cell? ⟨W.heap.size, 7, none⟩ = some (.slice A body.length c) := (cell_of_row _ _ 7 _ _ _ hr5).trans rfl
  have B5 := Lib.hid (B4.out.trans b5)
  have Q5 := Lib.hid (Q4.out.trans q5)
  have hcv := conv_bytes (HR.out.below B5.out (Nat.le_refl _) (Nat.le_refl _)) c
  have hB5 : base ≤ w5.heap.size := Nat.le_trans hB B5.out.size
  clear b5 q5 hr5 K5 R4 B4 Q4
  cases has with
  | false =>
    have H5 := Lib.hid h5
    clear h5
    go_wp2
    go_end0
    refine ⟨rfl, ?_, B5.out, Q5.out⟩
    have e : ((((L ++ putP fn fl) ++ putP tn tl) ++ putU seq) ++ putU ack) ++ [flagB false] = L ++ Pk.plain ⟨fn, fl, tn, tl, seq, ack, false, body⟩ := by
      unfold Pk.plain
      simp
    rw [← e]
    exact H5.out
  | true =>
    have K6 := Lib.hid (wT base b _ body w5 h5 hB5 (by simp only [List.length_append, List.length_cons, List.length_nil]; omega))
    clear h5
    go_wp2_with fail
    refine K6.out.mono ?_
    rintro e w6 ⟨rfl, h6, b6, q6⟩
    go_wp2
    go_end0
    refine ⟨rfl, ?_, B5.out.trans b6, Q5.out.trans q6⟩
    have e : (((((L ++ putP fn fl) ++ putP tn tl) ++ putU seq) ++ putU ack) ++ [flagB true]) ++ putT body = L ++ Pk.plain ⟨fn, fl, tn, tl, seq, ack, true, body⟩ := by
      unfold Pk.plain
      simp
    rw [← e]
    exact h6

end Go.Proofs.YtkmbgehknpefiaaGreatDoor
