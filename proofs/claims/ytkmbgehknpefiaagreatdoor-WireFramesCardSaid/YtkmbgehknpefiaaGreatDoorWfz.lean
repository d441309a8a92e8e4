/-
  WireFrames, walked: what the row lists in memory, knows, samePacket, the Frames and Unframes of any packet and any bytes, and the walk. Conditions: the numbers fit their kinds, the body, the bytes, the sums and the words lie in memory.
-/
import Derived.Test.YtkmbgehknpefiaaGreatDoorWta
import Derived.Test.YtkmbgehknpefiaaGreatDoorRows
import Derived.LaidHandle
import Derived.LaidMore
import Derived.MakeChecks
import Derived.Lib.LaidTab
import Derived.Stop.LaidErr
import Derived.Test.YtkmbgehknpefiaaGreatDoorWk5
import Derived.Test.YtkmbgehknpefiaaGreatDoorWpu
import Derived.Test.YtkmbgehknpefiaaGreatDoorIConv
import Derived.Deep.QuietTactic
import Derived.BigQuiet
import Derived.Lib.QuietBelow
import Derived.DeepKeys4
import Derived.Test.YtkmbgehknpefiaaGreatDoorWdf
import Derived.Test.YtkmbgehknpefiaaGreatDoorWdu
import Derived.Test.YtkmbgehknpefiaaGreatDoorWdv
import Derived.Test.YtkmbgehknpefiaaGreatDoorWpn
import Derived.Test.YtkmbgehknpefiaaGreatDoorWuf
namespace Go.Proofs.YtkmbgehknpefiaaGreatDoor
section
set_option linter.unusedSimpArgs false
set_option linter.unusedVariables false
open Go.RowKit

/-- a table of texts as a row lists it. -/
def strData {H : Type} (zs : List (List UInt8)) : DataW H := .agg (zs.map fun z => .lit (.string z))
theorem cells_of_strs {H : Type} {enc : TypeId × Value → H} {P : Program} {w : World} {base : Nat} {sp : Nat → Bool} {held : Bool} {fuel : Nat} {t e : TypeId} {n : Nat} {cs : List Value} {zs : List (List UInt8)} {p : List MemPlace}
    (ht : P.underlying t = some (.array n e)) (he : P.underlying e = some .string) (hce : P.cellsOf e = 1) (hct : P.cellsOf t = n)
    (h : DataW.trod enc P w base sp held fuel t cs = some (strData zs, p)) : cs = zs.map fun z => Value.string ⟨z.toArray⟩ := by
  cases fuel with
  | zero => simp [DataW.trod] at h
  | succ fuel =>
    simp only [DataW.trod, ht, hce, hct, Nat.mul_one] at h
    split at h
    · rename_i hl
      obtain ⟨xs, hm, hx⟩ := Option.map_eq_some_iff.1 h
      have hxs : xs.map (·.1) = zs.map fun z => (DataW.lit (.string z) : DataW H) := by
        have := congrArg Prod.fst hx
        simpa [strData] using this
      have hxl : xs.length = n := by simpa using Lib.mapM_length hm
      have hzl : zs.length = n := by
        have := congrArg List.length hxs
        simp at this
        omega
      apply List.ext_getElem?
      intro i
      by_cases hi : i < n
      · obtain ⟨b, hb, hf⟩ := Lib.mapM_at hm i i (by simp [hi])
        obtain ⟨z, hc, rfl, _⟩ := DataW.trod_string he hf
        have h1 : cs[i]? = some (.string z) := by
          have := congrArg (·[0]?) hc
          simpa [List.getElem?_take, List.getElem?_drop] using this
        have h2 : (xs.map (·.1))[i]? = some (DataW.lit (.string z.data.toList) : DataW H) := by simp [hb]
        rw [hxs] at h2
        simp only [List.getElem?_map, Option.map_eq_some_iff, DataW.lit.injEq, Lit.string.injEq] at h2
        obtain ⟨z', hz', rfl⟩ := h2
        simp [h1, hz']
      · rw [List.getElem?_eq_none (by omega), List.getElem?_eq_none (by simp; omega)]
    · cases h
theorem strs_of_head {P : Program} {W : World} {name : String} {zs : List (List UInt8)} {rest : List (String × DataW Unit)} {g : Nat} {t e : TypeId} {n : Nat}
    (hg : P.globalNamed name = some g) (hty : (P.globals[g]?).map (·.type) = some t) (ht : P.underlying t = some (.array n e)) (he : P.underlying e = some .string) (hce : P.cellsOf e = 1) (hct : P.cellsOf t = n)
    (h : laidMet P ((name, strData zs) :: rest) W) : ∀ i z, zs[i]? = some z → W.cell? ⟨g, i, none⟩ = some (.string ⟨z.toArray⟩) := by
  obtain ⟨ps, ⟨g', t', cs, fuel, p, q, hg', ht', hvar, hd, _, _⟩, _⟩ := h
  obtain rfl := Option.some.inj (hg.symm.trans hg')
  obtain rfl := Option.some.inj (hty.symm.trans ht')
  have hc := cells_of_strs ht he hce hct hd
  intro i z hz
  rw [World.var?_cell hg hvar i, ← Array.getElem?_toList, hc, List.getElem?_map, hz]
  rfl

/-- the words of the kinds, below a bound. -/
def WordAt (B : Nat) (W : World) : Prop := 0 < B ∧ W.cell? ⟨0, 6, none⟩ = some (.string ⟨#[65, 99, 99, 101, 112, 116]⟩)
theorem WordAt.below {B C : Nat} {W W' : World} (h : WordAt B W) (hb : Below C W W') (hC : B ≤ C) : WordAt B W' := ⟨h.1, (hb.cell (p := ⟨0, 6, none⟩) (Nat.lt_of_lt_of_le h.1 hC)).trans h.2⟩
theorem WordAt.up {B B' : Nat} {W : World} (h : WordAt B W) (hB : B ≤ B') : WordAt B' W := ⟨Nat.lt_of_lt_of_le h.1 hB, h.2⟩
theorem word_of_head {W : World} {rest : List (String × DataW Unit)} (h : laidMet Tryz.prog (("gemot/wire.words", Rows.laid_gemot_wire_words) :: rest) W) : WordAt W.heap.size W := by
  have hc := strs_of_head (zs := [[65, 115, 107], [65, 110, 115, 119, 101, 114], [82, 101, 102, 117, 115, 101], [65, 112, 112, 101, 110, 100], [65, 99, 107, 101, 100], [80, 114, 101, 112, 97, 114, 101], [65, 99, 99, 101, 112, 116], [78, 97, 99, 107], [80, 114, 111, 109, 105, 115, 101], [80, 114, 111, 112, 111, 115, 101], [73, 110, 115, 116, 97, 108, 108], [74, 111, 105, 110], [76, 101, 97, 118, 101], [83, 108, 97, 121]]) (g := 0) (t := 149) (e := 9) (n := 14) (by kernel_rfl) (by kernel_rfl) Tryz.underlying149 Tryz.underlying9 (by kernel_rfl) (by kernel_rfl) h 6 _ rfl
  exact ⟨World.block_lt_of_cell? W _ hc, hc⟩
theorem tab_is : ∀ j, j < 16 → ([0, 79764919, 159529838, 222504665, 319059676, 398814059, 445009330, 507990021, 638119352, 583659535, 797628118, 726387553, 890018660, 835552979, 1015980042, 944750013] : List Int).getD j 0 = (Crc.tab j : Int) := by decide
theorem sums_of_head {W : World} {rest : List (String × DataW Unit)} (h : laidMet Tryz.prog (("gemot/octet.sums", Rows.laid_gemot_octet_sums) :: rest) W) : TabAt W.heap.size W := by
  have hT : Lib.TabIs Tryz.prog W "gemot/octet.sums" .u32 [0, 79764919, 159529838, 222504665, 319059676, 398814059, 445009330, 507990021, 638119352, 583659535, 797628118, 726387553, 890018660, 835552979, 1015980042, 944750013] :=
    Lib.tabIs_of_head (g := 1) (t := 234) (e := 22) (n := 16) (by kernel_rfl) (by kernel_rfl) Tryz.underlying234 Tryz.underlying22 (by kernel_rfl) (by kernel_rfl) h
  have hc : ∀ j, j < 16 → W.cell? ⟨1, j, none⟩ = some (.int .u32 (Crc.tab j)) := fun j hj => by
    rw [← tab_is j hj]
    exact hT.cell (g := 1) (by kernel_rfl) j hj
  exact ⟨World.block_lt_of_cell? W _ (hc 0 (by decide)), hc⟩
theorem env2 {W : World} (h : laidMetH Tryz.prog [("gemot/octet.sums", Rows.laid_gemot_octet_sums), ("gemot/wire.words", Rows.laid_gemot_wire_words)] W) : TabAt W.heap.size W ∧ WordAt W.heap.size W := by
  rw [MakeChecks.laidMetH_plain _ _ _ (by kernel_rfl)] at h
  exact ⟨sums_of_head h, word_of_head (laidMet.tail h)⟩

set_option maxRecDepth 100000 in
set_option maxHeartbeats 1000000 in
theorem accWord (W : World) (h : WordAt W.heap.size W) : Calls Tryz.prog 25 #[.int .u8 6] W fun e W' => e = .returned (.string ⟨#[65, 99, 99, 101, 112, 116]⟩) ∧ W' = W := by
  have hc := h.2
  go_enter Tryz.func25, Tryz.ntmps25
  go_wp2
  go_ret
  exact ⟨rfl, rfl⟩
end

section
set_option linter.unusedSimpArgs false
set_option linter.unusedVariables false
open Go.RowKit Go.Sort

set_option maxHeartbeats 400000 in
theorem num7 (n : Int) (w : World) : Calls Tryz.prog 13 #[.int .i64 n] w fun e w' => e = .returned (.int .i64 n) ∧ w' = w := by
  go_enter Tryz.func13, Tryz.ntmps13
  go_wp2
  go_ret
  exact ⟨rfl, rfl⟩
theorem accStr : (⟨accL.toArray⟩ : ByteArray) = ⟨#[6, 1, 2, 172, 2]⟩ := rfl

set_option maxRecDepth 100000 in
set_option maxHeartbeats 1000000 in
theorem knows7 (W : World) (hT : WordAt W.heap.size W) : Calls Tryz.prog 7 #[] W fun e W' => e = .returned (.bool true) ∧ Below W.heap.size W W' := by
  obtain ⟨A, hA⟩ : ∃ A, aMsg = A := ⟨_, rfl⟩
  have K1 := Lib.hid (accBytes A hA.symm W)
  have HA := Lib.hid hA
  have HT := Lib.hid hT
  clear hA hT
  go_enter Tryz.func7, Tryz.ntmps7
  go_wp2_with (first
    | (refine wpList_bd rfl 59 _ rfl A (by rw [← HA.out]; kernel_rfl) ?_))
  refine K1.out.mono ?_
  rintro e w1 ⟨v, rfl, ho, b1⟩
  obtain ⟨A1, c1, rfl, -, hat, -, -⟩ := bytes_of_own (L := accL) ho
  have hcv := conv_bytes hat c1
  have HB1 := Lib.hid b1
  have KW := Lib.hid (accWord w1 ((HT.out.below b1 (Nat.le_refl _)).up b1.size))
  clear ho b1 hat
  have hlen : accL.length = 5 := rfl
  rw [accStr, hlen] at hcv
  go_wp2_with (first
    | (go_at_call 13; refine (num7 0 _).mono ?_; rintro e2 w2 ⟨rfl, rfl⟩)
    | (go_at_call 25; refine KW.out.mono ?_; rintro e3 w3 ⟨rfl, rfl⟩))
  go_ret
  exact ⟨rfl, HB1.out⟩
end

section
set_option linter.unusedSimpArgs false
set_option linter.unusedVariables false
open Go.RowKit Go.Sort

set_option maxHeartbeats 400000 in
theorem eqRefPr (n l : Nat) (w : World) : Sem.run Tryz.prog (binOp .eql 26 (.agg #[.int .u8 n, .int .u16 l]) (.agg #[.int .u8 n, .int .u16 l])) w = .ok (.bool true) w := by
  have hS : Tryz.prog.underlying 26 = some (.struct (Tryz.prog.fieldsOf 26)) := by kernel_rfl
  have hp : Tryz.prog.stoodInHeld 26 = false := by kernel_rfl
  have u0 := Tryz.underlying5
  have a0 := Tryz.isAgg5
  have z0 := Tryz.sizeOf5
  have u1 := Tryz.underlying24
  have a1 := Tryz.isAgg24
  have z1 := Tryz.sizeOf24
  rw [run_eql_struct, show (10000 : Nat) = 9999 + 1 from rfl, run_equalIn_agg w 9999 26 _ _ hS hp]
  simp only [Program.fieldsOf, Tryz.underlying26]
  go_simp

theorem refProcB (n l : Nat) (w : World) :
    Calls Tryz.prog 54 #[.agg #[.int .u8 n, .int .u16 l]] w fun e w' => e = .returned (.agg #[.int .u8 n, .int .u16 l]) ∧ Below w.heap.size w w' := by
  refine (I.refProc n l w).mono ?_
  rintro e w' ⟨rfl, rfl⟩
  exact ⟨rfl, ((Below.refl _ _).alloc (Nat.le_refl _) _).alloc (by simp) _⟩

set_option maxRecDepth 100000 in
set_option maxHeartbeats 2000000 in
theorem samePk (fn fl tn tl seq ack : Nat) (has : Bool) (body : List UInt8) (A B : Option Addr) (c d n m : Nat) (W : World) (hn : n = body.length) (hm : m = body.length) (hA : BytesAt W W.heap.size A body) (hB : BytesAt W W.heap.size B body) :
    Calls Tryz.prog 22 #[.agg #[.int .u8 fn, .int .u16 fl, .int .u8 tn, .int .u16 tl, .int .u64 seq, .int .u64 ack, .bool has, .slice A n c], .agg #[.int .u8 fn, .int .u16 fl, .int .u8 tn, .int .u16 tl, .int .u64 seq, .int .u64 ack, .bool has, .slice B m d]] W fun e W' => e = .returned (.bool true) ∧ Below W.heap.size W W' := by
  obtain ⟨W2, hW2⟩ : ∃ W2, (W.alloc (.cells #[.int .u8 fn, .int .u16 fl, .int .u8 tn, .int .u16 tl, .int .u64 seq, .int .u64 ack, .bool has, .slice A n c] 73)).alloc (.cells #[.int .u8 fn, .int .u16 fl, .int .u8 tn, .int .u16 tl, .int .u64 seq, .int .u64 ack, .bool has, .slice B m d] 76) = W2 := ⟨_, rfl⟩
  have b2 : Below W.heap.size W W2 := by rw [← hW2]; exact ((Below.refl _ _).alloc (Nat.le_refl _) _).alloc (by simp) _
  have rA : W2.heap[W.heap.size]? = some (.cells #[.int .u8 fn, .int .u16 fl, .int .u8 tn, .int .u16 tl, .int .u64 seq, .int .u64 ack, .bool has, .slice A n c] 73 (0, 0)) := by rw [← hW2, Below.heap_alloc _ _ _ (by simp)]; exact heap_alloc_new _ _
  have rB : W2.heap[W.heap.size + 1]? = some (.cells #[.int .u8 fn, .int .u16 fl, .int .u8 tn, .int .u16 tl, .int .u64 seq, .int .u64 ack, .bool has, .slice B m d] 76 (0, 0)) := by
    have h := heap_alloc_new (W.alloc (.cells #[.int .u8 fn, .int .u16 fl, .int .u8 tn, .int .u16 tl, .int .u64 seq, .int .u64 ack, .bool has, .slice A n c] 73)) (.cells #[.int .u8 fn, .int .u16 fl, .int .u8 tn, .int .u16 tl, .int .u64 seq, .int .u64 ack, .bool has, .slice B m d] 76)
    rw [hW2] at h
    simpa using h
  have hcA : ∀ d' os, Sem.run Tryz.prog (convert 41 9 (.slice A n c)) (grow (redrawn W2 d') os) = .ok (.string ⟨body.toArray⟩) (grow (redrawn W2 d') os) := fun d' os => by
    rw [hn]
    exact conv_bytes (B := W2.heap.size) ((hA.below b2 (Nat.le_refl _) b2.size).below (below_regrown W2 d' os) (Nat.le_refl _) (Nat.le_refl _)) c
  have hcB : ∀ d' os, Sem.run Tryz.prog (convert 41 9 (.slice B m d)) (grow (redrawn W2 d') os) = .ok (.string ⟨body.toArray⟩) (grow (redrawn W2 d') os) := fun d' os => by
    rw [hm]
    exact conv_bytes (B := W2.heap.size) ((hB.below b2 (Nat.le_refl _) b2.size).below (below_regrown W2 d' os) (Nat.le_refl _) (Nat.le_refl _)) d
  have x0 := cell_regrown (show W2.cell? ⟨W.heap.size, 0, none⟩ = some (.int .u8 fn) from (cell_of_row W2 W.heap.size 0 _ _ _ rA).trans rfl)
  have x1 := cell_regrown (show W2.cell? ⟨W.heap.size, 1, none⟩ = some (.int .u16 fl) from (cell_of_row W2 W.heap.size 1 _ _ _ rA).trans rfl)
  have x2 := cell_regrown (show W2.cell? ⟨W.heap.size, 2, none⟩ = some (.int .u8 tn) from (cell_of_row W2 W.heap.size 2 _ _ _ rA).trans rfl)
  have x3 := cell_regrown (show W2.cell? ⟨W.heap.size, 3, none⟩ = some (.int .u16 tl) from (cell_of_row W2 W.heap.size 3 _ _ _ rA).trans rfl)
  have x4 := cell_regrown (show W2.cell? ⟨W.heap.size, 4, none⟩ = some (.int .u64 seq) from (cell_of_row W2 W.heap.size 4 _ _ _ rA).trans rfl)
  have x5 := cell_regrown (show W2.cell? ⟨W.heap.size, 5, none⟩ = some (.int .u64 ack) from (cell_of_row W2 W.heap.size 5 _ _ _ rA).trans rfl)
  have x6 := cell_regrown (show W2.cell? ⟨W.heap.size, 6, none⟩ = some (.bool has) from (cell_of_row W2 W.heap.size 6 _ _ _ rA).trans rfl)
  have x7 := cell_regrown (show W2.cell? ⟨W.heap.size, 7, none⟩ = some (.slice A n c) from (cell_of_row W2 W.heap.size 7 _ _ _ rA).trans rfl)
  have y0 := cell_regrown (show W2.cell? ⟨W.heap.size + 1, 0, none⟩ = some (.int .u8 fn) from (cell_of_row W2 (W.heap.size + 1) 0 _ _ _ rB).trans rfl)
  have y1 := cell_regrown (show W2.cell? ⟨W.heap.size + 1, 1, none⟩ = some (.int .u16 fl) from (cell_of_row W2 (W.heap.size + 1) 1 _ _ _ rB).trans rfl)
  have y2 := cell_regrown (show W2.cell? ⟨W.heap.size + 1, 2, none⟩ = some (.int .u8 tn) from (cell_of_row W2 (W.heap.size + 1) 2 _ _ _ rB).trans rfl)
  have y3 := cell_regrown (show W2.cell? ⟨W.heap.size + 1, 3, none⟩ = some (.int .u16 tl) from (cell_of_row W2 (W.heap.size + 1) 3 _ _ _ rB).trans rfl)
  have y4 := cell_regrown (show W2.cell? ⟨W.heap.size + 1, 4, none⟩ = some (.int .u64 seq) from (cell_of_row W2 (W.heap.size + 1) 4 _ _ _ rB).trans rfl)
  have y5 := cell_regrown (show W2.cell? ⟨W.heap.size + 1, 5, none⟩ = some (.int .u64 ack) from (cell_of_row W2 (W.heap.size + 1) 5 _ _ _ rB).trans rfl)
  have y6 := cell_regrown (show W2.cell? ⟨W.heap.size + 1, 6, none⟩ = some (.bool has) from (cell_of_row W2 (W.heap.size + 1) 6 _ _ _ rB).trans rfl)
  have y7 := cell_regrown (show W2.cell? ⟨W.heap.size + 1, 7, none⟩ = some (.slice B m d) from (cell_of_row W2 (W.heap.size + 1) 7 _ _ _ rB).trans rfl)
  have hE1 := eqRefPr fn fl
  have hE2 := eqRefPr tn tl
  have B2 := Lib.hid b2
  have HW2 := Lib.hid hW2
  clear hA hB b2 rA rB hW2 hn hm
  go_enter Tryz.func22, Tryz.ntmps22
  go_wp2_with fail
  rw [HW2.out]
  refine wp_region_quiet_below (by kernel_rfl) (by kernel_rfl) ?_
  repeat (go_big_quiet_step (first | (exact Calls.regrown_of (refProcB _ _ _)) | fail))
  refine wpQuiet_nil ?_
  intro W9 hW
  obtain ⟨p9, rfl⟩ := hW
  go_wp2
  go_ret
  exact ⟨by first | rfl | (simp), B2.out.trans ((below_regrown _ _ _).mono B2.out.size)⟩
end

section
set_option linter.unusedSimpArgs false
set_option linter.unusedVariables false
open Go.RowKit Go.Sort

/-- the law's Packet, with a body or without. -/
theorem packI (fn fl tn tl seq ack : Nat) (has : Bool) (body : List UInt8) (A : Option Addr) (c : Nat) (W : World) (hA : A = none → body.length = 0 ∧ c = 0) (hr : BytesAt W W.heap.size A body) (hl : body.length ≤ 140737488355328) :
    Calls Tryz.prog 18 #[.agg #[.int .u8 fn, .int .u16 fl, .int .u8 tn, .int .u16 tl, .int .u64 seq, .int .u64 ack, .bool has, .slice A body.length c]] W fun e W' => ∃ A2 c2, e = .returned (.agg #[.int .u8 fn, .int .u16 fl, .int .u8 tn, .int .u16 tl, .int .u64 seq, .int .u64 ack, .bool has, .slice A2 body.length c2]) ∧ BytesAt W' W'.heap.size A2 body ∧ Below W.heap.size W W' := by
  cases A with
  | none =>
    obtain ⟨h1, rfl⟩ := hA rfl
    have hb : body = [] := List.eq_nil_of_length_eq_zero h1
    subst hb
    refine (packO0 fn fl tn tl seq ack has W).mono ?_
    rintro e W' ⟨A2, c2, rfl, h2, -, h4⟩
    exact ⟨A2, c2, rfl, h2, h4⟩
  | some ad =>
    refine (packO fn fl tn tl seq ack has body ad c body.length W rfl hr hl).mono ?_
    rintro e W' ⟨A2, c2, rfl, h2, -, -, h4⟩
    exact ⟨A2, c2, rfl, h2, h4⟩

/-- the document's Frame of any packet. -/
theorem dFrameI (fn fl tn tl seq ack : Nat) (has : Bool) (body : List UInt8) (A : Option Addr) (c : Nat) (W : World) (hA : A = none → body.length = 0 ∧ c = 0) (hr : BytesAt W W.heap.size A body) (hl : body.length ≤ 2000)
    (p1 : fn < 256) (p2 : fl < 65536) (p3 : tn < 256) (p4 : tl < 65536) (p5 : seq < 18446744073709551616) (p6 : ack < 18446744073709551616) :
    Calls Tryz.prog 19 #[.agg #[.int .u8 fn, .int .u16 fl, .int .u8 tn, .int .u16 tl, .int .u64 seq, .int .u64 ack, .bool has, .slice A body.length c]] W fun e W' => ∃ A2 c2, e = .returned (.tuple #[.slice A2 (Pk.frame ⟨fn, fl, tn, tl, seq, ack, has, body⟩).1.length c2, .int .i64 (Pk.frame ⟨fn, fl, tn, tl, seq, ack, has, body⟩).2]) ∧ BytesAt W' W'.heap.size A2 (Pk.frame ⟨fn, fl, tn, tl, seq, ack, has, body⟩).1 ∧ Below W.heap.size W W' := by
  have hfit : Pk.fits ⟨fn, fl, tn, tl, seq, ack, has, body⟩ := ⟨p1, by show fl ≤ _; omega, p3, by show tl ≤ _; omega, by show seq ≤ _; omega, by show ack ≤ _; omega⟩
  rw [frame_short _ hfit hl]
  cases hR : Pk.rightB ⟨fn, fl, tn, tl, seq, ack, has, body⟩ with
  | false =>
    refine (dFrame0 fn fl tn tl seq ack has body A c W (fun h => (hA h).1) hr hl hR).mono ?_
    rintro e W' ⟨rfl, b⟩
    exact ⟨none, 0, rfl, fun h => absurd rfl h, b⟩
  | true =>
    have h3 : rp fn fl = true ∧ rp tn tl = true ∧ (has || body.isEmpty) = true := by
      unfold Pk.rightB at hR
      simp only [Bool.and_eq_true] at hR
      exact ⟨hR.1.1, hR.1.2, hR.2⟩
    obtain ⟨h1, h2, h4⟩ := h3
    cases has with
    | true =>
      refine (dFrame1T fn fl tn tl seq ack body A c W hr hl h1 h2 p1 p2 p3 p4 p5 p6).mono ?_
      rintro e W' ⟨v, rfl, ho, b⟩
      obtain ⟨A3, c3, rfl, -, hat, -, -⟩ := bytes_of_own ho
      exact ⟨A3, c3, rfl, hat, b⟩
    | false =>
      have hb : body = [] := by simpa using h4
      subst hb
      refine (dFrame1F fn fl tn tl seq ack A c W h1 h2 p1 p2 p3 p4 p5 p6).mono ?_
      rintro e W' ⟨v, rfl, ho, b⟩
      obtain ⟨A3, c3, rfl, -, hat, -, -⟩ := bytes_of_own ho
      exact ⟨A3, c3, rfl, hat, b⟩

/-- the document's Unframe of any bytes. -/
theorem dUnframeO (A : Option Addr) (x : List UInt8) (c : Nat) (W : World) (h : BytesAt W W.heap.size A x) (hl : x.length ≤ 2000) (hc : x.length ≤ c) (hm : c ≤ maxLen) :
    Calls Tryz.prog 21 #[.slice A x.length c] W fun e W' => ∃ B d, e = .returned (.tuple #[pkV (unframe x).1 B d, .int .i64 (unframe x).2]) ∧ BytesAt W' W'.heap.size B (unframe x).1.body ∧ Below W.heap.size W W' := by
  cases hs : summedB x with
  | false => exact dUnframeM A x c W h hl hc hm hs
  | true => exact dUnframeE A x c W h hl hc hm hs
end

section
set_option linter.unusedSimpArgs false
set_option linter.unusedVariables false
open Go.RowKit Go.Sort

theorem num7' (n : Int) (w : World) : Calls Tryz.prog 13 #[.int .i64 n] w fun e w' => e = .returned (.int .i64 n) ∧ w = w' := (num7 n w).mono fun _ _ h => ⟨h.1, h.2.symm⟩
theorem two_below {A B C : World} (h1 : Below A.heap.size A B) (h2 : Below B.heap.size B C) : Below A.heap.size A C := h1.trans (h2.mono h1.size)
theorem BytesAt.on {W X : World} {A : Option Addr} {L : List UInt8} (h : BytesAt W W.heap.size A L) (b : Below W.heap.size W X) : BytesAt X X.heap.size A L := h.below b (Nat.le_refl _) b.size
theorem load_arm {W X : World} {k : Nat} {cs : Array Value} {t : TypeId} (h : W.heap[k]? = some (.cells cs t (0, 0))) (b : Below W.heap.size W X) : X.heap[k]? = some (.cells cs t (0, 0)) := (b.block _ (by
  rcases Nat.lt_or_ge k W.heap.size with h1 | h1
  · exact h1
  · rw [Array.getElem?_eq_none h1] at h; cases h)).trans h

set_option maxRecDepth 100000 in
set_option maxHeartbeats 4000000 in
theorem walkFrames1 (fn fl tn tl seq ack : Nat) (has : Bool) (body : List UInt8) (A : Option Addr) (c : Nat) (y : List UInt8) (ad : Addr) (d : Nat) (W : World) (hA : A = none → body.length = 0 ∧ c = 0) (hr : BytesAt W W.heap.size A body) (hl : body.length ≤ 140737488355328)
    (hB : BytesAt W W.heap.size (some ad) y) (hyl : y.length ≤ 140737488355328) (hyc : y.length ≤ d) (hym : d ≤ maxLen)
    (p1 : fn < 256) (p2 : fl < 65536) (p3 : tn < 256) (p4 : tl < 65536) (p5 : seq < 18446744073709551616) (p6 : ack < 18446744073709551616) (hT : TabAt W.heap.size W) (hW : WordAt W.heap.size W) :
    Calls Tryz.prog 5 #[.agg #[.int .u8 fn, .int .u16 fl, .int .u8 tn, .int .u16 tl, .int .u64 seq, .int .u64 ack, .bool has, .slice A body.length c], .slice (some ad) y.length d] W fun e W' => e = .returned (.bool true) ∧ Below W.heap.size W W' := by
  obtain ⟨W1, hW1⟩ : ∃ W1, W.alloc (.cells #[.int .u8 fn, .int .u16 fl, .int .u8 tn, .int .u16 tl, .int .u64 seq, .int .u64 ack, .bool has, .slice A body.length c] 73) = W1 := ⟨_, rfl⟩
  have B1 : Hid (Below W.heap.size W W1) := Lib.hid (by rw [← hW1]; exact (Below.refl _ _).alloc (Nat.le_refl _) _)
  have R1 : Hid (W1.heap[W.heap.size]? = some (.cells #[.int .u8 fn, .int .u16 fl, .int .u8 tn, .int .u16 tl, .int .u64 seq, .int .u64 ack, .bool has, .slice A body.length c] 73 (0, 0))) := Lib.hid (by rw [← hW1]; exact heap_alloc_new _ _)
  have KK : Hid (∀ w, Below W.heap.size W w → Calls Tryz.prog 7 #[] w fun e w' => e = .returned (.bool true) ∧ Below w.heap.size w w') := Lib.hid (fun w hb => knows7 w ((hW.below hb (Nat.le_refl _)).up hb.size))
  have HT : Hid (∀ w, Below W.heap.size W w → TabAt w.heap.size w) := Lib.hid (fun w hb => (hT.below hb (Nat.le_refl _)).up hb.size)
  have HF : Hid (Pk.fits ⟨fn, fl, tn, tl, seq, ack, has, body⟩) := Lib.hid ⟨p1, by show fl ≤ _; omega, p3, by show tl ≤ _; omega, by show seq ≤ _; omega, by show ack ≤ _; omega⟩
  have KP := Lib.hid (fun w (hb : Below W.heap.size W w) => packI fn fl tn tl seq ack has body A c w hA (hr.on hb) hl)
  obtain ⟨⟨x, er⟩, hF⟩ : ∃ q, Pk.frame ⟨fn, fl, tn, tl, seq, ack, has, body⟩ = q := ⟨_, rfl⟩
  obtain ⟨⟨q, g⟩, hU⟩ : ∃ r, unframe y = r := ⟨_, rfl⟩
  have KF : Hid (∀ A2 c2 w, Below W.heap.size W w → BytesAt w w.heap.size A2 body → Calls Tryz.prog 17 #[pkV ⟨fn, fl, tn, tl, seq, ack, has, body⟩ A2 c2] w fun e W' => ∃ v, e = .returned (.tuple #[v, .int .i64 er]) ∧ W'.ownsRow w.heap.size 5 1 v x.length (Lib.byteCells x) ∧ Below w.heap.size w W') := Lib.hid (fun A2 c2 w hb hat => by
    have h := frameO ⟨fn, fl, tn, tl, seq, ack, has, body⟩ A2 c2 w HF.out hat (HT.out w hb)
    rw [hF] at h
    exact h)
  have KD : Hid (body.length ≤ 2000 → ∀ w, Below W.heap.size W w → Calls Tryz.prog 19 #[.agg #[.int .u8 fn, .int .u16 fl, .int .u8 tn, .int .u16 tl, .int .u64 seq, .int .u64 ack, .bool has, .slice A body.length c]] w fun e W' => ∃ A2 c2, e = .returned (.tuple #[.slice A2 x.length c2, .int .i64 er]) ∧ BytesAt W' W'.heap.size A2 x ∧ Below w.heap.size w W') := Lib.hid (fun hl w hb => by
    have h := dFrameI fn fl tn tl seq ack has body A c w hA (hr.on hb) hl p1 p2 p3 p4 p5 p6
    rw [hF] at h
    exact h)
  have HFR := Lib.hid hF
  have HU := Lib.hid hU
  have HB := Lib.hid hB
  have HA := Lib.hid hr
  have HL := Lib.hid hl
  have HYL := Lib.hid hyl
  have HYC := Lib.hid (And.intro hyc hym)
  have HW1 := Lib.hid hW1
  clear hA hr hl hT hW hW1 p1 p2 p3 p4 p5 p6 hF hU hB hyl hyc hym
  by_cases h1 : 2000 < body.length
  · have h1' : (2000 : Int) < (body.length : Int) := by omega
    go_enter Tryz.func5, Tryz.ntmps5
    go_wp2_with fail
    rw [HW1.out]
    refine (KK.out _ B1.out).mono ?_
    rintro e w99 ⟨rfl, b99⟩
    go_wp2
    go_ret
    exact ⟨rfl, two_below B1.out b99⟩
  have h1' : ¬ (2000 : Int) < (body.length : Int) := by omega
  have KD2 := Lib.hid (KD.out (by omega))
  clear KD
  by_cases h2 : 2000 < y.length
  · have h2' : (2000 : Int) < (y.length : Int) := by omega
    go_enter Tryz.func5, Tryz.ntmps5
    go_wp2_with fail
    rw [HW1.out]
    refine (KK.out _ B1.out).mono ?_
    rintro e w99 ⟨rfl, b99⟩
    go_wp2
    go_ret
    exact ⟨rfl, two_below B1.out b99⟩
  have h2' : ¬ (2000 : Int) < (y.length : Int) := by omega
  have KV : Hid (∀ w, Below W.heap.size W w → Calls Tryz.prog 21 #[.slice (some ad) y.length d] w fun e W' => ∃ B d, e = .returned (.tuple #[pkV q B d, .int .i64 g]) ∧ BytesAt W' W'.heap.size B q.body ∧ Below w.heap.size w W') := Lib.hid (fun w hb => by
    have h := dUnframeO (some ad) y d w (HB.out.on hb) (by omega) HYC.out.1 HYC.out.2
    rw [HU.out] at h
    exact h)
  have KU : Hid (∀ A3 c3 w, Below W.heap.size W w → BytesAt w w.heap.size A3 y → y.length ≤ c3 → c3 ≤ maxLen → Calls Tryz.prog 20 #[.slice A3 y.length c3] w fun e W' => ∃ B d, e = .returned (.tuple #[pkV q B d, .int .i64 g]) ∧ BytesAt W' W'.heap.size B q.body ∧ Below w.heap.size w W') := Lib.hid (fun A3 c3 w hb hat h3 h4 => by
    have h := unframeO A3 y c3 w hat HYL.out h3 h4 (HT.out w hb)
    rw [HU.out] at h
    exact h)
  have HX : Hid (er = 0 → x.length ≤ 140737488355328) := Lib.hid (fun h => by
    have hf := HFR.out
    rw [frame_is] at hf
    split at hf
    · split at hf
      · cases hf; omega
      · rename_i h2
        cases hf
        omega
    · cases hf; omega)
  clear h1
  clear h2
  go_enter Tryz.func5, Tryz.ntmps5
  go_wp2_with fail
  rw [HW1.out]
  refine (KK.out _ B1.out).mono ?_
  rintro e w2 ⟨rfl, b2⟩
  have B2 := Lib.hid (two_below B1.out b2)
  have R2 := Lib.hid (load_arm R1.out b2)
  clear b2
  go_wp2_with (first
    | (refine wpList_load_row rfl 73 (.tmp 2) rfl W.heap.size (by rfl) 73 #[.int .u8 fn, .int .u16 fl, .int .u8 tn, .int .u16 tl, .int .u64 seq, .int .u64 ack, .bool has, .slice A body.length c] (0, 0) _ R2.out Tryz.underlying73 rfl (by kernel_rfl) ?_))
  refine (KP.out _ B2.out).mono ?_
  rintro e w3 ⟨A2, c2, rfl, at2, b3⟩
  have B3 := Lib.hid (two_below B2.out b3)
  have R3 := Lib.hid (load_arm R2.out b3)
  have K3 := KF.out A2 c2 w3 B3.out at2
  unfold pkV at K3
  simp only at K3
  have HK3 := Lib.hid K3
  clear b3 K3 at2
  go_wp2_with fail
  refine HK3.out.mono ?_
  rintro e w4 ⟨v4, rfl, ho4, b4⟩
  obtain ⟨A4, c4, rfl, -, at4, le4, mx4⟩ := bytes_of_own ho4
  have B4 := Lib.hid (two_below B3.out b4)
  have R4 := Lib.hid (load_arm R3.out b4)
  have AT4 := Lib.hid at4
  have LE4 := Lib.hid (And.intro le4 mx4)
  clear b4 at4 le4 mx4 ho4 HK3
  go_wp2_with (first
    | (refine wpList_load_row rfl 73 (.tmp 2) rfl W.heap.size (by rfl) 73 #[.int .u8 fn, .int .u16 fl, .int .u8 tn, .int .u16 tl, .int .u64 seq, .int .u64 ack, .bool has, .slice A body.length c] (0, 0) _ R4.out Tryz.underlying73 rfl (by kernel_rfl) ?_))
  refine (KD2.out _ B4.out).mono ?_
  rintro e w5 ⟨A5, c5, rfl, at5, b5⟩
  have B5 := Lib.hid (two_below B4.out b5)
  have R5 := Lib.hid (load_arm R4.out b5)
  have AT5 := Lib.hid at5
  have C4_5 := Lib.hid b5
  clear b5 at5
  obtain ⟨W6, hW6⟩ : ∃ W6, w5.alloc (.cells #[] 5) = W6 := ⟨_, rfl⟩
  have O6 : Hid (W6.ownsRow w5.heap.size 5 1 (.slice (some ⟨w5.heap.size, 0, none⟩) 0 0) 0 []) := Lib.hid (by rw [← hW6]; exact ⟨rfl, .inr ⟨w5.heap.size, 0, #[], rfl, Nat.le_refl _, heap_alloc_new w5 _, Nat.le_refl _, by unfold maxLen; omega, rfl, rfl⟩⟩)
  have D6 : Hid (Below w5.heap.size w5 W6) := Lib.hid (by rw [← hW6]; exact (Below.refl _ _).alloc (Nat.le_refl _) _)
  have HW6 := Lib.hid hW6
  clear hW6
  go_wp2_with (first
    | (rw [HW6.out]
       refine wpList_app rfl 45 rfl (.tmp 43) (.tmp 44) rfl w5.heap.size _ 0 [] rfl O6.out ad y y.length d W6.heap.size rfl rfl (HB.out.on (two_below B5.out D6.out)) (by have := HYL.out; omega) D6.out.size ?_
       intro v7 W7 hown7 hgrow7
       have D7 := Lib.hid (D6.out.grown hgrow7 D6.out.size fun k hk => (O6.out.lt k hk).1)
       rw [Nat.zero_add, List.nil_append] at hown7
       obtain ⟨A6, c6, rfl, -, at6, le6, mx6⟩ := bytes_of_own hown7
       have AT6 := Lib.hid at6
       have LE6 := Lib.hid (And.intro le6 mx6)
       have K6 := Lib.hid (KU.out A6 c6 W7 (two_below B5.out D7.out) AT6.out LE6.out.1 LE6.out.2)
       clear hown7 hgrow7 at6 le6 mx6))
  refine K6.out.mono ?_
  rintro e w7 ⟨A7, d7, rfl, at7, b7⟩
  unfold pkV
  have AT7 := Lib.hid at7
  have B7 := Lib.hid (two_below (two_below B5.out D7.out) b7)
  have C5_7 := Lib.hid (two_below D7.out b7)
  have R7 := Lib.hid (load_arm R5.out C5_7.out)
  obtain ⟨w8, hw8⟩ : ∃ w8, w7.alloc (.cells #[.int .u8 q.fn, .int .u16 q.fl, .int .u8 q.tn, .int .u16 q.tl, .int .u64 q.seq, .int .u64 q.ack, .bool q.has, .slice A7 q.body.length d7] 76) = w8 := ⟨_, rfl⟩
  have C7_8 : Hid (Below w7.heap.size w7 w8) := Lib.hid (by rw [← hw8]; exact (Below.refl _ _).alloc (Nat.le_refl _) _)
  have RQ : Hid (w8.heap[w7.heap.size]? = some (.cells #[.int .u8 q.fn, .int .u16 q.fl, .int .u8 q.tn, .int .u16 q.tl, .int .u64 q.seq, .int .u64 q.ack, .bool q.has, .slice A7 q.body.length d7] 76 (0, 0))) := Lib.hid (by rw [← hw8]; exact heap_alloc_new _ _)
  have B8 := Lib.hid (two_below B7.out C7_8.out)
  have R8 := Lib.hid (load_arm R7.out C7_8.out)
  have HW8 := Lib.hid hw8
  clear hw8 at7 b7 K6
  go_wp2_with fail
  rw [HW8.out]
  refine (KV.out _ B8.out).mono ?_
  rintro e w9 ⟨A9, d9, rfl, at9, b9⟩
  unfold pkV
  have AT9 := Lib.hid at9
  have B9 := Lib.hid (two_below B8.out b9)
  have C8_9 := Lib.hid b9
  have R9 := Lib.hid (load_arm R8.out b9)
  obtain ⟨w10, hw10⟩ : ∃ w10, w9.alloc (.cells #[.int .u8 q.fn, .int .u16 q.fl, .int .u8 q.tn, .int .u16 q.tl, .int .u64 q.seq, .int .u64 q.ack, .bool q.has, .slice A9 q.body.length d9] 73) = w10 := ⟨_, rfl⟩
  have C9_10 : Hid (Below w9.heap.size w9 w10) := Lib.hid (by rw [← hw10]; exact (Below.refl _ _).alloc (Nat.le_refl _) _)
  have RR : Hid (w10.heap[w9.heap.size]? = some (.cells #[.int .u8 q.fn, .int .u16 q.fl, .int .u8 q.tn, .int .u16 q.tl, .int .u64 q.seq, .int .u64 q.ack, .bool q.has, .slice A9 q.body.length d9] 73 (0, 0))) := Lib.hid (by rw [← hw10]; exact heap_alloc_new _ _)
  have B10 := Lib.hid (two_below B9.out C9_10.out)
  have R10 := Lib.hid (load_arm R9.out C9_10.out)
  have C8_10 := Lib.hid (two_below C8_9.out C9_10.out)
  have C7_10 := Lib.hid (two_below C7_8.out C8_10.out)
  have C5_10 := Lib.hid (two_below C5_7.out C7_10.out)
  have RQ10 := Lib.hid (load_arm RQ.out C8_10.out)
  have hcx := conv_bytes (AT4.out.on (two_below C4_5.out C5_10.out)) c4
  have hcx' := conv_bytes (AT5.out.on C5_10.out) c5
  have K11 := Lib.hid (samePk q.fn q.fl q.tn q.tl q.seq q.ack q.has q.body A9 A7 d9 d7 q.body.length q.body.length w10 rfl rfl (AT9.out.on C9_10.out) (AT7.out.on C7_10.out))
  have HW10 := Lib.hid hw10
  clear hw10 at9 b9
  have r0 : w10.cell? ⟨w9.heap.size, 0, none⟩ = some (.int .u8 q.fn) := (cell_of_row _ _ 0 _ _ _ RR.out).trans rfl
  have r1 : w10.cell? ⟨w9.heap.size, 1, none⟩ = some (.int .u16 q.fl) := (cell_of_row _ _ 1 _ _ _ RR.out).trans rfl
  have r2 : w10.cell? ⟨w9.heap.size, 2, none⟩ = some (.int .u8 q.tn) := (cell_of_row _ _ 2 _ _ _ RR.out).trans rfl
  have r3 : w10.cell? ⟨w9.heap.size, 3, none⟩ = some (.int .u16 q.tl) := (cell_of_row _ _ 3 _ _ _ RR.out).trans rfl
  have r4 : w10.cell? ⟨w9.heap.size, 4, none⟩ = some (.int .u64 q.seq) := (cell_of_row _ _ 4 _ _ _ RR.out).trans rfl
  have r5 : w10.cell? ⟨w9.heap.size, 5, none⟩ = some (.int .u64 q.ack) := (cell_of_row _ _ 5 _ _ _ RR.out).trans rfl
  have r6 : w10.cell? ⟨w9.heap.size, 6, none⟩ = some (.bool q.has) := (cell_of_row _ _ 6 _ _ _ RR.out).trans rfl
  have r7 : w10.cell? ⟨w9.heap.size, 7, none⟩ = some (.slice A9 q.body.length d9) := (cell_of_row _ _ 7 _ _ _ RR.out).trans rfl
  have s0 : w10.cell? ⟨w7.heap.size, 0, none⟩ = some (.int .u8 q.fn) := (cell_of_row _ _ 0 _ _ _ RQ10.out).trans rfl
  have s1 : w10.cell? ⟨w7.heap.size, 1, none⟩ = some (.int .u16 q.fl) := (cell_of_row _ _ 1 _ _ _ RQ10.out).trans rfl
  have s2 : w10.cell? ⟨w7.heap.size, 2, none⟩ = some (.int .u8 q.tn) := (cell_of_row _ _ 2 _ _ _ RQ10.out).trans rfl
  have s3 : w10.cell? ⟨w7.heap.size, 3, none⟩ = some (.int .u16 q.tl) := (cell_of_row _ _ 3 _ _ _ RQ10.out).trans rfl
  have s4 : w10.cell? ⟨w7.heap.size, 4, none⟩ = some (.int .u64 q.seq) := (cell_of_row _ _ 4 _ _ _ RQ10.out).trans rfl
  have s5 : w10.cell? ⟨w7.heap.size, 5, none⟩ = some (.int .u64 q.ack) := (cell_of_row _ _ 5 _ _ _ RQ10.out).trans rfl
  have s6 : w10.cell? ⟨w7.heap.size, 6, none⟩ = some (.bool q.has) := (cell_of_row _ _ 6 _ _ _ RQ10.out).trans rfl
  have s7 : w10.cell? ⟨w7.heap.size, 7, none⟩ = some (.slice A7 q.body.length d7) := (cell_of_row _ _ 7 _ _ _ RQ10.out).trans rfl
  go_wp2_with (first
    | (rw [HW10.out])
    | (go_at_call 13; refine (num7' _ _).mono ?_; rintro e2 w99 ⟨rfl, rfl⟩))
  refine K11.out.mono ?_
  rintro e w11 ⟨rfl, b11⟩
  have B11 := Lib.hid (two_below B10.out b11)
  have C10_11 := Lib.hid b11
  have C8_11 := Lib.hid (two_below C8_10.out b11)
  have C7_11 := Lib.hid (two_below C7_10.out b11)
  have R11 := Lib.hid (load_arm R10.out b11)
  clear b11 hcx hcx' r0 r1 r2 r3 r4 r5 r6 r7 s0 s1 s2 s3 s4 s5 s6 s7
  by_cases he : er = 0
  · subst he
    have K12 := unframeO A4 x c4 w11 (AT4.out.on (two_below C4_5.out (two_below C5_10.out C10_11.out))) (HX.out rfl) LE4.out.1 LE4.out.2 (HT.out w11 B11.out)
    rw [unframe_frame HF.out HFR.out] at K12
    have HK12 := Lib.hid K12
    clear K12
    go_wp2_with (first
      | (go_at_call 13; refine (num7' _ _).mono ?_; rintro e2 w99 ⟨rfl, rfl⟩))
    refine HK12.out.mono ?_
    rintro e w13 ⟨A13, d13, rfl, at13, b13⟩
    unfold pkV
    simp only
    have B13 := Lib.hid (two_below B11.out b13)
    have R13 := Lib.hid (load_arm R11.out b13)
    obtain ⟨w14, hw14⟩ : ∃ w14, w13.alloc (.cells #[.int .u8 fn, .int .u16 fl, .int .u8 tn, .int .u16 tl, .int .u64 seq, .int .u64 ack, .bool has, .slice A13 body.length d13] 76) = w14 := ⟨_, rfl⟩
    have C13_14 : Hid (Below w13.heap.size w13 w14) := Lib.hid (by rw [← hw14]; exact (Below.refl _ _).alloc (Nat.le_refl _) _)
    have RZ : Hid (w14.heap[w13.heap.size]? = some (.cells #[.int .u8 fn, .int .u16 fl, .int .u8 tn, .int .u16 tl, .int .u64 seq, .int .u64 ack, .bool has, .slice A13 body.length d13] 76 (0, 0))) := Lib.hid (by rw [← hw14]; exact heap_alloc_new _ _)
    have B14 := Lib.hid (two_below B13.out C13_14.out)
    have R14 := Lib.hid (load_arm R13.out C13_14.out)
    have C11_14 := Lib.hid (two_below b13 C13_14.out)
    have K15 := Lib.hid (samePk fn fl tn tl seq ack has body A A13 c d13 body.length body.length w14 rfl rfl (HA.out.on B14.out) (BytesAt.on at13 C13_14.out))
    have HW14 := Lib.hid hw14
    clear hw14 at13 b13
    have r0 : w14.cell? ⟨W.heap.size, 0, none⟩ = some (.int .u8 fn) := (cell_of_row _ _ 0 _ _ _ R14.out).trans rfl
    have r1 : w14.cell? ⟨W.heap.size, 1, none⟩ = some (.int .u16 fl) := (cell_of_row _ _ 1 _ _ _ R14.out).trans rfl
    have r2 : w14.cell? ⟨W.heap.size, 2, none⟩ = some (.int .u8 tn) := (cell_of_row _ _ 2 _ _ _ R14.out).trans rfl
    have r3 : w14.cell? ⟨W.heap.size, 3, none⟩ = some (.int .u16 tl) := (cell_of_row _ _ 3 _ _ _ R14.out).trans rfl
    have r4 : w14.cell? ⟨W.heap.size, 4, none⟩ = some (.int .u64 seq) := (cell_of_row _ _ 4 _ _ _ R14.out).trans rfl
    have r5 : w14.cell? ⟨W.heap.size, 5, none⟩ = some (.int .u64 ack) := (cell_of_row _ _ 5 _ _ _ R14.out).trans rfl
    have r6 : w14.cell? ⟨W.heap.size, 6, none⟩ = some (.bool has) := (cell_of_row _ _ 6 _ _ _ R14.out).trans rfl
    have r7 : w14.cell? ⟨W.heap.size, 7, none⟩ = some (.slice A body.length c) := (cell_of_row _ _ 7 _ _ _ R14.out).trans rfl
    have s0 : w14.cell? ⟨w13.heap.size, 0, none⟩ = some (.int .u8 fn) := (cell_of_row _ _ 0 _ _ _ RZ.out).trans rfl
    have s1 : w14.cell? ⟨w13.heap.size, 1, none⟩ = some (.int .u16 fl) := (cell_of_row _ _ 1 _ _ _ RZ.out).trans rfl
    have s2 : w14.cell? ⟨w13.heap.size, 2, none⟩ = some (.int .u8 tn) := (cell_of_row _ _ 2 _ _ _ RZ.out).trans rfl
    have s3 : w14.cell? ⟨w13.heap.size, 3, none⟩ = some (.int .u16 tl) := (cell_of_row _ _ 3 _ _ _ RZ.out).trans rfl
    have s4 : w14.cell? ⟨w13.heap.size, 4, none⟩ = some (.int .u64 seq) := (cell_of_row _ _ 4 _ _ _ RZ.out).trans rfl
    have s5 : w14.cell? ⟨w13.heap.size, 5, none⟩ = some (.int .u64 ack) := (cell_of_row _ _ 5 _ _ _ RZ.out).trans rfl
    have s6 : w14.cell? ⟨w13.heap.size, 6, none⟩ = some (.bool has) := (cell_of_row _ _ 6 _ _ _ RZ.out).trans rfl
    have s7 : w14.cell? ⟨w13.heap.size, 7, none⟩ = some (.slice A13 body.length d13) := (cell_of_row _ _ 7 _ _ _ RZ.out).trans rfl
    go_wp2_with (first
      | (rw [HW14.out])
      | (go_at_call 13; refine (num7' _ _).mono ?_; rintro e2 w99 ⟨rfl, rfl⟩))
    refine K15.out.mono ?_
    rintro e w16 ⟨rfl, b16⟩
    have B16 := Lib.hid (two_below B14.out b16)
    have C8_16 := Lib.hid (two_below C8_11.out (two_below C11_14.out b16))
    have C7_16 := Lib.hid (two_below C7_11.out (two_below C11_14.out b16))
    clear b16 r0 r1 r2 r3 r4 r5 r6 r7 s0 s1 s2 s3 s4 s5 s6 s7
    by_cases hg : g = 0
    · subst hg
      obtain ⟨hqf, hqr⟩ := unframe_right HU.out
      have K20 := frameO q A7 d7 w16 hqf (AT7.out.on C7_16.out) (HT.out w16 B16.out)
      rw [hqr] at K20
      unfold pkV at K20
      simp only at K20
      have HK20 := Lib.hid K20
      have Q16 := Lib.hid (load_arm RQ.out C8_16.out)
      clear K20 hqf hqr
      go_wp2_with (first
        | (go_at_call 13; refine (num7' _ _).mono ?_; rintro e2 w99 ⟨rfl, rfl⟩)
        | (refine wpList_load_row rfl 76 (.tmp 9) rfl w7.heap.size (by rfl) 76 #[.int .u8 q.fn, .int .u16 q.fl, .int .u8 q.tn, .int .u16 q.tl, .int .u64 q.seq, .int .u64 q.ack, .bool q.has, .slice A7 q.body.length d7] (0, 0) _ Q16.out Tryz.underlying76 rfl (by kernel_rfl) ?_))
      refine HK20.out.mono ?_
      rintro e w21 ⟨v21, rfl, ho21, b21⟩
      obtain ⟨A21, c21, rfl, -, at21, -, -⟩ := bytes_of_own ho21
      have B21 := Lib.hid (two_below B16.out b21)
      have hz := conv_bytes at21 c21
      have hy := conv_bytes (HB.out.on B21.out) d
      clear ho21 b21 at21 HK20
      go_wp2_with (first
        | (go_at_call 13; refine (num7' _ _).mono ?_; rintro e2 w99 ⟨rfl, rfl⟩))
      go_ret
      exact ⟨by first | rfl | simp, B21.out⟩
    · have hg' : ¬ (g : Int) = 0 := by omega
      go_wp2_with (first
        | (go_at_call 13; refine (num7' _ _).mono ?_; rintro e2 w99 ⟨rfl, rfl⟩))
      go_ret
      exact ⟨by first | rfl | simp, B16.out⟩
  · have he' : ¬ (er : Int) = 0 := by omega
    by_cases hg : g = 0
    · subst hg
      obtain ⟨hqf, hqr⟩ := unframe_right HU.out
      have K20 := frameO q A7 d7 w11 hqf (AT7.out.on C7_11.out) (HT.out w11 B11.out)
      rw [hqr] at K20
      unfold pkV at K20
      simp only at K20
      have HK20 := Lib.hid K20
      have Q11 := Lib.hid (load_arm RQ.out C8_11.out)
      clear K20 hqf hqr
      go_wp2_with (first
        | (go_at_call 13; refine (num7' _ _).mono ?_; rintro e2 w99 ⟨rfl, rfl⟩)
        | (refine wpList_load_row rfl 76 (.tmp 9) rfl w7.heap.size (by rfl) 76 #[.int .u8 q.fn, .int .u16 q.fl, .int .u8 q.tn, .int .u16 q.tl, .int .u64 q.seq, .int .u64 q.ack, .bool q.has, .slice A7 q.body.length d7] (0, 0) _ Q11.out Tryz.underlying76 rfl (by kernel_rfl) ?_))
      refine HK20.out.mono ?_
      rintro e w21 ⟨v21, rfl, ho21, b21⟩
      obtain ⟨A21, c21, rfl, -, at21, -, -⟩ := bytes_of_own ho21
      have B21 := Lib.hid (two_below B11.out b21)
      have hz := conv_bytes at21 c21
      have hy := conv_bytes (HB.out.on B21.out) d
      clear ho21 b21 at21 HK20
      go_wp2_with (first
        | (go_at_call 13; refine (num7' _ _).mono ?_; rintro e2 w99 ⟨rfl, rfl⟩))
      go_ret
      exact ⟨by first | rfl | simp, B21.out⟩
    · have hg' : ¬ (g : Int) = 0 := by omega
      go_wp2_with (first
        | (go_at_call 13; refine (num7' _ _).mono ?_; rintro e2 w99 ⟨rfl, rfl⟩))
      go_ret
      exact ⟨by first | rfl | simp, B11.out⟩

set_option maxRecDepth 100000 in
set_option maxHeartbeats 4000000 in
theorem walkFrames0 (fn fl tn tl seq ack : Nat) (has : Bool) (body : List UInt8) (A : Option Addr) (c : Nat) (W : World) (hA : A = none → body.length = 0 ∧ c = 0) (hr : BytesAt W W.heap.size A body) (hl : body.length ≤ 140737488355328)
    (p1 : fn < 256) (p2 : fl < 65536) (p3 : tn < 256) (p4 : tl < 65536) (p5 : seq < 18446744073709551616) (p6 : ack < 18446744073709551616) (hT : TabAt W.heap.size W) (hW : WordAt W.heap.size W) :
    Calls Tryz.prog 5 #[.agg #[.int .u8 fn, .int .u16 fl, .int .u8 tn, .int .u16 tl, .int .u64 seq, .int .u64 ack, .bool has, .slice A body.length c], .slice none 0 0] W fun e W' => e = .returned (.bool true) ∧ Below W.heap.size W W' := by
  obtain ⟨y, hy0⟩ : ∃ y : List UInt8, y = [] := ⟨_, rfl⟩
  obtain ⟨d, hd0⟩ : ∃ d : Nat, d = 0 := ⟨_, rfl⟩
  have hB : BytesAt W W.heap.size none y := fun h => absurd hy0 h
  have hyl : y.length ≤ 140737488355328 := by rw [hy0]; simp
  obtain ⟨W1, hW1⟩ : ∃ W1, W.alloc (.cells #[.int .u8 fn, .int .u16 fl, .int .u8 tn, .int .u16 tl, .int .u64 seq, .int .u64 ack, .bool has, .slice A body.length c] 73) = W1 := ⟨_, rfl⟩
  have B1 : Hid (Below W.heap.size W W1) := Lib.hid (by rw [← hW1]; exact (Below.refl _ _).alloc (Nat.le_refl _) _)
  have R1 : Hid (W1.heap[W.heap.size]? = some (.cells #[.int .u8 fn, .int .u16 fl, .int .u8 tn, .int .u16 tl, .int .u64 seq, .int .u64 ack, .bool has, .slice A body.length c] 73 (0, 0))) := Lib.hid (by rw [← hW1]; exact heap_alloc_new _ _)
  have KK : Hid (∀ w, Below W.heap.size W w → Calls Tryz.prog 7 #[] w fun e w' => e = .returned (.bool true) ∧ Below w.heap.size w w') := Lib.hid (fun w hb => knows7 w ((hW.below hb (Nat.le_refl _)).up hb.size))
  have HT : Hid (∀ w, Below W.heap.size W w → TabAt w.heap.size w) := Lib.hid (fun w hb => (hT.below hb (Nat.le_refl _)).up hb.size)
  have HF : Hid (Pk.fits ⟨fn, fl, tn, tl, seq, ack, has, body⟩) := Lib.hid ⟨p1, by show fl ≤ _; omega, p3, by show tl ≤ _; omega, by show seq ≤ _; omega, by show ack ≤ _; omega⟩
  have KP := Lib.hid (fun w (hb : Below W.heap.size W w) => packI fn fl tn tl seq ack has body A c w hA (hr.on hb) hl)
  obtain ⟨⟨x, er⟩, hF⟩ : ∃ q, Pk.frame ⟨fn, fl, tn, tl, seq, ack, has, body⟩ = q := ⟨_, rfl⟩
  obtain ⟨⟨q, g⟩, hU⟩ : ∃ r, unframe y = r := ⟨_, rfl⟩
  have KF : Hid (∀ A2 c2 w, Below W.heap.size W w → BytesAt w w.heap.size A2 body → Calls Tryz.prog 17 #[pkV ⟨fn, fl, tn, tl, seq, ack, has, body⟩ A2 c2] w fun e W' => ∃ v, e = .returned (.tuple #[v, .int .i64 er]) ∧ W'.ownsRow w.heap.size 5 1 v x.length (Lib.byteCells x) ∧ Below w.heap.size w W') := Lib.hid (fun A2 c2 w hb hat => by
    have h := frameO ⟨fn, fl, tn, tl, seq, ack, has, body⟩ A2 c2 w HF.out hat (HT.out w hb)
    rw [hF] at h
    exact h)
  have KD : Hid (body.length ≤ 2000 → ∀ w, Below W.heap.size W w → Calls Tryz.prog 19 #[.agg #[.int .u8 fn, .int .u16 fl, .int .u8 tn, .int .u16 tl, .int .u64 seq, .int .u64 ack, .bool has, .slice A body.length c]] w fun e W' => ∃ A2 c2, e = .returned (.tuple #[.slice A2 x.length c2, .int .i64 er]) ∧ BytesAt W' W'.heap.size A2 x ∧ Below w.heap.size w W') := Lib.hid (fun hl w hb => by
    have h := dFrameI fn fl tn tl seq ack has body A c w hA (hr.on hb) hl p1 p2 p3 p4 p5 p6
    rw [hF] at h
    exact h)
  have HFR := Lib.hid hF
  have HU := Lib.hid hU
  have HB := Lib.hid hB
  have HA := Lib.hid hr
  have HL := Lib.hid hl
  have HYL := Lib.hid hyl
  have HY0 := Lib.hid hy0
  have HD0 := Lib.hid hd0
  have HW1 := Lib.hid hW1
  clear hA hr hl hT hW hW1 p1 p2 p3 p4 p5 p6 hF hU hB hyl hy0 hd0
  by_cases h1 : 2000 < body.length
  · have h1' : (2000 : Int) < (body.length : Int) := by omega
    go_enter Tryz.func5, Tryz.ntmps5
    go_wp2_with fail
    rw [HW1.out]
    refine (KK.out _ B1.out).mono ?_
    rintro e w99 ⟨rfl, b99⟩
    go_wp2
    go_ret
    exact ⟨rfl, two_below B1.out b99⟩
  have h1' : ¬ (2000 : Int) < (body.length : Int) := by omega
  have KD2 := Lib.hid (KD.out (by omega))
  clear KD
  have KV : Hid (∀ w, Below W.heap.size W w → Calls Tryz.prog 21 #[.slice none 0 0] w fun e W' => ∃ B d, e = .returned (.tuple #[pkV q B d, .int .i64 g]) ∧ BytesAt W' W'.heap.size B q.body ∧ Below w.heap.size w W') := Lib.hid (fun w hb => by
    have h := dUnframeO none y d w (HB.out.on hb) (by rw [HY0.out]; simp) (by rw [HY0.out, HD0.out]; simp) (by rw [HD0.out]; simp)
    rw [HU.out] at h
    rw [HY0.out, HD0.out] at h
    exact h)
  have KU : Hid (∀ A3 c3 w, Below W.heap.size W w → BytesAt w w.heap.size A3 y → y.length ≤ c3 → c3 ≤ maxLen → Calls Tryz.prog 20 #[.slice A3 y.length c3] w fun e W' => ∃ B d, e = .returned (.tuple #[pkV q B d, .int .i64 g]) ∧ BytesAt W' W'.heap.size B q.body ∧ Below w.heap.size w W') := Lib.hid (fun A3 c3 w hb hat h3 h4 => by
    have h := unframeO A3 y c3 w hat HYL.out h3 h4 (HT.out w hb)
    rw [HU.out] at h
    exact h)
  have HX : Hid (er = 0 → x.length ≤ 140737488355328) := Lib.hid (fun h => by
    have hf := HFR.out
    rw [frame_is] at hf
    split at hf
    · split at hf
      · cases hf; omega
      · rename_i h2
        cases hf
        omega
    · cases hf; omega)
  clear h1
  go_enter Tryz.func5, Tryz.ntmps5
  go_wp2_with fail
  rw [HW1.out]
  refine (KK.out _ B1.out).mono ?_
  rintro e w2 ⟨rfl, b2⟩
  have B2 := Lib.hid (two_below B1.out b2)
  have R2 := Lib.hid (load_arm R1.out b2)
  clear b2
  go_wp2_with (first
    | (refine wpList_load_row rfl 73 (.tmp 2) rfl W.heap.size (by rfl) 73 #[.int .u8 fn, .int .u16 fl, .int .u8 tn, .int .u16 tl, .int .u64 seq, .int .u64 ack, .bool has, .slice A body.length c] (0, 0) _ R2.out Tryz.underlying73 rfl (by kernel_rfl) ?_))
  refine (KP.out _ B2.out).mono ?_
  rintro e w3 ⟨A2, c2, rfl, at2, b3⟩
  have B3 := Lib.hid (two_below B2.out b3)
  have R3 := Lib.hid (load_arm R2.out b3)
  have K3 := KF.out A2 c2 w3 B3.out at2
  unfold pkV at K3
  simp only at K3
  have HK3 := Lib.hid K3
  clear b3 K3 at2
  go_wp2_with fail
  refine HK3.out.mono ?_
  rintro e w4 ⟨v4, rfl, ho4, b4⟩
  obtain ⟨A4, c4, rfl, -, at4, le4, mx4⟩ := bytes_of_own ho4
  have B4 := Lib.hid (two_below B3.out b4)
  have R4 := Lib.hid (load_arm R3.out b4)
  have AT4 := Lib.hid at4
  have LE4 := Lib.hid (And.intro le4 mx4)
  clear b4 at4 le4 mx4 ho4 HK3
  go_wp2_with (first
    | (refine wpList_load_row rfl 73 (.tmp 2) rfl W.heap.size (by rfl) 73 #[.int .u8 fn, .int .u16 fl, .int .u8 tn, .int .u16 tl, .int .u64 seq, .int .u64 ack, .bool has, .slice A body.length c] (0, 0) _ R4.out Tryz.underlying73 rfl (by kernel_rfl) ?_))
  refine (KD2.out _ B4.out).mono ?_
  rintro e w5 ⟨A5, c5, rfl, at5, b5⟩
  have B5 := Lib.hid (two_below B4.out b5)
  have R5 := Lib.hid (load_arm R4.out b5)
  have AT5 := Lib.hid at5
  have C4_5 := Lib.hid b5
  clear b5 at5
  obtain ⟨W7, hW7⟩ : ∃ W7, w5.alloc (.cells #[] 5) = W7 := ⟨_, rfl⟩
  have D7 : Hid (Below w5.heap.size w5 W7) := Lib.hid (by rw [← hW7]; exact (Below.refl _ _).alloc (Nat.le_refl _) _)
  have K6 := KU.out (some ⟨w5.heap.size, 0, none⟩) 0 W7 (two_below B5.out D7.out) (fun h => absurd HY0.out h) (by rw [HY0.out]; simp) (by simp)
  rw [HY0.out] at K6
  have HK6 := Lib.hid K6
  have HW7 := Lib.hid hW7
  clear hW7 K6
  go_wp2_with fail
  rw [HW7.out]
  refine HK6.out.mono ?_
  rintro e w7 ⟨A7, d7, rfl, at7, b7⟩
  unfold pkV
  have AT7 := Lib.hid at7
  have B7 := Lib.hid (two_below (two_below B5.out D7.out) b7)
  have C5_7 := Lib.hid (two_below D7.out b7)
  have R7 := Lib.hid (load_arm R5.out C5_7.out)
  obtain ⟨w8, hw8⟩ : ∃ w8, w7.alloc (.cells #[.int .u8 q.fn, .int .u16 q.fl, .int .u8 q.tn, .int .u16 q.tl, .int .u64 q.seq, .int .u64 q.ack, .bool q.has, .slice A7 q.body.length d7] 76) = w8 := ⟨_, rfl⟩
  have C7_8 : Hid (Below w7.heap.size w7 w8) := Lib.hid (by rw [← hw8]; exact (Below.refl _ _).alloc (Nat.le_refl _) _)
  have RQ : Hid (w8.heap[w7.heap.size]? = some (.cells #[.int .u8 q.fn, .int .u16 q.fl, .int .u8 q.tn, .int .u16 q.tl, .int .u64 q.seq, .int .u64 q.ack, .bool q.has, .slice A7 q.body.length d7] 76 (0, 0))) := Lib.hid (by rw [← hw8]; exact heap_alloc_new _ _)
  have B8 := Lib.hid (two_below B7.out C7_8.out)
  have R8 := Lib.hid (load_arm R7.out C7_8.out)
  have HW8 := Lib.hid hw8
  clear hw8 at7 b7 HK6
  go_wp2_with fail
  rw [HW8.out]
  refine (KV.out _ B8.out).mono ?_
  rintro e w9 ⟨A9, d9, rfl, at9, b9⟩
  unfold pkV
  have AT9 := Lib.hid at9
  have B9 := Lib.hid (two_below B8.out b9)
  have C8_9 := Lib.hid b9
  have R9 := Lib.hid (load_arm R8.out b9)
  obtain ⟨w10, hw10⟩ : ∃ w10, w9.alloc (.cells #[.int .u8 q.fn, .int .u16 q.fl, .int .u8 q.tn, .int .u16 q.tl, .int .u64 q.seq, .int .u64 q.ack, .bool q.has, .slice A9 q.body.length d9] 73) = w10 := ⟨_, rfl⟩
  have C9_10 : Hid (Below w9.heap.size w9 w10) := Lib.hid (by rw [← hw10]; exact (Below.refl _ _).alloc (Nat.le_refl _) _)
  have RR : Hid (w10.heap[w9.heap.size]? = some (.cells #[.int .u8 q.fn, .int .u16 q.fl, .int .u8 q.tn, .int .u16 q.tl, .int .u64 q.seq, .int .u64 q.ack, .bool q.has, .slice A9 q.body.length d9] 73 (0, 0))) := Lib.hid (by rw [← hw10]; exact heap_alloc_new _ _)
  have B10 := Lib.hid (two_below B9.out C9_10.out)
  have R10 := Lib.hid (load_arm R9.out C9_10.out)
  have C8_10 := Lib.hid (two_below C8_9.out C9_10.out)
  have C7_10 := Lib.hid (two_below C7_8.out C8_10.out)
  have C5_10 := Lib.hid (two_below C5_7.out C7_10.out)
  have RQ10 := Lib.hid (load_arm RQ.out C8_10.out)
  have hcx := conv_bytes (AT4.out.on (two_below C4_5.out C5_10.out)) c4
  have hcx' := conv_bytes (AT5.out.on C5_10.out) c5
  have K11 := Lib.hid (samePk q.fn q.fl q.tn q.tl q.seq q.ack q.has q.body A9 A7 d9 d7 q.body.length q.body.length w10 rfl rfl (AT9.out.on C9_10.out) (AT7.out.on C7_10.out))
  have HW10 := Lib.hid hw10
  clear hw10 at9 b9
  have r0 : w10.cell? ⟨w9.heap.size, 0, none⟩ = some (.int .u8 q.fn) := (cell_of_row _ _ 0 _ _ _ RR.out).trans rfl
  have r1 : w10.cell? ⟨w9.heap.size, 1, none⟩ = some (.int .u16 q.fl) := (cell_of_row _ _ 1 _ _ _ RR.out).trans rfl
  have r2 : w10.cell? ⟨w9.heap.size, 2, none⟩ = some (.int .u8 q.tn) := (cell_of_row _ _ 2 _ _ _ RR.out).trans rfl
  have r3 : w10.cell? ⟨w9.heap.size, 3, none⟩ = some (.int .u16 q.tl) := (cell_of_row _ _ 3 _ _ _ RR.out).trans rfl
  have r4 : w10.cell? ⟨w9.heap.size, 4, none⟩ = some (.int .u64 q.seq) := (cell_of_row _ _ 4 _ _ _ RR.out).trans rfl
  have r5 : w10.cell? ⟨w9.heap.size, 5, none⟩ = some (.int .u64 q.ack) := (cell_of_row _ _ 5 _ _ _ RR.out).trans rfl
  have r6 : w10.cell? ⟨w9.heap.size, 6, none⟩ = some (.bool q.has) := (cell_of_row _ _ 6 _ _ _ RR.out).trans rfl
  have r7 : w10.cell? ⟨w9.heap.size, 7, none⟩ = some (.slice A9 q.body.length d9) := (cell_of_row _ _ 7 _ _ _ RR.out).trans rfl
  have s0 : w10.cell? ⟨w7.heap.size, 0, none⟩ = some (.int .u8 q.fn) := (cell_of_row _ _ 0 _ _ _ RQ10.out).trans rfl
  have s1 : w10.cell? ⟨w7.heap.size, 1, none⟩ = some (.int .u16 q.fl) := (cell_of_row _ _ 1 _ _ _ RQ10.out).trans rfl
  have s2 : w10.cell? ⟨w7.heap.size, 2, none⟩ = some (.int .u8 q.tn) := (cell_of_row _ _ 2 _ _ _ RQ10.out).trans rfl
  have s3 : w10.cell? ⟨w7.heap.size, 3, none⟩ = some (.int .u16 q.tl) := (cell_of_row _ _ 3 _ _ _ RQ10.out).trans rfl
  have s4 : w10.cell? ⟨w7.heap.size, 4, none⟩ = some (.int .u64 q.seq) := (cell_of_row _ _ 4 _ _ _ RQ10.out).trans rfl
  have s5 : w10.cell? ⟨w7.heap.size, 5, none⟩ = some (.int .u64 q.ack) := (cell_of_row _ _ 5 _ _ _ RQ10.out).trans rfl
  have s6 : w10.cell? ⟨w7.heap.size, 6, none⟩ = some (.bool q.has) := (cell_of_row _ _ 6 _ _ _ RQ10.out).trans rfl
  have s7 : w10.cell? ⟨w7.heap.size, 7, none⟩ = some (.slice A7 q.body.length d7) := (cell_of_row _ _ 7 _ _ _ RQ10.out).trans rfl
  go_wp2_with (first
    | (rw [HW10.out])
    | (go_at_call 13; refine (num7' _ _).mono ?_; rintro e2 w99 ⟨rfl, rfl⟩))
  refine K11.out.mono ?_
  rintro e w11 ⟨rfl, b11⟩
  have B11 := Lib.hid (two_below B10.out b11)
  have C10_11 := Lib.hid b11
  have C8_11 := Lib.hid (two_below C8_10.out b11)
  have C7_11 := Lib.hid (two_below C7_10.out b11)
  have R11 := Lib.hid (load_arm R10.out b11)
  clear b11 hcx hcx' r0 r1 r2 r3 r4 r5 r6 r7 s0 s1 s2 s3 s4 s5 s6 s7
  by_cases he : er = 0
  · subst he
    have K12 := unframeO A4 x c4 w11 (AT4.out.on (two_below C4_5.out (two_below C5_10.out C10_11.out))) (HX.out rfl) LE4.out.1 LE4.out.2 (HT.out w11 B11.out)
    rw [unframe_frame HF.out HFR.out] at K12
    have HK12 := Lib.hid K12
    clear K12
    go_wp2_with (first
      | (go_at_call 13; refine (num7' _ _).mono ?_; rintro e2 w99 ⟨rfl, rfl⟩))
    refine HK12.out.mono ?_
    rintro e w13 ⟨A13, d13, rfl, at13, b13⟩
    unfold pkV
    simp only
    have B13 := Lib.hid (two_below B11.out b13)
    have R13 := Lib.hid (load_arm R11.out b13)
    obtain ⟨w14, hw14⟩ : ∃ w14, w13.alloc (.cells #[.int .u8 fn, .int .u16 fl, .int .u8 tn, .int .u16 tl, .int .u64 seq, .int .u64 ack, .bool has, .slice A13 body.length d13] 76) = w14 := ⟨_, rfl⟩
    have C13_14 : Hid (Below w13.heap.size w13 w14) := Lib.hid (by rw [← hw14]; exact (Below.refl _ _).alloc (Nat.le_refl _) _)
    have RZ : Hid (w14.heap[w13.heap.size]? = some (.cells #[.int .u8 fn, .int .u16 fl, .int .u8 tn, .int .u16 tl, .int .u64 seq, .int .u64 ack, .bool has, .slice A13 body.length d13] 76 (0, 0))) := Lib.hid (by rw [← hw14]; exact heap_alloc_new _ _)
    have B14 := Lib.hid (two_below B13.out C13_14.out)
    have R14 := Lib.hid (load_arm R13.out C13_14.out)
    have C11_14 := Lib.hid (two_below b13 C13_14.out)
    have K15 := Lib.hid (samePk fn fl tn tl seq ack has body A A13 c d13 body.length body.length w14 rfl rfl (HA.out.on B14.out) (BytesAt.on at13 C13_14.out))
    have HW14 := Lib.hid hw14
    clear hw14 at13 b13
    have r0 : w14.cell? ⟨W.heap.size, 0, none⟩ = some (.int .u8 fn) := (cell_of_row _ _ 0 _ _ _ R14.out).trans rfl
    have r1 : w14.cell? ⟨W.heap.size, 1, none⟩ = some (.int .u16 fl) := (cell_of_row _ _ 1 _ _ _ R14.out).trans rfl
    have r2 : w14.cell? ⟨W.heap.size, 2, none⟩ = some (.int .u8 tn) := (cell_of_row _ _ 2 _ _ _ R14.out).trans rfl
    have r3 : w14.cell? ⟨W.heap.size, 3, none⟩ = some (.int .u16 tl) := (cell_of_row _ _ 3 _ _ _ R14.out).trans rfl
    have r4 : w14.cell? ⟨W.heap.size, 4, none⟩ = some (.int .u64 seq) := (cell_of_row _ _ 4 _ _ _ R14.out).trans rfl
    have r5 : w14.cell? ⟨W.heap.size, 5, none⟩ = some (.int .u64 ack) := (cell_of_row _ _ 5 _ _ _ R14.out).trans rfl
    have r6 : w14.cell? ⟨W.heap.size, 6, none⟩ = some (.bool has) := (cell_of_row _ _ 6 _ _ _ R14.out).trans rfl
    have r7 : w14.cell? ⟨W.heap.size, 7, none⟩ = some (.slice A body.length c) := (cell_of_row _ _ 7 _ _ _ R14.out).trans rfl
    have s0 : w14.cell? ⟨w13.heap.size, 0, none⟩ = some (.int .u8 fn) := (cell_of_row _ _ 0 _ _ _ RZ.out).trans rfl
    have s1 : w14.cell? ⟨w13.heap.size, 1, none⟩ = some (.int .u16 fl) := (cell_of_row _ _ 1 _ _ _ RZ.out).trans rfl
    have s2 : w14.cell? ⟨w13.heap.size, 2, none⟩ = some (.int .u8 tn) := (cell_of_row _ _ 2 _ _ _ RZ.out).trans rfl
    have s3 : w14.cell? ⟨w13.heap.size, 3, none⟩ = some (.int .u16 tl) := (cell_of_row _ _ 3 _ _ _ RZ.out).trans rfl
    have s4 : w14.cell? ⟨w13.heap.size, 4, none⟩ = some (.int .u64 seq) := (cell_of_row _ _ 4 _ _ _ RZ.out).trans rfl
    have s5 : w14.cell? ⟨w13.heap.size, 5, none⟩ = some (.int .u64 ack) := (cell_of_row _ _ 5 _ _ _ RZ.out).trans rfl
    have s6 : w14.cell? ⟨w13.heap.size, 6, none⟩ = some (.bool has) := (cell_of_row _ _ 6 _ _ _ RZ.out).trans rfl
    have s7 : w14.cell? ⟨w13.heap.size, 7, none⟩ = some (.slice A13 body.length d13) := (cell_of_row _ _ 7 _ _ _ RZ.out).trans rfl
    go_wp2_with (first
      | (rw [HW14.out])
      | (go_at_call 13; refine (num7' _ _).mono ?_; rintro e2 w99 ⟨rfl, rfl⟩))
    refine K15.out.mono ?_
    rintro e w16 ⟨rfl, b16⟩
    have B16 := Lib.hid (two_below B14.out b16)
    have C8_16 := Lib.hid (two_below C8_11.out (two_below C11_14.out b16))
    have C7_16 := Lib.hid (two_below C7_11.out (two_below C11_14.out b16))
    clear b16 r0 r1 r2 r3 r4 r5 r6 r7 s0 s1 s2 s3 s4 s5 s6 s7
    by_cases hg : g = 0
    · subst hg
      exact absurd (congrArg Prod.snd HU.out) (by rw [HY0.out]; unfold unframe; simp)
    · have hg' : ¬ (g : Int) = 0 := by omega
      go_wp2_with (first
        | (go_at_call 13; refine (num7' _ _).mono ?_; rintro e2 w99 ⟨rfl, rfl⟩))
      go_ret
      exact ⟨by first | rfl | simp, B16.out⟩
  · have he' : ¬ (er : Int) = 0 := by omega
    by_cases hg : g = 0
    · subst hg
      exact absurd (congrArg Prod.snd HU.out) (by rw [HY0.out]; unfold unframe; simp)
    · have hg' : ¬ (g : Int) = 0 := by omega
      go_wp2_with (first
        | (go_at_call 13; refine (num7' _ _).mono ?_; rintro e2 w99 ⟨rfl, rfl⟩))
      go_ret
      exact ⟨by first | rfl | simp, B11.out⟩

theorem walkFrames (fn fl tn tl seq ack : Nat) (has : Bool) (body : List UInt8) (A : Option Addr) (c : Nat) (y : List UInt8) (B : Option Addr) (d : Nat) (W : World) (hA : A = none → body.length = 0 ∧ c = 0) (hr : BytesAt W W.heap.size A body) (hl : body.length ≤ 140737488355328)
    (hB0 : B = none → y.length = 0 ∧ d = 0) (hB : BytesAt W W.heap.size B y) (hyl : y.length ≤ 140737488355328) (hyc : y.length ≤ d) (hym : d ≤ maxLen)
    (p1 : fn < 256) (p2 : fl < 65536) (p3 : tn < 256) (p4 : tl < 65536) (p5 : seq < 18446744073709551616) (p6 : ack < 18446744073709551616) (hT : TabAt W.heap.size W) (hW : WordAt W.heap.size W) :
    Calls Tryz.prog 5 #[.agg #[.int .u8 fn, .int .u16 fl, .int .u8 tn, .int .u16 tl, .int .u64 seq, .int .u64 ack, .bool has, .slice A body.length c], .slice B y.length d] W fun e W' => e = .returned (.bool true) ∧ Below W.heap.size W W' := by
  cases B with
  | none =>
    obtain ⟨h1, rfl⟩ := hB0 rfl
    rw [h1]
    exact walkFrames0 fn fl tn tl seq ack has body A c W hA hr hl p1 p2 p3 p4 p5 p6 hT hW
  | some ad => exact walkFrames1 fn fl tn tl seq ack has body A c y ad d W hA hr hl hB hyl hyc hym p1 p2 p3 p4 p5 p6 hT hW
end
end Go.Proofs.YtkmbgehknpefiaaGreatDoor
