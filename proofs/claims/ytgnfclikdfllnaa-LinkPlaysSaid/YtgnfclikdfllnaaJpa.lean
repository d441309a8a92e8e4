/-
  packets and bodies: the law's comparisons of what both sides tell, where it is the same. Condition: the rows lie in memory.
-/
import Derived.Test.YtgnfclikdfllnaaJli
import Derived.Test.YtgnfclikdfllnaaJdo
namespace Go.Proofs.Ytgnfclikdfllnaa
set_option linter.unusedSimpArgs false
set_option linter.unusedVariables false
open Go.RowKit Go.Maps Go.Sort

set_option maxRecDepth 100000 in
set_option maxHeartbeats 4000000 in
theorem packetsW (W : World) (bx b_y : Nat) (vx v_y : Value) (P Q : List Pk) (hx : W.ownsRow bx 53 8 vx P.length (flat Pk.cs P)) (h_y : W.ownsRow b_y 37 8 v_y Q.length (flat Pk.cs Q)) (okx : ∀ x ∈ P, x.b.Ok W) (oky : ∀ x ∈ Q, x.b.Ok W) (he : P.map Pk.pu = Q.map Pk.pu) (hn : P.length ≤ 1000) :
    Calls Try.prog 15 #[vx, v_y] W fun e W' => e = .returned (.bool true) ∧ Below W.heap.size W W' := by
  have hl : Q.length = P.length := by have := congrArg List.length he; simpa using this.symm
  obtain ⟨Ax, cx, rfl, hcx, _, hAx⟩ := (RowO.of_owns hx).slice
  obtain ⟨A_y, c_y, rfl, hcy, _, hAy⟩ := (RowO.of_owns h_y).slice
  rw [hl] at h_y hcy
  obtain ⟨n, hnn⟩ : ∃ n, P.length = n := ⟨_, rfl⟩
  rw [hl]
  simp only [hnn] at hx h_y hcx hcy hn ⊢
  have HX := Lib.hid (RowO.of_owns hx)
  have HY := Lib.hid (RowO.of_owns h_y)
  have OKX := Lib.hid okx
  have OKY := Lib.hid oky
  have HE := Lib.hid he
  have HNN := Lib.hid hnn
  have HL := Lib.hid hl
  have HAX := Lib.hid hAx
  have HAY := Lib.hid hAy
  have HCX := Lib.hid hcx
  have HCY := Lib.hid hcy
  clear hx h_y okx oky he hnn hl hAx hAy hcx hcy
  go_enter Try.func15, Try.ntmps15
  go_wp2
  go_loopw [5] (fun iv wr => ∃ k : Nat, k ≤ n ∧ iv = .int .i64 k ∧ Hid (Below W.heap.size W wr)) (fun iv _ => n - (intOf iv).toNat)
  case atStart => exact ⟨0, Nat.zero_le _, rfl, Lib.hid (Below.refl _ _)⟩
  case round =>
    obtain ⟨k, hk, rfl, B0⟩ := hrel
    by_cases hkn : k < n
    · have hki : (k : Int) < (n : Int) := by omega
      have hkP : k < P.length := by rw [HNN.out]; exact hkn
      have hkQ : k < Q.length := by rw [HL.out]; exact hkP
      have hpx : P[k]? = some P[k] := List.getElem?_eq_getElem hkP
      have hpy : Q[k]? = some Q[k] := List.getElem?_eq_getElem hkQ
      have hpu : Pk.pu P[k] = Pk.pu Q[k] := by
        have h1 : (P.map Pk.pu)[k]? = some (Pk.pu P[k]) := by rw [List.getElem?_map, hpx]; rfl
        have h2 : (Q.map Pk.pu)[k]? = some (Pk.pu Q[k]) := by rw [List.getElem?_map, hpy]; rfl
        rw [HE.out, h2] at h1
        exact (Option.some.inj h1).symm
      have ox := OKX.out _ (List.getElem_mem hkP)
      have oy := OKY.out _ (List.getElem_mem hkQ)
      generalize P[k] = px at hpx hpu ox
      generalize Q[k] = py at hpy hpu oy
      obtain ⟨fn, fl, tn, tl, sq, ak, hs, ⟨B, xa, xc⟩⟩ := px
      obtain ⟨fn', fl', tn', tl', sq', ak', hs', ⟨B', ya, yc⟩⟩ := py
      simp only [Pk.pu, Prod.mk.injEq] at hpu
      obtain ⟨rfl, rfl, rfl, rfl, rfl, rfl, rfl, rfl⟩ := hpu
      have hgx : ∃ g o, Ax = some ⟨g, o, none⟩ := by
        rcases HAX.out with ⟨_, h0⟩ | h0
        · have := HCX.out
          omega
        · exact h0
      have hgy : ∃ g o, A_y = some ⟨g, o, none⟩ := by
        rcases HAY.out with ⟨_, h0⟩ | h0
        · have := HCY.out
          omega
        · exact h0
      obtain ⟨gx, ox', rfl⟩ := hgx
      obtain ⟨gy, oy', rfl⟩ := hgy
      have hbx := B0.out
      have lx := HX.out.lt gx rfl
      have ly := HY.out.lt gy rfl
      obtain ⟨bl, hbl⟩ : ∃ bl, B.length = bl := ⟨_, rfl⟩
      have cellx : ∀ (w : World), Below W.heap.size W w → ∀ j, j < 8 → w.cell? ⟨gx, ox' + k * 8 + j, none⟩ = (#[.int .u8 fn, .int .u16 fl, .int .u8 tn, .int .u16 tl, .int .u64 sq, .int .u64 ak, .bool hs, .slice xa bl xc] : Array Value)[j]? := fun w hb j hj => (hb.cell (p := ⟨gx, ox' + k * 8 + j, none⟩) lx).trans (by have := RowO.elem Pk.sz HX.out hpx hj; simp only [Pk.cs, hbl] at this; exact this)
      have celly : ∀ (w : World), Below W.heap.size W w → ∀ j, j < 8 → w.cell? ⟨gy, oy' + k * 8 + j, none⟩ = (#[.int .u8 fn, .int .u16 fl, .int .u8 tn, .int .u16 tl, .int .u64 sq, .int .u64 ak, .bool hs, .slice ya bl yc] : Array Value)[j]? := fun w hb j hj => (hb.cell (p := ⟨gy, oy' + k * 8 + j, none⟩) ly).trans (by have := RowO.elem Pk.sz HY.out hpy hj; simp only [Pk.cs, hbl] at this; exact this)
      have HCX' := Lib.hid cellx
      have HCY' := Lib.hid celly
      have e0 : wr.cell? ⟨gy, oy' + k * 8, none⟩ = some (.int .u8 fn) := celly wr B0.out 0 (by decide)
      have e1 : wr.cell? ⟨gy, oy' + k * 8 + 1, none⟩ = some (.int .u16 fl) := celly wr B0.out 1 (by decide)
      have e2 : wr.cell? ⟨gy, oy' + k * 8 + 2, none⟩ = some (.int .u8 tn) := celly wr B0.out 2 (by decide)
      have e3 : wr.cell? ⟨gy, oy' + k * 8 + 3, none⟩ = some (.int .u16 tl) := celly wr B0.out 3 (by decide)
      have e4 : wr.cell? ⟨gy, oy' + k * 8 + 4, none⟩ = some (.int .u64 sq) := celly wr B0.out 4 (by decide)
      have e5 : wr.cell? ⟨gy, oy' + k * 8 + 5, none⟩ = some (.int .u64 ak) := celly wr B0.out 5 (by decide)
      have e6 : wr.cell? ⟨gy, oy' + k * 8 + 6, none⟩ = some (.bool hs) := celly wr B0.out 6 (by decide)
      have e7 : wr.cell? ⟨gy, oy' + k * 8 + 7, none⟩ = some (.slice ya bl yc) := celly wr B0.out 7 (by decide)
      have KP0 := packW ⟨fn, fl, tn, tl, sq, ak, hs, B⟩ ya yc wr ((oy.at_.1).below B0.out (Nat.le_refl _) B0.out.size) oy.len (fun h => (oy.at_.2.2.2 h).2)
      simp only [Hp.cs, hbl] at KP0
      have OX := Lib.hid ox
      have HBL := Lib.hid hbl
      clear hkP hkQ hpx hpy ox oy lx ly cellx celly hbl hbx
      go_wp2_with fail
      refine KP0.mono ?_
      rintro e w2 ⟨za, zc, rfl, oz, _, _, b2⟩
      clear KP0 e0 e1 e2 e3 e4 e5 e6 e7
      have B2 := Lib.hid (B0.out.trans (b2.mono B0.out.size))
      obtain ⟨w3, hw3⟩ : ∃ Y, w2.alloc (.cells #[.int .u8 0, .int .u16 0, .int .u8 0, .int .u16 0, .int .u64 0, .int .u64 0, .bool false, .slice none 0 0] 53) = Y := ⟨_, rfl⟩
      have r3 : w3.heap[w2.heap.size]? = some (.cells #[.int .u8 0, .int .u16 0, .int .u8 0, .int .u16 0, .int .u64 0, .int .u64 0, .bool false, .slice none 0 0] 53 (0, 0)) := by rw [← hw3]; exact heap_alloc_new _ _
      have s3 : w3.heap.size = w2.heap.size + 1 := by rw [← hw3]; simp
      obtain ⟨w4, hw4⟩ : ∃ Y, w3.setRow w2.heap.size #[.int .u8 fn, .int .u16 fl, .int .u8 tn, .int .u16 tl, .int .u64 sq, .int .u64 ak, .bool hs, .slice za bl zc] = Y := ⟨_, rfl⟩
      have r4 : w4.heap[w2.heap.size]? = some (.cells #[.int .u8 fn, .int .u16 fl, .int .u8 tn, .int .u16 tl, .int .u64 sq, .int .u64 ak, .bool hs, .slice za bl zc] 53 (0, 0)) := by rw [← hw4]; exact setRow_heap _ _ _ _ _ _ r3
      have s4 : w4.heap.size = w2.heap.size + 1 := by rw [← hw4, ← s3]; simp [World.setRow]
      have b4 : Below w2.heap.size w2 w4 := by rw [← hw4, ← hw3]; exact below_row ((Below.refl _ _).alloc (Nat.le_refl _) _) (Nat.le_refl _) _
      have B4 := Lib.hid (B2.out.trans (b4.mono B2.out.size))
      obtain ⟨w5, hw5⟩ : ∃ Y, w4.alloc (.cells #[.int .u8 0, .int .u16 0, .int .u8 0, .int .u16 0, .int .u64 0, .int .u64 0, .bool false, .slice none 0 0] 53) = Y := ⟨_, rfl⟩
      have r5 : w5.heap[w4.heap.size]? = some (.cells #[.int .u8 0, .int .u16 0, .int .u8 0, .int .u16 0, .int .u64 0, .int .u64 0, .bool false, .slice none 0 0] 53 (0, 0)) := by rw [← hw5]; exact heap_alloc_new _ _
      obtain ⟨w6, hw6⟩ : ∃ Y, w5.setRow w4.heap.size #[.int .u8 fn, .int .u16 fl, .int .u8 tn, .int .u16 tl, .int .u64 sq, .int .u64 ak, .bool hs, .slice xa bl xc] = Y := ⟨_, rfl⟩
      have r6 : w6.heap[w4.heap.size]? = some (.cells #[.int .u8 fn, .int .u16 fl, .int .u8 tn, .int .u16 tl, .int .u64 sq, .int .u64 ak, .bool hs, .slice xa bl xc] 53 (0, 0)) := by rw [← hw6]; exact setRow_heap _ _ _ _ _ _ r5
      have b6 : Below w4.heap.size w4 w6 := by rw [← hw6, ← hw5]; exact below_row ((Below.refl _ _).alloc (Nat.le_refl _) _) (Nat.le_refl _) _
      have B6 := Lib.hid (B4.out.trans (b6.mono B4.out.size))
      have q6 := (b6.block _ (blt r4)).trans r4
      have e0 : w4.cell? ⟨gx, ox' + k * 8, none⟩ = some (.int .u8 fn) := HCX'.out w4 B4.out 0 (by decide)
      have e1 : w4.cell? ⟨gx, ox' + k * 8 + 1, none⟩ = some (.int .u16 fl) := HCX'.out w4 B4.out 1 (by decide)
      have e2 : w4.cell? ⟨gx, ox' + k * 8 + 2, none⟩ = some (.int .u8 tn) := HCX'.out w4 B4.out 2 (by decide)
      have e3 : w4.cell? ⟨gx, ox' + k * 8 + 3, none⟩ = some (.int .u16 tl) := HCX'.out w4 B4.out 3 (by decide)
      have e4 : w4.cell? ⟨gx, ox' + k * 8 + 4, none⟩ = some (.int .u64 sq) := HCX'.out w4 B4.out 4 (by decide)
      have e5 : w4.cell? ⟨gx, ox' + k * 8 + 5, none⟩ = some (.int .u64 ak) := HCX'.out w4 B4.out 5 (by decide)
      have e6 : w4.cell? ⟨gx, ox' + k * 8 + 6, none⟩ = some (.bool hs) := HCX'.out w4 B4.out 6 (by decide)
      have e7 : w4.cell? ⟨gx, ox' + k * 8 + 7, none⟩ = some (.slice xa bl xc) := HCX'.out w4 B4.out 7 (by decide)
      have f0 := cell_of q6 0 (.int .u8 fn) rfl
      have h0 := cell_of r6 0 (.int .u8 fn) rfl
      have f1 := cell_of q6 1 (.int .u16 fl) rfl
      have h1 := cell_of r6 1 (.int .u16 fl) rfl
      have f2 := cell_of q6 2 (.int .u8 tn) rfl
      have h2 := cell_of r6 2 (.int .u8 tn) rfl
      have f3 := cell_of q6 3 (.int .u16 tl) rfl
      have h3 := cell_of r6 3 (.int .u16 tl) rfl
      have f4 := cell_of q6 4 (.int .u64 sq) rfl
      have h4 := cell_of r6 4 (.int .u64 sq) rfl
      have f5 := cell_of q6 5 (.int .u64 ak) rfl
      have h5 := cell_of r6 5 (.int .u64 ak) rfl
      have f6 := cell_of q6 6 (.bool hs) rfl
      have h6 := cell_of r6 6 (.bool hs) rfl
      have f7 := cell_of q6 7 (.slice za bl zc) rfl
      have h7 := cell_of r6 7 (.slice xa bl xc) rfl
      have n1 := fun W => neqProc fn fl fn fl true (by simp) W
      have n2 := fun W => neqProc tn tl tn tl true (by simp) W
      have hbl := HBL.out
      have cz : Sem.run Try.prog (convert 35 9 (.slice za bl zc)) w6 = .ok (.string ⟨B.toArray⟩) w6 := by
        rw [← hbl]
        refine conv_bytes (B := w6.heap.size) ?_ zc
        have hm : BytesAt w2 w2.heap.size za B := oz.at_
        exact hm.below (b4.trans (b6.mono b4.size)) (Nat.le_refl _) (Nat.le_trans b4.size b6.size)
      have cxx : Sem.run Try.prog (convert 35 9 (.slice xa bl xc)) w6 = .ok (.string ⟨B.toArray⟩) w6 := by
        rw [← hbl]
        refine conv_bytes (B := w6.heap.size) ?_ xc
        exact OX.out.at_.1.below B6.out (Nat.le_refl _) B6.out.size
      have HW3 := Lib.hid hw3
      have HW4 := Lib.hid hw4
      have HW5 := Lib.hid hw5
      have HW6 := Lib.hid hw6
      have R3 := Lib.hid r3
      have R5 := Lib.hid r5
      clear b2 oz hw3 r3 s3 hw4 r4 s4 b4 hw5 r5 hw6 r6 b6 q6 hbl
      go_wp2_with (first
        | (rw [HW3.out])
        | (refine wpList_store_row rfl 53 (.tmp 6) (.tmp 23) rfl w2.heap.size #[.int .u8 fn, .int .u16 fl, .int .u8 tn, .int .u16 tl, .int .u64 sq, .int .u64 ak, .bool hs, .slice za bl zc] (by rfl) (by rfl) 53 #[.int .u8 0, .int .u16 0, .int .u8 0, .int .u16 0, .int .u64 0, .int .u64 0, .bool false, .slice none 0 0] R3.out (by kernel_rfl) rfl (by simp [Value.oneCell']) ?_; rw [HW4.out])
        | (rw [HW5.out])
        | (refine wpList_store_row rfl 53 (.tmp 7) (.tmp 27) rfl w4.heap.size #[.int .u8 fn, .int .u16 fl, .int .u8 tn, .int .u16 tl, .int .u64 sq, .int .u64 ak, .bool hs, .slice xa bl xc] (by rfl) (by rfl) 53 #[.int .u8 0, .int .u16 0, .int .u8 0, .int .u16 0, .int .u64 0, .int .u64 0, .bool false, .slice none 0 0] R5.out (by kernel_rfl) rfl (by simp [Value.oneCell']) ?_; rw [HW6.out]))
      go_roundw
      case rel => exact ⟨k + 1, by omega, by go_num, B6⟩
      case measure => simp [intOf]; omega
    · obtain rfl : k = n := by omega
      have hki : ¬ (k : Int) < (k : Int) := by omega
      go_wp2
      go_ret
      exact ⟨rfl, B0.out⟩

set_option maxRecDepth 100000 in
set_option maxHeartbeats 4000000 in
theorem bodiesW (W : World) (bx b_y : Nat) (vx v_y : Value) (P Q : List Kr) (hx : W.ownsRow bx 35 1 vx P.length (bvs P)) (h_y : W.ownsRow b_y 35 1 v_y Q.length (bvs Q)) (okx : ∀ x ∈ P, x.b.Ok W) (oky : ∀ x ∈ Q, x.b.Ok W) (he : P.map Kr.p = Q.map Kr.p) (hn : P.length ≤ 100000) :
    Calls Try.prog 18 #[vx, v_y] W fun e W' => e = .returned (.bool true) ∧ Below W.heap.size W W' := by
  have hl : Q.length = P.length := by have := congrArg List.length he; simpa using this.symm
  obtain ⟨Ax, cx, rfl, hcx, _, hAx⟩ := (RowO.of_owns hx).slice
  obtain ⟨A_y, c_y, rfl, hcy, _, hAy⟩ := (RowO.of_owns h_y).slice
  rw [hl] at h_y hcy
  obtain ⟨n, hnn⟩ : ∃ n, P.length = n := ⟨_, rfl⟩
  rw [hl]
  simp only [hnn] at hx h_y hcx hcy hn ⊢
  have HX := Lib.hid (RowO.of_owns hx)
  have HY := Lib.hid (RowO.of_owns h_y)
  have OKX := Lib.hid okx
  have OKY := Lib.hid oky
  have HE := Lib.hid he
  have HNN := Lib.hid hnn
  have HL := Lib.hid hl
  have HAX := Lib.hid hAx
  have HAY := Lib.hid hAy
  have HCX := Lib.hid hcx
  have HCY := Lib.hid hcy
  clear hx h_y okx oky he hnn hl hAx hAy hcx hcy
  go_enter Try.func18, Try.ntmps18
  go_wp2
  go_loopw [5] (fun iv wr => ∃ k : Nat, k ≤ n ∧ iv = .int .i64 k ∧ Hid (Below W.heap.size W wr)) (fun iv _ => n - (intOf iv).toNat)
  case atStart => exact ⟨0, Nat.zero_le _, rfl, Lib.hid (Below.refl _ _)⟩
  case round =>
    obtain ⟨k, hk, rfl, B0⟩ := hrel
    by_cases hkn : k < n
    · have hki : (k : Int) < (n : Int) := by omega
      have hkP : k < P.length := by rw [HNN.out]; exact hkn
      have hkQ : k < Q.length := by rw [HL.out]; exact hkP
      have hpx : P[k]? = some P[k] := List.getElem?_eq_getElem hkP
      have hpy : Q[k]? = some Q[k] := List.getElem?_eq_getElem hkQ
      have hpu : Kr.p P[k] = Kr.p Q[k] := by
        have h1 : (P.map Kr.p)[k]? = some (Kr.p P[k]) := by rw [List.getElem?_map, hpx]; rfl
        have h2 : (Q.map Kr.p)[k]? = some (Kr.p Q[k]) := by rw [List.getElem?_map, hpy]; rfl
        rw [HE.out, h2] at h1
        exact (Option.some.inj h1).symm
      have ox := OKX.out _ (List.getElem_mem hkP)
      have oy := OKY.out _ (List.getElem_mem hkQ)
      generalize P[k] = px at hpx hpu ox
      generalize Q[k] = py at hpy hpu oy
      obtain ⟨q1, ⟨B, xa, xc⟩⟩ := px
      obtain ⟨q2, ⟨B', ya, yc⟩⟩ := py
      simp only [Kr.p, Prod.mk.injEq] at hpu
      obtain ⟨rfl, rfl⟩ := hpu
      have hgx : ∃ g o, Ax = some ⟨g, o, none⟩ := by
        rcases HAX.out with ⟨_, h0⟩ | h0
        · have := HCX.out
          omega
        · exact h0
      have hgy : ∃ g o, A_y = some ⟨g, o, none⟩ := by
        rcases HAY.out with ⟨_, h0⟩ | h0
        · have := HCY.out
          omega
        · exact h0
      obtain ⟨gx, ox', rfl⟩ := hgx
      obtain ⟨gy, oy', rfl⟩ := hgy
      obtain ⟨bl, hbl⟩ : ∃ bl, B.length = bl := ⟨_, rfl⟩
      have lx := HX.out.lt gx rfl
      have ly := HY.out.lt gy rfl
      have e0 : wr.cell? ⟨gx, ox' + k, none⟩ = some (.slice xa bl xc) := (B0.out.cell (p := ⟨gx, ox' + k, none⟩) lx).trans (HX.out.cells k _ (by unfold bvs Bd.v; rw [List.getElem?_map, hpx, ← hbl]; rfl))
      have e1 : wr.cell? ⟨gy, oy' + k, none⟩ = some (.slice ya bl yc) := (B0.out.cell (p := ⟨gy, oy' + k, none⟩) ly).trans (HY.out.cells k _ (by unfold bvs Bd.v; rw [List.getElem?_map, hpy, ← hbl]; rfl))
      have t0 := cell_regrown e0
      have t1 := cell_regrown e1
      have cx1 : ∀ d os, Sem.run Try.prog (convert 35 9 (.slice xa bl xc)) (grow (redrawn wr d) os) = .ok (.string ⟨B.toArray⟩) (grow (redrawn wr d) os) := fun d os => by
        rw [← hbl]
        exact conv_bytes (B := (grow (redrawn wr d) os).heap.size) ((ox.at_.1.below B0.out (Nat.le_refl _) B0.out.size).below (below_regrown wr d os) (Nat.le_refl _) (below_regrown wr d os).size) xc
      have cy1 : ∀ d os, Sem.run Try.prog (convert 35 9 (.slice ya bl yc)) (grow (redrawn wr d) os) = .ok (.string ⟨B.toArray⟩) (grow (redrawn wr d) os) := fun d os => by
        rw [← hbl]
        exact conv_bytes (B := (grow (redrawn wr d) os).heap.size) ((oy.at_.1.below B0.out (Nat.le_refl _) B0.out.size).below (below_regrown wr d os) (Nat.le_refl _) (below_regrown wr d os).size) yc
      clear hkP hkQ hpx hpy ox oy lx ly e0 e1 hbl
      go_wp2
      refine wp_region_quiet_below (by kernel_rfl) (by kernel_rfl) ?_
      repeat (go_big_quiet_step (fail))
      refine wpQuiet_nil ?_
      rintro w3 ⟨pz, rfl⟩
      have bz := below_regrown wr pz.d pz.os
      generalize grow (redrawn wr pz.d) pz.os = w3 at bz ⊢
      have B3 := Lib.hid (B0.out.trans (bz.mono B0.out.size))
      clear bz t0 t1 cx1 cy1
      go_wp2
      go_roundw
      case rel => exact ⟨k + 1, by omega, by go_num, B3⟩
      case measure => simp [intOf]; omega
    · obtain rfl : k = n := by omega
      have hki : ¬ (k : Int) < (k : Int) := by omega
      go_wp2
      go_ret
      exact ⟨rfl, B0.out⟩

end Go.Proofs.Ytgnfclikdfllnaa
