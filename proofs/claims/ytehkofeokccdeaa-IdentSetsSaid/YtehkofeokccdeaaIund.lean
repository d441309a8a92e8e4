/-
  The document's Set: Under, by a contract. Condition: the list lies in memory, and takes at most 2^47 bytes.
-/
import Derived.Test.YtehkofeokccdeaaIrow
import Derived.Test.YtehkofeokccdeaaUnd
import Derived.Laws.StructEq
import Derived.Lib.QuietBelow
import Derived.BigQuiet
import Derived.Deep.QuietTactic
namespace Go.Proofs.Ytehkofeokccdeaa
set_option linter.unusedSimpArgs false
set_option linter.unusedVariables false
open Go.RowKit Go.Sort

/-- those of one process. -/
def ofProc (n l : Int) (x : I10) : Bool := decide (x.n = n) && decide (x.l = l)
theorem eq32 (x : I10) (n l : Int) (w : World) : Sem.run Try.prog (binOp .eql 32 (.agg #[.int .u8 x.n, .int .u16 x.l]) (.agg #[.int .u8 n, .int .u16 l])) w = .ok (.bool (ofProc n l x)) w := by
  have u5 := Try.underlying5
  have a5 := Try.isAgg5
  have z5 := Try.sizeOf5
  have u6 := Try.underlying30
  have a6 := Try.isAgg30
  have z6 := Try.sizeOf30
  have hS : Try.prog.underlying 32 = some (.struct (Try.prog.fieldsOf 32)) := by kernel_rfl
  have hp : Try.prog.stoodInHeld 32 = false := by kernel_rfl
  rw [run_eql_struct, show (10000 : Nat) = 9999 + 1 from rfl, run_equalIn_agg w 9999 32 _ _ hS hp]
  simp only [Program.fieldsOf, Try.underlying32]
  go_simp
  unfold ofProc
  by_cases h1 : x.n = n <;> by_cases h2 : x.l = l <;> simp [h1, h2]

theorem filter_take {p : I10 → Bool} {X : List I10} {k : Nat} {x : I10} (hx : X[k]? = some x) : (X.take (k + 1)).filter p = (X.take k).filter p ++ (if p x then [x] else []) := by
  rw [List.take_add_one, hx, List.filter_append]
  congr 1
  simp [List.filter_cons]
theorem own_lower {W : World} {base base' size n : Nat} {e : TypeId} {v : Value} {xs : List Value} (h : W.ownsRow base e size v n xs) (hb : base' ≤ base) : W.ownsRow base' e size v n xs := by
  rcases h with ⟨h1, h2⟩
  refine ⟨h1, ?_⟩
  rcases h2 with h | ⟨g, cap, cur, h1, h2, h3⟩
  · exact .inl h
  · exact .inr ⟨g, cap, cur, h1, Nat.le_trans hb h2, h3⟩

set_option maxRecDepth 100000 in
set_option maxHeartbeats 4000000 in
theorem refUnder (rb : Nat) (A : Option Addr) (X : List I10) (c : Nat) (n l : Int) (w : World) (h0 : w.cell? ⟨rb, 0, none⟩ = some (.slice A X.length c)) (hr : RowsI w w.heap.size A X) (hX : X.length * 16 ≤ 140737488355328) (hc : X.length ≤ c) (hm : c ≤ maxLen) :
    Calls Try.prog 18 #[.pointer (some ⟨rb, 0, none⟩), .agg #[.int .u8 n, .int .u16 l]] w fun e w' => ∃ v, e = .returned v ∧ w'.ownsRow w.heap.size 38 10 v (X.filter (ofProc n l)).length (cellsI (X.filter (ofProc n l))) ∧ Below w.heap.size w w' := by
  obtain ⟨i0, hi0, hz0, hz1, hz2⟩ := info_parts refid_info
  unfold maxLen at hm
  have hrl := World.block_lt_of_cell? w _ h0
  have hH0 := Lib.hid h0
  have bx : Below w.heap.size w (w.alloc (.cells #[.int .u8 n, .int .u16 l] 32)) := (Below.refl _ _).alloc (Nat.le_refl _) _
  have q0 : (w.alloc (.cells #[.int .u8 n, .int .u16 l] 32)).cell? ⟨w.heap.size, 0, none⟩ = some (.int .u8 n) := by simp
  have q1 : (w.alloc (.cells #[.int .u8 n, .int .u16 l] 32)).cell? ⟨w.heap.size, 1, none⟩ = some (.int .u16 l) := by simp
  have HB := Lib.hid bx
  have HQ0 := Lib.hid q0
  have HQ1 := Lib.hid q1
  clear bx q0 q1 h0
  go_enter Try.func18, Try.ntmps18
  go_wp2
  go_loopw [5, 6] (fun v i wx => ∃ k : Nat, k ≤ X.length ∧ i = .int .i64 k ∧ Hid (wx.ownsRow (w.heap.size + 1) 38 10 v ((X.take k).filter (ofProc n l)).length (cellsI ((X.take k).filter (ofProc n l)))) ∧ Hid (Below w.heap.size w wx) ∧ Hid (wx.cell? ⟨w.heap.size, 0, none⟩ = some (.int .u8 n) ∧ wx.cell? ⟨w.heap.size, 1, none⟩ = some (.int .u16 l))) (fun _ i _ => X.length - (intOf i).toNat)
  case atStart => exact ⟨0, by omega, rfl, Lib.hid ⟨rfl, .inl ⟨rfl, rfl⟩⟩, HB, Lib.hid ⟨HQ0.out, HQ1.out⟩⟩
  case round =>
    clear HB HQ0 HQ1
    obtain ⟨k, hk, rfl, O, B, Q⟩ := hrel
    have hbs := B.out.size
    have hlw : w.heap.size < wr.heap.size := World.block_lt_of_cell? _ _ Q.out.1
    have hs := (B.out.cell (p := ⟨rb, 0, none⟩) hrl).trans hH0.out
    by_cases hlt : k < X.length
    · obtain ⟨b, o, rfl, hb, C⟩ := hr.at_ hlt
      have C' := Lib.hid (C.below B.out hb)
      have hx : X[k]? = some X[k] := List.getElem?_eq_getElem hlt
      have htk := filter_take (p := ofProc n l) hx
      have HT := Lib.hid htk
      generalize X[k] = x at *
      have t0 := cell_regrown hs
      have k0 := cell_regrown C'.out.c0
      have k1 := cell_regrown C'.out.c1
      have k2 := cell_regrown C'.out.c2
      have k3 := cell_regrown C'.out.c3
      have k4 := cell_regrown C'.out.c4
      have k5 := cell_regrown C'.out.c5
      have k6 := cell_regrown C'.out.c6
      have k7 := cell_regrown C'.out.c7
      have k8 := cell_regrown C'.out.c8
      have k9 := cell_regrown C'.out.c9
      have l0 := cell_regrown Q.out.1
      have l1 := cell_regrown Q.out.2
      have hq := eq32 x n l
      clear hr C hx htk
      have hji : (k : Int) < (X.length : Int) := by omega
      have hci : (X.length : Int) ≤ (c : Int) := by omega
      have hS := Lib.hid hs
      go_wp2_with fail
      clear hs
      refine wp_region_quiet_below (by kernel_rfl) (by kernel_rfl) ?_
      repeat (go_big_quiet_step (fail))
      refine wpQuiet_nil ?_
      rintro W ⟨p, rfl⟩
      have y1 := below_regrown wr p.d p.os
      generalize grow (redrawn wr p.d) p.os = w2 at *
      clear t0 k0 k1 k2 k3 k4 k5 k6 k7 k8 k9 l0 l1 hq
      have Y1 := Lib.hid y1
      clear y1
      have B2 := Lib.hid (B.out.trans (Y1.out.mono hbs))
      have O2 := Lib.hid (own_belowI O.out Y1.out)
      have Q2 : Hid (w2.cell? ⟨w.heap.size, 0, none⟩ = some (.int .u8 n) ∧ w2.cell? ⟨w.heap.size, 1, none⟩ = some (.int .u16 l)) := Lib.hid ⟨(Y1.out.cell (p := ⟨w.heap.size, 0, none⟩) hlw).trans Q.out.1, (Y1.out.cell (p := ⟨w.heap.size, 1, none⟩) hlw).trans Q.out.2⟩
      have hlw2 : w.heap.size < w2.heap.size := Nat.lt_of_lt_of_le hlw Y1.out.size
      cases hp : ofProc n l x with
      | false =>
        have HP := Lib.hid hp
        clear hp
        go_wp2
        go_roundw
        case rel => exact ⟨k + 1, by omega, by go_num, Lib.hid (by rw [HT.out, HP.out]; simpa using O2.out), B2, Q2⟩
        case measure => simp [intOf]; omega
      | true =>
        have HP := Lib.hid hp
        have C2 := (C'.out.below Y1.out (Nat.lt_of_lt_of_le hb hbs))
        obtain ⟨c0, c1, c2, c3, c4, c5, c6, c7, c8, c9⟩ := C2
        have hs := (Y1.out.cell (p := ⟨rb, 0, none⟩) (Nat.lt_of_lt_of_le hrl hbs)).trans hS.out
        have hlx : Hid (x.cells.length = 1 * 10) := Lib.hid rfl
        have hfl : ((X.take k).filter (ofProc n l)).length ≤ k := Nat.le_trans (List.length_filter_le _ _) (List.length_take_le _ _)
        clear hp
        go_wp2_with (first
          | (at_builtin
             refine wpList_append_own _ rfl (.tmp 26) (.tmp 34) 27 rfl (w.heap.size + 1) 38 i0 _ 10 16 Try.underlying27 hi0 hz0 hz1 hz2 rfl (by decide) _ _ _ rfl (O2.out.alloc _) ⟨w2.heap.size, 0, none⟩ 1 1 x.cells rfl rfl ?_ ?_ (by unfold maxLen; omega) (by omega) (by simp; omega) ?_
             · exact cells_newI w2 #[.int .u8 x.n, .int .u16 x.l, .int .u32 x.s, .int .u8 x.d, .int .u8 x.a0, .int .u8 x.a1, .int .u8 x.b0, .int .u8 x.b1, .int .u8 x.c0, .int .u8 x.c1] 38
             · intro u hu; exact cellsI_one [x] u (by simpa [cellsI] using hu)
             intro v' w' hown' hgrow' hnil'
             have BB := Lib.hid (Below.grown (B2.out.alloc (by omega) _) hgrow' (by simp; omega) (fun j hj => by have := (O2.out.lt j hj).1; omega))
             have QQ : Hid (w'.cell? ⟨w.heap.size, 0, none⟩ = some (.int .u8 n) ∧ w'.cell? ⟨w.heap.size, 1, none⟩ = some (.int .u16 l)) := Lib.hid (by
               have f0 := hgrow'.cell_far ⟨w.heap.size, 0, none⟩ (by simp; omega) (fun e => absurd (O2.out.lt _ e.symm).1 (Nat.not_succ_le_self _))
               have f1 := hgrow'.cell_far ⟨w.heap.size, 1, none⟩ (by simp; omega) (fun e => absurd (O2.out.lt _ e.symm).1 (Nat.not_succ_le_self _))
               exact ⟨f0.trans ((World.cell?_alloc_lt _ _ _ hlw2).trans Q2.out.1), f1.trans ((World.cell?_alloc_lt _ _ _ hlw2).trans Q2.out.2)⟩)
             have OO := Lib.hid hown'
             clear hown' hgrow' hnil'))
        go_roundw
        case rel => exact ⟨k + 1, by omega, by go_num, Lib.hid (by rw [HT.out, HP.out]; simpa [cellsI] using OO.out), BB, QQ⟩
        case measure => simp [intOf]; omega
    · have hkk : k = X.length := by omega
      subst hkk
      rw [List.take_length] at O
      go_wp2
      go_ret
      exact ⟨_, rfl, own_lower O.out (Nat.le_succ _), B.out⟩

end Go.Proofs.Ytehkofeokccdeaa
