/-
  No link, and one that nobody made: every call, by exact answers; the walk of the law LinkNil. No condition.
-/
import Derived.Test.YtgnfclikdfllnaaJar
namespace Go.Proofs.Ytgnfclikdfllnaa
set_option linter.unusedSimpArgs false
set_option linter.unusedVariables false
open Go.RowKit Go.Maps Go.Sort

/-- no link, or one that nobody made. -/
def NoL (W : World) (po : Option Addr) : Prop := po = none ∨ ∃ b, po = some ⟨b, 0, none⟩ ∧ W.heap[b]? = some (.cells Z10 82 (0, 0))
theorem NoL.below {W W' : World} {po : Option Addr} (h : NoL W po) (hb : Below W.heap.size W W') : NoL W' po := by
  rcases h with h | ⟨b, e, hg⟩
  · exact .inl h
  · exact .inr ⟨b, e, (hb.block b (blt hg)).trans hg⟩
theorem made_none (W : World) (po : Option Addr) (h : NoL W po) : Calls Try.prog 29 #[.pointer po] W fun e W' => e = .returned (.bool false) ∧ W = W' := by
  rcases h with rfl | ⟨b, rfl, hg⟩
  · exact made_nil W
  · exact made_no b W hg
set_option maxRecDepth 100000 in
set_option maxHeartbeats 1000000 in
theorem send_none (W : World) (po : Option Addr) (h : NoL W po) (XA : Option Addr) (n xc : Nat) : Calls Try.prog 13 #[.pointer po, .slice XA n xc] W fun e W' => e = .returned (.int .i64 1) ∧ W = W' := by
  have K1 := made_none W po h
  clear h
  go_enter Try.func13, Try.ntmps13
  go_wp2_with fail
  refine K1.mono ?_
  rintro e w ⟨rfl, rfl⟩
  go_wp2
  go_ret
  exact ⟨rfl, rfl⟩
set_option maxRecDepth 100000 in
set_option maxHeartbeats 1000000 in
theorem out_none (W : World) (po : Option Addr) (h : NoL W po) (now : Int) : Calls Try.prog 16 #[.pointer po, .int .i64 now] W fun e W' => e = .returned (.slice none 0 0) ∧ W = W' := by
  have K1 := made_none W po h
  clear h
  go_enter Try.func16, Try.ntmps16
  go_wp2_with fail
  refine K1.mono ?_
  rintro e w ⟨rfl, rfl⟩
  go_wp2
  go_ret
  exact ⟨rfl, rfl⟩
set_option maxRecDepth 100000 in
set_option maxHeartbeats 1000000 in
theorem waiting_none (W : World) (po : Option Addr) (h : NoL W po) : Calls Try.prog 22 #[.pointer po] W fun e W' => e = .returned (.int .i64 0) ∧ W = W' := by
  have K1 := made_none W po h
  clear h
  go_enter Try.func22, Try.ntmps22
  go_wp2_with fail
  refine K1.mono ?_
  rintro e w ⟨rfl, rfl⟩
  go_wp2
  go_ret
  exact ⟨rfl, rfl⟩
set_option maxRecDepth 100000 in
set_option maxHeartbeats 1000000 in
theorem idle_none (W : World) (po : Option Addr) (h : NoL W po) : Calls Try.prog 23 #[.pointer po] W fun e W' => e = .returned (.bool false) ∧ W = W' := by
  have K1 := made_none W po h
  clear h
  go_enter Try.func23, Try.ntmps23
  go_wp2_with fail
  refine K1.mono ?_
  rintro e w ⟨rfl, rfl⟩
  go_wp2
  go_ret
  exact ⟨rfl, rfl⟩
set_option maxRecDepth 100000 in
set_option maxHeartbeats 1000000 in
theorem want_none (W : World) (po : Option Addr) (h : NoL W po) : Calls Try.prog 24 #[.pointer po] W fun e W' => e = .returned (.int .u64 0) ∧ W = W' := by
  have K1 := made_none W po h
  clear h
  go_enter Try.func24, Try.ntmps24
  go_wp2_with fail
  refine K1.mono ?_
  rintro e w ⟨rfl, rfl⟩
  go_wp2
  go_ret
  exact ⟨rfl, rfl⟩
set_option maxRecDepth 100000 in
set_option maxHeartbeats 2000000 in
theorem hear_none (W : World) (po : Option Addr) (h : NoL W po) (p : Hp) (XA : Option Addr) (xc : Nat) : Calls Try.prog 19 #[.pointer po, .agg (p.cs XA xc)] W fun e W' => e = .returned (.slice none 0 0) ∧ Below W.heap.size W W' := by
  obtain ⟨fn, fl, tn, tl, sq, ak, hs, xB⟩ := p
  obtain ⟨xl, hxx⟩ : ∃ xl, xB.length = xl := ⟨_, rfl⟩
  simp only [Hp.cs, hxx]
  obtain ⟨W1, hW1⟩ : ∃ Y, W.alloc (.cells #[.int .u8 fn, .int .u16 fl, .int .u8 tn, .int .u16 tl, .int .u64 sq, .int .u64 ak, .bool hs, .slice XA xl xc] 53) = Y := ⟨_, rfl⟩
  have b1 : Below W.heap.size W W1 := by rw [← hW1]; exact (Below.refl _ _).alloc (Nat.le_refl _) _
  have LL : ∀ d os, Calls Try.prog 29 #[.pointer po] (grow (redrawn W1 d) os) fun e w' => e = .returned (.bool false) ∧ Below (grow (redrawn W1 d) os).heap.size (grow (redrawn W1 d) os) w' := fun d os =>
    (made_none _ _ ((h.below b1).below (below_regrown W1 d os))).mono fun _ _ ⟨he, hw⟩ => ⟨he, hw ▸ Below.refl _ _⟩
  have LH := Lib.hid LL
  have HW := Lib.hid hW1
  have B1 := Lib.hid b1
  clear LL h hxx hW1 b1
  go_enter Try.func19, Try.ntmps19
  go_wp2_with (refine wpList_bx rfl 53 (.tmp 1) rfl 3 rfl #[.int .u8 fn, .int .u16 fl, .int .u8 tn, .int .u16 tl, .int .u64 sq, .int .u64 ak, .bool hs, .slice XA xl xc] rfl ?_; rw [HW.out])
  refine wp_region_quiet_below (by kernel_rfl) (by kernel_rfl) ?_
  repeat (go_big_quiet_step (first | (go_at_call 29; exact Calls.regrown_of (LH.out _ _)) | fail))
  refine wpQuiet_nil ?_
  rintro W3 ⟨p3, rfl⟩
  have b3 := below_regrown W1 p3.d p3.os
  generalize grow (redrawn W1 p3.d) p3.os = W3 at b3 ⊢
  clear LH
  have B3 := Lib.hid (B1.out.trans (b3.mono B1.out.size))
  clear b3
  go_wp2
  go_ret
  exact ⟨rfl, B3.out⟩

set_option maxRecDepth 100000 in
set_option maxHeartbeats 4000000 in
theorem walkNil (BA : Option Addr) (X : List UInt8) (bc : Nat) (p : Hp) (XA : Option Addr) (xc : Nat) (W : World) (hbl : X.length ≤ 140737488351232) (hpl0 : p.B.length ≤ 140737488351232) (hp : BytesAt W W.heap.size XA p.B) (hpA : XA = none → xc = 0) :
    Calls Try.prog 6 #[.slice BA X.length bc, .agg (p.cs XA xc)] W fun e W' => e = .returned (.bool true) ∧ Below W.heap.size W W' := by
  have KK := Lib.hid (fun w => knowsW w)
  obtain ⟨W1, hW1⟩ : ∃ Y, W.alloc (.cells (p.cs XA xc) 37) = Y := ⟨_, rfl⟩
  have r1 : W1.heap[W.heap.size]? = some (.cells (p.cs XA xc) 37 (0, 0)) := by rw [← hW1]; exact heap_alloc_new _ _
  have b1 : Below W.heap.size W W1 := by rw [← hW1]; exact (Below.refl _ _).alloc (Nat.le_refl _) _
  have HW := Lib.hid hW1
  have B1 := Lib.hid b1
  have R1 := Lib.hid r1
  have HP := Lib.hid hp
  have HPA := Lib.hid hpA
  obtain ⟨n, hn⟩ : ∃ n, X.length = n := ⟨_, rfl⟩
  rw [hn] at hbl ⊢
  by_cases hbig : 3000 < n + p.B.length
  · obtain ⟨fn, fl, tn, tl, sq, ak, hs, xB⟩ := p
    obtain ⟨xl, hxx⟩ : ∃ xl, xB.length = xl := ⟨_, rfl⟩
    simp only [Hp.cs, hxx] at r1 HW hpl0 hbig ⊢
    have c7 := cell_of r1 7 (.slice XA xl xc) rfl
    have h3 : (3000 : Int) < (n : Int) + (xl : Int) := by omega
    have hwr : IntKind.i64.wrap ((n : Int) + (xl : Int)) = (n : Int) + (xl : Int) := IntWalk.i64_in _ (by omega)
    clear hW1 r1 b1 hp hpA hn hxx hbig hbl hpl0
    go_enter Try.func6, Try.ntmps6
    go_wp2_with (refine wpList_bx rfl 37 (.tmp 1) rfl 3 rfl #[.int .u8 fn, .int .u16 fl, .int .u8 tn, .int .u16 tl, .int .u64 sq, .int .u64 ak, .bool hs, .slice XA xl xc] rfl ?_; rw [HW.out])
    refine (KK.out _).mono ?_
    rintro e w ⟨rfl, b⟩
    have B := Lib.hid (B1.out.trans (b.mono B1.out.size))
    clear b
    go_wp2
    go_ret
    exact ⟨rfl, B.out⟩
  · have HPL := Lib.hid (show p.B.length ≤ 1000000 by omega)
    have KP := Lib.hid (fun w (hb : Below W1.heap.size W1 w) => packW p XA xc w (HP.out.below (B1.out.trans (hb.mono B1.out.size)) (Nat.le_refl _) (Nat.le_trans B1.out.size hb.size)) HPL.out HPA.out)
    have KH := Lib.hid (fun w po (h : NoL w po) A2 c2 => hear_none w po h p A2 c2)
    obtain ⟨fn, fl, tn, tl, sq, ak, hs, xB⟩ := p
    obtain ⟨xl, hxx⟩ : ∃ xl, xB.length = xl := ⟨_, rfl⟩
    simp only [Hp.cs, hxx] at r1 HW hpl0 hbig KP KH ⊢
    have R1 := Lib.hid r1
    have c7 := cell_of r1 7 (.slice XA xl xc) rfl
    have h3 : ¬ (3000 : Int) < (n : Int) + (xl : Int) := by omega
    have hwr : IntKind.i64.wrap ((n : Int) + (xl : Int)) = (n : Int) + (xl : Int) := IntWalk.i64_in _ (by omega)
    clear hW1 r1 b1 hp hpA hn hxx hbig hbl hpl0 HPL
    go_enter Try.func6, Try.ntmps6
    go_wp2_with (refine wpList_bx rfl 37 (.tmp 1) rfl 3 rfl #[.int .u8 fn, .int .u16 fl, .int .u8 tn, .int .u16 tl, .int .u64 sq, .int .u64 ak, .bool hs, .slice XA xl xc] rfl ?_; rw [HW.out])
    clear c7 h3 hwr
    go_loopw [5, 6] (fun pv iv wr => ∃ k : Nat, k ≤ 2 ∧ iv = .int .i64 k ∧ ∃ po, pv = .pointer po ∧ Hid (NoL wr po) ∧ Hid (Below W1.heap.size W1 wr)) (fun _ iv _ => 2 - (intOf iv).toNat)
    case atStart => exact ⟨0, by omega, rfl, none, rfl, Lib.hid (.inl rfl), Lib.hid (Below.refl _ _)⟩
    case round =>
      obtain ⟨k, hk, rfl, po, rfl, N0, B0⟩ := hrel
      by_cases hk2 : k < 2
      · have hk2' : (k : Int) < 2 := by omega
        have rr : wr.heap[W.heap.size]? = some (.cells #[.int .u8 fn, .int .u16 fl, .int .u8 tn, .int .u16 tl, .int .u64 sq, .int .u64 ak, .bool hs, .slice XA xl xc] 37 (0, 0)) := (B0.out.block _ (blt R1.out)).trans R1.out
        have c0 := cell_of rr 0 (.int .u8 fn) rfl
        have c1 := cell_of rr 1 (.int .u16 fl) rfl
        have c2 := cell_of rr 2 (.int .u8 tn) rfl
        have c3 := cell_of rr 3 (.int .u16 tl) rfl
        have c4 := cell_of rr 4 (.int .u64 sq) rfl
        have c5 := cell_of rr 5 (.int .u64 ak) rfl
        have c6 := cell_of rr 6 (.bool hs) rfl
        have c7 := cell_of rr 7 (.slice XA xl xc) rfl
        have RR := Lib.hid rr
        have hsz := Lib.hid (by kernel_rfl : (Try.prog.info? 37).map (·.size) = some (#[.int .u8 fn, .int .u16 fl, .int .u8 tn, .int .u16 tl, .int .u64 sq, .int .u64 ak, .bool hs, .slice XA xl xc] : Array Value).size)
        clear rr
        go_wp2_with (first
          | (go_at_call 13
             refine (send_none _ _ N0.out _ _ _).mono ?_
             rintro e' w' ⟨rfl, rfl⟩)
          | (go_at_call 12
             refine (numE 1 _).mono ?_
             rintro e' w' ⟨rfl, rfl⟩)
          | fail)
        refine (KP.out _ B0.out).mono ?_
        rintro e w2 ⟨XA2, xc2, rfl, _, _, _, b2⟩
        have BB2 := Lib.hid (B0.out.trans (b2.mono B0.out.size))
        have NO2 := Lib.hid (N0.out.below b2)
        clear b2 c0 c1 c2 c3 c4 c5 c6 c7
        go_wp2_with fail
        refine (KH.out _ _ NO2.out _ _).mono ?_
        rintro e w3 ⟨rfl, b3⟩
        have BB3 := Lib.hid (BB2.out.trans (b3.mono BB2.out.size))
        have NO3 := Lib.hid (NO2.out.below b3)
        clear b3
        obtain ⟨w8, hw8⟩ : ∃ Y, w3.alloc (.cells Z10 82) = Y := ⟨_, rfl⟩
        have HW8 := Lib.hid (show w3.alloc (.cells #[.int .u8 0, .int .u16 0, .int .u8 0, .int .u16 0, .int .i64 0, .int .u64 0, .int .u64 0, .slice none 0 0, .bool false, .map none] 82) = w8 from hw8)
        have BB8 := Lib.hid (show Below W1.heap.size W1 w8 from by rw [← hw8]; exact BB3.out.alloc BB3.out.size _)
        have NO8 : Hid (NoL w8 (some ⟨w3.heap.size, 0, none⟩)) := Lib.hid (.inr ⟨_, rfl, by rw [← hw8]; exact heap_alloc_new _ _⟩)
        clear hw8
        go_wp2_with (first
          | (go_at_call 16
             refine (out_none _ _ NO3.out _).mono ?_
             rintro e' w' ⟨rfl, rfl⟩)
          | (go_at_call 22
             refine (waiting_none _ _ NO3.out).mono ?_
             rintro e' w' ⟨rfl, rfl⟩)
          | (go_at_call 23
             refine (idle_none _ _ NO3.out).mono ?_
             rintro e' w' ⟨rfl, rfl⟩)
          | (go_at_call 24
             refine (want_none _ _ NO3.out).mono ?_
             rintro e' w' ⟨rfl, rfl⟩)
          | (rw [HW8.out]))
        go_roundw
        case rel => exact ⟨k + 1, by omega, by go_num, _, rfl, NO8, BB8⟩
        case measure => simp [intOf]; omega
      · obtain rfl : k = 2 := by omega
        go_wp2_with fail
        refine (KK.out _).mono ?_
        rintro e w2 ⟨rfl, d2⟩
        have B2 := Lib.hid (B1.out.trans ((B0.out.mono B1.out.size).trans (d2.mono (by have := B0.out.size; have := B1.out.size; omega))))
        clear d2
        go_wp2
        go_ret
        exact ⟨rfl, B2.out⟩

end Go.Proofs.Ytgnfclikdfllnaa
