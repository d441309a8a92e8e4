/-
  Light of a list of one entry: some answer. Condition: the lists lie in memory.
-/
import Derived.Test.YtjdmjiikpnlkjaaEbas
import Derived.Handy
import Derived.Laws.Rows
namespace Go.Proofs.Ytjdmjiikpnlkjaa
set_option linter.unusedSimpArgs false
set_option linter.unusedVariables false
open Go.RowKit Go.Sort

/-- some bool. -/
def IsB (e : Ending) : Prop := ∃ bo, e = .returned (.bool bo)
set_option maxRecDepth 100000 in
set_option maxHeartbeats 1000000 in
theorem light5 (x : E18) (A B : Option Addr) (X : List P5) (Y : List W3) (c d : Nat) (b : Nat) (w : World) (hR : w.heap[b]? = some (.cells #[.int .u8 x.k, .int .u8 x.n, .int .u16 x.l, .int .u32 x.s, .int .u8 x.d, .int .u8 x.a0, .int .u8 x.a1, .int .u8 x.b0, .int .u8 x.b1, .int .u8 x.c0, .int .u8 x.c1, .int .u32 x.fl, .slice A X.length c, .int .u8 x.rc, .string x.rv, .slice B Y.length d, .int .u8 x.vn, .int .u16 x.vl] 103 (0, 0))) (hr : RowsP w w.heap.size A X) (hs : RowsW w w.heap.size B Y) (hc : X.length ≤ c) (hm : c ≤ maxLen) (hd : Y.length ≤ d) (hn : d ≤ maxLen) :
    Calls Try.prog 42 #[.slice (some ⟨b, 0, none⟩) 1 1] w fun e w' => IsB e ∧ Below w.heap.size w w' := by
  have HK := Lib.hid (fun W hw h1 => light A X c W (hr.below (C := w.heap.size) hw (Nat.le_refl _) h1) hc hm)
  have HR := Lib.hid hR
  have HS := Lib.hid hs
  have H0 : Hid (Below w.heap.size w (w.alloc (.cells #[.int .u8 x.k, .int .u8 x.n, .int .u16 x.l, .int .u32 x.s, .int .u8 x.d, .int .u8 x.a0, .int .u8 x.a1, .int .u8 x.b0, .int .u8 x.b1, .int .u8 x.c0, .int .u8 x.c1, .int .u32 x.fl, .slice A X.length c, .int .u8 x.rc, .string x.rv, .slice B Y.length d, .int .u8 x.vn, .int .u16 x.vl] 103))) := Lib.hid ((Below.refl _ _).alloc (Nat.le_refl _) _)
  have E0 : Hid (Ent (w.alloc (.cells #[.int .u8 x.k, .int .u8 x.n, .int .u16 x.l, .int .u32 x.s, .int .u8 x.d, .int .u8 x.a0, .int .u8 x.a1, .int .u8 x.b0, .int .u8 x.b1, .int .u8 x.c0, .int .u8 x.c1, .int .u32 x.fl, .slice A X.length c, .int .u8 x.rc, .string x.rv, .slice B Y.length d, .int .u8 x.vn, .int .u16 x.vl] 103)) w.heap.size x (.slice A X.length c) (.slice B Y.length d)) := Lib.hid (ent_new w x (.slice A X.length c) (.slice B Y.length d) 103)
  unfold maxLen at hm hn
  generalize lightB X = bb at HK
  clear hR hr hs
  have hdi : (Y.length : Int) ≤ (d : Int) := by omega
  have hyi : (d : Int) ≤ 9223372036854775807 := by omega
  have hxi : (X.length : Int) ≤ 9223372036854775807 := by omega
  cases bb with
  | false =>
    go_enter Try.func42, Try.ntmps42
    go_wp2
    refine wp_loop_rounds 2 ?_
    rw [rounds_succ]
    go_wp2_with (first
      | (refine wpList_load_row rfl 103 (.tmp 23) rfl b (by rfl) 103 #[.int .u8 x.k, .int .u8 x.n, .int .u16 x.l, .int .u32 x.s, .int .u8 x.d, .int .u8 x.a0, .int .u8 x.a1, .int .u8 x.b0, .int .u8 x.b1, .int .u8 x.c0, .int .u8 x.c1, .int .u32 x.fl, .slice A X.length c, .int .u8 x.rc, .string x.rv, .slice B Y.length d, .int .u8 x.vn, .int .u16 x.vl] (0, 0) _ HR.out Try.underlying103 rfl (by kernel_rfl) ?_)
      | (go_at_call 63; refine (HK.out _ H0.out H0.out.size).mono ?_; rintro e w1 ⟨rfl, b1⟩; have H1 := Lib.hid (H0.out.trans (b1.mono H0.out.size)); clear b1))
    go_ret
    exact ⟨⟨_, rfl⟩, H1.out⟩
  | true =>
    by_cases h300 : Y.length ≤ 300
    · have h3i : ¬ (300 : Int) < (Y.length : Int) := by omega
      go_enter Try.func42, Try.ntmps42
      go_wp2
      refine wp_loop_rounds 2 ?_
      rw [rounds_succ]
      go_wp2_with (first
        | (refine wpList_load_row rfl 103 (.tmp 23) rfl b (by rfl) 103 #[.int .u8 x.k, .int .u8 x.n, .int .u16 x.l, .int .u32 x.s, .int .u8 x.d, .int .u8 x.a0, .int .u8 x.a1, .int .u8 x.b0, .int .u8 x.b1, .int .u8 x.c0, .int .u8 x.c1, .int .u32 x.fl, .slice A X.length c, .int .u8 x.rc, .string x.rv, .slice B Y.length d, .int .u8 x.vn, .int .u16 x.vl] (0, 0) _ HR.out Try.underlying103 rfl (by kernel_rfl) ?_)
        | (go_at_call 63; refine (HK.out _ H0.out H0.out.size).mono ?_; rintro e w1 ⟨rfl, b1⟩
           have H1 := Lib.hid (H0.out.trans (b1.mono H0.out.size))
           have lt1 : w.heap.size < w1.heap.size := Nat.lt_of_lt_of_le E0.out.lt b1.size
           have e12 := (E0.out.kept b1 E0.out.lt).e12
           have e14 := (E0.out.kept b1 E0.out.lt).e14
           have e15 := (E0.out.kept b1 E0.out.lt).e15
           clear b1))
      all_goals
        have C15 := Lib.hid e15
        clear e12 e14 e15
        go_loopw [3, 6] (fun l i wx => ∃ (k : Nat) (z : Int), k ≤ Y.length ∧ i = .int .i64 k ∧ l = .int .i64 z ∧ Hid (Below w.heap.size w wx) ∧ Hid (w1.heap.size ≤ wx.heap.size ∧ wx.cell? ⟨w.heap.size, 15, none⟩ = some (.slice B Y.length d))) (fun _ i _ => Y.length - (intOf i).toNat)
        case atStart => exact ⟨0, _, by omega, rfl, rfl, H1, Lib.hid ⟨Nat.le_refl _, C15.out⟩⟩
        case round =>
          clear C15
          obtain ⟨k, z, hk, rfl, rfl, BB, CC⟩ := hrel
          obtain ⟨hle, e15⟩ := CC.out
          have hbs := BB.out.size
          by_cases hlt : k < Y.length
          · obtain ⟨b2, o, rfl, hb, C⟩ := HS.out.at_ hlt
            obtain ⟨c0, c1, c2⟩ := C.below BB.out hb
            generalize Y[k] = y at *
            clear C HS
            have hji : (k : Int) < (Y.length : Int) := by omega
            go_wp2
            go_region_held3 (fun w' => w'.cell? ⟨b2, o + k * 3, none⟩ = some (.string y.key) ∧ w'.cell? ⟨b2, o + k * 3 + 1, none⟩ = some (.string y.val) ∧ w'.cell? ⟨w.heap.size, 15, none⟩ = some (.slice (some ⟨b2, o, none⟩) Y.length d)) (((first | (simp; done) | (go_simp; done) | go_keep))) (fail)
            all_goals go_wp2
            all_goals
              exact ⟨⟨k + 1, _, by omega, by go_num, rfl, Lib.hid (Below.drewsN BB.out), Lib.hid ⟨by simpa using hle, by simpa using e15⟩⟩, by simp [intOf]; omega⟩
          · have hkk : k = Y.length := by omega
            subst hkk
            by_cases hz : 0 ≤ z
            · go_wp2
              rw [rounds_succ]
              go_wp2
              go_ret
              exact ⟨⟨_, rfl⟩, BB.out⟩
            · go_wp2
              rw [rounds_succ]
              go_wp2
              go_ret
              exact ⟨⟨_, rfl⟩, BB.out⟩
    · have h3i : (300 : Int) < (Y.length : Int) := by omega
      go_enter Try.func42, Try.ntmps42
      go_wp2
      refine wp_loop_rounds 2 ?_
      rw [rounds_succ]
      go_wp2_with (first
        | (refine wpList_load_row rfl 103 (.tmp 23) rfl b (by rfl) 103 #[.int .u8 x.k, .int .u8 x.n, .int .u16 x.l, .int .u32 x.s, .int .u8 x.d, .int .u8 x.a0, .int .u8 x.a1, .int .u8 x.b0, .int .u8 x.b1, .int .u8 x.c0, .int .u8 x.c1, .int .u32 x.fl, .slice A X.length c, .int .u8 x.rc, .string x.rv, .slice B Y.length d, .int .u8 x.vn, .int .u16 x.vl] (0, 0) _ HR.out Try.underlying103 rfl (by kernel_rfl) ?_)
        | (go_at_call 63; refine (HK.out _ H0.out H0.out.size).mono ?_; rintro e w1 ⟨rfl, b1⟩
           have H1 := Lib.hid (H0.out.trans (b1.mono H0.out.size))
           have e15 := (E0.out.kept b1 E0.out.lt).e15
           clear b1))
      go_ret
      exact ⟨⟨_, rfl⟩, H1.out⟩

end Go.Proofs.Ytjdmjiikpnlkjaa
