/-
  The program's order: Take elsewhere than at the head, by an exact answer. Condition: it and the list lie in memory.
-/
import Derived.Test.YtjdmjiikpnlkjaaRoh
import Derived.Deep.MidRow
namespace Go.Proofs.Ytjdmjiikpnlkjaa
set_option linter.unusedSimpArgs false
set_option linter.unusedVariables false
open Go.RowKit Go.Maps Go.Sort
open V (P2)

def Rd.takeOk (d : Rd) (fr : Int) (n : Nat) : Bool := decide ((d.base : Int) ≤ fr) && decide (fr ≤ d.L.length) && decide ((n : Int) ≤ 400 - fr)
def Rd.heard (d : Rd) (co : Int) : Rd := { d with commit := max d.commit (min co.toNat d.L.length) }
def Rd.more (d : Rd) (X : List EV) : Rd := { d with L := d.L ++ X }
def Rd.takeY (d : Rd) (fr : Int) (X : List EV) : Rd := if (!d.shut && decide (d.L.length - fr.toNat < X.length)) = true then d.more (X.drop (d.L.length - fr.toNat)) else d
def Rd.take (d : Rd) (fr : Int) (X : List EV) (co : Int) : Rd := if d.takeOk fr X.length = true then (d.takeY fr X).heard co else d
set_option maxRecDepth 100000 in
set_option maxHeartbeats 2000000 in
theorem rTake (W : World) (b m : Nat) (lb : Option Nat) (d : Rd) (h : RP W b m lb d) (hlead : d.lead = false) (fr co : Int) (vX : Value) (LX : List Le) (hX : EnO W vX LX) (hlX : LX.length ≤ 1000) (hfr : -9000000000000000000 ≤ fr ∧ fr ≤ 9000000000000000000) :
    Calls Try.prog 20 #[.pointer (some ⟨b, 0, none⟩), .int .i64 fr, vX, .int .i64 co] W fun e W' => e = .returned (.bool (d.takeOk fr LX.length)) ∧ After W W' b m lb (d.take fr (LX.map Le.v) co) := by
  have HRP := Lib.hid h
  obtain ⟨⟨mv, lv, Lg⟩, hlb, h⟩ := h
  obtain ⟨A, c, hlv, h1, h2, -⟩ := RowO.slice h.row
  have hl := h.len
  dsimp only at hlv hl hlb
  rw [hl] at hlv h1
  subst hlv
  obtain ⟨AX, cX, rfl, -, hcX, hmX, hAX⟩ := hX.rows
  have HX := Lib.hid hX
  have HQ := Lib.hid h
  have HLB := Lib.hid hlb
  have KM := Lib.hid (rMade W b m lb d HRP.out)
  have KL := Lib.hid (hlead ▸ rLeads W b m lb d HRP.out : Calls Try.prog 38 #[.pointer (some ⟨b, 0, none⟩)] W fun e W' => e = .returned (.bool false) ∧ Below W.heap.size W W')
  obtain ⟨n, hn⟩ : ∃ n, d.L.length = n := ⟨_, rfl⟩
  obtain ⟨nX, hnX⟩ : ∃ n, LX.length = n := ⟨_, rfl⟩
  have few : n ≤ 400 := hn ▸ h.few
  have hbs : d.base ≤ n := hn ▸ h.hb
  have R0 : Hid (W.heap[b]? = some (.cells #[.int .u8 d.g, .int .u32 d.N, mv, .int .u8 d.me.n, .int .u16 d.me.l, .slice A n c, .int .i64 d.base, .int .i64 d.commit, .bool d.shut, .map (some m)] 81 (0, 0))) := Lib.hid (by rw [← hn]; exact h.blk)
  have HN := Lib.hid hn
  have HNX := Lib.hid hnX
  have HAX := Lib.hid hAX
  rw [hnX] at hcX hlX ⊢
  rw [hn] at h1
  unfold maxLen at h2 hmX
  have qlen : ∀ (W : World) (ty : TypeId), (Builtin.len_ #[37] ty #[.slice A n c]).run Try.prog W = .ok (.int .i64 n) W := fun W ty => by first | rfl | go_simp
  have qlenX : ∀ (W : World) (ty : TypeId), (Builtin.len_ #[37] ty #[.slice AX nX cX]).run Try.prog W = .ok (.int .i64 nX) W := fun W ty => by first | rfl | go_simp
  have HOK : Hid (d.takeOk fr nX = (decide ((d.base : Int) ≤ fr) && decide (fr ≤ n) && decide ((nX : Int) ≤ 400 - fr))) := Lib.hid (by rw [← hn]; rfl)
  have HTK : Hid (d.take fr (LX.map Le.v) co = if d.takeOk fr nX = true then (d.takeY fr (LX.map Le.v)).heard co else d) := Lib.hid (by unfold Rd.take; rw [List.length_map, hnX])
  clear h hlb hl hn hnX hX hAX hlead
  by_cases hb : fr < (d.base : Int)
  · have HF : Hid (d.takeOk fr nX = false) := Lib.hid (by rw [HOK.out]; simp; omega)
    have hd1 : decide (fr < (d.base : Int)) = true := decide_eq_true hb
    go_enter Try.func20, Try.ntmps20
    go_wp2_with fail
    refine KM.out.mono ?_
    rintro e w0 ⟨rfl, rfl⟩
    go_wp2_with fail
    refine KL.out.mono ?_
    rintro e w1 ⟨rfl, b1⟩
    have B1 := Lib.hid b1
    have R1 := (b1.block b (heap_lt R0.out)).trans R0.out
    have x5 := cell_of R1 5 (.slice A n c) rfl
    have x6 := cell_of R1 6 (.int .i64 d.base) rfl
    clear b1 R1
    go_wp2_with fail
    go_ret
    rw [HTK.out, HF.out]
    exact ⟨rfl, After.below HRP.out B1.out⟩
  · have hd1 : decide (fr < (d.base : Int)) = false := decide_eq_false hb
    by_cases hg : (n : Int) < fr
    · have HF : Hid (d.takeOk fr nX = false) := Lib.hid (by rw [HOK.out]; simp; omega)
      have hd2 : decide ((n : Int) < fr) = true := decide_eq_true hg
      go_enter Try.func20, Try.ntmps20
      go_wp2_with fail
      refine KM.out.mono ?_
      rintro e w0 ⟨rfl, rfl⟩
      go_wp2_with fail
      refine KL.out.mono ?_
      rintro e w1 ⟨rfl, b1⟩
      have B1 := Lib.hid b1
      have R1 := (b1.block b (heap_lt R0.out)).trans R0.out
      have x5 := cell_of R1 5 (.slice A n c) rfl
      have x6 := cell_of R1 6 (.int .i64 d.base) rfl
      clear b1 R1
      go_wp2_with fail
      go_ret
      rw [HTK.out, HF.out]
      exact ⟨rfl, After.below HRP.out B1.out⟩
    · have hd2 : decide ((n : Int) < fr) = false := decide_eq_false hg
      by_cases ho : 400 - fr < (nX : Int)
      · have HF : Hid (d.takeOk fr nX = false) := Lib.hid (by rw [HOK.out]; simp; omega)
        have hd3 : decide (400 - fr < (nX : Int)) = true := decide_eq_true ho
        go_enter Try.func20, Try.ntmps20
        go_wp2_with fail
        refine KM.out.mono ?_
        rintro e w0 ⟨rfl, rfl⟩
        go_wp2_with fail
        refine KL.out.mono ?_
        rintro e w1 ⟨rfl, b1⟩
        have B1 := Lib.hid b1
        have R1 := (b1.block b (heap_lt R0.out)).trans R0.out
        have x5 := cell_of R1 5 (.slice A n c) rfl
        have x6 := cell_of R1 6 (.int .i64 d.base) rfl
        clear b1 R1
        go_wp2_with fail
        go_ret
        rw [HTK.out, HF.out]
        exact ⟨rfl, After.below HRP.out B1.out⟩
      · have hd3 : decide (400 - fr < (nX : Int)) = false := decide_eq_false ho
        have HF : Hid (d.takeOk fr nX = true) := Lib.hid (by rw [HOK.out]; simp; omega)
        obtain ⟨fn, rfl⟩ : ∃ fn : Nat, fr = fn := ⟨fr.toNat, by omega⟩
        have hfn : fn ≤ n := by omega
        have HTY0 : Hid (d.takeY fn (LX.map Le.v) = if (!d.shut && decide (n - fn < nX)) = true then d.more ((LX.map Le.v).drop (n - fn)) else d) := Lib.hid (by unfold Rd.takeY; rw [List.length_map, HN.out, HNX.out]; simp)
        cases hsh : d.shut
        all_goals
          go_enter Try.func20, Try.ntmps20
          go_wp2_with fail
          refine KM.out.mono ?_
          rintro e w0 ⟨rfl, rfl⟩
          go_wp2_with fail
          refine KL.out.mono ?_
          rintro e w1 ⟨rfl, b1⟩
          have B1 := Lib.hid b1
          have r1 := (b1.block b (heap_lt R0.out)).trans R0.out
          have R1 := Lib.hid r1
          have x5 := cell_of r1 5 (.slice A n c) rfl
          have x6 := cell_of r1 6 (.int .i64 d.base) rfl
          have x8 := cell_of r1 8 (.bool d.shut) rfl
          rw [hsh] at x8
          rw [hsh] at HTY0
          clear b1 r1
        · by_cases hth : (n : Int) - fn < (nX : Int)
          · have hdt : decide ((n : Int) - fn < (nX : Int)) = true := decide_eq_true hth
            go_wp2_with fail
            have HRB := Lib.hid R1.out
            obtain ⟨th, hth2⟩ : ∃ th : Nat, (n : Int) - fn = th := ⟨n - fn, by omega⟩
            rw [hth2]
            have htn : th < nX := by omega
            have HTY : Hid (d.takeY fn (LX.map Le.v) = d.more ((LX.drop th).map Le.v)) := Lib.hid (by
              rw [HTY0.out, if_pos (by simp; omega), show n - fn = th by omega, List.map_drop])
            have HTN := Lib.hid htn
            obtain ⟨gX, oX, rfl⟩ : ∃ g o, AX = some ⟨g, o, none⟩ := by
              rcases RowO.slice HX.out.row with ⟨A', c', e, _, _, h3⟩
              cases e
              rcases h3 with ⟨h3, _⟩ | h3
              · have := (HAX.out h3).1
                have h4 := HNX.out
                rw [this] at h4
                simp at h4
                omega
              · exact h3
            have hdl : Hid ((LX.drop th).length = nX - th) := Lib.hid (by rw [List.length_drop, HNX.out])
            have HXD : Hid (EnO w1.drew (.slice (some ⟨gX, oX + th * 18, none⟩) (nX - th) (cX - th)) (LX.drop th)) := Lib.hid (by
              have hx := HX.out.keep (Keeps.of_below (B1.out.drew))
              have hr := hx.row
              rw [HNX.out] at hr
              have hs := RowO.sub hr HNX.out th (nX - th) (cX - th) (by omega) (by omega) (by omega)
              rw [List.take_of_length_le (by rw [hdl.out]; exact Nat.le_refl _)] at hs
              exact ⟨by rw [hdl.out]; exact hs, fun e he => hx.all e (List.mem_of_mem_drop he)⟩)
            have KO := Lib.hid (rOwn _ (LX.drop th) w1.drew HXD.out (by rw [hdl.out]; omega))
            have hcap : ¬ cX ≤ th := by omega
            have hcap2 : ¬ (cX - th = 0) := by omega
            have hcap3 : ¬ (cX = th) := by omega
            have hle1 : th ≤ nX := by omega
            have hle2 : (th : Int) ≤ (nX : Int) := by omega
            have HQ1d := Lib.hid (HQ.out.below (B1.out.drew))
            have B1d := Lib.hid B1.out.drew
            have R1d : Hid (w1.drew.heap[b]? = some (.cells #[.int .u8 d.g, .int .u32 d.N, mv, .int .u8 d.me.n, .int .u16 d.me.l, .slice A n c, .int .i64 d.base, .int .i64 d.commit, .bool d.shut, .map (some m)] 81 (0, 0))) := Lib.hid R1.out
            refine region_heldT (S := fun u => u.heap[b]? = some (.cells #[.int .u8 d.g, .int .u32 d.N, mv, .int .u8 d.me.n, .int .u16 d.me.l, .slice A n c, .int .i64 d.base, .int .i64 d.commit, .bool d.shut, .map (some m)] 81 (0, 0))) 10 (by kernel_rfl) (by decide) (fun inv => ?_)
            have HS := R1d.out
            change FirstH _ _ _ _ _ _ _ _ _ _ w1.drew
            generalize w1.drew = wd at *
            refine FirstH.go (i := 0) (v := .pointer (some ⟨b, 0, none⟩)) rfl rfl 59 rfl (Op.move (Operand.tmp 0)) rfl (by kernel_rfl) (fun _ _ _ h => h) inv (fun W hS => by unfold bareO; go_simp) HS (fun inv => ?_)
            try simp only [Act.put, List.setIfInBounds_toArray, List.set_cons_zero, List.set_cons_succ]
            refine FirstH.go (i := 1) (v := .pointer (some ⟨b, 0, none⟩)) rfl rfl 60 rfl (Op.move (Operand.tmp 0)) rfl (by kernel_rfl) (fun _ _ _ h => h) inv (fun W hS => by unfold bareO; go_simp) HS (fun inv => ?_)
            try simp only [Act.put, List.setIfInBounds_toArray, List.set_cons_zero, List.set_cons_succ]
            refine FirstH.go (i := 2) (v := .pointer (some ⟨b, 0, none⟩)) rfl rfl 61 rfl (Op.nilCheck (Operand.tmp 60)) rfl (by kernel_rfl) (fun _ _ _ h => h) inv (fun W hS => by unfold bareO; go_simp) HS (fun inv => ?_)
            try simp only [Act.put, List.setIfInBounds_toArray, List.set_cons_zero, List.set_cons_succ]
            refine FirstH.go (i := 3) (v := .pointer (some ⟨b, 5, none⟩)) rfl rfl 62 rfl (Op.fieldAddr 81 (Operand.tmp 61) 2) rfl (by kernel_rfl) (fun _ _ _ h => h) inv (fun W hS => by unfold bareO; go_simp) HS (fun inv => ?_)
            try simp only [Act.put, List.setIfInBounds_toArray, List.set_cons_zero, List.set_cons_succ]
            refine FirstH.go (i := 4) (v := .slice A n c) rfl rfl 63 rfl (Op.load 37 (Operand.tmp 62)) rfl (by kernel_rfl) (fun _ _ _ h => h) inv (fun W hS => by have k5 := cell_of hS 5 (.slice A n c) rfl; unfold bareO; go_simp) HS (fun inv => ?_)
            try simp only [Act.put, List.setIfInBounds_toArray, List.set_cons_zero, List.set_cons_succ]
            refine FirstH.go (i := 5) (v := .slice (some ⟨gX, oX, none⟩) nX cX) rfl rfl 64 rfl (Op.move (Operand.tmp 2)) rfl (by kernel_rfl) (fun _ _ _ h => h) inv (fun W hS => by unfold bareO; go_simp) HS (fun inv => ?_)
            try simp only [Act.put, List.setIfInBounds_toArray, List.set_cons_zero, List.set_cons_succ]
            refine FirstH.go (i := 6) (v := .int .i64 th) rfl rfl 65 rfl (Op.move (Operand.tmp 9)) rfl (by kernel_rfl) (fun _ _ _ h => h) inv (fun W hS => by unfold bareO; go_simp) HS (fun inv => ?_)
            try simp only [Act.put, List.setIfInBounds_toArray, List.set_cons_zero, List.set_cons_succ]
            refine FirstH.go (i := 7) (v := .slice (some ⟨gX, oX + th * 18, none⟩) (nX - th) (cX - th)) rfl rfl 66 rfl (Op.slice 37 (Operand.tmp 64) (some (Operand.tmp 65)) none none) rfl (by kernel_rfl) (fun _ _ _ h => h) inv (fun W hS => by have h1 := hcap; have h2 := hcap2; have h3 := hcap3; have h4 := hle1; have h5 := hle2; unfold bareO; go_simp) HS (fun inv => ?_)
            try simp only [Act.put, List.setIfInBounds_toArray, List.set_cons_zero, List.set_cons_succ]
            refine FirstH.only (i := 8) (by kernel_rfl) (by decide) inv (fun inv => wpOp_call (i := 8) rfl rfl 67 rfl (Op.call { callee := Callee.value (.func 37), args := #[Operand.tmp 66], argTypes := #[37] }) rfl 37 #[.slice (some ⟨gX, oX + th * 18, none⟩) (nX - th) (cX - th)] (by unfold bareO; go_simp) (KO.out) ?_)
            rintro e w3 ⟨v3, rfl, L3, hm3, hx3, hf3, b3⟩
            have HS3 : w3.heap[b]? = some (.cells #[.int .u8 d.g, .int .u32 d.N, mv, .int .u8 d.me.n, .int .u16 d.me.l, .slice A n c, .int .i64 d.base, .int .i64 d.commit, .bool d.shut, .map (some m)] 81 (0, 0)) := (b3.block b (heap_lt HS)).trans HS
            have B3 := Lib.hid (B1d.out.trans (b3.mono B1d.out.size))
            have HQ3 := Lib.hid (HQ1d.out.below b3)
            have HM3 := Lib.hid hm3
            have hl3 : L3.length = nX - th := by
              have := congrArg List.length hm3
              rw [List.length_map, List.length_map, hdl.out] at this
              exact this
            have HL3 := Lib.hid hl3
            obtain ⟨A3, c3, rfl, hr3, hc3, hc4, hA3⟩ := hx3.rows
            rw [hl3] at hc3 ⊢
            have hA3' : ∃ g3 o3, A3 = some ⟨g3, o3, none⟩ := by
              rcases RowO.slice hx3.row with ⟨A', c', e, _, _, h3⟩
              cases e
              rcases h3 with ⟨h3, _⟩ | h3
              · have := (hA3 h3).1
                rw [this] at hl3
                simp at hl3
                have := HTN.out
                omega
              · exact h3
            obtain ⟨g3, o3, rfl⟩ := hA3'
            have HX3 := Lib.hid hx3
            clear b3 HS hm3 hx3 hf3 hr3 hA3
            refine ⟨_, rfl, HS3, ?_⟩
            try simp only [Act.put, List.setIfInBounds_toArray, List.set_cons_zero, List.set_cons_succ]
            obtain ⟨i0, hi0, hz0, hz1, hz2⟩ := info_parts entI
            refine FirstH.only (i := 9) (by kernel_rfl) (by decide) inv (fun inv => wpOp_any rfl rfl (wp_appO 68 rfl (.tmp 63) (.tmp 67) 37 63 rfl i0 _ 18 104 Try.underlying37 hi0 hz0 hz1 hz2 rfl (by decide) (.slice A n c) n (cellsE Lg) rfl (by have := HQ3.out.row; rw [show Lg.length = n from HQ3.out.len.trans HN.out, HN.out] at this; exact this) ⟨g3, o3, none⟩ (nX - th) c3 (cellsE L3) rfl (by rw [cellsE_length, HL3.out]) (fun j u hu => ?_) (cellsE_oneL L3) (by have := HTN.out; omega) (by omega) (by decide) ?_))
            · have := HX3.out.row
              rw [HL3.out] at this
              rw [addr_add]
              exact RowO.cells this j u hu
            intro v7 w7 O7 g7 f7
            obtain ⟨A7, c7, rfl, _, _, _⟩ := O7.slice
            have kp7 : KP (fun k => (Value.slice A n c).ownBlock = some k) w3 w7 := KP.grown g7 fun k hk => hk
            have hnb : ¬ (Value.slice A n c).ownBlock = some b := by have := HQ.out.nel.1; rw [HN.out] at this; exact this
            have HS7 : w7.heap[b]? = some (.cells #[.int .u8 d.g, .int .u32 d.N, mv, .int .u8 d.me.n, .int .u16 d.me.l, .slice A n c, .int .i64 d.base, .int .i64 d.commit, .bool d.shut, .map (some m)] 81 (0, 0)) := (kp7.block b (heap_lt HS3) hnb).trans HS3
            refine ⟨HS7, ?_⟩
            try simp only [Act.put, List.setIfInBounds_toArray, List.set_cons_zero, List.set_cons_succ]
            refine ⟨by kernel_rfl, ?_⟩
            simp only [List.drop_succ_cons, List.drop_zero]
            have c5 := cell_of HS7 5 (.slice A n c) rfl
            have f5 := frz_row 5 HS7
            obtain ⟨n7, hn7⟩ : ∃ n7, n + (nX - th) = n7 := ⟨_, rfl⟩
            rw [hn7] at O7 f7 ⊢
            have HN7 := Lib.hid hn7
            have hn7b : n7 ≤ 400 := by omega
            have HW8 : Hid (RQ (w7.setCell ⟨b, 5, none⟩ (.slice A7 n7 c7)) b m (d.more ((LX.drop th).map Le.v)) ⟨mv, .slice A7 n7 c7, Lg ++ L3⟩ ∧ KP (FR b m lb) W (w7.setCell ⟨b, 5, none⟩ (.slice A7 n7 c7))) := Lib.hid (by
              have hll : (Lg ++ L3).length = n7 := by rw [List.length_append, HQ3.out.len, HN.out, HL3.out]; exact hn7
              have hq := HQ3.out
              have hdn : d.L.length = n := HN.out
              rw [hdn] at hq
              have := hq.grow (L2 := L3) (A' := A7) (c' := c7) kp7 (by rw [HS7]; unfold Rd.cs; rfl) (by
                rw [hll, cellsE_append]
                exact O7) (fun x hx => HX3.out.all x hx) (by rw [hdn, HL3.out]; omega)
              rw [hll, HM3.out] at this
              refine ⟨this.1, ?_⟩
              have hlb' : (Value.slice A n c).ownBlock = lb := by have := HLB.out; rw [HN.out] at this; exact this
              rw [← hlb']
              exact (KP.of_below B3.out).trans this.2 fun _ _ h => h)
            have F7 := Lib.hid f7
            have R8 : Hid ((w7.setCell ⟨b, 5, none⟩ (.slice A7 n7 c7)).heap[b]? = some (.cells #[.int .u8 d.g, .int .u32 d.N, mv, .int .u8 d.me.n, .int .u16 d.me.l, .slice A7 n7 c7, .int .i64 d.base, .int .i64 d.commit, .bool d.shut, .map (some m)] 81 (0, 0))) := Lib.hid ((row_set (i := 5) HS7 _).trans rfl)
            obtain ⟨w8, hw8⟩ : ∃ z, w7.setCell ⟨b, 5, none⟩ (.slice A7 n7 c7) = z := ⟨_, rfl⟩
            rw [hw8] at HW8 R8
            have HE8 := Lib.hid hw8
            have SZ := Lib.hid B3.out.size
            clear hw8 HS7 HS3 kp7 g7 f7 O7 hi0 hz0 hz1 hz2 hnb hn7 inv
            go_wp2_with (first
              | (rw [HE8.out])
              | fail)
            have qm1 : ∀ (W : World) (ty : TypeId), (Builtin.min_ #[3, 3] ty #[.int .i64 co, .int .i64 n7]).run Try.prog W = .ok (.int .i64 (min co n7)) W := fun W ty => by go_simp; try omega
            have qm2 : ∀ (W : World) (ty : TypeId), (Builtin.max_ #[3, 3] ty #[.int .i64 d.commit, .int .i64 (min co n7)]).run Try.prog W = .ok (.int .i64 (max d.commit (min co.toNat n7) : Nat)) W := fun W ty => by go_simp; try omega
            have ql6 : ∀ (W : World) (ty : TypeId), (Builtin.len_ #[37] ty #[.slice A7 n7 c7]).run Try.prog W = .ok (.int .i64 n7) W := fun W ty => by first | rfl | go_simp
            have R6d : Hid (w8.drew.heap[b]? = some (.cells #[.int .u8 d.g, .int .u32 d.N, mv, .int .u8 d.me.n, .int .u16 d.me.l, .slice A7 n7 c7, .int .i64 d.base, .int .i64 d.commit, .bool d.shut, .map (some m)] 81 (0, 0))) := Lib.hid R8.out
            refine region_heldT (S := fun u => u.heap[b]? = some (.cells #[.int .u8 d.g, .int .u32 d.N, mv, .int .u8 d.me.n, .int .u16 d.me.l, .slice A7 n7 c7, .int .i64 d.base, .int .i64 d.commit, .bool d.shut, .map (some m)] 81 (0, 0))) 13 (by kernel_rfl) (by decide) (fun inv => ?_)
            have HS := R6d.out
            have HQd := Lib.hid (HW8.out.1.below (Below.refl _ _).drew)
            have KPd : Hid (KP (FR b m lb) W w8.drew) := Lib.hid (HW8.out.2.trans (KP.of_below (S := FR b m lb) (Below.refl _ _).drew) fun _ _ h => h)
            change FirstH _ _ _ _ _ _ _ _ _ _ w8.drew
            generalize w8.drew = wd at *
            refine FirstH.go (i := 0) (v := .pointer (some ⟨b, 0, none⟩)) rfl rfl 71 rfl (Op.move (Operand.tmp 0)) rfl (by kernel_rfl) (fun _ _ _ h => h) inv (fun W hS => by unfold bareO; go_simp) HS (fun inv => ?_)
            try simp only [Act.put, List.setIfInBounds_toArray, List.set_cons_zero, List.set_cons_succ]
            refine FirstH.go (i := 1) (v := .pointer (some ⟨b, 0, none⟩)) rfl rfl 72 rfl (Op.move (Operand.tmp 0)) rfl (by kernel_rfl) (fun _ _ _ h => h) inv (fun W hS => by unfold bareO; go_simp) HS (fun inv => ?_)
            try simp only [Act.put, List.setIfInBounds_toArray, List.set_cons_zero, List.set_cons_succ]
            refine FirstH.go (i := 2) (v := .pointer (some ⟨b, 0, none⟩)) rfl rfl 73 rfl (Op.nilCheck (Operand.tmp 72)) rfl (by kernel_rfl) (fun _ _ _ h => h) inv (fun W hS => by unfold bareO; go_simp) HS (fun inv => ?_)
            try simp only [Act.put, List.setIfInBounds_toArray, List.set_cons_zero, List.set_cons_succ]
            refine FirstH.go (i := 3) (v := .pointer (some ⟨b, 7, none⟩)) rfl rfl 74 rfl (Op.fieldAddr 81 (Operand.tmp 73) 4) rfl (by kernel_rfl) (fun _ _ _ h => h) inv (fun W hS => by unfold bareO; go_simp) HS (fun inv => ?_)
            try simp only [Act.put, List.setIfInBounds_toArray, List.set_cons_zero, List.set_cons_succ]
            refine FirstH.go (i := 4) (v := .int .i64 d.commit) rfl rfl 75 rfl (Op.load 3 (Operand.tmp 74)) rfl (by kernel_rfl) (fun _ _ _ h => h) inv (fun W hS => by have k5 := cell_of hS 5 (.slice A7 n7 c7) rfl; have k7 := cell_of hS 7 (.int .i64 d.commit) rfl; unfold bareO; go_simp) HS (fun inv => ?_)
            try simp only [Act.put, List.setIfInBounds_toArray, List.set_cons_zero, List.set_cons_succ]
            refine FirstH.go (i := 5) (v := .int .i64 co) rfl rfl 76 rfl (Op.move (Operand.tmp 3)) rfl (by kernel_rfl) (fun _ _ _ h => h) inv (fun W hS => by unfold bareO; go_simp) HS (fun inv => ?_)
            try simp only [Act.put, List.setIfInBounds_toArray, List.set_cons_zero, List.set_cons_succ]
            refine FirstH.go (i := 6) (v := .pointer (some ⟨b, 0, none⟩)) rfl rfl 77 rfl (Op.move (Operand.tmp 0)) rfl (by kernel_rfl) (fun _ _ _ h => h) inv (fun W hS => by unfold bareO; go_simp) HS (fun inv => ?_)
            try simp only [Act.put, List.setIfInBounds_toArray, List.set_cons_zero, List.set_cons_succ]
            refine FirstH.go (i := 7) (v := .pointer (some ⟨b, 0, none⟩)) rfl rfl 78 rfl (Op.nilCheck (Operand.tmp 77)) rfl (by kernel_rfl) (fun _ _ _ h => h) inv (fun W hS => by unfold bareO; go_simp) HS (fun inv => ?_)
            try simp only [Act.put, List.setIfInBounds_toArray, List.set_cons_zero, List.set_cons_succ]
            refine FirstH.go (i := 8) (v := .pointer (some ⟨b, 5, none⟩)) rfl rfl 79 rfl (Op.fieldAddr 81 (Operand.tmp 78) 2) rfl (by kernel_rfl) (fun _ _ _ h => h) inv (fun W hS => by unfold bareO; go_simp) HS (fun inv => ?_)
            try simp only [Act.put, List.setIfInBounds_toArray, List.set_cons_zero, List.set_cons_succ]
            refine FirstH.go (i := 9) (v := .slice A7 n7 c7) rfl rfl 80 rfl (Op.load 37 (Operand.tmp 79)) rfl (by kernel_rfl) (fun _ _ _ h => h) inv (fun W hS => by have k5 := cell_of hS 5 (.slice A7 n7 c7) rfl; have k7 := cell_of hS 7 (.int .i64 d.commit) rfl; unfold bareO; go_simp) HS (fun inv => ?_)
            try simp only [Act.put, List.setIfInBounds_toArray, List.set_cons_zero, List.set_cons_succ]
            refine FirstH.go (i := 10) (v := .int .i64 n7) rfl rfl 81 rfl (Op.call { callee := Callee.builtin Builtin.len, args := #[Operand.tmp 80], argTypes := #[37] }) rfl (by kernel_rfl) (fun _ _ _ h => h) inv (fun W hS => by have q := ql6 W; unfold bareO; go_simp) HS (fun inv => ?_)
            try simp only [Act.put, List.setIfInBounds_toArray, List.set_cons_zero, List.set_cons_succ]
            refine FirstH.go (i := 11) (v := .int .i64 (min co n7)) rfl rfl 82 rfl (Op.call { callee := Callee.builtin Builtin.min, args := #[Operand.tmp 76, Operand.tmp 81], argTypes := #[3, 3] }) rfl (by kernel_rfl) (fun _ _ _ h => h) inv (fun W hS => by have q := qm1 W; unfold bareO; go_simp) HS (fun inv => ?_)
            try simp only [Act.put, List.setIfInBounds_toArray, List.set_cons_zero, List.set_cons_succ]
            refine FirstH.go (i := 12) (v := .int .i64 (max d.commit (min co.toNat n7) : Nat)) rfl rfl 83 rfl (Op.call { callee := Callee.builtin Builtin.max, args := #[Operand.tmp 75, Operand.tmp 82], argTypes := #[3, 3] }) rfl (by kernel_rfl) (fun _ _ _ h => h) inv (fun W hS => by have q := qm2 W; unfold bareO; go_simp) HS (fun inv => ?_)
            try simp only [Act.put, List.setIfInBounds_toArray, List.set_cons_zero, List.set_cons_succ]
            refine ⟨by kernel_rfl, ?_⟩
            simp only [List.drop_succ_cons, List.drop_zero]
            have f7 := frz_row 7 HS
            have k7 := cell_of HS 7 (.int .i64 d.commit) rfl
            have RZ := Lib.hid HS
            clear HS
            go_wp2
            go_ret
            have kp : KP (fun j => j = b) wd (wd.setCell ⟨b, 7, none⟩ (.int .i64 (max d.commit (min co.toNat n7) : Nat))) := KP.set (S := fun j => j = b) wd b 7 _ rfl
            have kall : KP (FR b m lb) W (wd.setCell ⟨b, 7, none⟩ (.int .i64 (max d.commit (min co.toNat n7) : Nat))) := KPd.out.trans (kp.mono fun j hj => .inl hj) fun _ _ h => h
            rw [HTK.out, HF.out, if_pos rfl]
            refine ⟨rfl, ?_⟩
            rw [HTY.out]
            refine ⟨(Value.slice A7 n7 c7).ownBlock, ⟨⟨mv, .slice A7 n7 c7, Lg ++ L3⟩, rfl, ?_⟩, kall, ?_⟩
            · have hnl : ((d.more ((LX.drop th).map Le.v)).L.length) = n7 := by
                show (d.L ++ (LX.drop th).map Le.v).length = n7
                rw [List.length_append, List.length_map, HN.out, hdl.out, HN7.out]
              refine HQd.out.set kp ?_ rfl rfl rfl rfl rfl rfl rfl rfl (by show max d.commit (min co.toNat (d.more ((LX.drop th).map Le.v)).L.length) ≤ _; have := HQd.out.hc; have e : (d.more ((LX.drop th).map Le.v)).commit = d.commit := rfl; rw [e] at this; omega)
              have := row_set (i := 7) RZ.out (.int .i64 (max d.commit (min co.toNat n7) : Nat))
              unfold Rd.cs Rd.heard
              rw [hnl]
              exact this
            · rw [← HLB.out]
              rcases F7.out with h | ⟨j, h, hj⟩
              · exact .inl (by rw [h]; rw [HN.out])
              · exact .inr ⟨j, h, Nat.le_trans SZ.out hj⟩
          · have hdt : decide ((n : Int) - fn < (nX : Int)) = false := decide_eq_false hth
            have HTY : Hid (d.takeY fn (LX.map Le.v) = d) := Lib.hid (by
              rw [HTY0.out, if_neg]
              simp
              omega)
            go_wp2_with fail
            have qm1 : ∀ (W : World) (ty : TypeId), (Builtin.min_ #[3, 3] ty #[.int .i64 co, .int .i64 n]).run Try.prog W = .ok (.int .i64 (min co n)) W := fun W ty => by go_simp; try omega
            have qm2 : ∀ (W : World) (ty : TypeId), (Builtin.max_ #[3, 3] ty #[.int .i64 d.commit, .int .i64 (min co n)]).run Try.prog W = .ok (.int .i64 (max d.commit (min co.toNat n) : Nat)) W := fun W ty => by go_simp; try omega
            have ql6 : ∀ (W : World) (ty : TypeId), (Builtin.len_ #[37] ty #[.slice A n c]).run Try.prog W = .ok (.int .i64 n) W := fun W ty => by first | rfl | go_simp
            have R6d : Hid (w1.drew.heap[b]? = some (.cells #[.int .u8 d.g, .int .u32 d.N, mv, .int .u8 d.me.n, .int .u16 d.me.l, .slice A n c, .int .i64 d.base, .int .i64 d.commit, .bool d.shut, .map (some m)] 81 (0, 0))) := Lib.hid R1.out
            refine region_heldT (S := fun u => u.heap[b]? = some (.cells #[.int .u8 d.g, .int .u32 d.N, mv, .int .u8 d.me.n, .int .u16 d.me.l, .slice A n c, .int .i64 d.base, .int .i64 d.commit, .bool d.shut, .map (some m)] 81 (0, 0))) 13 (by kernel_rfl) (by decide) (fun inv => ?_)
            have HS := R6d.out
            have HQd := Lib.hid ((HQ.out.below B1.out).below (Below.refl _ _).drew)
            have KPd : Hid (KP (FR b m lb) W w1.drew) := Lib.hid ((KP.of_below (S := FR b m lb) B1.out).trans (KP.of_below (S := FR b m lb) (Below.refl _ _).drew) fun _ _ h => h)
            change FirstH _ _ _ _ _ _ _ _ _ _ w1.drew
            generalize w1.drew = wd at *
            refine FirstH.go (i := 0) (v := .pointer (some ⟨b, 0, none⟩)) rfl rfl 71 rfl (Op.move (Operand.tmp 0)) rfl (by kernel_rfl) (fun _ _ _ h => h) inv (fun W hS => by unfold bareO; go_simp) HS (fun inv => ?_)
            try simp only [Act.put, List.setIfInBounds_toArray, List.set_cons_zero, List.set_cons_succ]
            refine FirstH.go (i := 1) (v := .pointer (some ⟨b, 0, none⟩)) rfl rfl 72 rfl (Op.move (Operand.tmp 0)) rfl (by kernel_rfl) (fun _ _ _ h => h) inv (fun W hS => by unfold bareO; go_simp) HS (fun inv => ?_)
            try simp only [Act.put, List.setIfInBounds_toArray, List.set_cons_zero, List.set_cons_succ]
            refine FirstH.go (i := 2) (v := .pointer (some ⟨b, 0, none⟩)) rfl rfl 73 rfl (Op.nilCheck (Operand.tmp 72)) rfl (by kernel_rfl) (fun _ _ _ h => h) inv (fun W hS => by unfold bareO; go_simp) HS (fun inv => ?_)
            try simp only [Act.put, List.setIfInBounds_toArray, List.set_cons_zero, List.set_cons_succ]
            refine FirstH.go (i := 3) (v := .pointer (some ⟨b, 7, none⟩)) rfl rfl 74 rfl (Op.fieldAddr 81 (Operand.tmp 73) 4) rfl (by kernel_rfl) (fun _ _ _ h => h) inv (fun W hS => by unfold bareO; go_simp) HS (fun inv => ?_)
            try simp only [Act.put, List.setIfInBounds_toArray, List.set_cons_zero, List.set_cons_succ]
            refine FirstH.go (i := 4) (v := .int .i64 d.commit) rfl rfl 75 rfl (Op.load 3 (Operand.tmp 74)) rfl (by kernel_rfl) (fun _ _ _ h => h) inv (fun W hS => by have k5 := cell_of hS 5 (.slice A n c) rfl; have k7 := cell_of hS 7 (.int .i64 d.commit) rfl; unfold bareO; go_simp) HS (fun inv => ?_)
            try simp only [Act.put, List.setIfInBounds_toArray, List.set_cons_zero, List.set_cons_succ]
            refine FirstH.go (i := 5) (v := .int .i64 co) rfl rfl 76 rfl (Op.move (Operand.tmp 3)) rfl (by kernel_rfl) (fun _ _ _ h => h) inv (fun W hS => by unfold bareO; go_simp) HS (fun inv => ?_)
            try simp only [Act.put, List.setIfInBounds_toArray, List.set_cons_zero, List.set_cons_succ]
            refine FirstH.go (i := 6) (v := .pointer (some ⟨b, 0, none⟩)) rfl rfl 77 rfl (Op.move (Operand.tmp 0)) rfl (by kernel_rfl) (fun _ _ _ h => h) inv (fun W hS => by unfold bareO; go_simp) HS (fun inv => ?_)
            try simp only [Act.put, List.setIfInBounds_toArray, List.set_cons_zero, List.set_cons_succ]
            refine FirstH.go (i := 7) (v := .pointer (some ⟨b, 0, none⟩)) rfl rfl 78 rfl (Op.nilCheck (Operand.tmp 77)) rfl (by kernel_rfl) (fun _ _ _ h => h) inv (fun W hS => by unfold bareO; go_simp) HS (fun inv => ?_)
            try simp only [Act.put, List.setIfInBounds_toArray, List.set_cons_zero, List.set_cons_succ]
            refine FirstH.go (i := 8) (v := .pointer (some ⟨b, 5, none⟩)) rfl rfl 79 rfl (Op.fieldAddr 81 (Operand.tmp 78) 2) rfl (by kernel_rfl) (fun _ _ _ h => h) inv (fun W hS => by unfold bareO; go_simp) HS (fun inv => ?_)
            try simp only [Act.put, List.setIfInBounds_toArray, List.set_cons_zero, List.set_cons_succ]
            refine FirstH.go (i := 9) (v := .slice A n c) rfl rfl 80 rfl (Op.load 37 (Operand.tmp 79)) rfl (by kernel_rfl) (fun _ _ _ h => h) inv (fun W hS => by have k5 := cell_of hS 5 (.slice A n c) rfl; have k7 := cell_of hS 7 (.int .i64 d.commit) rfl; unfold bareO; go_simp) HS (fun inv => ?_)
            try simp only [Act.put, List.setIfInBounds_toArray, List.set_cons_zero, List.set_cons_succ]
            refine FirstH.go (i := 10) (v := .int .i64 n) rfl rfl 81 rfl (Op.call { callee := Callee.builtin Builtin.len, args := #[Operand.tmp 80], argTypes := #[37] }) rfl (by kernel_rfl) (fun _ _ _ h => h) inv (fun W hS => by have q := ql6 W; unfold bareO; go_simp) HS (fun inv => ?_)
            try simp only [Act.put, List.setIfInBounds_toArray, List.set_cons_zero, List.set_cons_succ]
            refine FirstH.go (i := 11) (v := .int .i64 (min co n)) rfl rfl 82 rfl (Op.call { callee := Callee.builtin Builtin.min, args := #[Operand.tmp 76, Operand.tmp 81], argTypes := #[3, 3] }) rfl (by kernel_rfl) (fun _ _ _ h => h) inv (fun W hS => by have q := qm1 W; unfold bareO; go_simp) HS (fun inv => ?_)
            try simp only [Act.put, List.setIfInBounds_toArray, List.set_cons_zero, List.set_cons_succ]
            refine FirstH.go (i := 12) (v := .int .i64 (max d.commit (min co.toNat n) : Nat)) rfl rfl 83 rfl (Op.call { callee := Callee.builtin Builtin.max, args := #[Operand.tmp 75, Operand.tmp 82], argTypes := #[3, 3] }) rfl (by kernel_rfl) (fun _ _ _ h => h) inv (fun W hS => by have q := qm2 W; unfold bareO; go_simp) HS (fun inv => ?_)
            try simp only [Act.put, List.setIfInBounds_toArray, List.set_cons_zero, List.set_cons_succ]
            refine ⟨by kernel_rfl, ?_⟩
            simp only [List.drop_succ_cons, List.drop_zero]
            have f7 := frz_row 7 HS
            have k7 := cell_of HS 7 (.int .i64 d.commit) rfl
            have RZ := Lib.hid HS
            clear HS
            go_wp2
            go_ret
            have kp : KP (fun j => j = b) wd (wd.setCell ⟨b, 7, none⟩ (.int .i64 (max d.commit (min co.toNat n) : Nat))) := KP.set (S := fun j => j = b) wd b 7 _ rfl
            have kall : KP (FR b m lb) W (wd.setCell ⟨b, 7, none⟩ (.int .i64 (max d.commit (min co.toNat n) : Nat))) := KPd.out.trans (kp.mono fun j hj => .inl hj) fun _ _ h => h
            rw [HTK.out, HF.out, if_pos rfl]
            refine ⟨rfl, ?_⟩
            rw [HTY.out]
            refine ⟨lb, ⟨⟨mv, .slice A d.L.length c, Lg⟩, HLB.out, ?_⟩, kall, .inl rfl⟩
            refine HQd.out.set kp ?_ rfl rfl rfl rfl rfl rfl rfl rfl (by show max d.commit (min co.toNat d.L.length) ≤ d.L.length; have := HQ.out.hc; omega)
            have := row_set (i := 7) RZ.out (.int .i64 (max d.commit (min co.toNat n) : Nat))
            unfold Rd.cs Rd.heard
            rw [HN.out]
            exact this
        · have HTY : Hid (d.takeY fn (LX.map Le.v) = d) := Lib.hid (by rw [HTY0.out]; rfl)
          go_wp2_with fail
          have qm1 : ∀ (W : World) (ty : TypeId), (Builtin.min_ #[3, 3] ty #[.int .i64 co, .int .i64 n]).run Try.prog W = .ok (.int .i64 (min co n)) W := fun W ty => by go_simp; try omega
          have qm2 : ∀ (W : World) (ty : TypeId), (Builtin.max_ #[3, 3] ty #[.int .i64 d.commit, .int .i64 (min co n)]).run Try.prog W = .ok (.int .i64 (max d.commit (min co.toNat n) : Nat)) W := fun W ty => by go_simp; try omega
          have ql6 : ∀ (W : World) (ty : TypeId), (Builtin.len_ #[37] ty #[.slice A n c]).run Try.prog W = .ok (.int .i64 n) W := fun W ty => by first | rfl | go_simp
          have R6d : Hid (w1.drew.heap[b]? = some (.cells #[.int .u8 d.g, .int .u32 d.N, mv, .int .u8 d.me.n, .int .u16 d.me.l, .slice A n c, .int .i64 d.base, .int .i64 d.commit, .bool d.shut, .map (some m)] 81 (0, 0))) := Lib.hid R1.out
          refine region_heldT (S := fun u => u.heap[b]? = some (.cells #[.int .u8 d.g, .int .u32 d.N, mv, .int .u8 d.me.n, .int .u16 d.me.l, .slice A n c, .int .i64 d.base, .int .i64 d.commit, .bool d.shut, .map (some m)] 81 (0, 0))) 13 (by kernel_rfl) (by decide) (fun inv => ?_)
          have HS := R6d.out
          have HQd := Lib.hid ((HQ.out.below B1.out).below (Below.refl _ _).drew)
          have KPd : Hid (KP (FR b m lb) W w1.drew) := Lib.hid ((KP.of_below (S := FR b m lb) B1.out).trans (KP.of_below (S := FR b m lb) (Below.refl _ _).drew) fun _ _ h => h)
          change FirstH _ _ _ _ _ _ _ _ _ _ w1.drew
          generalize w1.drew = wd at *
          refine FirstH.go (i := 0) (v := .pointer (some ⟨b, 0, none⟩)) rfl rfl 71 rfl (Op.move (Operand.tmp 0)) rfl (by kernel_rfl) (fun _ _ _ h => h) inv (fun W hS => by unfold bareO; go_simp) HS (fun inv => ?_)
          try simp only [Act.put, List.setIfInBounds_toArray, List.set_cons_zero, List.set_cons_succ]
          refine FirstH.go (i := 1) (v := .pointer (some ⟨b, 0, none⟩)) rfl rfl 72 rfl (Op.move (Operand.tmp 0)) rfl (by kernel_rfl) (fun _ _ _ h => h) inv (fun W hS => by unfold bareO; go_simp) HS (fun inv => ?_)
          try simp only [Act.put, List.setIfInBounds_toArray, List.set_cons_zero, List.set_cons_succ]
          refine FirstH.go (i := 2) (v := .pointer (some ⟨b, 0, none⟩)) rfl rfl 73 rfl (Op.nilCheck (Operand.tmp 72)) rfl (by kernel_rfl) (fun _ _ _ h => h) inv (fun W hS => by unfold bareO; go_simp) HS (fun inv => ?_)
          try simp only [Act.put, List.setIfInBounds_toArray, List.set_cons_zero, List.set_cons_succ]
          refine FirstH.go (i := 3) (v := .pointer (some ⟨b, 7, none⟩)) rfl rfl 74 rfl (Op.fieldAddr 81 (Operand.tmp 73) 4) rfl (by kernel_rfl) (fun _ _ _ h => h) inv (fun W hS => by unfold bareO; go_simp) HS (fun inv => ?_)
          try simp only [Act.put, List.setIfInBounds_toArray, List.set_cons_zero, List.set_cons_succ]
          refine FirstH.go (i := 4) (v := .int .i64 d.commit) rfl rfl 75 rfl (Op.load 3 (Operand.tmp 74)) rfl (by kernel_rfl) (fun _ _ _ h => h) inv (fun W hS => by have k5 := cell_of hS 5 (.slice A n c) rfl; have k7 := cell_of hS 7 (.int .i64 d.commit) rfl; unfold bareO; go_simp) HS (fun inv => ?_)
          try simp only [Act.put, List.setIfInBounds_toArray, List.set_cons_zero, List.set_cons_succ]
          refine FirstH.go (i := 5) (v := .int .i64 co) rfl rfl 76 rfl (Op.move (Operand.tmp 3)) rfl (by kernel_rfl) (fun _ _ _ h => h) inv (fun W hS => by unfold bareO; go_simp) HS (fun inv => ?_)
          try simp only [Act.put, List.setIfInBounds_toArray, List.set_cons_zero, List.set_cons_succ]
          refine FirstH.go (i := 6) (v := .pointer (some ⟨b, 0, none⟩)) rfl rfl 77 rfl (Op.move (Operand.tmp 0)) rfl (by kernel_rfl) (fun _ _ _ h => h) inv (fun W hS => by unfold bareO; go_simp) HS (fun inv => ?_)
          try simp only [Act.put, List.setIfInBounds_toArray, List.set_cons_zero, List.set_cons_succ]
          refine FirstH.go (i := 7) (v := .pointer (some ⟨b, 0, none⟩)) rfl rfl 78 rfl (Op.nilCheck (Operand.tmp 77)) rfl (by kernel_rfl) (fun _ _ _ h => h) inv (fun W hS => by unfold bareO; go_simp) HS (fun inv => ?_)
          try simp only [Act.put, List.setIfInBounds_toArray, List.set_cons_zero, List.set_cons_succ]
          refine FirstH.go (i := 8) (v := .pointer (some ⟨b, 5, none⟩)) rfl rfl 79 rfl (Op.fieldAddr 81 (Operand.tmp 78) 2) rfl (by kernel_rfl) (fun _ _ _ h => h) inv (fun W hS => by unfold bareO; go_simp) HS (fun inv => ?_)
          try simp only [Act.put, List.setIfInBounds_toArray, List.set_cons_zero, List.set_cons_succ]
          refine FirstH.go (i := 9) (v := .slice A n c) rfl rfl 80 rfl (Op.load 37 (Operand.tmp 79)) rfl (by kernel_rfl) (fun _ _ _ h => h) inv (fun W hS => by have k5 := cell_of hS 5 (.slice A n c) rfl; have k7 := cell_of hS 7 (.int .i64 d.commit) rfl; unfold bareO; go_simp) HS (fun inv => ?_)
          try simp only [Act.put, List.setIfInBounds_toArray, List.set_cons_zero, List.set_cons_succ]
          refine FirstH.go (i := 10) (v := .int .i64 n) rfl rfl 81 rfl (Op.call { callee := Callee.builtin Builtin.len, args := #[Operand.tmp 80], argTypes := #[37] }) rfl (by kernel_rfl) (fun _ _ _ h => h) inv (fun W hS => by have q := ql6 W; unfold bareO; go_simp) HS (fun inv => ?_)
          try simp only [Act.put, List.setIfInBounds_toArray, List.set_cons_zero, List.set_cons_succ]
          refine FirstH.go (i := 11) (v := .int .i64 (min co n)) rfl rfl 82 rfl (Op.call { callee := Callee.builtin Builtin.min, args := #[Operand.tmp 76, Operand.tmp 81], argTypes := #[3, 3] }) rfl (by kernel_rfl) (fun _ _ _ h => h) inv (fun W hS => by have q := qm1 W; unfold bareO; go_simp) HS (fun inv => ?_)
          try simp only [Act.put, List.setIfInBounds_toArray, List.set_cons_zero, List.set_cons_succ]
          refine FirstH.go (i := 12) (v := .int .i64 (max d.commit (min co.toNat n) : Nat)) rfl rfl 83 rfl (Op.call { callee := Callee.builtin Builtin.max, args := #[Operand.tmp 75, Operand.tmp 82], argTypes := #[3, 3] }) rfl (by kernel_rfl) (fun _ _ _ h => h) inv (fun W hS => by have q := qm2 W; unfold bareO; go_simp) HS (fun inv => ?_)
          try simp only [Act.put, List.setIfInBounds_toArray, List.set_cons_zero, List.set_cons_succ]
          refine ⟨by kernel_rfl, ?_⟩
          simp only [List.drop_succ_cons, List.drop_zero]
          have f7 := frz_row 7 HS
          have k7 := cell_of HS 7 (.int .i64 d.commit) rfl
          have RZ := Lib.hid HS
          clear HS
          go_wp2
          go_ret
          have kp : KP (fun j => j = b) wd (wd.setCell ⟨b, 7, none⟩ (.int .i64 (max d.commit (min co.toNat n) : Nat))) := KP.set (S := fun j => j = b) wd b 7 _ rfl
          have kall : KP (FR b m lb) W (wd.setCell ⟨b, 7, none⟩ (.int .i64 (max d.commit (min co.toNat n) : Nat))) := KPd.out.trans (kp.mono fun j hj => .inl hj) fun _ _ h => h
          rw [HTK.out, HF.out, if_pos rfl]
          refine ⟨rfl, ?_⟩
          rw [HTY.out]
          refine ⟨lb, ⟨⟨mv, .slice A d.L.length c, Lg⟩, HLB.out, ?_⟩, kall, .inl rfl⟩
          refine HQd.out.set kp ?_ rfl rfl rfl rfl rfl rfl rfl rfl (by show max d.commit (min co.toNat d.L.length) ≤ d.L.length; have := HQ.out.hc; omega)
          have := row_set (i := 7) RZ.out (.int .i64 (max d.commit (min co.toNat n) : Nat))
          unfold Rd.cs Rd.heard
          rw [HN.out]
          exact this

end Go.Proofs.Ytjdmjiikpnlkjaa
