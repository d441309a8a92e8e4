/-
  A packet comes, in the law LinkOrdered: field.hear. Condition: the field lies in memory.
-/
import Derived.Test.YtnagbiicpecamaaJqf
namespace Go.Proofs.Ytnagbiicpecamaa
set_option linter.unusedSimpArgs false
set_option linter.unusedVariables false
open Go.RowKit Go.Maps Go.Sort

theorem strI : (Try.prog.info? 9).map (fun i => (i.zero, i.size, i.bytes)) = some (some (.string ⟨#[]⟩), 1, 16) := by kernel_rfl
/-- packets and bytes that lie there stay as they are. -/
def KT (W W' : World) : Prop := ∀ (g : Nat) (cu : Array Value) (t : TypeId), (t = 46 ∨ t = 5) → W.heap[g]? = some (.cells cu t (0, 0)) → W'.heap[g]? = some (.cells cu t (0, 0))
theorem KT.trans {W W1 W2 : World} (h : KT W W1) (k : KT W1 W2) : KT W W2 := fun g cu t ht hg => k g cu t ht (h g cu t ht hg)
theorem KT.of_below {W W1 : World} (h : Below W.heap.size W W1) : KT W W1 := fun g cu t ht hg => (h.block g (blt hg)).trans hg
theorem KT.rowO {W W1 : World} (h : KT W W1) {v : Value} {n : Nat} {xs : List Value} (hr : RowO W 46 8 v n xs) : RowO W1 46 8 v n xs := hr.keepB fun g hg => by
  obtain ⟨cu, hc⟩ := hr.block g hg
  exact (h g cu _ (.inl rfl) hc).trans hc.symm
theorem KT.ok {W W1 : World} (h : KT W W1) {x : Bd} (hx : x.Ok W) : x.Ok W1 := hx.keep fun g cu hc => (h g cu _ (.inr rfl) hc).trans hc.symm
/-- what is so behind it. -/
def FheR1 (base : Nat) (W : World) (x : Fa) (y : Fc) (k : Nat) (p : Hp) (W' : World) : Prop :=
  ∃ (x' : Fa) (K' : List Kr), x'.f = x.f ∧ K'.map Kr.p = (hearP y.s1 y.L1 (y.K1.map Kr.p) p).2.2.1 ∧
    Fm base W' x' { y with s1 := (hearP y.s1 y.L1 (y.K1.map Kr.p) p).1, L1 := (hearP y.s1 y.L1 (y.K1.map Kr.p) p).2.1, K1 := K', C1 := y.C1 ++ (hearP y.s1 y.L1 (y.K1.map Kr.p) p).2.2.2.map (·.2) } (k + 1) ∧ Below base W W' ∧ KT W W'
structure FhJ1 (base : Nat) (W : World) (f : Nat) (y : Fc) (k : Nat) (D : List Kr) (dv : Value) (i : Nat) (wr : World) : Prop where
  fm : ∃ x' : Fa, x'.f = f ∧ Fm base wr x' { y with C1 := y.C1 ++ (D.take i).map (fun d => d.b.B) } k
  row : RowO wr 44 1 dv D.length (bvs D)
  ok : ∀ d ∈ D, d.b.Ok wr
  bl : Below base W wr
  kt : KT W wr
set_option maxRecDepth 100000 in
set_option maxHeartbeats 4000000 in
theorem fhear1 (base : Nat) (W : World) (x : Fa) (y : Fc) (k : Nat) (h : Fm base W x y k) (p : Hp) (XA : Option Addr) (xc : Nat) (hx : OwnB W 0 XA p.B) (hxl : p.B.length ≤ 1000000) (hxc : p.B.length ≤ xc) (hxm : xc ≤ maxLen) (hq : p.seq ≤ 18446744073709551615) (hk : k < 100000) (hK : y.K1.length ≤ 1000) (hC : y.C1.length ≤ 50000) (hto : p.tn = 2) :
    Calls Try.prog 9 #[.pointer (some ⟨x.f, 0, none⟩), .agg (p.cs XA xc)] W fun e W' => e = .returned (.tuple #[]) ∧ FheR1 base W x y k p W' := by
  obtain ⟨W1, hW1⟩ : ∃ Y, W.alloc (.cells (p.cs XA xc) 46) = Y := ⟨_, rfl⟩
  have r1 : W1.heap[W.heap.size]? = some (.cells (p.cs XA xc) 46 (0, 0)) := by rw [← hW1]; exact heap_alloc_new _ _
  have bb1 : Below W.heap.size W W1 := by rw [← hW1]; exact (Below.refl _ _).alloc (Nat.le_refl _) _
  have hbs : base ≤ W.heap.size := Nat.le_trans h.hb (Nat.le_of_lt (blt h.blk))
  have J1 := Lib.hid (h.below bb1)
  have HX1 := Lib.hid (hx.keep (fun g cur _ hg => (bb1.block g (blt hg)).trans hg))
  have HXL := Lib.hid hxl
  have HXC := Lib.hid hxc
  have HXM := Lib.hid hxm
  have HQ := Lib.hid hq
  have HC := Lib.hid hk
  have HK := Lib.hid hK
  have HCC := Lib.hid hC
  have HW := Lib.hid hW1
  have R1 := Lib.hid r1
  have B1 := Lib.hid bb1
  have HBS := Lib.hid hbs
  obtain ⟨fb, b0, m0, v0, b1, m1, v1, fv, sv0, sv1, cv0, cv1⟩ := x
  have lnk := J1.out.blk
  obtain ⟨now, hnow⟩ : ∃ z, y.now = z := ⟨_, rfl⟩
  simp only [Fa.cs, hnow] at lnk
  have HNOW := Lib.hid hnow
  have LNK := Lib.hid lnk
  obtain ⟨fn, fl, tn, tl, sq, ak, hs, xB⟩ := p
  obtain ⟨xl, hxx⟩ : ∃ xl, xB.length = xl := ⟨_, rfl⟩
  simp only [Hp.cs, hxx] at r1 HW R1 ⊢
  simp only at hto
  subst hto
  have HXX := Lib.hid hxx
  have d2 := cell_of r1 2 (.int .u8 2) rfl
  clear h hx hxl hxc hxm hq hk hK hC hW1 r1 bb1 hbs lnk hnow hxx
  go_enter Try.func9, Try.ntmps9
  go_wp2_with (refine wpList_bx rfl 46 (.tmp 1) rfl 3 rfl #[.int .u8 fn, .int .u16 fl, .int .u8 2, .int .u16 tl, .int .u64 sq, .int .u64 ak, .bool hs, .slice XA xl xc] rfl ?_; rw [HW.out])
  obtain ⟨W2, hW2⟩ : ∃ Y, W1.drew = Y := ⟨_, rfl⟩
  have b2 : Below W1.heap.size W1 W2 := by rw [← hW2]; exact (Below.refl _ _).drew
  have HS : W2.heap[fb]? = some (.cells #[.pointer (some ⟨b0, 0, none⟩), .pointer (some ⟨b1, 0, none⟩), fv, sv0, sv1, cv0, cv1, .int .i64 now] 32 (0, 0)) ∧ W2.heap[W.heap.size]? = some (.cells #[.int .u8 fn, .int .u16 fl, .int .u8 2, .int .u16 tl, .int .u64 sq, .int .u64 ak, .bool hs, .slice XA xl xc] 46 (0, 0)) := ⟨(b2.block _ (blt LNK.out)).trans LNK.out, (b2.block _ (blt R1.out)).trans R1.out⟩
  have HW2 := Lib.hid hW2
  have H2 := Lib.hid HS
  have J2 := Lib.hid (J1.out.below b2)
  have HX2 := Lib.hid (HX1.out.keep (fun g cur _ hg => (b2.block g (blt hg)).trans hg))
  have B2 := Lib.hid (B1.out.trans (b2.mono B1.out.size))
  clear hW2 b2 HS d2
  refine region_heldT (S := fun X => X.heap[fb]? = some (.cells #[.pointer (some ⟨b0, 0, none⟩), .pointer (some ⟨b1, 0, none⟩), fv, sv0, sv1, cv0, cv1, .int .i64 now] 32 (0, 0)) ∧ X.heap[W.heap.size]? = some (.cells #[.int .u8 fn, .int .u16 fl, .int .u8 2, .int .u16 tl, .int .u64 sq, .int .u64 ak, .bool hs, .slice XA xl xc] 46 (0, 0))) 8 (by kernel_rfl) (by decide) (fun inv => ?_)
  change FirstH _ _ _ _ _ _ _ _ _ _ W1.drew
  rw [HW2.out]
  have HS := H2.out
  have KS := hearW _ _ _ _ _ _ _ _ _ J2.out.p1 ⟨fn, fl, 2, tl, sq, ak, hs, xB⟩ XA xc HX2.out HXL.out HXC.out HXM.out HQ.out (by have := HC.out; omega) HK.out
  simp only [Hp.cs, HXX.out] at KS
  refine FirstH.go (i := 0) (v := .pointer (some ⟨fb, 0, none⟩)) rfl rfl _ rfl _ rfl (by kernel_rfl) (fun _ _ _ h => h) inv (fun X _ => by unfold bareO; go_simp) HS (fun inv => ?_)
  try simp only [Act.put, List.setIfInBounds_toArray, List.set_cons_zero, List.set_cons_succ]
  refine FirstH.go (i := 1) (v := .int .i64 1) rfl rfl _ rfl _ rfl (by kernel_rfl) (fun _ _ _ h => h) inv (fun X _ => by unfold bareO; go_simp) HS (fun inv => ?_)
  try simp only [Act.put, List.setIfInBounds_toArray, List.set_cons_zero, List.set_cons_succ]
  refine FirstH.go (i := 2) (v := .pointer (some ⟨fb, 0, none⟩)) rfl rfl _ rfl _ rfl (by kernel_rfl) (fun _ _ _ h => h) inv (fun X _ => by unfold bareO; go_simp) HS (fun inv => ?_)
  try simp only [Act.put, List.setIfInBounds_toArray, List.set_cons_zero, List.set_cons_succ]
  refine FirstH.go (i := 3) (v := .pointer (some ⟨fb, 0, none⟩)) rfl rfl _ rfl _ rfl (by kernel_rfl) (fun _ _ _ h => h) inv (fun X _ => by unfold bareO; go_simp) HS (fun inv => ?_)
  try simp only [Act.put, List.setIfInBounds_toArray, List.set_cons_zero, List.set_cons_succ]
  refine FirstH.go (i := 4) (v := .pointer (some ⟨fb, 1, none⟩)) rfl rfl _ rfl _ rfl (by kernel_rfl) (fun _ _ _ h => h) inv (fun X _ => by unfold bareO; go_simp) HS (fun inv => ?_)
  try simp only [Act.put, List.setIfInBounds_toArray, List.set_cons_zero, List.set_cons_succ]
  refine FirstH.go (i := 5) (v := .pointer (some ⟨b1, 0, none⟩)) rfl rfl _ rfl _ rfl (by kernel_rfl) (fun _ _ _ h => h) inv (fun X hS => by have c1 := cell_of hS.1 1 (.pointer (some ⟨b1, 0, none⟩)) rfl; unfold bareO; go_simp) HS (fun inv => ?_)
  try simp only [Act.put, List.setIfInBounds_toArray, List.set_cons_zero, List.set_cons_succ]
  refine FirstH.go (i := 6) (v := .agg #[.int .u8 fn, .int .u16 fl, .int .u8 2, .int .u16 tl, .int .u64 sq, .int .u64 ak, .bool hs, .slice XA xl xc]) rfl rfl _ rfl _ rfl (by kernel_rfl) (fun _ _ _ h => h) inv (fun X hS => by have c0 := cell_of hS.2 0 (.int .u8 fn) rfl; have c1 := cell_of hS.2 1 (.int .u16 fl) rfl; have c2 := cell_of hS.2 2 (.int .u8 2) rfl; have c3 := cell_of hS.2 3 (.int .u16 tl) rfl; have c4 := cell_of hS.2 4 (.int .u64 sq) rfl; have c5 := cell_of hS.2 5 (.int .u64 ak) rfl; have c6 := cell_of hS.2 6 (.bool hs) rfl; have c7 := cell_of hS.2 7 (.slice XA xl xc) rfl; unfold bareO; go_simp) HS (fun inv => ?_)
  try simp only [Act.put, List.setIfInBounds_toArray, List.set_cons_zero, List.set_cons_succ]
  clear HS
  refine FirstH.only (i := 7) (by kernel_rfl) (by decide) inv (fun inv => wpOp_call (i := 7) rfl rfl 18 rfl _ rfl 13 #[.pointer (some ⟨b1, 0, none⟩), .agg #[.int .u8 fn, .int .u16 fl, .int .u8 2, .int .u16 tl, .int .u64 sq, .int .u64 ak, .bool hs, .slice XA xl xc]] (by unfold bareO; go_simp) KS ?_)
  rintro e W4 hr
  unfold HearR at hr
  obtain ⟨dv, v', K', D, rfl, row4, ok4, ev4, p4, ek4, ed4, k4⟩ := hr
  obtain ⟨A9, c9, rfl, hc9, hm9, hA9⟩ := (RowO.of_owns row4).slice
  obtain ⟨n9, hn9⟩ : ∃ z, D.length = z := ⟨_, rfl⟩
  rw [hn9] at row4 hc9 ⊢
  have HC9 := Lib.hid hc9
  have HA9 := Lib.hid hA9
  have HN9 := Lib.hid hn9
  clear hm9
  have r4 := (k4.block _ (blt H2.out.2) (J2.out.p1.nf H2.out.2 (by decide) (by decide))).trans H2.out.2
  have l4 := (k4.block _ (blt H2.out.1) (J2.out.p1.nf H2.out.1 (by decide) (by decide))).trans H2.out.1
  refine ⟨_, rfl, ⟨l4, r4⟩, ?_⟩
  have j4 := J2.out.link1 (Nat.le_succ _) p4 k4 (fun g hg he => J2.out.av g hg (by rw [← ev4]; exact he))
  have bl4 := (B2.out.mono HBS.out).trans (J2.out.p1.kbelow k4 (Nat.le_trans HBS.out B2.out.size))
  have kt4 : KT W W4 := (KT.of_below B2.out).trans fun g cu t ht hg => (k4.block g (blt hg) (by
    rcases ht with rfl | rfl
    · exact J2.out.p1.nf hg (by decide) (by decide)
    · exact J2.out.p1.u8 g cu hg)).trans hg
  have hd : D.map (fun d => d.b.B) = (hearP y.s1 y.L1 (y.K1.map Kr.p) ⟨fn, fl, 2, tl, sq, ak, hs, xB⟩).2.2.2.map (·.2) := by
    rw [← ed4, List.map_map]
    rfl
  have J4 := Lib.hid (FhJ1.mk (i := 0) (y := { y with s1 := (hearP y.s1 y.L1 (y.K1.map Kr.p) ⟨fn, fl, 2, tl, sq, ak, hs, xB⟩).1, L1 := (hearP y.s1 y.L1 (y.K1.map Kr.p) ⟨fn, fl, 2, tl, sq, ak, hs, xB⟩).2.1, K1 := K' }) ⟨_, rfl, by rw [List.take_zero, List.map_nil, List.append_nil]; exact j4⟩ (by rw [hn9]; exact RowO.of_owns row4) ok4 bl4 kt4)
  have EK4 := Lib.hid ek4
  have ED4 := Lib.hid hd
  have L4 := Lib.hid (⟨l4, r4⟩ : W4.heap[fb]? = some (.cells #[.pointer (some ⟨b0, 0, none⟩), .pointer (some ⟨b1, 0, none⟩), fv, sv0, sv1, cv0, cv1, .int .i64 now] 32 (0, 0)) ∧ W4.heap[W.heap.size]? = some (.cells #[.int .u8 fn, .int .u16 fl, .int .u8 2, .int .u16 tl, .int .u64 sq, .int .u64 ak, .bool hs, .slice XA xl xc] 46 (0, 0)))
  clear l4 r4 j4 bl4 kt4 hd hn9 hc9 hA9 ek4 ed4 row4 ok4 ev4 p4 k4 KS J1 HX1 R1 LNK
  try simp only [Act.put, List.setIfInBounds_toArray, List.set_cons_zero, List.set_cons_succ]
  refine ⟨by kernel_rfl, ?_⟩
  simp only [List.drop_succ_cons, List.drop_zero]
  clear inv L4 H2
  obtain ⟨y9, hy9⟩ : ∃ z : Fc, { y with s1 := (hearP y.s1 y.L1 (y.K1.map Kr.p) ⟨fn, fl, 2, tl, sq, ak, hs, xB⟩).1, L1 := (hearP y.s1 y.L1 (y.K1.map Kr.p) ⟨fn, fl, 2, tl, sq, ak, hs, xB⟩).2.1, K1 := K' } = z := ⟨_, rfl⟩
  rw [hy9] at J4
  have HY9 := Lib.hid hy9
  have HC9' : Hid (y9.C1.length ≤ 50000) := Lib.hid (by rw [← hy9]; exact HCC.out)
  have HD9 : Hid (n9 ≤ 1001) := Lib.hid (by
    have h1 := congrArg List.length ED4.out
    rw [List.length_map, List.length_map] at h1
    have h2 := hear_len y.s1 y.L1 (y.K1.map Kr.p) ⟨fn, fl, 2, tl, sq, ak, hs, xB⟩
    rw [List.length_map] at h2
    have h3 := HK.out
    have h4 := HN9.out
    omega)
  clear hy9
  go_wp2
  go_loopw [6] (fun iv wr => ∃ i : Nat, i ≤ n9 ∧ iv = .int .i64 i ∧ Hid (FhJ1 base W fb y9 k.succ D (.slice A9 n9 c9) i wr)) (fun iv _ => n9 - (intOf iv).toNat)
  case atStart => exact ⟨0, Nat.zero_le _, rfl, J4⟩
  case round =>
    obtain ⟨i, hi, rfl, J5⟩ := hrel
    clear J4
    by_cases hin : i < n9
    · have hii : (i : Int) < (n9 : Int) := by omega
      have hdl : i < D.length := by rw [HN9.out]; exact hin
      obtain ⟨d, hd⟩ : ∃ d, D[i]? = some d := ⟨_, List.getElem?_eq_getElem hdl⟩
      have okd := J5.out.ok d (List.mem_of_getElem? hd)
      obtain ⟨g9, o9, rfl⟩ : ∃ g o, A9 = some ⟨g, o, none⟩ := by
        rcases HA9.out with ⟨_, h0⟩ | h0
        · have := HC9.out
          omega
        · exact h0
      have hdx : (bvs D)[i]? = some (.slice d.b.A d.b.B.length d.b.c) := by unfold bvs Bd.v; rw [List.getElem?_map, hd]; rfl
      have row5 := J5.out.row
      rw [HN9.out] at row5
      have lt9 := row5.lt g9 rfl
      have e0 : wr.cell? ⟨g9, o9 + i, none⟩ = some (.slice d.b.A d.b.B.length d.b.c) := row5.cells i _ (by unfold bvs Bd.v; rw [List.getElem?_map, hd]; rfl)
      obtain ⟨x5, hx5, fm5⟩ := J5.out.fm
      obtain ⟨fb5, p0, q0, w0, p1, q1, w1, gv, tv0, tv1, dv0, dv1⟩ := x5
      simp only at hx5
      subst hx5
      obtain ⟨CC, hCC⟩ : ∃ z, y9.C1 ++ (D.take i).map (fun d => d.b.B) = z := ⟨_, rfl⟩
      obtain ⟨Ac, cc, e9, hcc, hmc, hAc⟩ := fm5.r3.slice
      simp only [hCC] at e9
      subst e9
      obtain ⟨nc, hnc⟩ : ∃ z, CC.length = z := ⟨_, rfl⟩
      rw [hnc] at fm5
      have hncl : nc ≤ 60000 := by
        have h1 := HC9'.out
        have h2 := HD9.out
        rw [← hnc, ← hCC, List.length_append, List.length_map, List.length_take]
        omega
      obtain ⟨nw, hnw⟩ : ∃ z, y9.now = z := ⟨_, rfl⟩
      have lnk := fm5.blk
      simp only [Fa.cs, hnw, hnc] at lnk
      obtain ⟨W5, hW5⟩ : ∃ Y, wr.drew = Y := ⟨_, rfl⟩
      have b5 : Below wr.heap.size wr W5 := by rw [← hW5]; exact (Below.refl _ _).drew
      have cv5 := conv_bytes (B := W5.heap.size) ((okd.below b5).at_.1) d.b.c
      have HS : W5.heap[fb5]? = some (.cells #[.pointer (some ⟨p0, 0, none⟩), .pointer (some ⟨p1, 0, none⟩), gv, tv0, tv1, dv0, (Value.slice Ac nc cc), .int .i64 nw] 32 (0, 0)) ∧ W5.cell? ⟨g9, o9 + i, none⟩ = some (.slice d.b.A d.b.B.length d.b.c) := ⟨(b5.block _ (blt lnk)).trans lnk, (b5.cell (p := ⟨g9, o9 + i, none⟩) lt9).trans e0⟩
      obtain ⟨bl, hbl⟩ : ∃ z, d.b.B.length = z := ⟨_, rfl⟩
      rw [hbl] at cv5 HS hdx
      obtain ⟨dA, hdA⟩ : ∃ z, d.b.A = z := ⟨_, rfl⟩
      obtain ⟨dc, hdc⟩ : ∃ z, d.b.c = z := ⟨_, rfl⟩
      obtain ⟨dB, hdB⟩ : ∃ z, d.b.B = z := ⟨_, rfl⟩
      rw [hdA, hdc, hdB] at cv5
      rw [hdA, hdc] at HS hdx
      have H5 := Lib.hid HS
      have HW5 := Lib.hid hW5
      have B5 := Lib.hid b5
      have F5 := Lib.hid (fm5.below b5)
      have R5 := Lib.hid (row5.below b5)
      have O5 : Hid (∀ d ∈ D, d.b.Ok W5) := Lib.hid fun d hd => (J5.out.ok d hd).below b5
      have HDD := Lib.hid hd
      have HDB := Lib.hid hdB
      have HDX := Lib.hid hdx
      have J5B := Lib.hid J5.out.bl
      have J5K := Lib.hid J5.out.kt
      have HCC5 := Lib.hid hCC
      have HNC := Lib.hid hnc
      have HNW := Lib.hid hnw
      clear hd hdx okd row5 e0 fm5 hcc hmc hAc lnk b5 HS hbl hdA hdc hdB hW5 hdl lt9 hCC hnc hnw
      go_wp2
      refine region_heldT (S := fun X => X.heap[fb5]? = some (.cells #[.pointer (some ⟨p0, 0, none⟩), .pointer (some ⟨p1, 0, none⟩), gv, tv0, tv1, dv0, (Value.slice Ac nc cc), .int .i64 nw] 32 (0, 0)) ∧ X.cell? ⟨g9, o9 + i, none⟩ = some (.slice dA bl dc)) 17 (by kernel_rfl) (by decide) (fun inv => ?_)
      change FirstH _ _ _ _ _ _ _ _ _ _ wr.drew
      rw [HW5.out]
      have HS := H5.out
      refine FirstH.go (i := 0) (v := .pointer (some ⟨fb5, 0, none⟩)) rfl rfl _ rfl _ rfl (by kernel_rfl) (fun _ _ _ h => h) inv (fun X _ => by unfold bareO; go_simp) HS (fun inv => ?_)
      try simp only [Act.put, List.setIfInBounds_toArray, List.set_cons_zero, List.set_cons_succ]
      refine FirstH.go (i := 1) (v := .int .i64 1) rfl rfl _ rfl _ rfl (by kernel_rfl) (fun _ _ _ h => h) inv (fun X _ => by unfold bareO; go_simp) HS (fun inv => ?_)
      try simp only [Act.put, List.setIfInBounds_toArray, List.set_cons_zero, List.set_cons_succ]
      refine FirstH.go (i := 2) (v := .pointer (some ⟨fb5, 0, none⟩)) rfl rfl _ rfl _ rfl (by kernel_rfl) (fun _ _ _ h => h) inv (fun X _ => by unfold bareO; go_simp) HS (fun inv => ?_)
      try simp only [Act.put, List.setIfInBounds_toArray, List.set_cons_zero, List.set_cons_succ]
      refine FirstH.go (i := 3) (v := .int .i64 1) rfl rfl _ rfl _ rfl (by kernel_rfl) (fun _ _ _ h => h) inv (fun X _ => by unfold bareO; go_simp) HS (fun inv => ?_)
      try simp only [Act.put, List.setIfInBounds_toArray, List.set_cons_zero, List.set_cons_succ]
      refine FirstH.go (i := 4) (v := .pointer (some ⟨fb5, 0, none⟩)) rfl rfl _ rfl _ rfl (by kernel_rfl) (fun _ _ _ h => h) inv (fun X _ => by unfold bareO; go_simp) HS (fun inv => ?_)
      try simp only [Act.put, List.setIfInBounds_toArray, List.set_cons_zero, List.set_cons_succ]
      refine FirstH.go (i := 5) (v := .pointer (some ⟨fb5, 5, none⟩)) rfl rfl _ rfl _ rfl (by kernel_rfl) (fun _ _ _ h => h) inv (fun X _ => by unfold bareO; go_simp) HS (fun inv => ?_)
      try simp only [Act.put, List.setIfInBounds_toArray, List.set_cons_zero, List.set_cons_succ]
      refine FirstH.go (i := 6) (v := .pointer (some ⟨fb5, 6, none⟩)) rfl rfl _ rfl _ rfl (by kernel_rfl) (fun _ _ _ h => h) inv (fun X _ => by unfold bareO; go_simp) HS (fun inv => ?_)
      try simp only [Act.put, List.setIfInBounds_toArray, List.set_cons_zero, List.set_cons_succ]
      refine FirstH.go (i := 7) (v := .slice Ac nc cc) rfl rfl _ rfl _ rfl (by kernel_rfl) (fun _ _ _ h => h) inv (fun X hS => by have c1 := cell_of hS.1 6 (.slice Ac nc cc) rfl; unfold bareO; go_simp) HS (fun inv => ?_)
      try simp only [Act.put, List.setIfInBounds_toArray, List.set_cons_zero, List.set_cons_succ]
      refine FirstH.go (i := 8) (v := .slice (some ⟨g9, o9, none⟩) n9 c9) rfl rfl _ rfl _ rfl (by kernel_rfl) (fun _ _ _ h => h) inv (fun X _ => by unfold bareO; go_simp) HS (fun inv => ?_)
      try simp only [Act.put, List.setIfInBounds_toArray, List.set_cons_zero, List.set_cons_succ]
      refine FirstH.go (i := 9) (v := .int .i64 i) rfl rfl _ rfl _ rfl (by kernel_rfl) (fun _ _ _ h => h) inv (fun X _ => by unfold bareO; go_simp) HS (fun inv => ?_)
      try simp only [Act.put, List.setIfInBounds_toArray, List.set_cons_zero, List.set_cons_succ]
      refine FirstH.go (i := 10) (v := .pointer (some ⟨g9, o9 + i, none⟩)) rfl rfl _ rfl _ rfl (by kernel_rfl) (fun _ _ _ h => h) inv (fun X _ => by unfold bareO; go_simp) HS (fun inv => ?_)
      try simp only [Act.put, List.setIfInBounds_toArray, List.set_cons_zero, List.set_cons_succ]
      refine FirstH.go (i := 11) (v := .slice dA bl dc) rfl rfl _ rfl _ rfl (by kernel_rfl) (fun _ _ _ h => h) inv (fun X hS => by have c1 := hS.2; unfold bareO; go_simp) HS (fun inv => ?_)
      try simp only [Act.put, List.setIfInBounds_toArray, List.set_cons_zero, List.set_cons_succ]
      refine FirstH.go (i := 15) (v := .pointer (some ⟨fb5, 0, none⟩)) rfl rfl _ rfl _ rfl (by kernel_rfl) (fun _ _ _ h => h) inv (fun X _ => by unfold bareO; go_simp) HS (fun inv => ?_)
      try simp only [Act.put, List.setIfInBounds_toArray, List.set_cons_zero, List.set_cons_succ]
      refine FirstH.go (i := 16) (v := .pointer (some ⟨fb5, 5, none⟩)) rfl rfl _ rfl _ rfl (by kernel_rfl) (fun _ _ _ h => h) inv (fun X _ => by unfold bareO; go_simp) HS (fun inv => ?_)
      try simp only [Act.put, List.setIfInBounds_toArray, List.set_cons_zero, List.set_cons_succ]
      clear HS
      refine FirstH.only (i := 12) (by kernel_rfl) (by decide) inv (fun inv => wpOp_vl (i := 12) (v := .string ⟨dB.toArray⟩) (w' := W5) rfl rfl 37 rfl _ rfl (by unfold bareO; go_simp) ?_)
      refine ⟨H5.out, ?_⟩
      try simp only [Act.put, List.setIfInBounds_toArray, List.set_cons_zero, List.set_cons_succ]
      obtain ⟨W6, hW6⟩ : ∃ Y, W5.alloc (.cells #[.string ⟨dB.toArray⟩] 9) = Y := ⟨_, rfl⟩
      have r6 : W6.heap[W5.heap.size]? = some (.cells #[.string ⟨dB.toArray⟩] 9 (0, 0)) := by rw [← hW6]; exact heap_alloc_new _ _
      have b6 : Below W5.heap.size W5 W6 := by rw [← hW6]; exact (Below.refl _ _).alloc (Nat.le_refl _) _
      have HW6 := Lib.hid hW6
      refine FirstH.only (i := 13) (by kernel_rfl) (by decide) inv (fun inv => wpOp_vl (i := 13) (v := .slice (some ⟨W5.heap.size, 0, none⟩) 1 1) (w' := W6) rfl rfl 38 rfl _ rfl (by rw [← HW6.out]; unfold bareO; go_simp) ?_)
      have l6 := (b6.block _ (blt H5.out.1)).trans H5.out.1
      have c6 := (b6.cell (p := ⟨g9, o9 + i, none⟩) (R5.out.lt g9 rfl)).trans H5.out.2
      refine ⟨⟨l6, c6⟩, ?_⟩
      have F6 := Lib.hid (F5.out.below b6)
      have Q6 := F6.out.r3
      simp only [HCC5.out, HNC.out] at Q6
      have Q6 := Lib.hid Q6
      have L6 := Lib.hid l6
      have C6 := Lib.hid c6
      have R6 := Lib.hid r6
      have B6 := Lib.hid b6
      clear hW6 r6 b6 l6 c6 cv5
      try simp only [Act.put, List.setIfInBounds_toArray, List.set_cons_zero, List.set_cons_succ]
      obtain ⟨i0, hi0, hz0, hz1, hz2⟩ := info_parts strI
      refine FirstH.only (i := 14) (by kernel_rfl) (by decide) inv (fun inv => wpOp_any rfl rfl (wp_appO 39 rfl (.tmp 32) (.tmp 38) 29 9 rfl i0 _ 1 16 Try.underlying29 hi0 hz0 hz1 hz2 rfl (by decide) (.slice Ac nc cc) nc _ rfl Q6.out ⟨W5.heap.size, 0, none⟩ 1 1 [.string ⟨dB.toArray⟩] rfl rfl (fun j u hu => by rw [addr_add, Nat.zero_add, cell_of_row _ _ j _ _ _ R6.out]; simpa using hu) (by simp [Value.oneCell']) (by decide) (by omega) (by decide) ?_))
      intro v7 W7 O7 g7 f7
      obtain ⟨A7, c7, rfl, _, _, _⟩ := O7.slice
      have k7 : KP (fun g => (Value.slice Ac nc cc).ownBlock = some g) W6 W7 := KP.grown g7 fun k hk => hk
      have R6' := R5.out.below B6.out
      have n7 : ∀ (g : Nat) (cu : Array Value) (t : TypeId), W6.heap[g]? = some (.cells cu t (0, 0)) → 9 ≠ t → ¬ (Value.slice Ac nc cc).ownBlock = some g := fun g cu t hg ht e => by
        obtain ⟨c2, h2⟩ := Q6.out.block g e
        exact apart_of h2 hg ht rfl
      have l7 := (k7.block _ (blt L6.out) (n7 _ _ _ L6.out (by decide))).trans L6.out
      have row7 : RowO W7 44 1 (.slice (some ⟨g9, o9, none⟩) n9 c9) n9 (bvs D) := R6'.keepK k7 fun g hg => by
        obtain ⟨c2, h2⟩ := R6'.block g hg
        exact n7 _ _ _ h2 (by decide)
      refine ⟨⟨l7, row7.cells i _ HDX.out⟩, ?_⟩
      obtain ⟨W8, hW8⟩ : ∃ Y, W7.setCell ⟨fb5, 6, none⟩ (.slice A7 (nc + 1) c7) = Y := ⟨_, rfl⟩
      have k8 : KP (fun g => (Value.slice Ac nc cc).ownBlock = some g ∨ g = fb5) W6 W8 := (k7.mono fun _ h => Or.inl h).trans (by rw [← hW8]; exact KP.set (S := fun g => (Value.slice Ac nc cc).ownBlock = some g ∨ g = fb5) W7 fb5 6 _ (Or.inr rfl)) fun _ _ h => h
      have hS : ∀ g, ((Value.slice Ac nc cc).ownBlock = some g ∨ g = fb5) → ∃ cu t, W6.heap[g]? = some (.cells cu t (0, 0)) ∧ t ≠ 64 ∧ t ≠ 60 ∧ t ≠ 5 := by
        rintro g (e | rfl)
        · obtain ⟨c2, h2⟩ := Q6.out.block g e
          exact ⟨c2, _, h2, by decide, by decide, by decide⟩
        · exact ⟨_, _, L6.out, by decide, by decide, by decide⟩
      have row8 : RowO W8 44 1 (.slice (some ⟨g9, o9, none⟩) n9 c9) n9 (bvs D) := row7.keepK (by rw [← hW8]; exact KP.set (S := fun g => g = fb5) W7 fb5 6 _ rfl) fun g hg e => by
        obtain ⟨c2, h2⟩ := row7.block g hg
        exact apart_of h2 l7 (by decide) e
      have O8 : RowO W8 9 1 (.slice A7 (nc + 1) c7) (nc + 1) (CC.map sv ++ [.string ⟨dB.toArray⟩]) := O7.keepK (by rw [← hW8]; exact KP.set (S := fun g => g = fb5) W7 fb5 6 _ rfl) fun g hg e => by
        obtain ⟨c2, h2⟩ := O7.block g hg
        exact apart_of h2 l7 (by decide) e
      have eC : y9.C1 ++ (D.take (i + 1)).map (fun d => d.b.B) = CC ++ [dB] := by
        rw [List.take_add_one, HDD.out, ← HCC5.out, ← HDB.out]
        simp
      have J8 : Hid (FhJ1 base W fb5 y9 k.succ D (.slice (some ⟨g9, o9, none⟩) n9 c9) (i + 1) W8) := Lib.hid ⟨⟨_, rfl, by
          rw [eC]
          have q := F6.out.cv1 (v' := .slice A7 (nc + 1) c7) (X := dB) k8 (by
            simp only [Fa.cs, HNW.out]
            rw [← hW8]
            exact (row_set l7 _).trans rfl) (by
            simp only [HCC5.out]
            rw [List.length_append, HNC.out, List.map_append]
            exact O8) f7
          simp only [HCC5.out] at q
          exact q⟩, by rw [HN9.out]; exact row8, fun d hd => ((O5.out d hd).below B6.out).offT k8 hS, (J5B.out.trans ((B5.out.trans (B6.out.mono B5.out.size)).mono (Nat.le_trans HBS.out J5B.out.size))).trans (k8.below (Nat.le_trans (Nat.le_trans HBS.out J5B.out.size) (Nat.le_trans B5.out.size B6.out.size)) (by
            rintro g (e | rfl)
            · exact F6.out.h3 g e
            · exact F6.out.hb)), ((J5K.out.trans (KT.of_below B5.out)).trans (KT.of_below B6.out)).trans fun g cu t ht hg => (k8.block g (blt hg) (by
          rintro (e | rfl)
          · obtain ⟨c2, h2⟩ := Q6.out.block g e
            exact apart_of h2 hg (by rcases ht with rfl | rfl <;> decide) rfl
          · exact apart_of L6.out hg (by rcases ht with rfl | rfl <;> decide) rfl)).trans hg⟩
      have HW8 := Lib.hid hW8
      have cs7 := cell_of l7 6 (.slice Ac nc cc) rfl
      have zs7 := frz_row 6 l7
      clear hW8 k8 hS row8 O8 eC l7 row7 R6' n7 k7 O7 g7 f7 hi0 hz0 hz1 hz2 F6 Q6 L6 C6 R6 B6 F5 R5 O5
      try simp only [Act.put, List.setIfInBounds_toArray, List.set_cons_zero, List.set_cons_succ]
      refine ⟨by kernel_rfl, ?_⟩
      simp only [List.drop_succ_cons, List.drop_zero]
      have h1001 := HD9.out
      go_wp2_with (rw [HW8.out])
      go_roundw
      case rel => exact ⟨i + 1, by omega, by go_num, J8⟩
      case measure => simp [intOf]; omega
    · obtain rfl : i = n9 := by omega
      have hii : ¬ (i : Int) < (i : Int) := by omega
      go_wp2
      refine bodyPost_end (results_none rfl _ _ _) rfl ?_
      refine ⟨rfl, ?_⟩
      obtain ⟨x5, hx5, fm5⟩ := J5.out.fm
      rw [List.take_of_length_le (by rw [HN9.out]; exact Nat.le_refl _), ED4.out, ← HY9.out] at fm5
      exact ⟨x5, K', hx5, EK4.out, fm5, J5.out.bl, J5.out.kt⟩
/-- what is so behind it. -/
def FheR0 (base : Nat) (W : World) (x : Fa) (y : Fc) (k : Nat) (p : Hp) (W' : World) : Prop :=
  ∃ (x' : Fa) (K' : List Kr), x'.f = x.f ∧ K'.map Kr.p = (hearP y.s0 y.L0 (y.K0.map Kr.p) p).2.2.1 ∧
    Fm base W' x' { y with s0 := (hearP y.s0 y.L0 (y.K0.map Kr.p) p).1, L0 := (hearP y.s0 y.L0 (y.K0.map Kr.p) p).2.1, K0 := K', C0 := y.C0 ++ (hearP y.s0 y.L0 (y.K0.map Kr.p) p).2.2.2.map (·.2) } (k + 1) ∧ Below base W W' ∧ KT W W'
structure FhJ0 (base : Nat) (W : World) (f : Nat) (y : Fc) (k : Nat) (D : List Kr) (dv : Value) (i : Nat) (wr : World) : Prop where
  fm : ∃ x' : Fa, x'.f = f ∧ Fm base wr x' { y with C0 := y.C0 ++ (D.take i).map (fun d => d.b.B) } k
  row : RowO wr 44 1 dv D.length (bvs D)
  ok : ∀ d ∈ D, d.b.Ok wr
  bl : Below base W wr
  kt : KT W wr
set_option maxRecDepth 100000 in
set_option maxHeartbeats 4000000 in
theorem fhear0 (base : Nat) (W : World) (x : Fa) (y : Fc) (k : Nat) (h : Fm base W x y k) (p : Hp) (XA : Option Addr) (xc : Nat) (hx : OwnB W 0 XA p.B) (hxl : p.B.length ≤ 1000000) (hxc : p.B.length ≤ xc) (hxm : xc ≤ maxLen) (hq : p.seq ≤ 18446744073709551615) (hk : k < 100000) (hK : y.K0.length ≤ 1000) (hC : y.C0.length ≤ 50000) (hto : ¬ p.tn = 2) :
    Calls Try.prog 9 #[.pointer (some ⟨x.f, 0, none⟩), .agg (p.cs XA xc)] W fun e W' => e = .returned (.tuple #[]) ∧ FheR0 base W x y k p W' := by
  obtain ⟨W1, hW1⟩ : ∃ Y, W.alloc (.cells (p.cs XA xc) 46) = Y := ⟨_, rfl⟩
  have r1 : W1.heap[W.heap.size]? = some (.cells (p.cs XA xc) 46 (0, 0)) := by rw [← hW1]; exact heap_alloc_new _ _
  have bb1 : Below W.heap.size W W1 := by rw [← hW1]; exact (Below.refl _ _).alloc (Nat.le_refl _) _
  have hbs : base ≤ W.heap.size := Nat.le_trans h.hb (Nat.le_of_lt (blt h.blk))
  have J1 := Lib.hid (h.below bb1)
  have HX1 := Lib.hid (hx.keep (fun g cur _ hg => (bb1.block g (blt hg)).trans hg))
  have HXL := Lib.hid hxl
  have HXC := Lib.hid hxc
  have HXM := Lib.hid hxm
  have HQ := Lib.hid hq
  have HC := Lib.hid hk
  have HK := Lib.hid hK
  have HCC := Lib.hid hC
  have HW := Lib.hid hW1
  have R1 := Lib.hid r1
  have B1 := Lib.hid bb1
  have HBS := Lib.hid hbs
  obtain ⟨fb, b0, m0, v0, b1, m1, v1, fv, sv0, sv1, cv0, cv1⟩ := x
  have lnk := J1.out.blk
  obtain ⟨now, hnow⟩ : ∃ z, y.now = z := ⟨_, rfl⟩
  simp only [Fa.cs, hnow] at lnk
  have HNOW := Lib.hid hnow
  have LNK := Lib.hid lnk
  obtain ⟨fn, fl, tn, tl, sq, ak, hs, xB⟩ := p
  obtain ⟨xl, hxx⟩ : ∃ xl, xB.length = xl := ⟨_, rfl⟩
  simp only [Hp.cs, hxx] at r1 HW R1 ⊢
  simp only at hto
  have hto1 : (tn == 2) = false := by simpa using hto
  have HXX := Lib.hid hxx
  have d2 := cell_of r1 2 (.int .u8 tn) rfl
  clear h hx hxl hxc hxm hq hk hK hC hW1 r1 bb1 hbs lnk hnow hxx
  go_enter Try.func9, Try.ntmps9
  go_wp2_with (refine wpList_bx rfl 46 (.tmp 1) rfl 3 rfl #[.int .u8 fn, .int .u16 fl, .int .u8 tn, .int .u16 tl, .int .u64 sq, .int .u64 ak, .bool hs, .slice XA xl xc] rfl ?_; rw [HW.out])
  obtain ⟨W2, hW2⟩ : ∃ Y, W1.drew = Y := ⟨_, rfl⟩
  have b2 : Below W1.heap.size W1 W2 := by rw [← hW2]; exact (Below.refl _ _).drew
  have HS : W2.heap[fb]? = some (.cells #[.pointer (some ⟨b0, 0, none⟩), .pointer (some ⟨b1, 0, none⟩), fv, sv0, sv1, cv0, cv1, .int .i64 now] 32 (0, 0)) ∧ W2.heap[W.heap.size]? = some (.cells #[.int .u8 fn, .int .u16 fl, .int .u8 tn, .int .u16 tl, .int .u64 sq, .int .u64 ak, .bool hs, .slice XA xl xc] 46 (0, 0)) := ⟨(b2.block _ (blt LNK.out)).trans LNK.out, (b2.block _ (blt R1.out)).trans R1.out⟩
  have HW2 := Lib.hid hW2
  have H2 := Lib.hid HS
  have J2 := Lib.hid (J1.out.below b2)
  have HX2 := Lib.hid (HX1.out.keep (fun g cur _ hg => (b2.block g (blt hg)).trans hg))
  have B2 := Lib.hid (B1.out.trans (b2.mono B1.out.size))
  clear hW2 b2 HS d2
  refine region_heldT (S := fun X => X.heap[fb]? = some (.cells #[.pointer (some ⟨b0, 0, none⟩), .pointer (some ⟨b1, 0, none⟩), fv, sv0, sv1, cv0, cv1, .int .i64 now] 32 (0, 0)) ∧ X.heap[W.heap.size]? = some (.cells #[.int .u8 fn, .int .u16 fl, .int .u8 tn, .int .u16 tl, .int .u64 sq, .int .u64 ak, .bool hs, .slice XA xl xc] 46 (0, 0))) 8 (by kernel_rfl) (by decide) (fun inv => ?_)
  change FirstH _ _ _ _ _ _ _ _ _ _ W1.drew
  rw [HW2.out]
  have HS := H2.out
  have KS := hearW _ _ _ _ _ _ _ _ _ J2.out.p0 ⟨fn, fl, tn, tl, sq, ak, hs, xB⟩ XA xc HX2.out HXL.out HXC.out HXM.out HQ.out (by have := HC.out; omega) HK.out
  simp only [Hp.cs, HXX.out] at KS
  refine FirstH.go (i := 0) (v := .pointer (some ⟨fb, 0, none⟩)) rfl rfl _ rfl _ rfl (by kernel_rfl) (fun _ _ _ h => h) inv (fun X _ => by unfold bareO; go_simp) HS (fun inv => ?_)
  try simp only [Act.put, List.setIfInBounds_toArray, List.set_cons_zero, List.set_cons_succ]
  refine FirstH.go (i := 1) (v := .int .i64 0) rfl rfl _ rfl _ rfl (by kernel_rfl) (fun _ _ _ h => h) inv (fun X _ => by unfold bareO; go_simp) HS (fun inv => ?_)
  try simp only [Act.put, List.setIfInBounds_toArray, List.set_cons_zero, List.set_cons_succ]
  refine FirstH.go (i := 2) (v := .pointer (some ⟨fb, 0, none⟩)) rfl rfl _ rfl _ rfl (by kernel_rfl) (fun _ _ _ h => h) inv (fun X _ => by unfold bareO; go_simp) HS (fun inv => ?_)
  try simp only [Act.put, List.setIfInBounds_toArray, List.set_cons_zero, List.set_cons_succ]
  refine FirstH.go (i := 3) (v := .pointer (some ⟨fb, 0, none⟩)) rfl rfl _ rfl _ rfl (by kernel_rfl) (fun _ _ _ h => h) inv (fun X _ => by unfold bareO; go_simp) HS (fun inv => ?_)
  try simp only [Act.put, List.setIfInBounds_toArray, List.set_cons_zero, List.set_cons_succ]
  refine FirstH.go (i := 4) (v := .pointer (some ⟨fb, 0, none⟩)) rfl rfl _ rfl _ rfl (by kernel_rfl) (fun _ _ _ h => h) inv (fun X _ => by unfold bareO; go_simp) HS (fun inv => ?_)
  try simp only [Act.put, List.setIfInBounds_toArray, List.set_cons_zero, List.set_cons_succ]
  refine FirstH.go (i := 5) (v := .pointer (some ⟨b0, 0, none⟩)) rfl rfl _ rfl _ rfl (by kernel_rfl) (fun _ _ _ h => h) inv (fun X hS => by have c1 := cell_of hS.1 0 (.pointer (some ⟨b0, 0, none⟩)) rfl; unfold bareO; go_simp) HS (fun inv => ?_)
  try simp only [Act.put, List.setIfInBounds_toArray, List.set_cons_zero, List.set_cons_succ]
  refine FirstH.go (i := 6) (v := .agg #[.int .u8 fn, .int .u16 fl, .int .u8 tn, .int .u16 tl, .int .u64 sq, .int .u64 ak, .bool hs, .slice XA xl xc]) rfl rfl _ rfl _ rfl (by kernel_rfl) (fun _ _ _ h => h) inv (fun X hS => by have c0 := cell_of hS.2 0 (.int .u8 fn) rfl; have c1 := cell_of hS.2 1 (.int .u16 fl) rfl; have c2 := cell_of hS.2 2 (.int .u8 tn) rfl; have c3 := cell_of hS.2 3 (.int .u16 tl) rfl; have c4 := cell_of hS.2 4 (.int .u64 sq) rfl; have c5 := cell_of hS.2 5 (.int .u64 ak) rfl; have c6 := cell_of hS.2 6 (.bool hs) rfl; have c7 := cell_of hS.2 7 (.slice XA xl xc) rfl; unfold bareO; go_simp) HS (fun inv => ?_)
  try simp only [Act.put, List.setIfInBounds_toArray, List.set_cons_zero, List.set_cons_succ]
  clear HS
  refine FirstH.only (i := 7) (by kernel_rfl) (by decide) inv (fun inv => wpOp_call (i := 7) rfl rfl 18 rfl _ rfl 13 #[.pointer (some ⟨b0, 0, none⟩), .agg #[.int .u8 fn, .int .u16 fl, .int .u8 tn, .int .u16 tl, .int .u64 sq, .int .u64 ak, .bool hs, .slice XA xl xc]] (by unfold bareO; go_simp) KS ?_)
  rintro e W4 hr
  unfold HearR at hr
  obtain ⟨dv, v', K', D, rfl, row4, ok4, ev4, p4, ek4, ed4, k4⟩ := hr
  obtain ⟨A9, c9, rfl, hc9, hm9, hA9⟩ := (RowO.of_owns row4).slice
  obtain ⟨n9, hn9⟩ : ∃ z, D.length = z := ⟨_, rfl⟩
  rw [hn9] at row4 hc9 ⊢
  have HC9 := Lib.hid hc9
  have HA9 := Lib.hid hA9
  have HN9 := Lib.hid hn9
  clear hm9
  have r4 := (k4.block _ (blt H2.out.2) (J2.out.p0.nf H2.out.2 (by decide) (by decide))).trans H2.out.2
  have l4 := (k4.block _ (blt H2.out.1) (J2.out.p0.nf H2.out.1 (by decide) (by decide))).trans H2.out.1
  refine ⟨_, rfl, ⟨l4, r4⟩, ?_⟩
  have j4 := J2.out.link0 (Nat.le_succ _) p4 k4 (fun g hg => J2.out.av g (by rw [← ev4]; exact hg))
  have bl4 := (B2.out.mono HBS.out).trans (J2.out.p0.kbelow k4 (Nat.le_trans HBS.out B2.out.size))
  have kt4 : KT W W4 := (KT.of_below B2.out).trans fun g cu t ht hg => (k4.block g (blt hg) (by
    rcases ht with rfl | rfl
    · exact J2.out.p0.nf hg (by decide) (by decide)
    · exact J2.out.p0.u8 g cu hg)).trans hg
  have hd : D.map (fun d => d.b.B) = (hearP y.s0 y.L0 (y.K0.map Kr.p) ⟨fn, fl, tn, tl, sq, ak, hs, xB⟩).2.2.2.map (·.2) := by
    rw [← ed4, List.map_map]
    rfl
  have J4 := Lib.hid (FhJ0.mk (i := 0) (y := { y with s0 := (hearP y.s0 y.L0 (y.K0.map Kr.p) ⟨fn, fl, tn, tl, sq, ak, hs, xB⟩).1, L0 := (hearP y.s0 y.L0 (y.K0.map Kr.p) ⟨fn, fl, tn, tl, sq, ak, hs, xB⟩).2.1, K0 := K' }) ⟨_, rfl, by rw [List.take_zero, List.map_nil, List.append_nil]; exact j4⟩ (by rw [hn9]; exact RowO.of_owns row4) ok4 bl4 kt4)
  have EK4 := Lib.hid ek4
  have ED4 := Lib.hid hd
  have L4 := Lib.hid (⟨l4, r4⟩ : W4.heap[fb]? = some (.cells #[.pointer (some ⟨b0, 0, none⟩), .pointer (some ⟨b1, 0, none⟩), fv, sv0, sv1, cv0, cv1, .int .i64 now] 32 (0, 0)) ∧ W4.heap[W.heap.size]? = some (.cells #[.int .u8 fn, .int .u16 fl, .int .u8 tn, .int .u16 tl, .int .u64 sq, .int .u64 ak, .bool hs, .slice XA xl xc] 46 (0, 0)))
  clear l4 r4 j4 bl4 kt4 hd hn9 hc9 hA9 ek4 ed4 row4 ok4 ev4 p4 k4 KS J1 HX1 R1 LNK
  try simp only [Act.put, List.setIfInBounds_toArray, List.set_cons_zero, List.set_cons_succ]
  refine ⟨by kernel_rfl, ?_⟩
  simp only [List.drop_succ_cons, List.drop_zero]
  clear inv L4 H2
  obtain ⟨y9, hy9⟩ : ∃ z : Fc, { y with s0 := (hearP y.s0 y.L0 (y.K0.map Kr.p) ⟨fn, fl, tn, tl, sq, ak, hs, xB⟩).1, L0 := (hearP y.s0 y.L0 (y.K0.map Kr.p) ⟨fn, fl, tn, tl, sq, ak, hs, xB⟩).2.1, K0 := K' } = z := ⟨_, rfl⟩
  rw [hy9] at J4
  have HY9 := Lib.hid hy9
  have HC9' : Hid (y9.C0.length ≤ 50000) := Lib.hid (by rw [← hy9]; exact HCC.out)
  have HD9 : Hid (n9 ≤ 1001) := Lib.hid (by
    have h1 := congrArg List.length ED4.out
    rw [List.length_map, List.length_map] at h1
    have h2 := hear_len y.s0 y.L0 (y.K0.map Kr.p) ⟨fn, fl, tn, tl, sq, ak, hs, xB⟩
    rw [List.length_map] at h2
    have h3 := HK.out
    have h4 := HN9.out
    omega)
  clear hy9
  go_wp2
  go_loopw [6] (fun iv wr => ∃ i : Nat, i ≤ n9 ∧ iv = .int .i64 i ∧ Hid (FhJ0 base W fb y9 k.succ D (.slice A9 n9 c9) i wr)) (fun iv _ => n9 - (intOf iv).toNat)
  case atStart => exact ⟨0, Nat.zero_le _, rfl, J4⟩
  case round =>
    obtain ⟨i, hi, rfl, J5⟩ := hrel
    clear J4
    by_cases hin : i < n9
    · have hii : (i : Int) < (n9 : Int) := by omega
      have hdl : i < D.length := by rw [HN9.out]; exact hin
      obtain ⟨d, hd⟩ : ∃ d, D[i]? = some d := ⟨_, List.getElem?_eq_getElem hdl⟩
      have okd := J5.out.ok d (List.mem_of_getElem? hd)
      obtain ⟨g9, o9, rfl⟩ : ∃ g o, A9 = some ⟨g, o, none⟩ := by
        rcases HA9.out with ⟨_, h0⟩ | h0
        · have := HC9.out
          omega
        · exact h0
      have hdx : (bvs D)[i]? = some (.slice d.b.A d.b.B.length d.b.c) := by unfold bvs Bd.v; rw [List.getElem?_map, hd]; rfl
      have row5 := J5.out.row
      rw [HN9.out] at row5
      have lt9 := row5.lt g9 rfl
      have e0 : wr.cell? ⟨g9, o9 + i, none⟩ = some (.slice d.b.A d.b.B.length d.b.c) := row5.cells i _ (by unfold bvs Bd.v; rw [List.getElem?_map, hd]; rfl)
      obtain ⟨x5, hx5, fm5⟩ := J5.out.fm
      obtain ⟨fb5, p0, q0, w0, p1, q1, w1, gv, tv0, tv1, dv0, dv1⟩ := x5
      simp only at hx5
      subst hx5
      obtain ⟨CC, hCC⟩ : ∃ z, y9.C0 ++ (D.take i).map (fun d => d.b.B) = z := ⟨_, rfl⟩
      obtain ⟨Ac, cc, e9, hcc, hmc, hAc⟩ := fm5.r2.slice
      simp only [hCC] at e9
      subst e9
      obtain ⟨nc, hnc⟩ : ∃ z, CC.length = z := ⟨_, rfl⟩
      rw [hnc] at fm5
      have hncl : nc ≤ 60000 := by
        have h1 := HC9'.out
        have h2 := HD9.out
        rw [← hnc, ← hCC, List.length_append, List.length_map, List.length_take]
        omega
      obtain ⟨nw, hnw⟩ : ∃ z, y9.now = z := ⟨_, rfl⟩
      have lnk := fm5.blk
      simp only [Fa.cs, hnw, hnc] at lnk
      obtain ⟨W5, hW5⟩ : ∃ Y, wr.drew = Y := ⟨_, rfl⟩
      have b5 : Below wr.heap.size wr W5 := by rw [← hW5]; exact (Below.refl _ _).drew
      have cv5 := conv_bytes (B := W5.heap.size) ((okd.below b5).at_.1) d.b.c
      have HS : W5.heap[fb5]? = some (.cells #[.pointer (some ⟨p0, 0, none⟩), .pointer (some ⟨p1, 0, none⟩), gv, tv0, tv1, (Value.slice Ac nc cc), dv1, .int .i64 nw] 32 (0, 0)) ∧ W5.cell? ⟨g9, o9 + i, none⟩ = some (.slice d.b.A d.b.B.length d.b.c) := ⟨(b5.block _ (blt lnk)).trans lnk, (b5.cell (p := ⟨g9, o9 + i, none⟩) lt9).trans e0⟩
      obtain ⟨bl, hbl⟩ : ∃ z, d.b.B.length = z := ⟨_, rfl⟩
      rw [hbl] at cv5 HS hdx
      obtain ⟨dA, hdA⟩ : ∃ z, d.b.A = z := ⟨_, rfl⟩
      obtain ⟨dc, hdc⟩ : ∃ z, d.b.c = z := ⟨_, rfl⟩
      obtain ⟨dB, hdB⟩ : ∃ z, d.b.B = z := ⟨_, rfl⟩
      rw [hdA, hdc, hdB] at cv5
      rw [hdA, hdc] at HS hdx
      have H5 := Lib.hid HS
      have HW5 := Lib.hid hW5
      have B5 := Lib.hid b5
      have F5 := Lib.hid (fm5.below b5)
      have R5 := Lib.hid (row5.below b5)
      have O5 : Hid (∀ d ∈ D, d.b.Ok W5) := Lib.hid fun d hd => (J5.out.ok d hd).below b5
      have HDD := Lib.hid hd
      have HDB := Lib.hid hdB
      have HDX := Lib.hid hdx
      have J5B := Lib.hid J5.out.bl
      have J5K := Lib.hid J5.out.kt
      have HCC5 := Lib.hid hCC
      have HNC := Lib.hid hnc
      have HNW := Lib.hid hnw
      clear hd hdx okd row5 e0 fm5 hcc hmc hAc lnk b5 HS hbl hdA hdc hdB hW5 hdl lt9 hCC hnc hnw
      go_wp2
      refine region_heldT (S := fun X => X.heap[fb5]? = some (.cells #[.pointer (some ⟨p0, 0, none⟩), .pointer (some ⟨p1, 0, none⟩), gv, tv0, tv1, (Value.slice Ac nc cc), dv1, .int .i64 nw] 32 (0, 0)) ∧ X.cell? ⟨g9, o9 + i, none⟩ = some (.slice dA bl dc)) 17 (by kernel_rfl) (by decide) (fun inv => ?_)
      change FirstH _ _ _ _ _ _ _ _ _ _ wr.drew
      rw [HW5.out]
      have HS := H5.out
      refine FirstH.go (i := 0) (v := .pointer (some ⟨fb5, 0, none⟩)) rfl rfl _ rfl _ rfl (by kernel_rfl) (fun _ _ _ h => h) inv (fun X _ => by unfold bareO; go_simp) HS (fun inv => ?_)
      try simp only [Act.put, List.setIfInBounds_toArray, List.set_cons_zero, List.set_cons_succ]
      refine FirstH.go (i := 1) (v := .int .i64 0) rfl rfl _ rfl _ rfl (by kernel_rfl) (fun _ _ _ h => h) inv (fun X _ => by unfold bareO; go_simp) HS (fun inv => ?_)
      try simp only [Act.put, List.setIfInBounds_toArray, List.set_cons_zero, List.set_cons_succ]
      refine FirstH.go (i := 2) (v := .pointer (some ⟨fb5, 0, none⟩)) rfl rfl _ rfl _ rfl (by kernel_rfl) (fun _ _ _ h => h) inv (fun X _ => by unfold bareO; go_simp) HS (fun inv => ?_)
      try simp only [Act.put, List.setIfInBounds_toArray, List.set_cons_zero, List.set_cons_succ]
      refine FirstH.go (i := 3) (v := .int .i64 0) rfl rfl _ rfl _ rfl (by kernel_rfl) (fun _ _ _ h => h) inv (fun X _ => by unfold bareO; go_simp) HS (fun inv => ?_)
      try simp only [Act.put, List.setIfInBounds_toArray, List.set_cons_zero, List.set_cons_succ]
      refine FirstH.go (i := 4) (v := .pointer (some ⟨fb5, 0, none⟩)) rfl rfl _ rfl _ rfl (by kernel_rfl) (fun _ _ _ h => h) inv (fun X _ => by unfold bareO; go_simp) HS (fun inv => ?_)
      try simp only [Act.put, List.setIfInBounds_toArray, List.set_cons_zero, List.set_cons_succ]
      refine FirstH.go (i := 5) (v := .pointer (some ⟨fb5, 5, none⟩)) rfl rfl _ rfl _ rfl (by kernel_rfl) (fun _ _ _ h => h) inv (fun X _ => by unfold bareO; go_simp) HS (fun inv => ?_)
      try simp only [Act.put, List.setIfInBounds_toArray, List.set_cons_zero, List.set_cons_succ]
      refine FirstH.go (i := 6) (v := .pointer (some ⟨fb5, 5, none⟩)) rfl rfl _ rfl _ rfl (by kernel_rfl) (fun _ _ _ h => h) inv (fun X _ => by unfold bareO; go_simp) HS (fun inv => ?_)
      try simp only [Act.put, List.setIfInBounds_toArray, List.set_cons_zero, List.set_cons_succ]
      refine FirstH.go (i := 7) (v := .slice Ac nc cc) rfl rfl _ rfl _ rfl (by kernel_rfl) (fun _ _ _ h => h) inv (fun X hS => by have c1 := cell_of hS.1 5 (.slice Ac nc cc) rfl; unfold bareO; go_simp) HS (fun inv => ?_)
      try simp only [Act.put, List.setIfInBounds_toArray, List.set_cons_zero, List.set_cons_succ]
      refine FirstH.go (i := 8) (v := .slice (some ⟨g9, o9, none⟩) n9 c9) rfl rfl _ rfl _ rfl (by kernel_rfl) (fun _ _ _ h => h) inv (fun X _ => by unfold bareO; go_simp) HS (fun inv => ?_)
      try simp only [Act.put, List.setIfInBounds_toArray, List.set_cons_zero, List.set_cons_succ]
      refine FirstH.go (i := 9) (v := .int .i64 i) rfl rfl _ rfl _ rfl (by kernel_rfl) (fun _ _ _ h => h) inv (fun X _ => by unfold bareO; go_simp) HS (fun inv => ?_)
      try simp only [Act.put, List.setIfInBounds_toArray, List.set_cons_zero, List.set_cons_succ]
      refine FirstH.go (i := 10) (v := .pointer (some ⟨g9, o9 + i, none⟩)) rfl rfl _ rfl _ rfl (by kernel_rfl) (fun _ _ _ h => h) inv (fun X _ => by unfold bareO; go_simp) HS (fun inv => ?_)
      try simp only [Act.put, List.setIfInBounds_toArray, List.set_cons_zero, List.set_cons_succ]
      refine FirstH.go (i := 11) (v := .slice dA bl dc) rfl rfl _ rfl _ rfl (by kernel_rfl) (fun _ _ _ h => h) inv (fun X hS => by have c1 := hS.2; unfold bareO; go_simp) HS (fun inv => ?_)
      try simp only [Act.put, List.setIfInBounds_toArray, List.set_cons_zero, List.set_cons_succ]
      refine FirstH.go (i := 15) (v := .pointer (some ⟨fb5, 0, none⟩)) rfl rfl _ rfl _ rfl (by kernel_rfl) (fun _ _ _ h => h) inv (fun X _ => by unfold bareO; go_simp) HS (fun inv => ?_)
      try simp only [Act.put, List.setIfInBounds_toArray, List.set_cons_zero, List.set_cons_succ]
      refine FirstH.go (i := 16) (v := .pointer (some ⟨fb5, 5, none⟩)) rfl rfl _ rfl _ rfl (by kernel_rfl) (fun _ _ _ h => h) inv (fun X _ => by unfold bareO; go_simp) HS (fun inv => ?_)
      try simp only [Act.put, List.setIfInBounds_toArray, List.set_cons_zero, List.set_cons_succ]
      clear HS
      refine FirstH.only (i := 12) (by kernel_rfl) (by decide) inv (fun inv => wpOp_vl (i := 12) (v := .string ⟨dB.toArray⟩) (w' := W5) rfl rfl 37 rfl _ rfl (by unfold bareO; go_simp) ?_)
      refine ⟨H5.out, ?_⟩
      try simp only [Act.put, List.setIfInBounds_toArray, List.set_cons_zero, List.set_cons_succ]
      obtain ⟨W6, hW6⟩ : ∃ Y, W5.alloc (.cells #[.string ⟨dB.toArray⟩] 9) = Y := ⟨_, rfl⟩
      have r6 : W6.heap[W5.heap.size]? = some (.cells #[.string ⟨dB.toArray⟩] 9 (0, 0)) := by rw [← hW6]; exact heap_alloc_new _ _
      have b6 : Below W5.heap.size W5 W6 := by rw [← hW6]; exact (Below.refl _ _).alloc (Nat.le_refl _) _
      have HW6 := Lib.hid hW6
      refine FirstH.only (i := 13) (by kernel_rfl) (by decide) inv (fun inv => wpOp_vl (i := 13) (v := .slice (some ⟨W5.heap.size, 0, none⟩) 1 1) (w' := W6) rfl rfl 38 rfl _ rfl (by rw [← HW6.out]; unfold bareO; go_simp) ?_)
      have l6 := (b6.block _ (blt H5.out.1)).trans H5.out.1
      have c6 := (b6.cell (p := ⟨g9, o9 + i, none⟩) (R5.out.lt g9 rfl)).trans H5.out.2
      refine ⟨⟨l6, c6⟩, ?_⟩
      have F6 := Lib.hid (F5.out.below b6)
      have Q6 := F6.out.r2
      simp only [HCC5.out, HNC.out] at Q6
      have Q6 := Lib.hid Q6
      have L6 := Lib.hid l6
      have C6 := Lib.hid c6
      have R6 := Lib.hid r6
      have B6 := Lib.hid b6
      clear hW6 r6 b6 l6 c6 cv5
      try simp only [Act.put, List.setIfInBounds_toArray, List.set_cons_zero, List.set_cons_succ]
      obtain ⟨i0, hi0, hz0, hz1, hz2⟩ := info_parts strI
      refine FirstH.only (i := 14) (by kernel_rfl) (by decide) inv (fun inv => wpOp_any rfl rfl (wp_appO 39 rfl (.tmp 32) (.tmp 38) 29 9 rfl i0 _ 1 16 Try.underlying29 hi0 hz0 hz1 hz2 rfl (by decide) (.slice Ac nc cc) nc _ rfl Q6.out ⟨W5.heap.size, 0, none⟩ 1 1 [.string ⟨dB.toArray⟩] rfl rfl (fun j u hu => by rw [addr_add, Nat.zero_add, cell_of_row _ _ j _ _ _ R6.out]; simpa using hu) (by simp [Value.oneCell']) (by decide) (by omega) (by decide) ?_))
      intro v7 W7 O7 g7 f7
      obtain ⟨A7, c7, rfl, _, _, _⟩ := O7.slice
      have k7 : KP (fun g => (Value.slice Ac nc cc).ownBlock = some g) W6 W7 := KP.grown g7 fun k hk => hk
      have R6' := R5.out.below B6.out
      have n7 : ∀ (g : Nat) (cu : Array Value) (t : TypeId), W6.heap[g]? = some (.cells cu t (0, 0)) → 9 ≠ t → ¬ (Value.slice Ac nc cc).ownBlock = some g := fun g cu t hg ht e => by
        obtain ⟨c2, h2⟩ := Q6.out.block g e
        exact apart_of h2 hg ht rfl
      have l7 := (k7.block _ (blt L6.out) (n7 _ _ _ L6.out (by decide))).trans L6.out
      have row7 : RowO W7 44 1 (.slice (some ⟨g9, o9, none⟩) n9 c9) n9 (bvs D) := R6'.keepK k7 fun g hg => by
        obtain ⟨c2, h2⟩ := R6'.block g hg
        exact n7 _ _ _ h2 (by decide)
      refine ⟨⟨l7, row7.cells i _ HDX.out⟩, ?_⟩
      obtain ⟨W8, hW8⟩ : ∃ Y, W7.setCell ⟨fb5, 5, none⟩ (.slice A7 (nc + 1) c7) = Y := ⟨_, rfl⟩
      have k8 : KP (fun g => (Value.slice Ac nc cc).ownBlock = some g ∨ g = fb5) W6 W8 := (k7.mono fun _ h => Or.inl h).trans (by rw [← hW8]; exact KP.set (S := fun g => (Value.slice Ac nc cc).ownBlock = some g ∨ g = fb5) W7 fb5 5 _ (Or.inr rfl)) fun _ _ h => h
      have hS : ∀ g, ((Value.slice Ac nc cc).ownBlock = some g ∨ g = fb5) → ∃ cu t, W6.heap[g]? = some (.cells cu t (0, 0)) ∧ t ≠ 64 ∧ t ≠ 60 ∧ t ≠ 5 := by
        rintro g (e | rfl)
        · obtain ⟨c2, h2⟩ := Q6.out.block g e
          exact ⟨c2, _, h2, by decide, by decide, by decide⟩
        · exact ⟨_, _, L6.out, by decide, by decide, by decide⟩
      have row8 : RowO W8 44 1 (.slice (some ⟨g9, o9, none⟩) n9 c9) n9 (bvs D) := row7.keepK (by rw [← hW8]; exact KP.set (S := fun g => g = fb5) W7 fb5 5 _ rfl) fun g hg e => by
        obtain ⟨c2, h2⟩ := row7.block g hg
        exact apart_of h2 l7 (by decide) e
      have O8 : RowO W8 9 1 (.slice A7 (nc + 1) c7) (nc + 1) (CC.map sv ++ [.string ⟨dB.toArray⟩]) := O7.keepK (by rw [← hW8]; exact KP.set (S := fun g => g = fb5) W7 fb5 5 _ rfl) fun g hg e => by
        obtain ⟨c2, h2⟩ := O7.block g hg
        exact apart_of h2 l7 (by decide) e
      have eC : y9.C0 ++ (D.take (i + 1)).map (fun d => d.b.B) = CC ++ [dB] := by
        rw [List.take_add_one, HDD.out, ← HCC5.out, ← HDB.out]
        simp
      have J8 : Hid (FhJ0 base W fb5 y9 k.succ D (.slice (some ⟨g9, o9, none⟩) n9 c9) (i + 1) W8) := Lib.hid ⟨⟨_, rfl, by
          rw [eC]
          have q := F6.out.cv0 (v' := .slice A7 (nc + 1) c7) (X := dB) k8 (by
            simp only [Fa.cs, HNW.out]
            rw [← hW8]
            exact (row_set l7 _).trans rfl) (by
            simp only [HCC5.out]
            rw [List.length_append, HNC.out, List.map_append]
            exact O8) f7
          simp only [HCC5.out] at q
          exact q⟩, by rw [HN9.out]; exact row8, fun d hd => ((O5.out d hd).below B6.out).offT k8 hS, (J5B.out.trans ((B5.out.trans (B6.out.mono B5.out.size)).mono (Nat.le_trans HBS.out J5B.out.size))).trans (k8.below (Nat.le_trans (Nat.le_trans HBS.out J5B.out.size) (Nat.le_trans B5.out.size B6.out.size)) (by
            rintro g (e | rfl)
            · exact F6.out.h2 g e
            · exact F6.out.hb)), ((J5K.out.trans (KT.of_below B5.out)).trans (KT.of_below B6.out)).trans fun g cu t ht hg => (k8.block g (blt hg) (by
          rintro (e | rfl)
          · obtain ⟨c2, h2⟩ := Q6.out.block g e
            exact apart_of h2 hg (by rcases ht with rfl | rfl <;> decide) rfl
          · exact apart_of L6.out hg (by rcases ht with rfl | rfl <;> decide) rfl)).trans hg⟩
      have HW8 := Lib.hid hW8
      have cs7 := cell_of l7 5 (.slice Ac nc cc) rfl
      have zs7 := frz_row 5 l7
      clear hW8 k8 hS row8 O8 eC l7 row7 R6' n7 k7 O7 g7 f7 hi0 hz0 hz1 hz2 F6 Q6 L6 C6 R6 B6 F5 R5 O5
      try simp only [Act.put, List.setIfInBounds_toArray, List.set_cons_zero, List.set_cons_succ]
      refine ⟨by kernel_rfl, ?_⟩
      simp only [List.drop_succ_cons, List.drop_zero]
      have h1001 := HD9.out
      go_wp2_with (rw [HW8.out])
      go_roundw
      case rel => exact ⟨i + 1, by omega, by go_num, J8⟩
      case measure => simp [intOf]; omega
    · obtain rfl : i = n9 := by omega
      have hii : ¬ (i : Int) < (i : Int) := by omega
      go_wp2
      refine bodyPost_end (results_none rfl _ _ _) rfl ?_
      refine ⟨rfl, ?_⟩
      obtain ⟨x5, hx5, fm5⟩ := J5.out.fm
      rw [List.take_of_length_le (by rw [HN9.out]; exact Nat.le_refl _), ED4.out, ← HY9.out] at fm5
      exact ⟨x5, K', hx5, EK4.out, fm5, J5.out.bl, J5.out.kt⟩

end Go.Proofs.Ytnagbiicpecamaa
