/-
  The law's do, an act that takes all: by exact answers. Condition: both bags lie in memory, the act below them.
-/
import Derived.Test.YteaafpgkifmdeaaBd0
namespace Go.Proofs.Yteaafpgkifmdeaa
set_option linter.unusedSimpArgs false
set_option linter.unusedVariables false
open Go.RowKit Go.Sort

theorem Six.of_block {W W' : World} {g o : Nat} {cs : Array Value} (h : Six W g o cs) (hb : W'.heap[g]? = W.heap[g]?) : Six W' g o cs := by
  obtain ⟨c0, c1, c2, c3, c4, c5⟩ := h
  have e : ∀ j, W'.cell? ⟨g, j, none⟩ = W.cell? ⟨g, j, none⟩ := fun j => World.cell?_of_block (a := ⟨g, j, none⟩) hb
  exact ⟨(e _).trans c0, (e _).trans c1, (e _).trans c2, (e _).trans c3, (e _).trans c4, (e _).trans c5⟩

set_option maxRecDepth 100000 in
set_option maxHeartbeats 8000000 in
theorem do6 (base b l r most : Nat) (v u : Value) (L M : List Lp) (a : Ac) (W : World) (h : JB base W b l r most v u L M) (hE : L.map Lp.p = M.map Lp.p) (ha : a.Arg base W) (hb : base ≤ W.heap.size) (hk : a.kd = 6) :
    Calls Try.prog 11 #[.pointer (some ⟨b, 0, none⟩), .pointer (some ⟨r, 0, none⟩), .agg a.cs.toArray] W fun e W' => e = .returned (.bool true) ∧ JE base b l r most W' ∧ Below base W W' := by
  obtain ⟨kd, ai, aat, am, x⟩ := a
  obtain ⟨fn, fl, tn, tl, A, q, xc, bad, hxc, hrow⟩ : ∃ (fn fl tn tl : Nat) (A : Option Addr) (q xc : Nat) (bad : Bool), x.cs = #[.int .u8 fn, .int .u16 fl, .int .u8 tn, .int .u16 tl, .slice A q xc, .bool bad] ∧ (Ac.mk kd ai aat am x).cs.toArray = #[.int .i64 kd, .int .i64 ai, .int .i64 aat, .int .u32 am, .int .u8 fn, .int .u16 fl, .int .u8 tn, .int .u16 tl, .slice A q xc, .bool bad] := ⟨_, _, _, _, _, _, _, _, rfl, rfl⟩
  rw [hrow]
  obtain ⟨cs, hcs⟩ : ∃ cs : Array Value, #[.int .i64 kd, .int .i64 ai, .int .i64 aat, .int .u32 am, .int .u8 fn, .int .u16 fl, .int .u8 tn, .int .u16 tl, .slice A q xc, .bool bad] = cs := ⟨_, rfl⟩
  obtain ⟨W1, hW1⟩ : ∃ X, W.alloc (.cells cs 38) = X := ⟨_, rfl⟩
  have b1 : Below W.heap.size W W1 := by rw [← hW1]; exact (Below.refl _ _).alloc (Nat.le_refl _) _
  have r1 : W1.heap[W.heap.size]? = some (.cells cs 38 (0, 0)) := by rw [← hW1]; exact heap_alloc_new _ _
  have c0 := cell_of r1 0 (.int .i64 kd) (by rw [← hcs]; rfl)
  have c1 := cell_of r1 1 (.int .i64 ai) (by rw [← hcs]; rfl)
  have J1 := Lib.hid (h.below b1)
  have B1 := Lib.hid (b1.mono hb)
  have R1 := Lib.hid r1
  have HA := Lib.hid ha
  have HE := Lib.hid hE
  have HB := Lib.hid hb
  have HXC := Lib.hid hxc
  have HCS := Lib.hid hcs
  have HW1 := Lib.hid hW1
  rw [hcs]
  clear h b1 r1 ha hE hb hxc hrow hcs hW1
  obtain rfl : kd = 6 := hk
  have hlen : L.length = M.length := by have := congrArg List.length HE.out; simpa using this
  obtain ⟨A0, cp, hv⟩ := J1.out.pb.slice
  obtain ⟨A9, cd, hu⟩ := J1.out.db.slice
  have KA := Lib.hid (allB base b l most v L W1 J1.out.pb)
  have hS2 : KP (PS l v L) W1 (W1.setCell ⟨l, 1, none⟩ (.slice none 0 0)) := KP.set _ _ _ _ (.inl rfl)
  have lst1 := J1.out.pb.lst
  have bag1 := J1.out.db.bag
  have hS3 : ∀ w, KP (DS r u) w (w.setCell ⟨r, 0, none⟩ (.slice none 0 0)) := fun w => KP.set _ _ _ _ (.inl rfl)
  by_cases hz : L.length = 0
  · subst hv hu
    obtain ⟨n, hn⟩ : ∃ n, L.length = n := ⟨_, rfl⟩
    have hm : M.length = n := by omega
    have hn2000 : n ≤ 2000 := by have h1 := J1.out.pb.few; have h2 := J1.out.pb.most; omega
    have KA' := KA
    have HN := Lib.hid hn
    have HM := Lib.hid hm
    have HS2 := Lib.hid hS2
    have HS3 := Lib.hid hS3
    have LST1 := Lib.hid lst1
    have BAG1 := Lib.hid bag1
    have HLEN := Lib.hid hlen
    have HZ0 := Lib.hid hz
    clear hn hm hS2 hS3 lst1 bag1 hlen KA hz c1
    go_enter Try.func11, Try.ntmps11
    go_wp2_with (refine wpList_bx rfl 38 (.tmp 2) rfl 5 rfl cs rfl ?_; rw [HW1.out])
    refine KA'.out.mono ?_
    rintro e w2 ⟨⟨A', c', hv', rfl⟩, pb2, hw2⟩
    obtain rfl : A0 = A' := by simp at hv'; exact hv'.1
    have hs2 : PStep base b l most _ L [] W1 w2 := ⟨_, [], pb2, rfl, fun x hx => (by cases hx), by rw [← hw2]; exact HS2.out⟩
    obtain ⟨v2, L2, j2, m2, b2, t2⟩ := J1.out.prog hs2
    have KD := allD base r most _ M w2 j2.db
    have L2e : L2 = [] := by cases L2 with | nil => rfl | cons _ _ => simp at m2
    subst L2e
    have J2 := Lib.hid j2
    have B2 := Lib.hid (B1.out.trans b2)
    have HW2 := Lib.hid hw2
    have KD' := Lib.hid KD
    have R2 := Lib.hid (t2 _ _ _ R1.out (by decide) (by decide) (by decide))
    clear hs2 j2 m2 b2 t2 pb2 hw2 KD hv' KA' c0
    rw [HN.out]
    go_wp2_with fail
    refine KD'.out.mono ?_
    rintro e w3 ⟨rfl, db3, hw3⟩
    have hs3 : DStep base r most _ M [] w2 w3 := ⟨_, [], db3, rfl, fun x hx => (by cases hx), by rw [← hw3]; exact HS3.out w2⟩
    obtain ⟨u3, M3, j3, m3, b3, t3⟩ := J2.out.doc hs3
    have M3e : M3 = [] := by cases M3 with | nil => rfl | cons _ _ => simp at m3
    subst M3e
    have J3 := Lib.hid j3
    have B3 := Lib.hid (B2.out.trans b3)
    have HW3 := Lib.hid hw3
    have HB3 := Lib.hid (Nat.le_trans HB.out B3.out.size)
    clear hs3 j3 m3 b3 t3 db3 hw3 KD'
    rw [HM.out]
    go_wp2_with fail
    go_loopw [17] (fun z wx => ∃ k : Nat, z = .int .i64 k ∧ k ≤ n ∧ Hid (Below w3.heap.size w3 wx)) (fun z _ => n - (intOf z).toNat)
    case atStart => exact ⟨0, rfl, by omega, Lib.hid (Below.refl _ _)⟩
    case round =>
      obtain ⟨k, rfl, hk, BB⟩ := hrel
      by_cases hkn : k < n
      · have h2 := HN.out
        have h3 := HZ0.out
        omega
      · obtain rfl : n = k := by omega
        have hk1 : ¬ (n : Int) < (n : Int) := by omega
        go_wp2
        go_ret
        exact ⟨rfl, ⟨v2, u3, [], [], J3.out.below BB.out, rfl⟩, B3.out.trans (BB.out.mono HB3.out)⟩
  · obtain ⟨g, cp', hg, six0, _, _⟩ := J1.out.pb.at_ (i := 0) (by omega)
    obtain ⟨g', cd', hg', six0', _, _⟩ := J1.out.db.at_ (i := 0) (by omega)
    obtain ⟨rfl, rfl⟩ : A0 = some ⟨g, 0, none⟩ ∧ cp = cp' := by rw [hv] at hg; simp at hg; exact hg
    obtain ⟨rfl, rfl⟩ : A9 = some ⟨g', 0, none⟩ ∧ cd = cd' := by rw [hu] at hg'; simp at hg'; exact hg'
    subst hv hu
    clear six0 six0' hg hg'
    obtain ⟨n, hn⟩ : ∃ n, L.length = n := ⟨_, rfl⟩
    have hm : M.length = n := by omega
    have hn2000 : n ≤ 2000 := by have h1 := J1.out.pb.few; have h2 := J1.out.pb.most; omega
    have KA' := KA
    have HN := Lib.hid hn
    have HM := Lib.hid hm
    have HS2 := Lib.hid hS2
    have HS3 := Lib.hid hS3
    have LST1 := Lib.hid lst1
    have BAG1 := Lib.hid bag1
    have HLEN := Lib.hid hlen
    have HZ0 := Lib.hid hz
    clear hn hm hS2 hS3 lst1 bag1 hlen KA hz c1
    go_enter Try.func11, Try.ntmps11
    go_wp2_with (refine wpList_bx rfl 38 (.tmp 2) rfl 5 rfl cs rfl ?_; rw [HW1.out])
    refine KA'.out.mono ?_
    rintro e w2 ⟨⟨A', c', hv', rfl⟩, pb2, hw2⟩
    obtain rfl : some ⟨g, 0, none⟩ = A' := by simp at hv'; exact hv'.1
    have hs2 : PStep base b l most _ L [] W1 w2 := ⟨_, [], pb2, rfl, fun x hx => (by cases hx), by rw [← hw2]; exact HS2.out⟩
    obtain ⟨v2, L2, j2, m2, b2, t2⟩ := J1.out.prog hs2
    have KD := allD base r most _ M w2 j2.db
    have L2e : L2 = [] := by cases L2 with | nil => rfl | cons _ _ => simp at m2
    subst L2e
    have J2 := Lib.hid j2
    have B2 := Lib.hid (B1.out.trans b2)
    have HW2 := Lib.hid hw2
    have KD' := Lib.hid KD
    have R2 := Lib.hid (t2 _ _ _ R1.out (by decide) (by decide) (by decide))
    clear hs2 j2 m2 b2 t2 pb2 hw2 KD hv' KA' c0
    rw [HN.out]
    go_wp2_with fail
    refine KD'.out.mono ?_
    rintro e w3 ⟨rfl, db3, hw3⟩
    have hs3 : DStep base r most _ M [] w2 w3 := ⟨_, [], db3, rfl, fun x hx => (by cases hx), by rw [← hw3]; exact HS3.out w2⟩
    obtain ⟨u3, M3, j3, m3, b3, t3⟩ := J2.out.doc hs3
    have M3e : M3 = [] := by cases M3 with | nil => rfl | cons _ _ => simp at m3
    subst M3e
    have J3 := Lib.hid j3
    have B3 := Lib.hid (B2.out.trans b3)
    have HW3 := Lib.hid hw3
    have HB3 := Lib.hid (Nat.le_trans HB.out B3.out.size)
    clear hs3 j3 m3 b3 t3 db3 hw3 KD'
    rw [HM.out]
    go_wp2_with fail
    go_loopw [17] (fun z wx => ∃ k : Nat, z = .int .i64 k ∧ k ≤ n ∧ Hid (Below w3.heap.size w3 wx)) (fun z _ => n - (intOf z).toNat)
    case atStart => exact ⟨0, rfl, by omega, Lib.hid (Below.refl _ _)⟩
    case round =>
      obtain ⟨k, rfl, hk, BB⟩ := hrel
      by_cases hkn : k < n
      · have hkL : k < L.length := by rw [HN.out]; exact hkn
        have hkM : k < M.length := by rw [HM.out]; exact hkn
        obtain ⟨g1, cc1, hv1, sixL, _, _⟩ := J1.out.pb.at_ hkL
        obtain ⟨g2, cc2, hv2, sixM, _, _⟩ := J1.out.db.at_ hkM
        obtain rfl : g = g1 := by simp at hv1; exact hv1.1
        obtain rfl : g' = g2 := by simp at hv2; exact hv2.1
        obtain ⟨cg, hcg⟩ := row_block J1.out.pb.row (g := g) rfl
        obtain ⟨cg', hcg'⟩ := row_block J1.out.db.row (g := g') rfl
        have far : ∀ (k : Nat) (c : Array Value) (t : TypeId), W1.heap[k]? = some (.cells c t (0, 0)) → t ≠ 67 → t ≠ 42 → wr.heap[k]? = some (.cells c t (0, 0)) := fun k c t h1 h2 h3 => by
          have h4 : w3.heap[k]? = some (.cells c t (0, 0)) := by
            rw [← HW3.out, ← HW2.out]
            exact other_set (other_set h1 (apart_of h1 LST1.out h2) _) (apart_of h1 BAG1.out h3) _
          exact (BB.out.block k (Array.getElem?_eq_some_iff.1 h4).1).trans h4
        have okL : L[k].Ok wr base := (J1.out.pb.ok _ (List.getElem_mem hkL)).keep fun k cur _ _ _ hc => far k cur _ hc (by decide) (by decide)
        have okM : M[k].Ok wr base := (J1.out.db.ok _ (List.getElem_mem hkM)).keep fun k cur _ _ _ hc => far k cur _ hc (by decide) (by decide)
        have sL := sixL.of_block ((far _ _ _ hcg (by decide) (by decide)).trans hcg.symm)
        have sM := sixM.of_block ((far _ _ _ hcg' (by decide) (by decide)).trans hcg'.symm)
        have hpe : L[k].p = M[k].p := by
          have h1 : (L.map Lp.p)[k]? = (M.map Lp.p)[k]? := by rw [HE.out]
          rw [List.getElem?_map, List.getElem?_map, List.getElem?_eq_getElem hkL, List.getElem?_eq_getElem hkM] at h1
          exact Option.some.inj h1
        obtain ⟨x, hx⟩ : ∃ x, L[k] = x := ⟨_, rfl⟩
        obtain ⟨y, hy⟩ : ∃ y, M[k] = y := ⟨_, rfl⟩
        rw [hx] at okL sL hpe
        rw [hy] at okM sM hpe
        obtain ⟨f1, f2, f3, f4, A1, q1, x1, d1, hxc⟩ : ∃ (f1 f2 f3 f4 : Nat) (A1 : Option Addr) (q1 x1 : Nat) (d1 : Bool), x.cs = #[.int .u8 f1, .int .u16 f2, .int .u8 f3, .int .u16 f4, .slice A1 q1 x1, .bool d1] := ⟨_, _, _, _, _, _, _, _, rfl⟩
        obtain ⟨f5, f6, f7, f8, A2, q2, x2, d2, hyc⟩ : ∃ (f1 f2 f3 f4 : Nat) (A1 : Option Addr) (q1 x1 : Nat) (d1 : Bool), y.cs = #[.int .u8 f1, .int .u16 f2, .int .u8 f3, .int .u16 f4, .slice A1 q1 x1, .bool d1] := ⟨_, _, _, _, _, _, _, _, rfl⟩
        rw [hxc] at sL
        rw [hyc] at sM
        have SL := Lib.hid sL
        have SM := Lib.hid sM
        have OKL := Lib.hid okL
        have OKM := Lib.hid okM
        have HPE := Lib.hid hpe
        have HXK := Lib.hid hxc
        have HYK := Lib.hid hyc
        have LG := Lib.hid (Array.getElem?_eq_some_iff.1 (far _ _ _ hcg (by decide) (by decide))).1
        have LG' := Lib.hid (Array.getElem?_eq_some_iff.1 (far _ _ _ hcg' (by decide) (by decide))).1
        have hk0 : (0 : Int) ≤ (k : Int) := by omega
        have hk1 : (k : Int) < (n : Int) := by omega
        have HKN := Lib.hid hkn
        clear hkL hkM hv1 hv2 sixL sixM hcg hcg' far okL okM sL sM hpe hx hy hxc hyc
        go_wp2_with fail
        refine region_heldT (S := fun X => Six X g (k * 6) #[.int .u8 f1, .int .u16 f2, .int .u8 f3, .int .u16 f4, .slice A1 q1 x1, .bool d1] ∧ Six X g' (k * 6) #[.int .u8 f5, .int .u16 f6, .int .u8 f7, .int .u16 f8, .slice A2 q2 x2, .bool d2]) 10 (by kernel_rfl) (by decide) (fun inv => ?_)
        change FirstH _ _ _ _ _ _ _ _ _ _ wr.drew
        obtain ⟨w7, hw7⟩ : ∃ X, wr.drew = X := ⟨_, rfl⟩
        have b7 : Below wr.heap.size wr w7 := by rw [← hw7]; exact (Below.refl _ _).drew
        rw [hw7]
        have BB7 := Lib.hid (BB.out.trans (b7.mono BB.out.size))
        have OKL7 := Lib.hid (OKL.out.below b7)
        have OKM7 := Lib.hid (OKM.out.below b7)
        have HS : Six w7 g (k * 6) #[.int .u8 f1, .int .u16 f2, .int .u8 f3, .int .u16 f4, .slice A1 q1 x1, .bool d1] ∧ Six w7 g' (k * 6) #[.int .u8 f5, .int .u16 f6, .int .u8 f7, .int .u16 f8, .slice A2 q2 x2, .bool d2] := ⟨SL.out.below b7 LG.out, SM.out.below b7 LG'.out⟩
        have HS7 := Lib.hid HS
        have S7 := Lib.hid b7.size
        clear hw7 b7
        refine FirstH.go (i := 0) (v := .slice (some ⟨g, 0, none⟩) n n) rfl rfl _ rfl _ rfl (by kernel_rfl) (fun _ _ _ h => h) inv (fun X _ => by unfold bareO; go_simp) HS (fun inv => ?_)
        try simp only [Act.put, List.setIfInBounds_toArray, List.set_cons_zero, List.set_cons_succ]
        refine FirstH.go (i := 1) (v := .int .i64 k) rfl rfl _ rfl _ rfl (by kernel_rfl) (fun _ _ _ h => h) inv (fun X _ => by unfold bareO; go_simp) HS (fun inv => ?_)
        try simp only [Act.put, List.setIfInBounds_toArray, List.set_cons_zero, List.set_cons_succ]
        refine FirstH.go (i := 2) (v := .pointer (some ⟨g, k * 6, none⟩)) rfl rfl _ rfl _ rfl (by kernel_rfl) (fun _ _ _ h => h) inv (fun X _ => by unfold bareO; go_simp) HS (fun inv => ?_)
        try simp only [Act.put, List.setIfInBounds_toArray, List.set_cons_zero, List.set_cons_succ]
        refine FirstH.go (i := 3) (v := .agg #[.int .u8 f1, .int .u16 f2, .int .u8 f3, .int .u16 f4, .slice A1 q1 x1, .bool d1]) rfl rfl _ rfl _ rfl (by kernel_rfl) (fun _ _ _ h => h) inv (fun X hS => by obtain ⟨⟨a0, a1, a2, a3, a4, a5⟩, ⟨e0, e1, e2, e3, e4, e5⟩⟩ := hS; simp only [List.getElem?_toArray, List.getElem?_cons_zero, List.getElem?_cons_succ] at a0 a1 a2 a3 a4 a5 e0 e1 e2 e3 e4 e5; unfold bareO; go_simp) HS (fun inv => ?_)
        try simp only [Act.put, List.setIfInBounds_toArray, List.set_cons_zero, List.set_cons_succ]
        refine FirstH.go (i := 5) (v := .slice (some ⟨g', 0, none⟩) n cd) rfl rfl _ rfl _ rfl (by kernel_rfl) (fun _ _ _ h => h) inv (fun X _ => by unfold bareO; go_simp) HS (fun inv => ?_)
        try simp only [Act.put, List.setIfInBounds_toArray, List.set_cons_zero, List.set_cons_succ]
        refine FirstH.go (i := 6) (v := .int .i64 k) rfl rfl _ rfl _ rfl (by kernel_rfl) (fun _ _ _ h => h) inv (fun X _ => by unfold bareO; go_simp) HS (fun inv => ?_)
        try simp only [Act.put, List.setIfInBounds_toArray, List.set_cons_zero, List.set_cons_succ]
        refine FirstH.go (i := 7) (v := .pointer (some ⟨g', k * 6, none⟩)) rfl rfl _ rfl _ rfl (by kernel_rfl) (fun _ _ _ h => h) inv (fun X _ => by unfold bareO; go_simp) HS (fun inv => ?_)
        try simp only [Act.put, List.setIfInBounds_toArray, List.set_cons_zero, List.set_cons_succ]
        refine FirstH.go (i := 8) (v := .agg #[.int .u8 f5, .int .u16 f6, .int .u8 f7, .int .u16 f8, .slice A2 q2 x2, .bool d2]) rfl rfl _ rfl _ rfl (by kernel_rfl) (fun _ _ _ h => h) inv (fun X hS => by obtain ⟨⟨a0, a1, a2, a3, a4, a5⟩, ⟨e0, e1, e2, e3, e4, e5⟩⟩ := hS; simp only [List.getElem?_toArray, List.getElem?_cons_zero, List.getElem?_cons_succ] at a0 a1 a2 a3 a4 a5 e0 e1 e2 e3 e4 e5; unfold bareO; go_simp) HS (fun inv => ?_)
        try simp only [Act.put, List.setIfInBounds_toArray, List.set_cons_zero, List.set_cons_succ]
        clear HS
        have KR := refL x w7 OKL7.out.own.at_ OKL7.out.len OKL7.out.nn
        rw [HXK.out] at KR
        refine FirstH.only (i := 4) (by kernel_rfl) (by decide) inv (fun inv => wpOp_call (i := 4) rfl rfl 139 rfl _ rfl 16 #[.agg #[.int .u8 f1, .int .u16 f2, .int .u8 f3, .int .u16 f4, .slice A1 q1 x1, .bool d1]] (by unfold bareO; go_simp) KR ?_)
        rintro e w8 ⟨y8, rfl, hy8, ok8, b8⟩
        have BB8 := Lib.hid (BB7.out.trans (b8.mono BB7.out.size))
        have HS : Six w8 g (k * 6) #[.int .u8 f1, .int .u16 f2, .int .u8 f3, .int .u16 f4, .slice A1 q1 x1, .bool d1] ∧ Six w8 g' (k * 6) #[.int .u8 f5, .int .u16 f6, .int .u8 f7, .int .u16 f8, .slice A2 q2 x2, .bool d2] := ⟨HS7.out.1.below b8 (Nat.lt_of_lt_of_le LG.out S7.out), HS7.out.2.below b8 (Nat.lt_of_lt_of_le LG'.out S7.out)⟩
        have HS8 := Lib.hid HS
        have S8 := Lib.hid (Nat.le_trans S7.out b8.size)
        have KM := sameP y8 y w8 (hy8.trans HPE.out) ok8.own.at_ (OKM7.out.below b8).own.at_
        rw [HYK.out] at KM
        refine ⟨_, rfl, HS, ?_⟩
        clear HS hy8 ok8 b8 KR
        try simp only [Act.put, List.setIfInBounds_toArray, List.set_cons_zero, List.set_cons_succ]
        refine FirstH.only (i := 9) (by kernel_rfl) (by decide) inv (fun inv => wpOp_call (i := 9) rfl rfl 144 rfl _ rfl 15 #[.agg y8.cs, .agg #[.int .u8 f5, .int .u16 f6, .int .u8 f7, .int .u16 f8, .slice A2 q2 x2, .bool d2]] (by unfold bareO; go_simp) KM ?_)
        rintro e w9 ⟨rfl, b9⟩
        have BB9 := Lib.hid (BB8.out.trans (b9.mono BB8.out.size))
        have HS : Six w9 g (k * 6) #[.int .u8 f1, .int .u16 f2, .int .u8 f3, .int .u16 f4, .slice A1 q1 x1, .bool d1] ∧ Six w9 g' (k * 6) #[.int .u8 f5, .int .u16 f6, .int .u8 f7, .int .u16 f8, .slice A2 q2 x2, .bool d2] := ⟨HS8.out.1.below b9 (Nat.lt_of_lt_of_le LG.out S8.out), HS8.out.2.below b9 (Nat.lt_of_lt_of_le LG'.out S8.out)⟩
        refine ⟨_, rfl, HS, ?_⟩
        clear HS b9 KM
        try simp only [Act.put, List.setIfInBounds_toArray, List.set_cons_zero, List.set_cons_succ]
        refine ⟨by kernel_rfl, ?_⟩
        simp only [List.drop_succ_cons, List.drop_zero]
        go_wp2
        go_roundw
        case rel => exact ⟨k + 1, by go_num, by have := HKN.out; omega, BB9⟩
        case measure => have := HKN.out; simp [intOf]; omega
      · obtain rfl : n = k := by omega
        have hk1 : ¬ (n : Int) < (n : Int) := by omega
        go_wp2
        go_ret
        exact ⟨rfl, ⟨v2, u3, [], [], J3.out.below BB.out, rfl⟩, B3.out.trans (BB.out.mono HB3.out)⟩

end Go.Proofs.Yteaafpgkifmdeaa
