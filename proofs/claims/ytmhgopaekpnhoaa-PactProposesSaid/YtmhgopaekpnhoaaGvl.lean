/-
  Values of the program and of the document, made of one another, and cloned: by contracts. Condition: they lie in memory.
-/
import Derived.Test.YtmhgopaekpnhoaaGcl
import Derived.Deep.MidRow
import Derived.LoopN
import Derived.Great.BuildSlice
namespace Go.Proofs.Ytmhgopaekpnhoaa
set_option linter.unusedSimpArgs false
set_option linter.unusedVariables false
open Go.RowKit Go.Maps Go.Sort
open V (P2)

theorem renI : (Try.prog.info? 138).map (fun i => (i.zero, i.size, i.bytes)) = some (some (.agg #[.int .u8 0, .int .u8 0, .int .u16 0, .int .u32 0, .int .u8 0, .int .u8 0, .int .u8 0, .int .u8 0, .int .u8 0, .int .u8 0, .int .u8 0, .int .u32 0, .slice none 0 0, .int .u8 0, .string ByteArray.empty, .slice none 0 0, .int .u8 0, .int .u16 0]), 18, 104) := by kernel_rfl
theorem fillE (e : Le) : Instr.fill (fun i => some (i * 18, 18)) ((Array.range (1 * 18)).map ((Value.agg #[.int .u8 0, .int .u8 0, .int .u16 0, .int .u32 0, .int .u8 0, .int .u8 0, .int .u8 0, .int .u8 0, .int .u8 0, .int .u8 0, .int .u8 0, .int .u32 0, .slice none 0 0, .int .u8 0, .string ByteArray.empty, .slice none 0 0, .int .u8 0, .int .u16 0]).cells[· % (Value.agg #[.int .u8 0, .int .u8 0, .int .u16 0, .int .u32 0, .int .u8 0, .int .u8 0, .int .u8 0, .int .u8 0, .int .u8 0, .int .u8 0, .int .u8 0, .int .u32 0, .slice none 0 0, .int .u8 0, .string ByteArray.empty, .slice none 0 0, .int .u8 0, .int .u16 0]).cells.size]!)) [(0, Value.agg e.cs)] = some e.cs := by
  obtain ⟨x, A, X, c, B, Y, d⟩ := e
  kernel_rfl
theorem wpList_bsE {ops : Array Oper} {rest : List Oper} {o : Oper} {a : Act} {w : World} {Q : Exit → Act → World → Prop} (hg : o.guard = none) (x : Operand) (ho : o.op = .buildSlice 31 1 #[(0, x)]) (e : Le) (hx : a.eval x = .agg e.cs)
    (h : wpList Try.prog ops Q rest (a.put o.dst (.slice (some ⟨w.heap.size, 0, none⟩) 1 1)) (w.alloc (.cells e.cs 138))) : wpList Try.prog ops Q (o :: rest) a w := by
  obtain ⟨i0, hi0, hz0, hz1, hz2⟩ := info_parts renI
  refine wpList_buildSlice hg 31 138 1 #[(0, x)] ho e.cs i0 _ Try.underlying31 hi0 hz0 (by rw [hz1]; decide) (by rw [hz1]; decide) ?_ h
  have := fillE e
  rw [hz1]
  simpa [hx] using this
set_option maxRecDepth 100000 in
set_option maxHeartbeats 2000000 in
theorem refL (e : Le) (w : World) (h : e.At w w.heap.size) :
    Calls Try.prog 71 #[.agg e.cs] w fun r w' => ∃ e' : Le, r = .returned (.agg e'.cs) ∧ e'.v = e.v ∧ LeR e' w' ∧ Below w.heap.size w w' := by
  obtain ⟨x, A, X, c, B, Y, d⟩ := e
  refine (ref5 x A B X Y c d w h.rp h.rw_ h.hX h.hY h.hc h.hm h.hd h.hn).mono ?_
  rintro r w' ⟨A', c', B', d', m, rfl, o1, o2, -, -, b⟩
  exact ⟨⟨x, A', X, c', B', Y, d'⟩, rfl, rfl, ⟨RowO.of_owns o1, RowO.of_owns o2, h.hX, h.hY⟩, b⟩

theorem LeR.keepF {e : Le} {W W' : World} (h : LeR e W) (k : ∀ (g : Nat) (cur : Array Value) (t : TypeId), W.heap[g]? = some (.cells cur t (0, 0)) → t ≠ 138 → W'.heap[g]? = some (.cells cur t (0, 0))) : LeR e W' :=
  ⟨RowO.keepB h.p fun g hg => by
    obtain ⟨cur, hc⟩ := RowO.block h.p g hg
    exact (k g cur _ hc (by decide)).trans hc.symm, RowO.keepB h.w fun g hg => by
    obtain ⟨cur, hc⟩ := RowO.block h.w g hg
    exact (k g cur _ hc (by decide)).trans hc.symm, h.hX, h.hY⟩
set_option maxRecDepth 100000 in
set_option maxHeartbeats 2000000 in
theorem refsE (v : Value) (L : List Le) (W : World) (h : EnO W v L) (hl : L.length ≤ 1000) :
    Calls Try.prog 50 #[v] W fun e W' => ∃ v', e = .returned v' ∧ ∃ L', L'.map Le.v = L.map Le.v ∧ EnR W' v' L' ∧ (∀ g, v'.ownBlock = some g → W.heap.size ≤ g) ∧ Below W.heap.size W W' := by
  obtain ⟨A, c, rfl, hr, hc, hm, hA⟩ := h.rows
  obtain ⟨i0, hi0, hz0, hz1, hz2⟩ := info_parts renI
  have HE := Lib.hid h.all
  have HO := Lib.hid h.row
  obtain ⟨n, hn⟩ : ∃ n, L.length = n := ⟨_, rfl⟩
  rw [hn] at hl HO ⊢
  have HN := Lib.hid hn
  obtain ⟨base, hbase⟩ : ∃ x, W.heap.size = x := ⟨_, rfl⟩
  have HSZ : Hid (base = W.heap.size) := Lib.hid hbase.symm
  rw [hbase]
  clear h hr hc hm hA hn hbase
  go_enter Try.func50, Try.ntmps50
  go_wp2_with fail
  go_loopw [3, 4] (fun v z wx => ∃ (k : Nat) (L' : List Le), z = .int .i64 k ∧ k ≤ n ∧ Hid (L'.map Le.v = (L.take k).map Le.v) ∧ Hid (wx.ownsRow base 138 18 v k (cellsE L')) ∧ Hid (∀ e ∈ L', LeR e wx) ∧ Hid (Below base W wx)) (fun _ z _ => n - (intOf z).toNat)
  case atStart => exact ⟨0, [], rfl, by omega, Lib.hid rfl, Lib.hid (World.ownsRow_nil _ _ _ _), Lib.hid (fun e he => by cases he), Lib.hid (by rw [HSZ.out]; exact Below.refl _ _)⟩
  case round =>
    obtain ⟨k, L', rfl, hk, HL, HR, HA, BB⟩ := hrel
    obtain ⟨u, hu⟩ : ∃ z : World, z = wr := ⟨_, rfl⟩
    subst hu
    by_cases hkn : k < n
    · as_aux_lemma =>
      skip
      have HKN := Lib.hid hkn
      have hk1 : (k : Int) < (n : Int) := by omega
      have hk0 : (0 : Int) ≤ (k : Int) := by omega
      have hkL : k < L.length := by rw [HN.out]; exact hkn
      have hub : base ≤ u.heap.size := by rw [HSZ.out]; exact BB.out.size
      have bW : Below W.heap.size W u := by rw [← HSZ.out]; exact BB.out
      obtain ⟨e, hx⟩ : ∃ e, L[k]? = some e := ⟨_, List.getElem?_eq_getElem hkL⟩
      have hg : ∃ g o, A = some ⟨g, o, none⟩ := by
        rcases HO.out.2 with ⟨h0, h1⟩ | ⟨g, o, cap, cur, h0, _⟩
        · omega
        · cases h0
          exact ⟨g, o, rfl⟩
      obtain ⟨g, o, rfl⟩ := hg
      have HC : Hid (u.rangeAt g (o + k * 18) e.cs.toList) := Lib.hid (EnO.cells (RowO.below HO.out bW) hx)
      have KR := Lib.hid (refL e u (((HE.out e (List.mem_of_getElem? hx)).keep (Keeps.of_below bW)).at_))
      have HSN : Hid ((L.take (k + 1)).map Le.v = (L.take k).map Le.v ++ [e.v]) := Lib.hid (by
        rw [List.take_add_one, hx, List.map_append]
        rfl)
      have HUB := Lib.hid hub
      clear hx hkL bW hub hkn
      go_wp2_with (first
        | (refine wpList_load_mid rfl 128 (.tmp 14) rfl g (o + k * 18) (by rfl) e.cs.toList _ HC.out Try.underlying128 rfl (by kernel_rfl) ?_)
        | fail)
      refine KR.out.mono ?_
      rintro r w2 ⟨e2, rfl, ve, oe, b2⟩
      obtain ⟨w3, hw3⟩ : ∃ X, w2.alloc (.cells e2.cs 138) = X := ⟨_, rfl⟩
      have r3 : w3.heap[w2.heap.size]? = some (.cells e2.cs 138 (0, 0)) := by rw [← hw3]; exact heap_alloc_new _ _
      have b3 : Below w2.heap.size w2 w3 := by rw [← hw3]; exact (Below.refl _ _).alloc (Nat.le_refl _) _
      have b23 : Below u.heap.size u w3 := b2.trans (b3.mono b2.size)
      have BW3 := Lib.hid (BB.out.trans (b23.mono HUB.out))
      have HB3 : Hid (base ≤ w3.heap.size) := Lib.hid (Nat.le_trans HUB.out b23.size)
      have O3 : Hid (w3.ownsRow base 138 18 u3 k (cellsE L')) := Lib.hid (row_keepT HR.out fun k c hc => (b23.block k (Array.getElem?_eq_some_iff.1 hc).1).trans hc)
      have E3 : Hid (∀ e ∈ L', LeR e w3) := Lib.hid fun e he => (HA.out e he).keep (Keeps.of_below b23)
      have EO3 : Hid (LeR e2 w3) := Lib.hid (oe.keep (Keeps.of_below b3))
      have HW3 := Lib.hid hw3
      have VE := Lib.hid ve
      have HCELL : Hid (∀ j v, (cellsE [e2])[j]? = some v → w3.cell? ((⟨w2.heap.size, 0, none⟩ : Addr).add j) = some v) := Lib.hid (fun j v hu => by
        rw [addE, Nat.zero_add, cell_of_row _ _ j _ _ _ r3]
        simpa [cellsE] using hu)
      clear r3 b3 b23 hw3 oe ve b2
      go_wp2_with (first
        | (refine wpList_bsE rfl (.tmp 16) rfl e2 (by rfl) ?_; rw [HW3.out])
        | (at_builtin
           have O3x := O3.out
           refine wpList_append_own _ rfl (.tmp 11) (.tmp 17) 31 rfl base 138 i0 _ 18 104 Try.underlying31 hi0 hz0 hz1 hz2 rfl (by decide) _ k _ rfl O3.out ⟨w2.heap.size, 0, none⟩ 1 1 (cellsE [e2]) rfl (by rw [cellsE_length]; rfl) HCELL.out (by intro u hu; exact cellsE_one e2 u (by simpa [cellsE] using hu)) (by unfold maxLen; omega) (by omega) HB3.out ?_
           intro v4 w4 o4 g4 _
           have BW4 := Lib.hid (BW3.out.trans ((Below.refl _ _).grown g4 HB3.out fun k hk => (O3.out.lt k hk).1))
           have O4 : Hid (w4.ownsRow base 138 18 v4 (k + 1) (cellsE (L' ++ [e2]))) := Lib.hid (by rw [cellsE_append]; exact o4)
           have far : ∀ (k : Nat) (c : Array Value) (t : TypeId), w3.heap[k]? = some (.cells c t (0, 0)) → t ≠ 138 → w4.heap[k]? = some (.cells c t (0, 0)) := fun k c t hc ht => (g4.block k (Array.getElem?_eq_some_iff.1 hc).1 fun e => by
             obtain ⟨cur, hcu⟩ := row_blockT O3.out e.symm
             exact apartT hc hcu ht rfl).trans hc
           have E4 : Hid (∀ e ∈ L' ++ [e2], LeR e w4) := Lib.hid (fun e he => by
             rcases List.mem_append.1 he with he | he
             · exact (E3.out e he).keepF far
             · obtain rfl : e = e2 := by simpa using he
               exact EO3.out.keepF far)
           clear o4 g4 far))
      go_roundw
      case rel => exact ⟨k + 1, L' ++ [e2], by go_num, by have := HKN.out; omega, Lib.hid (by rw [HSN.out, List.map_append, HL.out, ← VE.out]; rfl), O4, E4, BW4⟩
      case measure => have := HKN.out; simp [intOf]; omega
    · obtain rfl : n = k := by omega
      have hk1 : ¬ (n : Int) < (n : Int) := by omega
      go_wp2_with fail
      go_ret
      have hv : L'.map Le.v = L.map Le.v := by rw [HL.out, List.take_of_length_le (Nat.le_of_eq HN.out)]
      have hlen : L'.length = n := by
        have := congrArg List.length hv
        simpa [HN.out] using this
      exact ⟨_, rfl, L', hv, ⟨by rw [hlen]; exact RowO.of_owns HR.out, HA.out⟩, fun g hg => (HR.out.lt g hg).1, BB.out⟩

set_option maxRecDepth 100000 in
set_option maxHeartbeats 2000000 in
theorem valClone (x : Vl) (w : World) (h : x.Ok w) :
    Calls Try.prog 48 #[.agg x.cs] w fun r w' => ∃ x' : Vl, r = .returned (.agg x'.cs) ∧ x'.Ok w' ∧ x'.d = x.d ∧ Below w.heap.size w w' := by
  have K1 : Hid (∀ W, Below w.heap.size w W → Calls Try.prog 69 #[x.m] W fun e w' => ∃ v, e = .returned v ∧ w'.ownsRow W.heap.size 67 2 v x.X.length (V.cellsV x.X) ∧ Below W.heap.size W w') := Lib.hid (fun W hw => by
    have h1 := h.keep (Keeps.of_below hw)
    obtain ⟨A, c, e, hr, hc, hm, hA⟩ := h1.m.rows
    rw [e]
    exact cloneV A x.X c W hr h1.lm hc hm hA)
  have K2 : Hid (∀ W, Below w.heap.size w W → Calls Try.prog 56 #[x.t] W fun e w' => ∃ v, e = .returned v ∧ ∃ L', L'.map Le.v = x.L.map Le.v ∧ EnO w' v L' ∧ Below W.heap.size W w') := Lib.hid (fun W hw => cloneTail x.t x.L W ((h.keep (Keeps.of_below hw)).t) h.lt)
  have HLM := Lib.hid h.lm
  have HLT := Lib.hid h.lt
  obtain ⟨m, X, t, L⟩ := x
  dsimp only [Vl.cs] at K1 K2 HLM HLT ⊢
  obtain ⟨wd, hwd⟩ : ∃ z, ((w.alloc (.cells #[m, t] 46)).alloc (.cells #[.slice none 0 0, .slice none 0 0] 46)) = z := ⟨_, rfl⟩
  have b0 : Below w.heap.size w wd := by rw [← hwd]; exact ((Below.refl _ _).alloc (Nat.le_refl _) _).alloc (by simp) _
  have r0 : wd.heap[w.heap.size]? = some (.cells #[m, t] 46 (0, 0)) := by
    rw [← hwd, Below.heap_alloc _ _ _ (by simp)]
    exact heap_alloc_new _ _
  have r1 : wd.heap[w.heap.size + 1]? = some (.cells #[.slice none 0 0, .slice none 0 0] 46 (0, 0)) := by
    rw [← hwd]
    have := heap_alloc_new (w.alloc (.cells #[m, t] 46)) (.cells #[.slice none 0 0, .slice none 0 0] 46)
    simpa using this
  obtain ⟨k, hk⟩ : ∃ k, w.heap.size = k := ⟨_, rfl⟩
  rw [hk] at r0 r1 b0 K1 K2 ⊢
  have HW := Lib.hid hwd
  have B0 := Lib.hid b0
  have R0 := Lib.hid r0
  have R1 := Lib.hid r1
  clear h hwd b0 r0 r1
  go_enter Try.func48, Try.ntmps48
  go_wp2_with (first
    | (refine wpList_bx rfl 46 (.tmp 0) rfl 1 rfl #[m, t] rfl ?_; rw [hk])
    | (rw [HW.out]))
  try simp only [World.size_alloc, hk]
  refine region_heldT (S := fun W => W.heap[k]? = some (.cells #[m, t] 46 (0, 0))) 7 (by kernel_rfl) (by decide) (fun inv => ?_)
  have HS : wd.drew.heap[k]? = some (.cells #[m, t] 46 (0, 0)) := R0.out
  have R1d : Hid (wd.drew.heap[k + 1]? = some (.cells #[.slice none 0 0, .slice none 0 0] 46 (0, 0))) := Lib.hid R1.out
  have R0d : Hid (wd.drew.heap[k]? = some (.cells #[m, t] 46 (0, 0))) := Lib.hid R0.out
  have B0d : Hid (Below k w wd.drew) := Lib.hid B0.out.drew
  change FirstH _ _ _ _ _ _ _ _ _ _ wd.drew
  generalize wd.drew = wd2 at *
  refine FirstH.go (i := 0) (v := .pointer (some ⟨k, 0, none⟩)) rfl rfl 3 rfl (Op.fieldAddr 46 (.tmp 1) 0) rfl (by kernel_rfl) (fun _ _ _ h => h) inv (fun W hS => by have k0 := (cell_of_row _ _ 0 _ _ _ hS); have k1 := (cell_of_row _ _ 1 _ _ _ hS); unfold bareO; go_simp) HS (fun inv => ?_)
  try simp only [Act.put, List.setIfInBounds_toArray, List.set_cons_zero, List.set_cons_succ]
  refine FirstH.go (i := 1) (v := m) rfl rfl 4 rfl (Op.load 43 (.tmp 3)) rfl (by kernel_rfl) (fun _ _ _ h => h) inv (fun W hS => by have k0 := (cell_of_row _ _ 0 _ _ _ hS); have k1 := (cell_of_row _ _ 1 _ _ _ hS); unfold bareO; go_simp) HS (fun inv => ?_)
  try simp only [Act.put, List.setIfInBounds_toArray, List.set_cons_zero, List.set_cons_succ]
  refine FirstH.go (i := 3) (v := .pointer (some ⟨k, 1, none⟩)) rfl rfl 6 rfl (Op.fieldAddr 46 (.tmp 1) 1) rfl (by kernel_rfl) (fun _ _ _ h => h) inv (fun W hS => by have k0 := (cell_of_row _ _ 0 _ _ _ hS); have k1 := (cell_of_row _ _ 1 _ _ _ hS); unfold bareO; go_simp) HS (fun inv => ?_)
  try simp only [Act.put, List.setIfInBounds_toArray, List.set_cons_zero, List.set_cons_succ]
  refine FirstH.go (i := 4) (v := t) rfl rfl 7 rfl (Op.load 44 (.tmp 6)) rfl (by kernel_rfl) (fun _ _ _ h => h) inv (fun W hS => by have k0 := (cell_of_row _ _ 0 _ _ _ hS); have k1 := (cell_of_row _ _ 1 _ _ _ hS); unfold bareO; go_simp) HS (fun inv => ?_)
  try simp only [Act.put, List.setIfInBounds_toArray, List.set_cons_zero, List.set_cons_succ]
  clear HS
  refine FirstH.only (i := 2) (by kernel_rfl) (by decide) inv (fun inv => wpOp_call (i := 2) rfl rfl 5 rfl (Op.call { callee := .value (.func 69), args := #[.tmp 4], argTypes := #[43] }) rfl 69 #[m] (by unfold bareO; go_simp) (K1.out wd2 B0d.out) ?_)
  rintro e w2 ⟨v1, rfl, o1, b2⟩
  have l1 : k + 1 < wd2.heap.size := (Array.getElem?_eq_some_iff.1 R1d.out).1
  have B2 := Lib.hid (B0d.out.trans (b2.mono (hk ▸ B0d.out.size)))
  have HS2 := (b2.block k (by omega)).trans R0d.out
  have R2 := Lib.hid ((b2.block _ l1).trans R1d.out)
  have HP2 : Hid (PrO w2 v1 X) := Lib.hid (PrO.of_owns o1)
  obtain ⟨A1, c1, rfl, -⟩ := (PrO.of_owns o1).rows
  clear b2
  refine ⟨_, rfl, HS2, ?_⟩
  try simp only [Act.put, List.setIfInBounds_toArray, List.set_cons_zero, List.set_cons_succ]
  refine FirstH.only (i := 5) (by kernel_rfl) (by decide) inv (fun inv => wpOp_call (i := 5) rfl rfl 8 rfl (Op.call { callee := .value (.func 56), args := #[.tmp 7], argTypes := #[44] }) rfl 56 #[t] (by unfold bareO; go_simp) (K2.out w2 B2.out) ?_)
  rintro e w3 ⟨v2, rfl, L2, hL2, o2, b3⟩
  have l2 : k + 1 < w2.heap.size := (Array.getElem?_eq_some_iff.1 R2.out).1
  have B3 := Lib.hid (B2.out.trans (b3.mono (hk ▸ B2.out.size)))
  have HS3 := (b3.block k (by omega)).trans HS2
  have R3 := (b3.block _ l2).trans R2.out
  have HP3 : Hid (PrO w3 (.slice A1 X.length c1) X) := Lib.hid (HP2.out.keep (Keeps.of_below b3))
  have HE3 : Hid (EnO w3 v2 L2) := Lib.hid o2
  obtain ⟨A2, c2, rfl, -⟩ := o2.rows
  have hl3 : k + 1 < w3.heap.size := (Array.getElem?_eq_some_iff.1 R3).1
  clear b3 HS2
  refine ⟨_, rfl, HS3, ?_⟩
  try simp only [Act.put, List.setIfInBounds_toArray, List.set_cons_zero, List.set_cons_succ]
  refine FirstH.go (i := 6) (v := .agg #[.slice A1 X.length c1, .slice A2 L2.length c2]) rfl rfl 9 rfl (Op.build 46 #[(0, .tmp 5), (1, .tmp 8)]) rfl (by kernel_rfl) (fun _ _ _ h => h) inv (fun W hS => by unfold bareO; go_simp) HS3 (fun inv => ?_)
  try simp only [Act.put, List.setIfInBounds_toArray, List.set_cons_zero, List.set_cons_succ]
  clear HS3
  refine ⟨by kernel_rfl, ?_⟩
  simp only [List.drop_succ_cons, List.drop_zero]
  have hone : (#[.slice A1 X.length c1, .slice A2 L2.length c2] : Array Value).all (·.oneCell') = true := by simp [Value.oneCell']
  obtain ⟨w4, hw4⟩ : ∃ z, w3.setRow (k + 1) #[.slice A1 X.length c1, .slice A2 L2.length c2] = z := ⟨_, rfl⟩
  have r4 : w4.heap[k + 1]? = some (.cells #[.slice A1 X.length c1, .slice A2 L2.length c2] 46 (0, 0)) := by rw [← hw4]; exact setRow_heapG _ _ _ _ _ _ R3
  have kp : KP (fun j => j = k + 1) w3 w4 := by rw [← hw4]; exact KP.setRow w3 (k + 1) _ rfl
  have B4 := Lib.hid (B3.out.trans (kp.below (by omega) fun j hj => by omega))
  have kk : Keeps w3 w4 := Keeps.of_KP kp fun g cur t hg ht => apart_of hg R3 (by
    intro e
    rw [e] at ht
    revert ht
    simp [Ty])
  have R4 := Lib.hid r4
  have HW4 := Lib.hid hw4
  have P4 := Lib.hid (HP3.out.keep kk)
  have E4 := Lib.hid (HE3.out.keep kk)
  clear r4 kp kk hw4
  refine wpList_store_row rfl 46 (.tmp 2) (.tmp 9) rfl (k + 1) #[.slice A1 X.length c1, .slice A2 L2.length c2] (by rfl) (by rfl) 46 _ R3 (by kernel_rfl) rfl hone ?_
  rw [HW4.out]
  go_wp2
  refine bodyPost_ret (v := .agg #[.slice A1 X.length c1, .slice A2 L2.length c2]) (by
    have c0 := cell_of R4.out 0 (.slice A1 X.length c1) rfl
    have c1 := cell_of R4.out 1 (.slice A2 L2.length c2) rfl
    simp [results, Try.results48, go_sem]
    try go_simp) rfl ⟨⟨.slice A1 X.length c1, X, .slice A2 L2.length c2, L2⟩, rfl, ⟨P4.out, E4.out, HLM.out, (by rw [show L2.length = L.length by have := congrArg List.length hL2; simpa using this]; exact HLT.out)⟩, by simp [Vl.d, hL2], B4.out⟩

set_option maxRecDepth 100000 in
set_option maxHeartbeats 2000000 in
theorem ownVal (x : Vl) (w : World) (h : x.At w w.heap.size) :
    Calls Try.prog 14 #[.agg x.cs] w fun r w' => ∃ x' : Vl, r = .returned (.agg x'.cs) ∧ x'.Ok w' ∧ x'.d = x.d ∧ Below w.heap.size w w' := by
  have K1 : Hid (∀ W, Below w.heap.size w W → Calls Try.prog 31 #[x.m] W fun e w' => ∃ v, e = .returned v ∧ w'.ownsRow W.heap.size 67 2 v x.X.length (V.cellsV x.X) ∧ Below W.heap.size W w') := Lib.hid (fun W hw => by
    have h1 := h.below hw (Nat.le_refl _) hw.size
    obtain ⟨A, c, e, hr, hc, hm⟩ := h1.m
    rw [e]
    exact V.procs A x.X c W hr (by have := h.lm; omega) hc hm)
  have K2 : Hid (∀ W, Below w.heap.size w W → Calls Try.prog 28 #[x.t] W fun e w' => ∃ v, e = .returned v ∧ ∃ L', L'.map Le.v = x.L.map Le.v ∧ EnO w' v L' ∧ Below W.heap.size W w') := Lib.hid (fun W hw => by
    have h1 := h.below hw (Nat.le_refl _) hw.size
    obtain ⟨A, c, e, hr, hc, hm⟩ := h1.t
    rw [e]
    refine (ownsE A x.L c W hr h.lt hc hm).mono ?_
    rintro r w' ⟨v, L', rfl, hv, ho, hE, hb⟩
    exact ⟨v, rfl, L', hv, EnO.of_owns (by rw [show L'.length = x.L.length by have := congrArg List.length hv; simpa using this]; exact ho) hE, hb⟩)
  have HLM := Lib.hid h.lm
  have HLT := Lib.hid h.lt
  obtain ⟨m, X, t, L⟩ := x
  dsimp only [Vl.cs] at K1 K2 HLM HLT ⊢
  obtain ⟨wd, hwd⟩ : ∃ z, ((w.alloc (.cells #[m, t] 33)).alloc (.cells #[.slice none 0 0, .slice none 0 0] 46)) = z := ⟨_, rfl⟩
  have b0 : Below w.heap.size w wd := by rw [← hwd]; exact ((Below.refl _ _).alloc (Nat.le_refl _) _).alloc (by simp) _
  have r0 : wd.heap[w.heap.size]? = some (.cells #[m, t] 33 (0, 0)) := by
    rw [← hwd, Below.heap_alloc _ _ _ (by simp)]
    exact heap_alloc_new _ _
  have r1 : wd.heap[w.heap.size + 1]? = some (.cells #[.slice none 0 0, .slice none 0 0] 46 (0, 0)) := by
    rw [← hwd]
    have := heap_alloc_new (w.alloc (.cells #[m, t] 33)) (.cells #[.slice none 0 0, .slice none 0 0] 46)
    simpa using this
  obtain ⟨k, hk⟩ : ∃ k, w.heap.size = k := ⟨_, rfl⟩
  rw [hk] at r0 r1 b0 K1 K2 ⊢
  have HW := Lib.hid hwd
  have B0 := Lib.hid b0
  have R0 := Lib.hid r0
  have R1 := Lib.hid r1
  clear h hwd b0 r0 r1
  go_enter Try.func14, Try.ntmps14
  go_wp2_with (first
    | (refine wpList_bx rfl 33 (.tmp 0) rfl 1 rfl #[m, t] rfl ?_; rw [hk])
    | (rw [HW.out]))
  try simp only [World.size_alloc, hk]
  refine region_heldT (S := fun W => W.heap[k]? = some (.cells #[m, t] 33 (0, 0))) 7 (by kernel_rfl) (by decide) (fun inv => ?_)
  have HS : wd.drew.heap[k]? = some (.cells #[m, t] 33 (0, 0)) := R0.out
  have R1d : Hid (wd.drew.heap[k + 1]? = some (.cells #[.slice none 0 0, .slice none 0 0] 46 (0, 0))) := Lib.hid R1.out
  have R0d : Hid (wd.drew.heap[k]? = some (.cells #[m, t] 33 (0, 0))) := Lib.hid R0.out
  have B0d : Hid (Below k w wd.drew) := Lib.hid B0.out.drew
  change FirstH _ _ _ _ _ _ _ _ _ _ wd.drew
  generalize wd.drew = wd2 at *
  refine FirstH.go (i := 0) (v := .pointer (some ⟨k, 0, none⟩)) rfl rfl 3 rfl (Op.fieldAddr 33 (.tmp 1) 0) rfl (by kernel_rfl) (fun _ _ _ h => h) inv (fun W hS => by have k0 := (cell_of_row _ _ 0 _ _ _ hS); have k1 := (cell_of_row _ _ 1 _ _ _ hS); unfold bareO; go_simp) HS (fun inv => ?_)
  try simp only [Act.put, List.setIfInBounds_toArray, List.set_cons_zero, List.set_cons_succ]
  refine FirstH.go (i := 1) (v := m) rfl rfl 4 rfl (Op.load 30 (.tmp 3)) rfl (by kernel_rfl) (fun _ _ _ h => h) inv (fun W hS => by have k0 := (cell_of_row _ _ 0 _ _ _ hS); have k1 := (cell_of_row _ _ 1 _ _ _ hS); unfold bareO; go_simp) HS (fun inv => ?_)
  try simp only [Act.put, List.setIfInBounds_toArray, List.set_cons_zero, List.set_cons_succ]
  refine FirstH.go (i := 3) (v := .pointer (some ⟨k, 1, none⟩)) rfl rfl 6 rfl (Op.fieldAddr 33 (.tmp 1) 1) rfl (by kernel_rfl) (fun _ _ _ h => h) inv (fun W hS => by have k0 := (cell_of_row _ _ 0 _ _ _ hS); have k1 := (cell_of_row _ _ 1 _ _ _ hS); unfold bareO; go_simp) HS (fun inv => ?_)
  try simp only [Act.put, List.setIfInBounds_toArray, List.set_cons_zero, List.set_cons_succ]
  refine FirstH.go (i := 4) (v := t) rfl rfl 7 rfl (Op.load 31 (.tmp 6)) rfl (by kernel_rfl) (fun _ _ _ h => h) inv (fun W hS => by have k0 := (cell_of_row _ _ 0 _ _ _ hS); have k1 := (cell_of_row _ _ 1 _ _ _ hS); unfold bareO; go_simp) HS (fun inv => ?_)
  try simp only [Act.put, List.setIfInBounds_toArray, List.set_cons_zero, List.set_cons_succ]
  clear HS
  refine FirstH.only (i := 2) (by kernel_rfl) (by decide) inv (fun inv => wpOp_call (i := 2) rfl rfl 5 rfl (Op.call { callee := .value (.func 31), args := #[.tmp 4], argTypes := #[30] }) rfl 31 #[m] (by unfold bareO; go_simp) (K1.out wd2 B0d.out) ?_)
  rintro e w2 ⟨v1, rfl, o1, b2⟩
  have l1 : k + 1 < wd2.heap.size := (Array.getElem?_eq_some_iff.1 R1d.out).1
  have B2 := Lib.hid (B0d.out.trans (b2.mono (hk ▸ B0d.out.size)))
  have HS2 := (b2.block k (by omega)).trans R0d.out
  have R2 := Lib.hid ((b2.block _ l1).trans R1d.out)
  have HP2 : Hid (PrO w2 v1 X) := Lib.hid (PrO.of_owns o1)
  obtain ⟨A1, c1, rfl, -⟩ := (PrO.of_owns o1).rows
  clear b2
  refine ⟨_, rfl, HS2, ?_⟩
  try simp only [Act.put, List.setIfInBounds_toArray, List.set_cons_zero, List.set_cons_succ]
  refine FirstH.only (i := 5) (by kernel_rfl) (by decide) inv (fun inv => wpOp_call (i := 5) rfl rfl 8 rfl (Op.call { callee := .value (.func 28), args := #[.tmp 7], argTypes := #[31] }) rfl 28 #[t] (by unfold bareO; go_simp) (K2.out w2 B2.out) ?_)
  rintro e w3 ⟨v2, rfl, L2, hL2, o2, b3⟩
  have l2 : k + 1 < w2.heap.size := (Array.getElem?_eq_some_iff.1 R2.out).1
  have B3 := Lib.hid (B2.out.trans (b3.mono (hk ▸ B2.out.size)))
  have HS3 := (b3.block k (by omega)).trans HS2
  have R3 := (b3.block _ l2).trans R2.out
  have HP3 : Hid (PrO w3 (.slice A1 X.length c1) X) := Lib.hid (HP2.out.keep (Keeps.of_below b3))
  have HE3 : Hid (EnO w3 v2 L2) := Lib.hid o2
  obtain ⟨A2, c2, rfl, -⟩ := o2.rows
  have hl3 : k + 1 < w3.heap.size := (Array.getElem?_eq_some_iff.1 R3).1
  clear b3 HS2
  refine ⟨_, rfl, HS3, ?_⟩
  try simp only [Act.put, List.setIfInBounds_toArray, List.set_cons_zero, List.set_cons_succ]
  refine FirstH.go (i := 6) (v := .agg #[.slice A1 X.length c1, .slice A2 L2.length c2]) rfl rfl 9 rfl (Op.build 46 #[(0, .tmp 5), (1, .tmp 8)]) rfl (by kernel_rfl) (fun _ _ _ h => h) inv (fun W hS => by unfold bareO; go_simp) HS3 (fun inv => ?_)
  try simp only [Act.put, List.setIfInBounds_toArray, List.set_cons_zero, List.set_cons_succ]
  clear HS3
  refine ⟨by kernel_rfl, ?_⟩
  simp only [List.drop_succ_cons, List.drop_zero]
  have hone : (#[.slice A1 X.length c1, .slice A2 L2.length c2] : Array Value).all (·.oneCell') = true := by simp [Value.oneCell']
  obtain ⟨w4, hw4⟩ : ∃ z, w3.setRow (k + 1) #[.slice A1 X.length c1, .slice A2 L2.length c2] = z := ⟨_, rfl⟩
  have r4 : w4.heap[k + 1]? = some (.cells #[.slice A1 X.length c1, .slice A2 L2.length c2] 46 (0, 0)) := by rw [← hw4]; exact setRow_heapG _ _ _ _ _ _ R3
  have kp : KP (fun j => j = k + 1) w3 w4 := by rw [← hw4]; exact KP.setRow w3 (k + 1) _ rfl
  have B4 := Lib.hid (B3.out.trans (kp.below (by omega) fun j hj => by omega))
  have kk : Keeps w3 w4 := Keeps.of_KP kp fun g cur t hg ht => apart_of hg R3 (by
    intro e
    rw [e] at ht
    revert ht
    simp [Ty])
  have R4 := Lib.hid r4
  have HW4 := Lib.hid hw4
  have P4 := Lib.hid (HP3.out.keep kk)
  have E4 := Lib.hid (HE3.out.keep kk)
  clear r4 kp kk hw4
  refine wpList_store_row rfl 46 (.tmp 2) (.tmp 9) rfl (k + 1) #[.slice A1 X.length c1, .slice A2 L2.length c2] (by rfl) (by rfl) 46 _ R3 (by kernel_rfl) rfl hone ?_
  rw [HW4.out]
  go_wp2
  refine bodyPost_ret (v := .agg #[.slice A1 X.length c1, .slice A2 L2.length c2]) (by
    have c0 := cell_of R4.out 0 (.slice A1 X.length c1) rfl
    have c1 := cell_of R4.out 1 (.slice A2 L2.length c2) rfl
    simp [results, Try.results14, go_sem]
    try go_simp) rfl ⟨⟨.slice A1 X.length c1, X, .slice A2 L2.length c2, L2⟩, rfl, ⟨P4.out, E4.out, HLM.out, (by rw [show L2.length = L.length by have := congrArg List.length hL2; simpa using this]; exact HLT.out)⟩, by simp [Vl.d, hL2], B4.out⟩

set_option maxRecDepth 100000 in
set_option maxHeartbeats 2000000 in
theorem refVal (x : Vl) (w : World) (h : x.Ok w) :
    Calls Try.prog 19 #[.agg x.cs] w fun r w' => ∃ x' : Vl, r = .returned (.agg x'.cs) ∧ x'.OkR w' ∧ x'.d = x.d ∧ Below w.heap.size w w' := by
  have K1 : Hid (∀ W, Below w.heap.size w W → Calls Try.prog 41 #[x.m] W fun e w' => ∃ v, e = .returned v ∧ w'.ownsRow W.heap.size 38 2 v x.X.length (V.cellsV x.X) ∧ Below W.heap.size W w') := Lib.hid (fun W hw => by
    have h1 := h.keep (Keeps.of_below hw)
    obtain ⟨A, c, e, hr, hc, hm, hA⟩ := h1.m.rows
    rw [e]
    exact V.refProcs A x.X c W hr (by have := h.lm; omega) hc hm)
  have K2 : Hid (∀ W, Below w.heap.size w W → Calls Try.prog 50 #[x.t] W fun e w' => ∃ v, e = .returned v ∧ ∃ L', L'.map Le.v = x.L.map Le.v ∧ EnR w' v L' ∧ Below W.heap.size W w') := Lib.hid (fun W hw => by
    refine (refsE x.t x.L W ((h.keep (Keeps.of_below hw)).t) h.lt).mono ?_
    rintro r w' ⟨v, rfl, L', hv, ho, _, hb⟩
    exact ⟨v, rfl, L', hv, ho, hb⟩)
  have HLM := Lib.hid h.lm
  have HLT := Lib.hid h.lt
  obtain ⟨m, X, t, L⟩ := x
  dsimp only [Vl.cs] at K1 K2 HLM HLT ⊢
  obtain ⟨wd, hwd⟩ : ∃ z, ((w.alloc (.cells #[m, t] 46)).alloc (.cells #[.slice none 0 0, .slice none 0 0] 33)) = z := ⟨_, rfl⟩
  have b0 : Below w.heap.size w wd := by rw [← hwd]; exact ((Below.refl _ _).alloc (Nat.le_refl _) _).alloc (by simp) _
  have r0 : wd.heap[w.heap.size]? = some (.cells #[m, t] 46 (0, 0)) := by
    rw [← hwd, Below.heap_alloc _ _ _ (by simp)]
    exact heap_alloc_new _ _
  have r1 : wd.heap[w.heap.size + 1]? = some (.cells #[.slice none 0 0, .slice none 0 0] 33 (0, 0)) := by
    rw [← hwd]
    have := heap_alloc_new (w.alloc (.cells #[m, t] 46)) (.cells #[.slice none 0 0, .slice none 0 0] 33)
    simpa using this
  obtain ⟨k, hk⟩ : ∃ k, w.heap.size = k := ⟨_, rfl⟩
  rw [hk] at r0 r1 b0 K1 K2 ⊢
  have HW := Lib.hid hwd
  have B0 := Lib.hid b0
  have R0 := Lib.hid r0
  have R1 := Lib.hid r1
  clear h hwd b0 r0 r1
  go_enter Try.func19, Try.ntmps19
  go_wp2_with (first
    | (refine wpList_bx rfl 46 (.tmp 0) rfl 1 rfl #[m, t] rfl ?_; rw [hk])
    | (rw [HW.out]))
  try simp only [World.size_alloc, hk]
  refine region_heldT (S := fun W => W.heap[k]? = some (.cells #[m, t] 46 (0, 0))) 7 (by kernel_rfl) (by decide) (fun inv => ?_)
  have HS : wd.drew.heap[k]? = some (.cells #[m, t] 46 (0, 0)) := R0.out
  have R1d : Hid (wd.drew.heap[k + 1]? = some (.cells #[.slice none 0 0, .slice none 0 0] 33 (0, 0))) := Lib.hid R1.out
  have R0d : Hid (wd.drew.heap[k]? = some (.cells #[m, t] 46 (0, 0))) := Lib.hid R0.out
  have B0d : Hid (Below k w wd.drew) := Lib.hid B0.out.drew
  change FirstH _ _ _ _ _ _ _ _ _ _ wd.drew
  generalize wd.drew = wd2 at *
  refine FirstH.go (i := 0) (v := .pointer (some ⟨k, 0, none⟩)) rfl rfl 3 rfl (Op.fieldAddr 46 (.tmp 1) 0) rfl (by kernel_rfl) (fun _ _ _ h => h) inv (fun W hS => by have k0 := (cell_of_row _ _ 0 _ _ _ hS); have k1 := (cell_of_row _ _ 1 _ _ _ hS); unfold bareO; go_simp) HS (fun inv => ?_)
  try simp only [Act.put, List.setIfInBounds_toArray, List.set_cons_zero, List.set_cons_succ]
  refine FirstH.go (i := 1) (v := m) rfl rfl 4 rfl (Op.load 43 (.tmp 3)) rfl (by kernel_rfl) (fun _ _ _ h => h) inv (fun W hS => by have k0 := (cell_of_row _ _ 0 _ _ _ hS); have k1 := (cell_of_row _ _ 1 _ _ _ hS); unfold bareO; go_simp) HS (fun inv => ?_)
  try simp only [Act.put, List.setIfInBounds_toArray, List.set_cons_zero, List.set_cons_succ]
  refine FirstH.go (i := 3) (v := .pointer (some ⟨k, 1, none⟩)) rfl rfl 6 rfl (Op.fieldAddr 46 (.tmp 1) 1) rfl (by kernel_rfl) (fun _ _ _ h => h) inv (fun W hS => by have k0 := (cell_of_row _ _ 0 _ _ _ hS); have k1 := (cell_of_row _ _ 1 _ _ _ hS); unfold bareO; go_simp) HS (fun inv => ?_)
  try simp only [Act.put, List.setIfInBounds_toArray, List.set_cons_zero, List.set_cons_succ]
  refine FirstH.go (i := 4) (v := t) rfl rfl 7 rfl (Op.load 44 (.tmp 6)) rfl (by kernel_rfl) (fun _ _ _ h => h) inv (fun W hS => by have k0 := (cell_of_row _ _ 0 _ _ _ hS); have k1 := (cell_of_row _ _ 1 _ _ _ hS); unfold bareO; go_simp) HS (fun inv => ?_)
  try simp only [Act.put, List.setIfInBounds_toArray, List.set_cons_zero, List.set_cons_succ]
  clear HS
  refine FirstH.only (i := 2) (by kernel_rfl) (by decide) inv (fun inv => wpOp_call (i := 2) rfl rfl 5 rfl (Op.call { callee := .value (.func 41), args := #[.tmp 4], argTypes := #[43] }) rfl 41 #[m] (by unfold bareO; go_simp) (K1.out wd2 B0d.out) ?_)
  rintro e w2 ⟨v1, rfl, o1, b2⟩
  have l1 : k + 1 < wd2.heap.size := (Array.getElem?_eq_some_iff.1 R1d.out).1
  have B2 := Lib.hid (B0d.out.trans (b2.mono (hk ▸ B0d.out.size)))
  have HS2 := (b2.block k (by omega)).trans R0d.out
  have R2 := Lib.hid ((b2.block _ l1).trans R1d.out)
  have HP2 : Hid (PrR w2 v1 X) := Lib.hid (PrR.of_owns o1)
  obtain ⟨A1, c1, rfl, -⟩ := (PrR.of_owns o1).rows
  clear b2
  refine ⟨_, rfl, HS2, ?_⟩
  try simp only [Act.put, List.setIfInBounds_toArray, List.set_cons_zero, List.set_cons_succ]
  refine FirstH.only (i := 5) (by kernel_rfl) (by decide) inv (fun inv => wpOp_call (i := 5) rfl rfl 8 rfl (Op.call { callee := .value (.func 50), args := #[.tmp 7], argTypes := #[44] }) rfl 50 #[t] (by unfold bareO; go_simp) (K2.out w2 B2.out) ?_)
  rintro e w3 ⟨v2, rfl, L2, hL2, o2, b3⟩
  have l2 : k + 1 < w2.heap.size := (Array.getElem?_eq_some_iff.1 R2.out).1
  have B3 := Lib.hid (B2.out.trans (b3.mono (hk ▸ B2.out.size)))
  have HS3 := (b3.block k (by omega)).trans HS2
  have R3 := (b3.block _ l2).trans R2.out
  have HP3 : Hid (PrR w3 (.slice A1 X.length c1) X) := Lib.hid (HP2.out.keep (Keeps.of_below b3))
  have HE3 : Hid (EnR w3 v2 L2) := Lib.hid o2
  obtain ⟨A2, c2, rfl, -⟩ := o2.rows
  have hl3 : k + 1 < w3.heap.size := (Array.getElem?_eq_some_iff.1 R3).1
  clear b3 HS2
  refine ⟨_, rfl, HS3, ?_⟩
  try simp only [Act.put, List.setIfInBounds_toArray, List.set_cons_zero, List.set_cons_succ]
  refine FirstH.go (i := 6) (v := .agg #[.slice A1 X.length c1, .slice A2 L2.length c2]) rfl rfl 9 rfl (Op.build 33 #[(0, .tmp 5), (1, .tmp 8)]) rfl (by kernel_rfl) (fun _ _ _ h => h) inv (fun W hS => by unfold bareO; go_simp) HS3 (fun inv => ?_)
  try simp only [Act.put, List.setIfInBounds_toArray, List.set_cons_zero, List.set_cons_succ]
  clear HS3
  refine ⟨by kernel_rfl, ?_⟩
  simp only [List.drop_succ_cons, List.drop_zero]
  have hone : (#[.slice A1 X.length c1, .slice A2 L2.length c2] : Array Value).all (·.oneCell') = true := by simp [Value.oneCell']
  obtain ⟨w4, hw4⟩ : ∃ z, w3.setRow (k + 1) #[.slice A1 X.length c1, .slice A2 L2.length c2] = z := ⟨_, rfl⟩
  have r4 : w4.heap[k + 1]? = some (.cells #[.slice A1 X.length c1, .slice A2 L2.length c2] 33 (0, 0)) := by rw [← hw4]; exact setRow_heapG _ _ _ _ _ _ R3
  have kp : KP (fun j => j = k + 1) w3 w4 := by rw [← hw4]; exact KP.setRow w3 (k + 1) _ rfl
  have B4 := Lib.hid (B3.out.trans (kp.below (by omega) fun j hj => by omega))
  have kk : Keeps w3 w4 := Keeps.of_KP kp fun g cur t hg ht => apart_of hg R3 (by
    intro e
    rw [e] at ht
    revert ht
    simp [Ty])
  have R4 := Lib.hid r4
  have HW4 := Lib.hid hw4
  have P4 := Lib.hid (HP3.out.keep kk)
  have E4 := Lib.hid (HE3.out.keep kk)
  clear r4 kp kk hw4
  refine wpList_store_row rfl 33 (.tmp 2) (.tmp 9) rfl (k + 1) #[.slice A1 X.length c1, .slice A2 L2.length c2] (by rfl) (by rfl) 33 _ R3 (by kernel_rfl) rfl hone ?_
  rw [HW4.out]
  go_wp2
  refine bodyPost_ret (v := .agg #[.slice A1 X.length c1, .slice A2 L2.length c2]) (by
    have c0 := cell_of R4.out 0 (.slice A1 X.length c1) rfl
    have c1 := cell_of R4.out 1 (.slice A2 L2.length c2) rfl
    simp [results, Try.results19, go_sem]
    try go_simp) rfl ⟨⟨.slice A1 X.length c1, X, .slice A2 L2.length c2, L2⟩, rfl, ⟨P4.out, E4.out, HLM.out, (by rw [show L2.length = L.length by have := congrArg List.length hL2; simpa using this]; exact HLT.out)⟩, by simp [Vl.d, hL2], B4.out⟩


end Go.Proofs.Ytmhgopaekpnhoaa
