/-
  The program's Quorum: are a majority of the members among a list? By an exact answer. Condition: the lists lie in memory; they are short.
-/
import Derived.Test.YtgmjhloednmfnaaDoorVam
import Derived.Test.YtgmjhloednmfnaaDoorVix
import Derived.Test.YtgmjhloednmfnaaDoorVsam
namespace Go.Proofs.YtgmjhloednmfnaaDoor
set_option linter.unusedSimpArgs false
set_option linter.unusedVariables false
open Go.RowKit Go.Sort Go.Shelf
attribute [local go_sem] Oper.semAt_some

theorem wp_cutQ {P : Program} {code : Code} {Q : Exit → Act → World → Prop} {a0 : Act} {w0 : World} (R : Act → Act → World → Prop) (h : code.wp P (fun e a w => e = .normal ∧ R a0 a w) a0 w0) (hk : ∀ a w, R a0 a w → Q .normal a w) : code.wp P Q a0 w0 :=
  Code.wp_mono (fun e a w h => by obtain ⟨rfl, h⟩ := h; exact hk a w h) h
theorem row_own {β : Type} (b : Nat) (cs : Array Value) (t : TypeId) (fr : Nat × Nat) : Own (fun (_ : β) W => W.heap[b]? = some (.cells cs t fr)) := fun _ X Y row hs hg hr => by
  refine (hg.block b (Array.getElem?_eq_some_iff.1 hs).1 (fun e => ?_)).trans hs
  obtain ⟨o, ho, hc⟩ := hr b e.symm
  rw [hs] at ho
  cases ho
  cases hc
theorem keepG_set {G : Nat → Prop} (W : World) (b i : Nat) (v : Value) (hb : ¬ G b) : KeepG G W (W.setCell ⟨b, i, none⟩ v) :=
  ⟨(KeepsWalks.setCell W _ v).size, fun k hk => Below.heap_setCell _ _ _ k (fun e => hb (by have e' : k = b := e; rw [← e']; exact hk))⟩
/-- ahead of the loop over the members: the view's box, the number's box, what the sequence and its question read. -/
structure QmAt (w W : World) (g N : Int) (Am : Option Addr) (n c Bv Bf p : Nat) (L : List P2) (A : Option Addr) (R : List P2) (cr : Nat) : Prop where
  bel : Below w.heap.size w W
  rv : W.heap[w.heap.size]? = some (.cells #[.int .u8 g, .int .u32 N, .slice Am n c] 30 (0, 0))
  rn : W.heap[w.heap.size + 1]? = some (.cells #[.int .i64 0] 3 (0, 0))
  cv : W.cell? ⟨Bv, 2, none⟩ = some (.slice Am n c)
  cf : W.cell? ⟨Bf, 0, none⟩ = some (.func (.func 49) #[] #[.pointer (some ⟨p, 0, none⟩)])
  ask : AskAt W p L A R cr
  lp : w.heap.size + 2 ≤ p
  lA : ∀ b o, A = some ⟨b, o, none⟩ → w.heap.size + 2 ≤ b
  lf : w.heap.size + 2 ≤ Bf
/-- behind the making of the sequence. -/
def AtQm (w : World) (g N : Int) (Am : Option Addr) (n c : Nat) (L : List P2) (a0 a : Act) (W : World) : Prop :=
  ∃ (Bv Bf p : Nat) (A : Option Addr) (R : List P2) (cr : Nat) (u6 u7 u8 : Value), a = (((a0.put (some 6) u6).put (some 7) u7).put (some 8) u8).put (some 9) (.func (.func 45) #[] #[.pointer (some ⟨Bv, 0, none⟩), .pointer (some ⟨Bf, 0, none⟩)]) ∧ Hid (QmAt w W g N Am n c Bv Bf p L A R cr)

set_option maxRecDepth 100000 in
set_option maxHeartbeats 2000000 in
theorem quorumO' (g N : Int) (A B : Option Addr) (V L : List P2) (c d : Nat) (w : World) (hr : RowsV w w.heap.size A V) (hs : RowsV w w.heap.size B L) (hc : V.length ≤ c) (hm : c ≤ maxLen) (hd : L.length ≤ d) (hn : d ≤ maxLen) (hV : V.length ≤ 1000000) (hL : L.length ≤ 1000000) :
    Calls Tryd.prog 15 #[.agg #[.int .u8 g, .int .u32 N, .slice A V.length c], .slice B L.length d] w fun e w' => e = .returned (.bool (quo V L)) ∧ Below w.heap.size w w' := by
  obtain ⟨W0, hW0⟩ : ∃ W0, (w.alloc (.cells #[.int .u8 g, .int .u32 N, .slice A V.length c] 30)).alloc (.cells #[.int .i64 0] 3) = W0 := ⟨_, rfl⟩
  have b0 : Below w.heap.size w W0 := by rw [← hW0]; exact ((Below.refl _ _).alloc (Nat.le_refl _) _).alloc (by simp) _
  have r0 : W0.heap[w.heap.size]? = some (.cells #[.int .u8 g, .int .u32 N, .slice A V.length c] 30 (0, 0)) := by rw [← hW0]; exact rowA _ _ _ _ _
  have r1 : W0.heap[w.heap.size + 1]? = some (.cells #[.int .i64 0] 3 (0, 0)) := by rw [← hW0]; exact rowB _ _ _ _ _
  have s0 : W0.heap.size = w.heap.size + 2 := by rw [← hW0]; simp
  have R0 := Lib.hid r0
  have R1 := Lib.hid r1
  have B0 := Lib.hid b0
  have S0 := Lib.hid s0
  have KA := Lib.hid (fun W (h : Below W0.heap.size W0 W) => amongO B L d W (hs.below (C := w.heap.size) (b0.trans (h.mono b0.size)) (Nat.le_refl _) (Nat.le_trans b0.size h.size)) hL hd hn)
  have HW0 := Lib.hid hW0
  clear b0 r0 r1 s0 hW0
  refine (callsIn_wide (n := 6)).1 ?_
  refine callsIn_of_wp_marks Tryd.func15 rfl trivial ?_ rfl
  simp only [Tryd.ntmps15, List.size_toArray, List.length_cons, List.length_nil, Nat.reduceAdd, Nat.reduceSub, Array.replicate_succ, Array.replicate_zero, List.push_toArray, List.append_toArray, List.nil_append, List.cons_append]
  refine wpIn_wide.2 ?_
  go_wp2
  rw [HW0.out]
  refine wp_cutQ (AtQm w g N A V.length c L) ?_ ?_
  · go_region_held3 (fun W => W.cell? ⟨w.heap.size, 0, none⟩ = some (.int .u8 g) ∧ W.cell? ⟨w.heap.size, 1, none⟩ = some (.int .u32 N) ∧ W.cell? ⟨w.heap.size, 2, none⟩ = some (.slice A V.length c)) ((first | (exact ⟨(cell_of_row _ _ 0 _ _ _ R3.out).trans rfl, (cell_of_row _ _ 1 _ _ _ R3.out).trans rfl, (cell_of_row _ _ 2 _ _ _ R3.out).trans rfl⟩) | (exact ⟨(cell_of_row _ _ 0 _ _ _ R2.out).trans rfl, (cell_of_row _ _ 1 _ _ _ R2.out).trans rfl, (cell_of_row _ _ 2 _ _ _ R2.out).trans rfl⟩) | (exact ⟨(cell_of_row _ _ 0 _ _ _ R0.out).trans rfl, (cell_of_row _ _ 1 _ _ _ R0.out).trans rfl, (cell_of_row _ _ 2 _ _ _ R0.out).trans rfl⟩) | (simp; done) | go_keep)) (first
      | (go_at_call 31; refine (thoseO _ _ _ _ _ _ _ _ rfl _).mono ?_; rintro e2 w2 ⟨rfl, hw2⟩
         have t2 : Below w1.heap.size w1 w2 := by rw [← hw2]; exact two_below _ _ _ _ _
         have Q9 : Hid (QmAt w w2 g N A V.length c w1.heap.size (w1.heap.size + 1) p L A1 R cr) := Lib.hid {
           bel := HB.out.trans (t2.mono HB.out.size)
           rv := (t2.block _ (by obtain ⟨h, _⟩ := Array.getElem?_eq_some_iff.1 R2.out; exact h)).trans R2.out
           rn := (t2.block _ (by obtain ⟨h, _⟩ := Array.getElem?_eq_some_iff.1 N2.out; exact h)).trans N2.out
           cv := by rw [← hw2]; exact (cell_of_row _ _ 2 _ _ _ (rowA _ _ _ _ _)).trans rfl
           cf := by rw [← hw2]; exact (cell_of_row _ _ 0 _ _ _ (rowB _ _ _ _ _)).trans rfl
           ask := HK.out.keepG (G := fun k => k < w1.heap.size) (KeepG.of_below t2 (fun k hk => hk)) (World.block_lt_of_cell? w1 _ HK.out.box) HK.out.lt
           lp := HP.out
           lA := HA.out.1
           lf := Nat.le_trans HZ.out (by omega) }
         have R3 := Lib.hid Q9.out.rv
         clear hw2 t2)
      | (go_at_call 32; refine (KA.out _ ((Below.refl _ _).drew)).mono ?_; rintro e1 w1 ⟨p, A1, R, cr, rfl, hask, hp, hA1, b1⟩
         have R2 := Lib.hid ((b1.block _ (show w.heap.size < W0.heap.size by rw [S0.out]; omega)).trans R0.out)
         have N2 := Lib.hid ((b1.block _ (show w.heap.size + 1 < W0.heap.size by rw [S0.out]; omega)).trans R1.out)
         have HB := Lib.hid (B0.out.trans ((((Below.refl W0.heap.size W0).drew).trans b1).mono B0.out.size))
         have HK := Lib.hid hask
         have HZ : Hid (w.heap.size + 2 ≤ w1.heap.size) := Lib.hid (by rw [← S0.out]; exact b1.size)
         have HP : Hid (w.heap.size + 2 ≤ p) := Lib.hid (by rw [← S0.out]; exact hp)
         have HA : Hid ((∀ b o, A1 = some ⟨b, o, none⟩ → w.heap.size + 2 ≤ b) ∧ True) := Lib.hid ⟨fun b o e => by rw [← S0.out]; exact hA1 b o e, trivial⟩
         clear hask hp hA1 b1))
    all_goals exact ⟨rfl, w1.heap.size, w1.heap.size + 1, p, A1, R, cr, _, _, _, rfl, Q9⟩
  · rintro a W ⟨Bv, Bf, p, A1, R, cr, u6, u7, u8, rfl, HQ⟩
    simp only [Act.put, List.setIfInBounds_toArray, List.set_cons_zero, List.set_cons_succ]
    clear KA R0 R1 B0 S0 HW0 W0
    go_wp2
    refine (wpIn_wide (n := 6)).1 ?_
    have hpl : p < W.heap.size := World.block_lt_of_cell? W _ HQ.out.ask.box
    have hfl : Bf < W.heap.size := World.block_lt_of_cell? W _ HQ.out.cf
    have hws := HQ.out.bel.size
    have hlp := HQ.out.lp
    have hlf := HQ.out.lf
    have hn0 : w.heap.size + 1 < W.heap.size := (Array.getElem?_eq_some_iff.1 HQ.out.rn).1
    refine wpIn_rangeFunc_ownG (α := P2) rfl (by omega) (gf := 45) (lb := #[.pointer (some ⟨Bv, 0, none⟩), .pointer (some ⟨Bf, 0, none⟩)]) rfl trivial (enters_of Tryd.func45 (by kernel_rfl) rfl)
      (those_stops (6 - 1) (by omega) Bv Bf (fun k => k < W.heap.size ∧ k ≠ w.heap.size + 1) A V c (fun x => decide (x ∈ L)) 49 #[.pointer (some ⟨p, 0, none⟩)] W (enters_of Tryd.func49 (by kernel_rfl) rfl)
        (fun W1 x hx hk => askO W1 p L A1 R cr (HQ.out.ask.keepG hk ⟨hpl, by omega⟩ (fun b o hb e => ⟨HQ.out.ask.lt b o hb e, by have := HQ.out.lA b o e; omega⟩)) x)
        HQ.out.cv HQ.out.cf (hr.below (C := w.heap.size) HQ.out.bel (Nat.le_refl _) hws)
        (fun b o hx e => by
          obtain ⟨b', o', e', hb', _⟩ := hr hx
          rw [e] at e'
          cases e'
          exact ⟨by omega, by omega⟩)
        ⟨hfl, by omega⟩ (fun k hk => hk.1) hc hm)
      (fun h k => h.trans k) (keepG_b (fun k hk => hk.1)) (Below.refl _ _) (fun _ => rfl)
      (fun pre W' => (Boxed W' (w.heap.size + 1) 3 (.int .i64 (pre.length : Int)) ∧ W'.heap[w.heap.size]? = some (.cells #[.int .u8 g, .int .u32 N, .slice A V.length c] 30 (0, 0))) ∧ Below w.heap.size w W')
      (fun _ _ _ => False)
      (OwnFrom.and (OwnFrom.and (Own.from (boxed_own _ _ (fun pre : List P2 => .int .i64 (pre.length : Int))) _) (Own.from (row_own _ _ _ _) _)) (ownFrom_below (Nat.le_refl _) (by omega)))
      (fun _ _ _ _ _ hs _ _ => hs)
      ⟨⟨HQ.out.rn, HQ.out.rv⟩, HQ.out.bel⟩
      (fun x => { tmps := #[.agg #[.int .u8 g, .int .u32 N, .slice A V.length c], .slice B L.length d, .pointer (some ⟨w.heap.size, 0, none⟩), undef, .bool false, .pointer (some ⟨w.heap.size + 1, 0, none⟩), u6, u7, u8, .func (.func 45) #[] #[.pointer (some ⟨Bv, 0, none⟩), .pointer (some ⟨Bf, 0, none⟩)], .agg #[.int .u8 x.n, .int .u16 x.l], undef, undef, undef, undef, undef, undef], defers := [] }) ?assign ?body ?done ?stop
    case assign =>
      intro l x W' K hK
      gi_wp2
      simpa using hK
    case body =>
      rintro l pre x W' ⟨⟨bN, rV⟩, hB⟩ hlt
      have cN := bN.cell
      have fN := bN.frozen
      have hlb : (pre.length : Int) < 1000000 := by omega
      have hl0 : (0 : Int) ≤ (pre.length : Int) := by omega
      have HN := Lib.hid (bN.set (.int .i64 ((pre.length : Int) + 1)))
      have HV := Lib.hid rV
      have HB := Lib.hid hB
      clear bN rV hB
      gi_wp2
      exact ⟨(KeepsOthers.setCell _ _ _).from _, keepG_set _ _ _ _ (fun h => h.2 rfl), ⟨by simpa using HN.out, (Below.heap_setCell _ _ _ _ (by show w.heap.size ≠ w.heap.size + 1; omega)).trans HV.out⟩, HB.out.setCell (p := ⟨w.heap.size + 1, 0, none⟩) (by show w.heap.size ≤ w.heap.size + 1; omega) _⟩
    case done =>
      rintro D xs W' hD rfl ⟨⟨bN, rV⟩, hB⟩ hK
      have hq : Hid (quo V L = decide (((V.length / 2 + 1 : Nat) : Int) ≤ ((V.filter fun x => decide (x ∈ L)).length : Int))) := Lib.hid (by
        unfold quo
        rw [decide_eq_decide]
        omega)
      generalize hxl : (V.filter fun x => decide (x ∈ L)).length = m at *
      clear hxl
      have KM := Lib.hid (fun W => majO g N A V.length c W hc hm)
      have cN := bN.cell
      have e0 : W'.cell? ⟨w.heap.size, 0, none⟩ = some (.int .u8 g) := (cell_of_row _ _ 0 _ _ _ rV).trans rfl
      have e1 : W'.cell? ⟨w.heap.size, 1, none⟩ = some (.int .u32 N) := (cell_of_row _ _ 1 _ _ _ rV).trans rfl
      have e2 : W'.cell? ⟨w.heap.size, 2, none⟩ = some (.slice A V.length c) := (cell_of_row _ _ 2 _ _ _ rV).trans rfl
      have k0 := cell_regrown e0
      have k1 := cell_regrown e1
      have k2 := cell_regrown e2
      have k3 := cell_regrown cN
      have HB := Lib.hid hB
      have HK := Lib.hid hK
      have HW := Lib.hid hws
      have HD := Lib.hid hD
      have hDl := (Array.getElem?_eq_some_iff.1 hK).1
      have HDl := Lib.hid hDl
      clear bN rV hB hK e0 e1 e2 cN hws hD hDl
      generalize ((V.length / 2 + 1 : Nat) : Int) = mj at *
      go_wp2
      refine wp_region_quiet_below (by kernel_rfl) (by kernel_rfl) ?_
      repeat (go_big_quiet_step (first | (go_at_call 20; exact Calls.regrown_of (KM.out _))))
      refine wpQuiet_nil ?_
      intro W9 hW
      obtain ⟨p9, rfl⟩ := hW
      have hb9 := below_regrown W' p9.d p9.os
      have HK9 := Lib.hid ((hb9.block D HDl.out).trans HK.out)
      have HB9 := Lib.hid (HB.out.trans (hb9.mono HB.out.size))
      clear hb9 k0 k1 k2 k3
      generalize grow (redrawn W' p9.d) p9.os = W8 at *
      go_wp2
      refine ⟨by simp, .inl ⟨_, _, rfl, run_takeDeferred HK9.out, ?_⟩⟩
      exact ⟨_, results_tmp rfl _ _ _, by rw [hq.out]; rfl, HB9.out.trans (belowK_b (w := w) (Nat.le_refl _) W8 D _ _ (Nat.le_trans HW.out HD.out) HK9.out rfl rfl)⟩
    case stop =>
      rintro D c' pre W' _ _ h _
      exact h.elim

end Go.Proofs.YtgmjhloednmfnaaDoor
