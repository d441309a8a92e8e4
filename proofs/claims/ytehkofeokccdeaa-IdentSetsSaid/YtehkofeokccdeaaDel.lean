/-
  slices.DeleteFunc at identifiers under the closure of Set.Under, and the program's Set.Under. Condition: the row is one's own.
-/
import Derived.Test.YtehkofeokccdeaaIdx
namespace Go.Proofs.Ytehkofeokccdeaa
set_option linter.unusedSimpArgs false
set_option linter.unusedVariables false
open Go.RowKit Go.Maps Go.Sort Go.Shelf

/-- the row of block g. -/
def RowsG (W : World) (g : Nat) (Z : List I10) : Prop := ∀ t z, Z[t]? = some z → IdAt W g (t * 10) z

theorem idAt_of {W : World} {b o : Nat} {x : I10} (h : ∀ c, c < 10 → W.cell? ⟨b, o + c, none⟩ = some x.cells[c]!) : IdAt W b o x :=
  ⟨h 0 (by decide), h 1 (by decide), h 2 (by decide), h 3 (by decide), h 4 (by decide), h 5 (by decide), h 6 (by decide), h 7 (by decide), h 8 (by decide), h 9 (by decide)⟩

theorem rowsG_set {W : World} {g i : Nat} {Z : List I10} (h : RowsG W g Z) (hi : i < Z.length) (x : I10) : RowsG (W.setCells g (i * 10) x.cells) g (Z.set i x) := by
  intro t z hz
  by_cases ht : t = i
  · subst ht
    rw [List.getElem?_set_self hi] at hz
    cases hz
    have hold := h t _ (List.getElem?_eq_getElem hi)
    refine idAt_of fun c hc => ?_
    have hl : x.cells.length = 10 := rfl
    rw [World.cell?_setCells_in g x.cells (t * 10) W (fun j hj => by rw [hold.cell_ j (by omega)]; rfl) c (by omega), getElem!_pos x.cells c (by omega)]
  · rw [List.getElem?_set_ne (Ne.symm ht)] at hz
    have hold := h t z hz
    refine idAt_of fun c hc => ?_
    have hl : x.cells.length = 10 := rfl
    rw [World.cell?_setCells_out g x.cells (i * 10) W _ (fun _ _ => by show t * 10 + c < i * 10 ∨ i * 10 + x.cells.length ≤ t * 10 + c; omega)]
    exact hold.cell_ c hc

theorem below_setCells {B b : Nat} (hb : B ≤ b) : ∀ (vs : List Value) (o : Nat) {a w : World}, Below B a w → Below B a (w.setCells b o vs)
  | [], _, _, _, h => h
  | v :: vs, o, _, _, h => below_setCells hb vs (o + 1) (h.setCell hb v)

theorem clearI (W : World) (ty : TypeId) (g a m c : Nat) (hm : 0 < m) (hc : ∀ j, j < m * 10 → (W.cell? ⟨g, a + j, none⟩).isSome = true) (hf : ∀ j, W.frozen? ⟨g, j, none⟩ = false) :
    (Builtin.clear_ #[57] ty #[.slice (some ⟨g, a, none⟩) m c]).run Try.prog W = .ok (.tuple #[]) (W.setCells g a (Builtin.zeroCells #[.int .u8 0, .int .u16 0, .int .u32 0, .int .u8 0, .int .u8 0, .int .u8 0, .int .u8 0, .int .u8 0, .int .u8 0, .int .u8 0] m).toList) := by
  have hv : ∀ w, (zeroValue 48).run Try.prog w = .ok (.agg #[.int .u8 0, .int .u16 0, .int .u32 0, .int .u8 0, .int .u8 0, .int .u8 0, .int .u8 0, .int .u8 0, .int .u8 0, .int .u8 0]) w := fun w => by kernel_rfl
  have hl : (Builtin.zeroCells #[.int .u8 0, .int .u16 0, .int .u32 0, .int .u8 0, .int .u8 0, .int .u8 0, .int .u8 0, .int .u8 0, .int .u8 0, .int .u8 0] m).toList.length = m * 10 := by simp [Builtin.zeroCells]
  have h1 : ∀ v ∈ (Builtin.zeroCells #[.int .u8 0, .int .u16 0, .int .u32 0, .int .u8 0, .int .u8 0, .int .u8 0, .int .u8 0, .int .u8 0, .int .u8 0, .int .u8 0] m).toList, v.oneCell' = true := by
    intro v hv
    simp only [Builtin.zeroCells, Array.toList_map, List.mem_map] at hv
    obtain ⟨i, _, rfl⟩ := hv
    have hk : i % 10 < 10 := Nat.mod_lt _ (by decide)
    show (#[.int .u8 0, .int .u16 0, .int .u32 0, .int .u8 0, .int .u8 0, .int .u8 0, .int .u8 0, .int .u8 0, .int .u8 0, .int .u8 0] : Array Value)[i % 10]!.oneCell' = true
    generalize i % 10 = k at hk
    have : k = 0 ∨ k = 1 ∨ k = 2 ∨ k = 3 ∨ k = 4 ∨ k = 5 ∨ k = 6 ∨ k = 7 ∨ k = 8 ∨ k = 9 := by omega
    rcases this with rfl | rfl | rfl | rfl | rfl | rfl | rfl | rfl | rfl | rfl <;> rfl
  have hst := run_storeCells_cells (P := Try.prog) g a (Builtin.zeroCells #[.int .u8 0, .int .u16 0, .int .u32 0, .int .u8 0, .int .u8 0, .int .u8 0, .int .u8 0, .int .u8 0, .int .u8 0, .int .u8 0] m).toList 0 W (by rw [hl]; simpa using hc) (by intro j _; exact hf _) h1
  simp only [Nat.add_zero] at hst
  obtain ⟨m, rfl⟩ : ∃ m', m = m' + 1 := ⟨m - 1, by omega⟩
  have HST := Lib.hid hst
  clear hst h1
  simp [Builtin.clear_, run_underlying Try.underlying57, hv, Value.cells]
  rw [HST.out]
  rfl

theorem rowsG_clear {W : World} {g k : Nat} {Z : List I10} (h : RowsG W g Z) (vs : List Value) : RowsG (W.setCells g (k * 10) vs) g (Z.take k) := by
  intro t z hz
  have ht : t < k := by
    rcases Nat.lt_or_ge t k with h | h
    · exact h
    · rw [List.getElem?_take_eq_none h] at hz; cases hz
  rw [List.getElem?_take_of_lt ht] at hz
  refine idAt_of fun c hc => ?_
  rw [World.cell?_setCells_out g vs (k * 10) W _ (fun _ _ => by show t * 10 + c < k * 10 ∨ _; omega)]
  exact (h t z hz).cell_ c hc

set_option maxRecDepth 100000 in
set_option maxHeartbeats 4000000 in
theorem delUnder (X : List I10) (g cap p base : Nat) (n l : Int) (w : World) (hgb : base ≤ g) (hbw : base ≤ w.heap.size) (hg : g < w.heap.size) (hp : p < base) (hcap : X.length ≤ cap) (hcm : cap ≤ maxLen) (hX : X.length * 16 ≤ 140737488355328)
    (hfz : ∀ j, w.frozen? ⟨g, j, none⟩ = false) (hat : RowsG w g X) (h0 : w.cell? ⟨p, 0, none⟩ = some (.int .u8 n)) (h1 : w.cell? ⟨p, 1, none⟩ = some (.int .u16 l)) :
    Calls Try.prog 26 #[.slice (some ⟨g, 0, none⟩) X.length cap, .func (.func 27) #[] #[.pointer (some ⟨p, 0, none⟩)]] w fun e w' => ∃ v, e = .returned v ∧ OwnI w' base v (X.filter fun x => !notOf n l x) ∧ Below base w w' := by
  have IX := Lib.hid (idxUnder X g cap p n l w hg hcap hcm hX hat h0 h1)
  unfold maxLen at hcm
  go_enter Try.func26, Try.ntmps26
  go_wp2_with fail
  refine IX.out.mono ?_
  rintro e w1 ⟨hb1, h⟩
  clear IX
  have hat1 : RowsG w1 g X := fun t z hz => (hat t z hz).below hb1 hg
  have hf1 : ∀ j, w1.frozen? ⟨g, j, none⟩ = false := fun j => (hb1.frozen (p := ⟨g, j, none⟩) hg).trans (hfz j)
  have hs1 := hb1.size
  have B1 := Lib.hid (hb1.mono hbw)
  rcases h with ⟨rfl, hall⟩ | ⟨k, x0, rfl, hk, hq0, hpre⟩
  · have hfil : (X.filter fun x => !notOf n l x) = X := List.filter_eq_self.2 fun x hx => by simp [hall x hx]
    have HF := Lib.hid hfil
    have HA := Lib.hid hat1
    have HZ := Lib.hid hf1
    clear hall hfil hat hat1 hfz hf1 h0 h1 hb1
    go_wp2
    go_ret
    rw [HF.out]
    exact ⟨_, rfl, .inr ⟨g, cap, rfl, hgb, by omega, hcap, by unfold maxLen; omega, HZ.out, HA.out⟩, B1.out⟩
  · have hkl : k < X.length := (List.getElem?_eq_some_iff.1 hk).1
    have H0 := Lib.hid h0
    have H1 := Lib.hid h1
    have RS : Hid (RowsG w1 g X) := Lib.hid hat1
    have FS : Hid (∀ j, w1.frozen? ⟨g, j, none⟩ = false) := Lib.hid hf1
    have TS : Hid (X.take k = (X.take (k + 1)).filter fun x => !notOf n l x) := Lib.hid (by
      rw [List.take_add_one, hk, List.filter_append, List.filter_eq_self.2 (fun x hx => by simp [hpre x hx])]
      simp [hq0])
    clear hat hat1 hfz hf1 h0 h1 hb1 hpre hq0 hk
    have hne : ((k : Int) == -1) = false := by first | (simp; done) | (simp; omega)
    go_wp2
    go_loopw [5, 6] (fun i j wx => ∃ (kk jj : Nat) (Z : List I10), i = .int .i64 kk ∧ j = .int .i64 jj ∧ kk < jj ∧ jj ≤ X.length ∧ Z.length = X.length ∧ Hid (RowsG wx g Z) ∧ Hid (Z.take kk = (X.take jj).filter fun x => !notOf n l x) ∧ Hid (Z.drop jj = X.drop jj) ∧ Hid (∀ j, wx.frozen? ⟨g, j, none⟩ = false) ∧ Hid (Below base w wx)) (fun _ j _ => X.length - (intOf j).toNat)
    case atStart => exact ⟨k, k + 1, X, rfl, by go_num, by omega, by omega, rfl, RS, TS, Lib.hid rfl, FS, B1⟩
    case round =>
      obtain ⟨kk, jj, Z, rfl, rfl, hkj, hjX, hZl, R, T, D, FZ, B⟩ := hrel
      clear RS FS TS B1 hne hkl
      have hbs := B.out.size
      have q0 := (B.out.cell (p := ⟨p, 0, none⟩) hp).trans H0.out
      have q1 := (B.out.cell (p := ⟨p, 1, none⟩) hp).trans H1.out
      have hpw : p < wr.heap.size := by omega
      have hgw : g < wr.heap.size := by omega
      by_cases hlt : jj < X.length
      · have hx : X[jj]? = some X[jj] := List.getElem?_eq_getElem hlt
        have hzx : Z[jj]? = X[jj]? := by have := congrArg (fun l => l[0]?) D.out; simpa using this
        rw [hx] at hzx
        have htk : X.take (jj + 1) = X.take jj ++ [X[jj]] := by rw [List.take_add_one, hx]; rfl
        have HT := Lib.hid htk
        have DD : Hid (Z.drop (jj + 1) = X.drop (jj + 1)) := Lib.hid (by have := congrArg (List.drop 1) D.out; simpa [List.drop_drop] using this)
        have CX := R.out jj _ hzx
        clear hx htk hzx
        generalize X[jj] = x at *
        obtain ⟨c0, c1, c2, c3, c4, c5, c6, c7, c8, c9⟩ := CX
        have hkz : kk < Z.length := by omega
        have OZ := Lib.hid (R.out kk _ (List.getElem?_eq_getElem hkz))
        have hji : (jj : Int) < (X.length : Int) := by omega
        have hki : (kk : Int) < (X.length : Int) := by omega
        have hci : (X.length : Int) ≤ (cap : Int) := by omega
        by_cases hq : notOf n l x = true
        · have UA := Lib.hid (fun W a b => hq ▸ underAsk' x p n l W a b)
          have TT : Hid (Z.take kk = (X.take (jj + 1)).filter fun x => !notOf n l x) := Lib.hid (by rw [HT.out, List.filter_append, ← T.out]; simp [hq])
          clear hq
          go_wp2_with (go_at_call 27; refine (UA.out _ (Go.Lib.cell?_alloc_some _ q0) (Go.Lib.cell?_alloc_some _ q1)).mono ?_; rintro e w2 ⟨rfl, b2⟩
                       have bb := ((Below.refl wr.heap.size wr).alloc (Nat.le_refl _) _).trans (b2.mono (by simp))
                       have R2 := Lib.hid (fun t z hz => (R.out t z hz).below bb hgw)
                       have F2 := Lib.hid (fun j => (bb.frozen (p := ⟨g, j, none⟩) hgw).trans (FZ.out j))
                       have B2 := Lib.hid (B.out.trans (bb.mono (by omega)))
                       clear b2 bb c0 c1 c2 c3 c4 c5 c6 c7 c8 c9 q0 q1)
          go_roundw
          case rel => exact ⟨kk, jj + 1, Z, rfl, by go_num, by omega, by omega, hZl, R2, TT, DD, F2, B2⟩
          case measure => simp [intOf]; omega
        · have hq' : notOf n l x = false := by simpa using hq
          have UA := Lib.hid (fun W a b => hq' ▸ underAsk' x p n l W a b)
          have TT : Hid ((Z.set kk x).take (kk + 1) = (X.take (jj + 1)).filter fun x => !notOf n l x) := Lib.hid (by
            rw [HT.out, List.filter_append, ← T.out, List.take_add_one, List.getElem?_set_self hkz, List.take_set_of_le (Nat.le_refl _)]
            simp [hq'])
          have DS : Hid ((Z.set kk x).drop (jj + 1) = X.drop (jj + 1)) := Lib.hid (by rw [List.drop_set_of_lt (by omega)]; exact DD.out)
          clear hq hq'
          go_wp2_with (go_at_call 27; refine (UA.out _ (Go.Lib.cell?_alloc_some _ q0) (Go.Lib.cell?_alloc_some _ q1)).mono ?_; rintro e w2 ⟨rfl, b2⟩
                       have bb := ((Below.refl wr.heap.size wr).alloc (Nat.le_refl _) _).trans (b2.mono (by simp))
                       have R2 : Hid (RowsG w2 g Z) := Lib.hid (fun t z hz => (R.out t z hz).below bb hgw)
                       have f2 : ∀ j, w2.frozen? ⟨g, j, none⟩ = false := (fun j => (bb.frozen (p := ⟨g, j, none⟩) hgw).trans (FZ.out j))
                       have B2 := Lib.hid (B.out.trans (bb.mono (by omega)))
                       obtain ⟨d0, d1, d2, d3, d4, d5, d6, d7, d8, d9⟩ := OZ.out.below bb hgw
                       have e0 := (b2.cell (p := ⟨wr.heap.size, 0, none⟩) (by simp)).trans (show _ = some (.int .u8 x.n) by simp); have e1 := (b2.cell (p := ⟨wr.heap.size, 1, none⟩) (by simp)).trans (show _ = some (.int .u16 x.l) by simp); have e2 := (b2.cell (p := ⟨wr.heap.size, 2, none⟩) (by simp)).trans (show _ = some (.int .u32 x.s) by simp); have e3 := (b2.cell (p := ⟨wr.heap.size, 3, none⟩) (by simp)).trans (show _ = some (.int .u8 x.d) by simp); have e4 := (b2.cell (p := ⟨wr.heap.size, 4, none⟩) (by simp)).trans (show _ = some (.int .u8 x.a0) by simp); have e5 := (b2.cell (p := ⟨wr.heap.size, 5, none⟩) (by simp)).trans (show _ = some (.int .u8 x.a1) by simp); have e6 := (b2.cell (p := ⟨wr.heap.size, 6, none⟩) (by simp)).trans (show _ = some (.int .u8 x.b0) by simp); have e7 := (b2.cell (p := ⟨wr.heap.size, 7, none⟩) (by simp)).trans (show _ = some (.int .u8 x.b1) by simp); have e8 := (b2.cell (p := ⟨wr.heap.size, 8, none⟩) (by simp)).trans (show _ = some (.int .u8 x.c0) by simp); have e9 := (b2.cell (p := ⟨wr.heap.size, 9, none⟩) (by simp)).trans (show _ = some (.int .u8 x.c1) by simp)
                       clear b2 bb c0 c1 c2 c3 c4 c5 c6 c7 c8 c9 q0 q1)
          go_roundw
          case rel => exact ⟨kk + 1, jj + 1, Z.set kk x, by go_num, by go_num, by omega, by omega, by simp [hZl], Lib.hid (rowsG_set R2.out hkz x), TT, DS, Lib.hid (fun j => (World.frozen?_setCells g x.cells (kk * 10) w2 _).trans (f2 j)), Lib.hid (below_setCells hgb x.cells (kk * 10) B2.out)⟩
          case measure => simp [intOf]; omega
      · have hjj : jj = X.length := by omega
        subst hjj
        rw [List.take_length] at T
        have hcl : ∀ ty, (Builtin.clear_ #[57] ty #[.slice (some ⟨g, kk * 10, none⟩) (X.length - kk) (cap - kk)]).run Try.prog wr = .ok (.tuple #[]) (wr.setCells g (kk * 10) (Builtin.zeroCells #[.int .u8 0, .int .u16 0, .int .u32 0, .int .u8 0, .int .u8 0, .int .u8 0, .int .u8 0, .int .u8 0, .int .u8 0, .int .u8 0] (X.length - kk)).toList) := fun ty => clearI wr ty g (kk * 10) _ _ (by omega) (fun j hj => by
          have hi : kk + j / 10 < Z.length := by omega
          have := (R.out _ _ (List.getElem?_eq_getElem hi)).cell_ (j % 10) (by omega)
          rw [show (kk + j / 10) * 10 + j % 10 = kk * 10 + j by omega] at this
          rw [this]; rfl) FZ.out
        have hji : ¬ (X.length : Int) < (X.length : Int) := by omega
        have hki : (kk : Int) ≤ (X.length : Int) := by omega
        have hki0 : (0 : Int) ≤ (kk : Int) := by omega
        have hci : (X.length : Int) ≤ (cap : Int) := by omega
        have hkc : (kk : Int) ≤ (cap : Int) := by omega
        clear q0 q1
        go_wp2
        go_ret
        rw [← T.out]
        have hlen : (Z.take kk).length = kk := by simp; omega
        refine ⟨_, rfl, .inr ⟨g, cap, by rw [hlen]; rfl, hgb, ?_, by omega, by unfold maxLen; omega, fun j => (World.frozen?_setCells g _ (kk * 10) wr _).trans (FZ.out j), rowsG_clear R.out _⟩, below_setCells hgb _ _ B.out⟩
        exact Nat.lt_of_lt_of_le hgw (below_setCells (Nat.zero_le _) _ (kk * 10) (Below.refl 0 wr)).size

end Go.Proofs.Ytehkofeokccdeaa
