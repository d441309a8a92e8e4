/-
  The program's without: the members that are not in a list, as a list of its own, by an exact answer. Condition: the lists lie in memory; they are short.
-/
import Derived.Test.YtgmjhloednmfnaaDoorVqm
import Derived.Test.YtgmjhloednmfnaaDoorVmat
import Derived.Laws.EntriesVeiled
namespace Go.Proofs.YtgmjhloednmfnaaDoor
set_option linter.unusedSimpArgs false
set_option linter.unusedVariables false
open Go.RowKit Go.Sort Go.Shelf

set_option maxHeartbeats 400000 in
theorem notAskO (W : World) (Bd p : Nat) (L : List P2) (A : Option Addr) (R : List P2) (c : Nat) (hf : W.cell? ⟨Bd, 0, none⟩ = some (.func (.func 49) #[] #[.pointer (some ⟨p, 0, none⟩)])) (h : AskAt W p L A R c) (x : P2) :
    Calls Tryd.prog 40 #[.agg #[.int .u8 x.n, .int .u16 x.l], .pointer (some ⟨Bd, 0, none⟩)] W fun e W' => e = .returned (.bool (!decide (x ∈ L))) ∧ Below W.heap.size W W' := by
  have b0 : Below W.heap.size W (W.alloc (.cells #[.int .u8 x.n, .int .u16 x.l] 48)) := (Below.refl _ _).alloc (Nat.le_refl _) _
  have q0 := Go.Lib.cell?_alloc_some (.cells #[.int .u8 x.n, .int .u16 x.l] 48) hf
  have K := Lib.hid (askO _ p L A R c (h.keepG (G := fun k => k < W.heap.size) (KeepG.of_below b0 (fun k hk => hk)) (World.block_lt_of_cell? W _ h.box) h.lt) x)
  have B0 := Lib.hid b0
  clear h b0 hf
  generalize decide (x ∈ L) = z at *
  go_enter Tryd.func40, Tryd.ntmps40
  go_wp2_with (go_at_call 49; refine K.out.mono ?_; rintro e w1 ⟨rfl, b1⟩
               have B1 := Lib.hid (B0.out.trans (b1.mono B0.out.size))
               clear b1)
  go_ret
  exact ⟨rfl, B1.out⟩

set_option maxRecDepth 100000 in
set_option maxHeartbeats 2000000 in
theorem withoutO (g N : Int) (A B : Option Addr) (V L : List P2) (c d : Nat) (w : World) (hr : RowsV w w.heap.size A V) (hs : RowsV w w.heap.size B L) (hc : V.length ≤ c) (hm : c ≤ maxLen) (hd : L.length ≤ d) (hn : d ≤ maxLen) (hV : V.length ≤ 1000000) (hL : L.length ≤ 1000000) :
    Calls Tryd.prog 22 #[.agg #[.int .u8 g, .int .u32 N, .slice A V.length c], .slice B L.length d] w fun e w' => ∃ (v : Value), e = .returned v ∧ w'.ownsRow w.heap.size 48 2 v (kept V L V.length).length (cellsV (kept V L V.length)) ∧ Below w.heap.size w w' := by
  have eg : ∀ args w, (callFunc 45 args).run Tryd.prog w = .ok (.enter 45 args) w := enters_of Tryd.func45 (by kernel_rfl) rfl
  have eg2 : ∀ args w, (callFunc 40 args).run Tryd.prog w = .ok (.enter 40 args) w := enters_of Tryd.func40 (by kernel_rfl) rfl
  have hkp : kept V L V.length = V.filter fun x => !decide (x ∈ L) := by unfold kept; rw [List.take_length]
  have HKP := Lib.hid hkp
  have b0 : Below w.heap.size w (w.alloc (.cells #[.int .u8 g, .int .u32 N, .slice A V.length c] 30)) := (Below.refl _ _).alloc (Nat.le_refl _) _
  have KA := Lib.hid (amongO B L d _ (hs.below (C := w.heap.size) b0 (Nat.le_refl _) b0.size) hL hd hn)
  have r0 := Lib.hid (heap_alloc_new w (.cells #[.int .u8 g, .int .u32 N, .slice A V.length c] 30))
  have B0 := Lib.hid b0
  have HR := Lib.hid hr
  clear hr hs b0 hkp
  go_enter Tryd.func22, Tryd.ntmps22
  go_wp2_with fail
  refine KA.out.mono ?_
  rintro e w1 ⟨p, A1, R, cr, rfl, hask, hp, hA1, b1⟩
  obtain ⟨w2, hw2⟩ : ∃ w2, w1.alloc (.cells #[.func (.func 49) #[] #[.pointer (some ⟨p, 0, none⟩)]] 63) = w2 := ⟨_, rfl⟩
  have t2 : Below w1.heap.size w1 w2 := by rw [← hw2]; exact (Below.refl _ _).alloc (Nat.le_refl _) _
  have hs1 := b1.size
  simp only [World.size_alloc] at hs1 hp b1
  have R2 : Hid (w2.heap[w.heap.size]? = some (.cells #[.int .u8 g, .int .u32 N, .slice A V.length c] 30 (0, 0))) := Lib.hid ((t2.block _ (by omega)).trans ((b1.block _ (by omega)).trans r0.out))
  have F2 : w2.cell? ⟨w1.heap.size, 0, none⟩ = some (.func (.func 49) #[] #[.pointer (some ⟨p, 0, none⟩)]) := by rw [← hw2]; simp
  have ask2 := hask.keepG (G := fun k => k < w1.heap.size) (KeepG.of_below t2 (fun k hk => hk)) (World.block_lt_of_cell? w1 _ hask.box) hask.lt
  have B2 : Below w.heap.size w w2 := (B0.out.trans (b1.mono (by omega))).trans (t2.mono (by omega))
  have s2 : w2.heap.size = w1.heap.size + 1 := by rw [← hw2]; simp
  have HF2 := Lib.hid F2
  have HA2 := Lib.hid ask2
  have HB2 := Lib.hid B2
  have HW2 := Lib.hid hw2
  have HS2 := Lib.hid s2
  have e0 : (w1.alloc (.cells #[.func (.func 49) #[] #[.pointer (some ⟨p, 0, none⟩)]] 63)).cell? ⟨w.heap.size, 0, none⟩ = some (.int .u8 g) := by rw [hw2]; exact (cell_of_row _ _ 0 _ _ _ R2.out).trans rfl
  have e1 : (w1.alloc (.cells #[.func (.func 49) #[] #[.pointer (some ⟨p, 0, none⟩)]] 63)).cell? ⟨w.heap.size, 1, none⟩ = some (.int .u32 N) := by rw [hw2]; exact (cell_of_row _ _ 1 _ _ _ R2.out).trans rfl
  have e2 : (w1.alloc (.cells #[.func (.func 49) #[] #[.pointer (some ⟨p, 0, none⟩)]] 63)).cell? ⟨w.heap.size, 2, none⟩ = some (.slice A V.length c) := by rw [hw2]; exact (cell_of_row _ _ 2 _ _ _ R2.out).trans rfl
  clear KA r0 hask hp hA1 b1 t2 F2 ask2 B2 hw2 s2 hs1
  go_wp2_with fail
  refine (thoseO _ _ _ _ _ _ _ _ rfl _).mono ?_
  rintro e w3 ⟨rfl, hw3⟩
  clear e0 e1 e2
  rw [HW2.out] at hw3 ⊢
  have t3 : Below w2.heap.size w2 w3 := by rw [← hw3]; exact two_below _ _ _ _ _
  have F3 : w3.cell? ⟨w2.heap.size + 1, 0, none⟩ = some (.func (.func 40) #[] #[.pointer (some ⟨w1.heap.size, 0, none⟩)]) := by rw [← hw3]; exact (cell_of_row _ _ 0 _ _ _ (rowB _ _ _ _ _)).trans rfl
  have V3 : w3.cell? ⟨w2.heap.size, 2, none⟩ = some (.slice A V.length c) := by rw [← hw3]; exact (cell_of_row _ _ 2 _ _ _ (rowA _ _ _ _ _)).trans rfl
  have ask3 := HA2.out.keepG (G := fun k => k < w2.heap.size) (KeepG.of_below t3 (fun k hk => hk)) (World.block_lt_of_cell? w2 _ HA2.out.box) HA2.out.lt
  have G3 : w3.cell? ⟨w1.heap.size, 0, none⟩ = some (.func (.func 49) #[] #[.pointer (some ⟨p, 0, none⟩)]) := (t3.cell (p := ⟨w1.heap.size, 0, none⟩) (by show w1.heap.size < w2.heap.size; rw [HS2.out]; omega)).trans HF2.out
  have B3 : Below w.heap.size w w3 := HB2.out.trans (t3.mono HB2.out.size)
  have KC := Lib.hid (collectO 45 #[.pointer (some ⟨w2.heap.size, 0, none⟩), .pointer (some ⟨w2.heap.size + 1, 0, none⟩)] eg (fun xs => xs = V.filter fun x => !decide (x ∈ L)) (fun _ => True) V.length (by unfold maxLen; omega) (by omega) w3
    (fun n hn' => those_stops n hn' w2.heap.size (w2.heap.size + 1) (fun k => k < w3.heap.size) A V c (fun x => !decide (x ∈ L)) 40 #[.pointer (some ⟨w1.heap.size, 0, none⟩)] w3 eg2
      (fun W1 x hx hk => notAskO W1 w1.heap.size p L A1 R cr ((hk.cell (p := ⟨w1.heap.size, 0, none⟩) (World.block_lt_of_cell? w3 _ G3)).trans G3) (ask3.keepG hk (World.block_lt_of_cell? w3 _ ask3.box) ask3.lt) x)
      V3 F3 (HR.out.below (C := w.heap.size) B3 (Nat.le_refl _) B3.size)
      (fun b o hx e => by
        obtain ⟨b', o', e', hb', _⟩ := HR.out hx
        rw [e] at e'
        cases e'
        exact Nat.lt_of_lt_of_le hb' B3.size)
      (World.block_lt_of_cell? w3 _ F3) (fun k hk => hk) hc hm))
  have HB3 := Lib.hid B3
  clear hw3 t3 F3 V3 ask3 G3 B3 HA2 HF2 HB2 HW2 HS2 eg eg2
  go_wp2_with fail
  refine KC.out.mono ?_
  rintro e w4 ⟨v, ss, rfl, hss, hown, b4⟩
  have HO : Hid (w4.ownsRow w.heap.size 48 2 v (kept V L V.length).length (cellsV (kept V L V.length))) := Lib.hid (by rw [HKP.out, ← hss]; exact own_mono hown HB3.out.size)
  have HB4 := Lib.hid (HB3.out.trans (b4.mono HB3.out.size))
  clear hss hown b4 KC
  go_wp2
  go_ret
  exact ⟨v, rfl, HO.out, HB4.out⟩

end Go.Proofs.YtgmjhloednmfnaaDoor
