/-
  Who is in a list: the program's among, and the question that it hands back, by an exact answer. Condition: the list lies in memory; it is short.
-/
import Derived.Test.YtgmjhloednmfnaaDoorVso
namespace Go.Proofs.YtgmjhloednmfnaaDoor
set_option linter.unusedSimpArgs false
set_option linter.unusedVariables false
open Go.RowKit Go.Sort Go.Shelf

theorem RowsV.keepG {G : Nat → Prop} {W W' : World} {A : Option Addr} {X : List P2} (h : RowsV W W.heap.size A X) (hk : KeepG G W W') (hA : ∀ b o, X ≠ [] → A = some ⟨b, o, none⟩ → G b) : RowsV W' W'.heap.size A X := fun hx => by
  obtain ⟨b, o, e, hb, hc⟩ := h hx
  exact ⟨b, o, e, Nat.lt_of_lt_of_le hb hk.size, fun i x hi => (hc i x hi).keepG hk (hA b o hx e)⟩
/-- what the question reads: a box with the list in order. -/
structure AskAt (W : World) (p : Nat) (L : List P2) (A : Option Addr) (R : List P2) (c : Nat) : Prop where
  box : W.cell? ⟨p, 0, none⟩ = some (.slice A R.length c)
  rows : RowsV W W.heap.size A R
  asc : Asc R
  len : R.length ≤ 1000000
  mem : ∀ x, x ∈ R ↔ x ∈ L
  hc : R.length ≤ c
  hm : c ≤ maxLen
theorem AskAt.lt {W : World} {p : Nat} {L : List P2} {A : Option Addr} {R : List P2} {c : Nat} (h : AskAt W p L A R c) (b o : Nat) (hx : R ≠ []) (e : A = some ⟨b, o, none⟩) : b < W.heap.size := by
  obtain ⟨b', o', e', hb, _⟩ := h.rows hx
  rw [e] at e'
  cases e'
  exact hb
theorem AskAt.keepG {G : Nat → Prop} {W W' : World} {p : Nat} {L : List P2} {A : Option Addr} {R : List P2} {c : Nat} (h : AskAt W p L A R c) (hk : KeepG G W W') (hp : G p) (hA : ∀ b o, R ≠ [] → A = some ⟨b, o, none⟩ → G b) : AskAt W' p L A R c :=
  ⟨(hk.cell (p := ⟨p, 0, none⟩) hp).trans h.box, h.rows.keepG hk hA, h.asc, h.len, h.mem, h.hc, h.hm⟩

set_option maxRecDepth 100000 in
set_option maxHeartbeats 1000000 in
theorem askO (W : World) (p : Nat) (L : List P2) (A : Option Addr) (R : List P2) (c : Nat) (h : AskAt W p L A R c) (x : P2) :
    Calls Tryd.prog 49 #[.agg #[.int .u8 x.n, .int .u16 x.l], .pointer (some ⟨p, 0, none⟩)] W fun e W' => e = .returned (.bool (decide (x ∈ L))) ∧ Below W.heap.size W W' := by
  have hp := World.block_lt_of_cell? W _ h.box
  have b0 : Below W.heap.size W (W.alloc (.cells #[.int .u8 x.n, .int .u16 x.l] 48)) := (Below.refl _ _).alloc (Nat.le_refl _) _
  have K := Lib.hid (bsO A R x c _ (h.rows.below b0 (Nat.le_refl _) b0.size) h.len h.hc h.hm h.asc)
  have B0 := Lib.hid b0
  have q0 := Go.Lib.cell?_alloc_some (.cells #[.int .u8 x.n, .int .u16 x.l] 48) h.box
  have HD : Hid (decide (x ∈ R) = decide (x ∈ L)) := Lib.hid (by rw [decide_eq_decide]; exact h.mem x)
  clear h b0
  generalize decide (x ∈ R) = z at *
  go_enter Tryd.func49, Tryd.ntmps49
  go_wp2_with (go_at_call 50; refine K.out.mono ?_; rintro e w1 ⟨⟨i, rfl⟩, b1⟩
               have B1 := Lib.hid (B0.out.trans (b1.mono B0.out.size))
               clear b1)
  go_ret
  exact ⟨by rw [← HD.out]; rfl, B1.out⟩

set_option maxRecDepth 100000 in
set_option maxHeartbeats 1000000 in
theorem amongO (B : Option Addr) (L : List P2) (d : Nat) (w : World) (hs : RowsV w w.heap.size B L) (hL : L.length ≤ 1000000) (hd : L.length ≤ d) (hn : d ≤ maxLen) :
    Calls Tryd.prog 32 #[.slice B L.length d] w fun e w' => ∃ (p : Nat) (A : Option Addr) (R : List P2) (c : Nat), e = .returned (.func (.func 49) #[] #[.pointer (some ⟨p, 0, none⟩)]) ∧ AskAt w' p L A R c ∧ w.heap.size ≤ p ∧ (∀ b o, A = some ⟨b, o, none⟩ → w.heap.size ≤ b) ∧ Below w.heap.size w w' := by
  have b0 : Below w.heap.size w (w.alloc (.cells #[.slice B L.length d] 28)) := (Below.refl _ _).alloc (Nat.le_refl _) _
  have hbs : ∀ b o, L ≠ [] → B = some ⟨b, o, none⟩ → b < w.heap.size := fun b o hx e => by
    obtain ⟨b', o', e', hb', _⟩ := hs hx
    rw [e] at e'
    cases e'
    exact hb'
  have eg : ∀ args w, (callFunc 57 args).run Tryd.prog w = .ok (.enter 57 args) w := enters_of Tryd.func57 (by kernel_rfl) rfl
  have K := Lib.hid (sortedO 57 #[.pointer (some ⟨w.heap.size, 0, none⟩)] eg (fun _ => True) L (by omega) (w.alloc (.cells #[.slice B L.length d] 28))
    (fun n hn' => vals_stops n hn' w.heap.size (fun k => k < (w.alloc (.cells #[.slice B L.length d] 28)).heap.size) B L d _ (by simp) (hs.below b0 (Nat.le_refl _) b0.size) (fun b o hx e => by simp; have := hbs b o hx e; omega) (fun k hk => hk) hd hn))
  have B0 := Lib.hid b0
  clear hs hbs b0 eg
  go_enter Tryd.func32, Tryd.ntmps32
  go_wp2_with fail
  refine (valuesO _ _ _ _).mono ?_
  rintro e w1 ⟨rfl, rfl⟩
  go_wp2_with fail
  refine K.out.mono ?_
  rintro e w1 ⟨A, R, c, rfl, hR, hA, hlR, hmem, hRc, hcm, hAb, b1⟩
  have hs1 := b1.size
  have hbox : (w1.alloc (.cells #[.slice A R.length c] 28)).cell? ⟨w1.heap.size, 0, none⟩ = some (.slice A R.length c) := by simp
  have hab : Below w1.heap.size w1 (w1.alloc (.cells #[.slice A R.length c] 28)) := (Below.refl _ _).alloc (Nat.le_refl _) _
  have HH := Lib.hid (⟨hbox, hR.below (C := w1.heap.size) hab (Nat.le_refl _) hab.size, hA, by omega, hmem, hRc, hcm⟩ : AskAt (w1.alloc (.cells #[.slice A R.length c] 28)) w1.heap.size L A R c)
  have HB := Lib.hid ((B0.out.trans (b1.mono B0.out.size)).alloc (Nat.le_trans B0.out.size hs1) (.cells #[.slice A R.length c] 28))
  have HA := Lib.hid (fun b o (e : A = some ⟨b, o, none⟩) => Nat.le_trans B0.out.size (hAb b o e))
  have HS := Lib.hid (Nat.le_trans B0.out.size hs1)
  clear hR hA hlR hmem hRc hcm hAb b1 hs1 hbox hab K
  go_wp2
  go_ret
  exact ⟨w1.heap.size, A, R, c, rfl, HH.out, HS.out, HA.out, HB.out⟩

end Go.Proofs.YtgmjhloednmfnaaDoor
