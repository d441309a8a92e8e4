/-
  The walk of the law IdentSets: a loop over the acts, both Sets side by side. Condition: the list lies in memory.
-/
import Derived.Test.YtehkofeokccdeaaIst
import Derived.Test.YtehkofeokccdeaaKnw
import Derived.Test.YtehkofeokccdeaaConv
import Derived.Deep.RegionHeld3
import Derived.Deep.LoopGhost
import Derived.IntWalk
import Derived.BigQuiet
import Derived.Deep.CutRange
namespace Go.Proofs.Ytehkofeokccdeaa
set_option linter.unusedSimpArgs false
set_option linter.unusedVariables false
open Go.RowKit Go.Maps Go.Sort Go.Shelf

/-- an act: its kind, its identifier. -/
structure A11 where
  kd : Int
  x : I10
instance : Inhabited A11 := ⟨⟨0, default⟩⟩
def RowsA (W : World) (B : Nat) (A : Option Addr) (L : List A11) : Prop :=
  L ≠ [] → ∃ b o, A = some ⟨b, o, none⟩ ∧ b < B ∧ ∀ i a, L[i]? = some a → W.cell? ⟨b, o + i * 11, none⟩ = some (.int .i64 a.kd) ∧ IdAt W b (o + i * 11 + 1) a.x
theorem RowsA.below {W W' : World} {B B' C : Nat} {A : Option Addr} {L : List A11} (h : RowsA W B A L) (hb : Below C W W') (hC : B ≤ C) (hB : B ≤ B') : RowsA W' B' A L := fun hL => by
  obtain ⟨b, o, e, hlt, hc⟩ := h hL
  exact ⟨b, o, e, by omega, fun i a ha => ⟨(hb.cell (p := ⟨b, _, none⟩) (by show b < C; omega)).trans (hc i a ha).1, (hc i a ha).2.below hb (by omega)⟩⟩

/-- both Sets, behind some acts. -/
structure Both (b bm rb Bs : Nat) (most : Int) (k : Nat) (X : List I10) (W : World) : Prop where
  p : PS b bm most k X W
  r : RS rb Bs most X W
  ok : XOk X
  len : X.length ≤ k

/-- in a round: the box of the act's identifier, both Sets, and what lay there before. -/
structure St (n1 xb : Nat) (most : Int) (k : Nat) (XP XR : List I10) (x : I10) (w W : World) : Prop where
  hn : w.heap.size ≤ n1
  hx : n1 + 1 + 1 + 1 ≤ xb
  hxb : xb < W.heap.size
  box : IdAt W xb 0 x
  p : PS (n1 + 1) n1 most k XP W
  r : RS (n1 + 1 + 1) (n1 + 1 + 1 + 1) most XR W
  bel : Below w.heap.size w W
section
variable {n1 xb k : Nat} {most : Int} {XP XR X' : List I10} {x : I10} {w W W' : World}
theorem St.below (h : St n1 xb most k XP XR x w W) (hb : Below W.heap.size W W') : St n1 xb most k XP XR x w W' :=
  ⟨h.hn, h.hx, Nat.lt_of_lt_of_le h.hxb hb.size, h.box.below hb h.hxb, h.p.below hb, h.r.below hb, h.bel.trans (hb.mono h.bel.size)⟩
theorem St.up (h : St n1 xb most k XP XR x w W) : St n1 xb most (k + 1) XP XR x w W := by
  obtain ⟨c0, c1, nn, D, hk, O, K⟩ := h.p
  exact ⟨h.hn, h.hx, h.hxb, h.box, ⟨c0, c1, nn, D, by omega, O, K⟩, h.r, h.bel⟩
theorem St.prog (h : St n1 xb most k XP XR x w W) (p : PS (n1 + 1) n1 most (k + 1) X' W') (g : W.grownBy W' (some n1)) : St n1 xb most (k + 1) X' XR x w W' := by
  have h1 := h.hn
  have h2 := h.hx
  exact ⟨h.hn, h.hx, Nat.lt_of_lt_of_le h.hxb g.size, h.box.keep fun i => g.cell_far ⟨xb, i, none⟩ h.hxb (by simp; omega), p, h.r.grown g (by simp; omega) (fun j e => by injection e with e; omega), h.bel.grown g h.bel.size (fun j e => by injection e with e; omega)⟩
theorem St.ref (h : St n1 xb most k XP XR x w W) (r : RS (n1 + 1 + 1) (n1 + 1 + 1 + 1) most X' W') (g : W.grownBy W' (some (n1 + 1 + 1))) : St n1 xb most k XP X' x w W' := by
  have h1 := h.hn
  have h2 := h.hx
  exact ⟨h.hn, h.hx, Nat.lt_of_lt_of_le h.hxb g.size, h.box.keep fun i => g.cell_far ⟨xb, i, none⟩ h.hxb (by simp; omega), h.p.grown g (by simp) (by simp; omega), r, h.bel.grown g h.bel.size (fun j e => by injection e with e; omega)⟩
end
/-- the document's list, as it lies. -/
def LL (rb : Nat) (A : Option Addr) (c : Nat) (X : List I10) (W : World) : Prop := W.cell? ⟨rb, 0, none⟩ = some (.slice A X.length c) ∧ rb < W.heap.size ∧ RowsI W W.heap.size A X
theorem LL.below {rb : Nat} {A : Option Addr} {c : Nat} {X : List I10} {W W' : World} (h : LL rb A c X W) (hb : Below W.heap.size W W') : LL rb A c X W' :=
  ⟨(hb.cell (p := ⟨rb, 0, none⟩) h.2.1).trans h.1, Nat.lt_of_lt_of_le h.2.1 hb.size, h.2.2.below hb (Nat.le_refl _) hb.size⟩
theorem sameSelf (A1 A2 : Option Addr) (X : List I10) (c d : Nat) (w : World) (hr : RowsI w w.heap.size A1 X) (hs : RowsI w w.heap.size A2 X) (hc : X.length ≤ c) (hm : c ≤ maxLen) (hd : X.length ≤ d) (hn : d ≤ maxLen) :
    Calls Try.prog 14 #[.slice A1 X.length c, .slice A2 X.length d] w fun e w' => e = .returned (.bool true) ∧ Below w.heap.size w w' := by
  rw [← sameI_refl X]
  exact sameIDs A1 A2 X X c d w hr hs hc hm hd hn
theorem toProcB (n l : Int) (W : World) : Calls Try.prog 17 #[.agg #[.int .u8 n, .int .u16 l]] W fun e W' => e = .returned (.agg #[.int .u8 n, .int .u16 l]) ∧ Below W.heap.size W W' :=
  (toProc n l W).mono fun e W' ⟨he, hw⟩ => ⟨he, by rw [← hw]; exact ((Below.refl _ _).alloc (Nat.le_refl _) _).alloc (by simp) _⟩
theorem new_cell (W : World) (cs : Array Value) (t : TypeId) (j n : Nat) (hn : W.heap.size = n) : (W.alloc (.cells cs t)).cell? ⟨n, j, none⟩ = cs[j]? := by
  subst hn
  exact cell_of_row _ _ j cs t (0, 0) (heap_alloc_new W _)
theorem both_start (n1 : Nat) (most : Int) (w w1 : World) (hn : w1.heap.size = n1) : Both (n1 + 1) n1 (n1 + 1 + 1) (n1 + 1 + 1 + 1) most 0 [] (((w1.alloc (.map #[] 0)).alloc (.cells #[.int .i64 most, .map (some n1)] 68)).alloc (.cells #[.slice none 0 0, .int .i64 most] 29)) := by
  subst hn
  have hs : ((w1.alloc (.map #[] 0)).alloc (.cells #[.int .i64 most, .map (some w1.heap.size)] 68)).heap.size = w1.heap.size + 1 + 1 := by simp
  have hs1 : (w1.alloc (.map #[] 0)).heap.size = w1.heap.size + 1 := by simp
  have p0 := new_cell (w1.alloc (.map #[] 0)) #[.int .i64 most, .map (some w1.heap.size)] 68 0 _ hs1
  have p1 := new_cell (w1.alloc (.map #[] 0)) #[.int .i64 most, .map (some w1.heap.size)] 68 1 _ hs1
  have r0 := new_cell _ #[.slice none 0 0, .int .i64 most] 29 0 _ hs
  have r1 := new_cell _ #[.slice none 0 0, .int .i64 most] 29 1 _ hs
  have rf := World.frozen?_alloc_new ((w1.alloc (.map #[] 0)).alloc (.cells #[.int .i64 most, .map (some w1.heap.size)] 68)) #[.slice none 0 0, .int .i64 most] 29 0
  rw [hs] at rf
  refine ⟨⟨(World.cell?_alloc_lt _ _ _ (by rw [hs]; show w1.heap.size + 1 < _; omega)).trans p0, (World.cell?_alloc_lt _ _ _ (by rw [hs]; show w1.heap.size + 1 < _; omega)).trans p1, 0, .map [], Nat.le_refl _, ((World.ownsMap_made w1 _ _ _).kept (World.grownBy_alloc _ _ none) (by simp)).kept (World.grownBy_alloc _ _ none) (by simp), ⟨List.nodup_nil, (fun _ h => by cases h), (fun kl h => by cases h), (fun _ h => by cases h), rfl⟩⟩, ⟨r1, rf, by omega, by simp, .slice none 0 0, r0, rfl, .inl ⟨rfl, rfl⟩⟩, XOk.nil, Nat.le_refl _⟩
theorem idAt_new (W : World) (x : I10) (n : Nat) (hn : W.heap.size = n) : IdAt (W.alloc (.cells #[.int .u8 x.n, .int .u16 x.l, .int .u32 x.s, .int .u8 x.d, .int .u8 x.a0, .int .u8 x.a1, .int .u8 x.b0, .int .u8 x.b1, .int .u8 x.c0, .int .u8 x.c1] 38)) n 0 x :=
  ⟨new_cell _ _ _ 0 _ hn, new_cell _ _ _ 1 _ hn, new_cell _ _ _ 2 _ hn, new_cell _ _ _ 3 _ hn, new_cell _ _ _ 4 _ hn, new_cell _ _ _ 5 _ hn, new_cell _ _ _ 6 _ hn, new_cell _ _ _ 7 _ hn, new_cell _ _ _ 8 _ hn, new_cell _ _ _ 9 _ hn⟩

set_option maxRecDepth 100000 in
set_option maxHeartbeats 8000000 in
theorem walkSets (most : Int) (A : Option Addr) (L : List A11) (c : Nat) (w : World) (hr : RowsA w w.heap.size A L) (hL : ∀ a ∈ L, a.x.Rng) (hc : L.length ≤ c) (hm : c ≤ maxLen) :
    Calls Try.prog 3 #[.int .i64 most, .slice A L.length c] w fun e w' => e = .returned (.bool true) ∧ Below w.heap.size w w' := by
  have HR := Lib.hid hr
  have HL := Lib.hid hL
  clear hr hL
  unfold maxLen at hm
  by_cases hlen : 100 < L.length
  · have h1 : (100 : Int) < (L.length : Int) := by omega
    go_enter Try.func3, Try.ntmps3
    go_wp2_with (go_at_call 4; refine (knows _).mono ?_; rintro e w1 ⟨rfl, b1⟩)
    go_ret
    exact ⟨rfl, b1⟩
  · have h1 : (L.length : Int) ≤ 100 := by omega
    go_enter Try.func3, Try.ntmps3
    go_wp2_with (go_at_call 4; refine (knows _).mono ?_; rintro e w1 ⟨rfl, b1⟩; have B1 := Lib.hid b1; clear b1)
    refine (newSet most _).mono ?_
    rintro e w2 ⟨rfl, rfl⟩
    go_wp2
    have BS := both_start w1.heap.size most w w1 rfl
    have hs1 := B1.out.size
    have B3 : Below w.heap.size w (((w1.alloc (.map #[] 0)).alloc (.cells #[.int .i64 most, .map (some w1.heap.size)] 68)).alloc (.cells #[.slice none 0 0, .int .i64 most] 29)) := ((B1.out.alloc hs1 _).alloc (by simp; omega) _).alloc (by simp; omega) _
    generalize ((w1.alloc (.map #[] 0)).alloc (.cells #[.int .i64 most, .map (some w1.heap.size)] 68)).alloc (.cells #[.slice none 0 0, .int .i64 most] 29) = W3 at *
    generalize w1.heap.size = n1 at *
    have HBS := Lib.hid BS
    have HB3 := Lib.hid B3
    clear BS B3 B1
    go_loopw [7] (fun i wx => ∃ (k : Nat) (X : List I10), i = .int .i64 k ∧ k ≤ L.length ∧ Hid (Both (n1 + 1) n1 (n1 + 1 + 1) (n1 + 1 + 1 + 1) most k X wx) ∧ Hid (Below w.heap.size w wx)) (fun i _ => L.length - (intOf i).toNat)
    case atStart => exact ⟨0, [], rfl, Nat.zero_le _, HBS, HB3⟩
    case round =>
      obtain ⟨k, X, rfl, hkL, HB, HW⟩ := hrel
      by_cases hk : k < L.length
      · have hki : (k : Int) < (L.length : Int) := by omega
        have hk0 : (0 : Int) ≤ (k : Int) := by omega
        obtain ⟨ab, ao, rfl, hab, hac⟩ := HR.out (by intro e; rw [e] at hk; simp at hk)
        obtain ⟨⟨kd, x⟩, hx⟩ : ∃ a, L[k]? = some a := ⟨_, List.getElem?_eq_getElem hk⟩
        have rx : x.Rng := HL.out _ (List.mem_of_getElem? hx)
        obtain ⟨kc, xc⟩ := hac k _ hx
        have kc' := (HW.out.cell (p := ⟨ab, _, none⟩) hab).trans kc
        have xc' := xc.below HW.out hab
        simp only at kc' xc'
        obtain ⟨x0, x1, x2, x3, x4, x5, x6, x7, x8, x9⟩ := xc'
        clear hac
        have habw : ab < wr.heap.size := Nat.lt_of_lt_of_le hab HW.out.size
        have kd' : (wr.alloc (.cells #[.int .u8 x.n, .int .u16 x.l, .int .u32 x.s, .int .u8 x.d, .int .u8 x.a0, .int .u8 x.a1, .int .u8 x.b0, .int .u8 x.b1, .int .u8 x.c0, .int .u8 x.c1] 38)).cell? ⟨ab, ao + k * 11, none⟩ = some (.int .i64 kd) := (World.cell?_alloc_lt _ _ _ habw).trans kc'
        have XO := Lib.hid HB.out.ok
        have XL : X.length ≤ k := HB.out.len
        have hBs : n1 + 1 + 1 + 1 ≤ wr.heap.size := HB.out.r.2.2.2.1
        have bA : Below wr.heap.size wr (wr.alloc (.cells #[.int .u8 x.n, .int .u16 x.l, .int .u32 x.s, .int .u8 x.d, .int .u8 x.a0, .int .u8 x.a1, .int .u8 x.b0, .int .u8 x.b1, .int .u8 x.c0, .int .u8 x.c1] 38)) := (Below.refl _ _).alloc (Nat.le_refl _) _
        have QA : Hid (St n1 wr.heap.size most k X X x w (wr.alloc (.cells #[.int .u8 x.n, .int .u16 x.l, .int .u32 x.s, .int .u8 x.d, .int .u8 x.a0, .int .u8 x.a1, .int .u8 x.b0, .int .u8 x.b1, .int .u8 x.c0, .int .u8 x.c1] 38))) := Lib.hid ⟨hs1, hBs, by simp, idAt_new wr x _ rfl, HB.out.p.below bA, HB.out.r.below bA, HW.out.trans (bA.mono HW.out.size)⟩
        clear kc xc bA
        obtain ⟨xb, hxb⟩ : ∃ xb, xb = wr.heap.size := ⟨_, rfl⟩
        by_cases e0 : kd = 0
        · subst e0
          go_wp2
          generalize wr.alloc (.cells #[.int .u8 x.n, .int .u16 x.l, .int .u32 x.s, .int .u8 x.d, .int .u8 x.a0, .int .u8 x.a1, .int .u8 x.b0, .int .u8 x.b1, .int .u8 x.c0, .int .u8 x.c1] 38) = W8 at *
          rw [← hxb] at QA hBs ⊢
          clear hxb kd' x0 x1 x2 x3 x4 x5 x6 x7 x8 x9 kc'
          have QQ := Lib.hid (QA.out.below (Below.refl _ _).drew)
          go_region_held3 (fun w' => w'.cell? ⟨xb, 0, none⟩ = some (.int .u8 x.n) ∧ w'.cell? ⟨xb, 1, none⟩ = some (.int .u16 x.l) ∧ w'.cell? ⟨xb, 2, none⟩ = some (.int .u32 x.s) ∧ w'.cell? ⟨xb, 3, none⟩ = some (.int .u8 x.d) ∧ w'.cell? ⟨xb, 4, none⟩ = some (.int .u8 x.a0) ∧ w'.cell? ⟨xb, 5, none⟩ = some (.int .u8 x.a1) ∧ w'.cell? ⟨xb, 6, none⟩ = some (.int .u8 x.b0) ∧ w'.cell? ⟨xb, 7, none⟩ = some (.int .u8 x.b1) ∧ w'.cell? ⟨xb, 8, none⟩ = some (.int .u8 x.c0) ∧ w'.cell? ⟨xb, 9, none⟩ = some (.int .u8 x.c1)) (exact ⟨QQ.out.box.c0, QQ.out.box.c1, QQ.out.box.c2, QQ.out.box.c3, QQ.out.box.c4, QQ.out.box.c5, QQ.out.box.c6, QQ.out.box.c7, QQ.out.box.c8, QQ.out.box.c9⟩)
            (first
              | (go_at_call 8; refine (toID _ _ _ _ _ _ _ _ _ _ _).mono ?_; rintro e W' ⟨rfl, b'⟩; have QQ := Lib.hid (QQ.out.below b'); clear b')
              | (go_at_call 7; refine (progAdd _ _ k most X x _ QQ.out.p XO.out rx (by unfold maxLen; omega) (by omega)).mono ?_; rintro e W' ⟨rfl, p', g'⟩; have QQ := Lib.hid (QQ.out.prog p' g'); clear p' g')
              | (go_at_call 6; refine (numOf _ _).mono ?_; rintro e W' ⟨rfl, rfl⟩)
              | (go_at_call 9; refine (refAdd _ _ most X x _ QQ.out.r XO.out rx (by omega)).mono ?_; rintro e W' ⟨rfl, r', g'⟩; have QQ := Lib.hid (QQ.out.ref r' g'); clear r' g'))
          have XO' := Lib.hid (XO.out.add rx most)
          have XL' : (addX X most x).length ≤ k + 1 := by first | omega | exact Nat.le_trans (addX_len X most x) (by omega) | exact Nat.le_trans (remX_len X x) (by omega)
          generalize addX X most x = X' at *
          obtain ⟨A1, c1, z0, R1, l1, m1⟩ := QQ.out.r.list
          have RL : Hid (LL (n1 + 1 + 1) A1 c1 X' W'.drew) := Lib.hid (LL.below ⟨z0, World.block_lt_of_cell? _ _ z0, R1⟩ (Below.refl _ _).drew)
          have QQ := Lib.hid (QQ.out.below (Below.refl _ _).drew)
          clear z0 R1
          go_wp2
          go_region_held3 (fun w' => w'.cell? ⟨n1 + 1 + 1, 0, none⟩ = some (.slice A1 X'.length c1)) (exact RL.out.1)
            (first
              | (go_at_call 19; refine (progLen _ _ (k + 1) most X' _ QQ.out.p).mono ?_; rintro e W1 ⟨rfl, rfl⟩)
              | (go_at_call 20; refine (progAll _ _ (k + 1) most X' _ QQ.out.p XO'.out (by omega)).mono ?_; rintro e W1 ⟨A2, c2, rfl, R2, l2, m2, b2⟩; have QQ := Lib.hid (QQ.out.below b2); have RL := Lib.hid (RL.out.below b2); have R2' := Lib.hid R2; clear R2 b2)
              | (go_at_call 15; refine (refIDsB A2 X' c2 _ R2'.out (by omega) l2 m2).mono ?_; rintro e W1 ⟨A3, c3, rfl, R3, l3, m3, b3⟩; have QQ := Lib.hid (QQ.out.below b3); have RL := Lib.hid (RL.out.below b3); have R3' := Lib.hid R3; clear R3 b3)
              | (go_at_call 14; refine (sameSelf A3 A1 X' c3 c1 _ R3'.out RL.out.2.2 l3 m3 l1 m1).mono ?_; rintro e W1 ⟨rfl, b4⟩; have QQ := Lib.hid (QQ.out.below b4); have RL := Lib.hid (RL.out.below b4); clear b4))
          go_wp2
          go_roundw
          case rel => exact ⟨k + 1, X', by go_num, by omega, Lib.hid ⟨QQ.out.p, QQ.out.r, XO'.out, by omega⟩, Lib.hid QQ.out.bel⟩
          case measure => simp [intOf]; omega
        by_cases e1 : kd = 1
        · subst e1
          go_wp2
          generalize wr.alloc (.cells #[.int .u8 x.n, .int .u16 x.l, .int .u32 x.s, .int .u8 x.d, .int .u8 x.a0, .int .u8 x.a1, .int .u8 x.b0, .int .u8 x.b1, .int .u8 x.c0, .int .u8 x.c1] 38) = W8 at *
          rw [← hxb] at QA hBs ⊢
          clear hxb kd' x0 x1 x2 x3 x4 x5 x6 x7 x8 x9 kc'
          have QQ := Lib.hid (QA.out.below (Below.refl _ _).drew)
          go_region_held3 (fun w' => w'.cell? ⟨xb, 0, none⟩ = some (.int .u8 x.n) ∧ w'.cell? ⟨xb, 1, none⟩ = some (.int .u16 x.l) ∧ w'.cell? ⟨xb, 2, none⟩ = some (.int .u32 x.s) ∧ w'.cell? ⟨xb, 3, none⟩ = some (.int .u8 x.d) ∧ w'.cell? ⟨xb, 4, none⟩ = some (.int .u8 x.a0) ∧ w'.cell? ⟨xb, 5, none⟩ = some (.int .u8 x.a1) ∧ w'.cell? ⟨xb, 6, none⟩ = some (.int .u8 x.b0) ∧ w'.cell? ⟨xb, 7, none⟩ = some (.int .u8 x.b1) ∧ w'.cell? ⟨xb, 8, none⟩ = some (.int .u8 x.c0) ∧ w'.cell? ⟨xb, 9, none⟩ = some (.int .u8 x.c1)) (exact ⟨QQ.out.box.c0, QQ.out.box.c1, QQ.out.box.c2, QQ.out.box.c3, QQ.out.box.c4, QQ.out.box.c5, QQ.out.box.c6, QQ.out.box.c7, QQ.out.box.c8, QQ.out.box.c9⟩)
            (first
              | (go_at_call 8; refine (toID _ _ _ _ _ _ _ _ _ _ _).mono ?_; rintro e W' ⟨rfl, b'⟩; have QQ := Lib.hid (QQ.out.below b'); clear b')
              | (go_at_call 7; refine (progAdd _ _ k most X x _ QQ.out.p XO.out rx (by unfold maxLen; omega) (by omega)).mono ?_; rintro e W' ⟨rfl, p', g'⟩; have QQ := Lib.hid (QQ.out.prog p' g'); clear p' g')
              | (go_at_call 6; refine (numOf _ _).mono ?_; rintro e W' ⟨rfl, rfl⟩)
              | (go_at_call 9; refine (refAdd _ _ most X x _ QQ.out.r XO.out rx (by omega)).mono ?_; rintro e W' ⟨rfl, r', g'⟩; have QQ := Lib.hid (QQ.out.ref r' g'); clear r' g'))
          have XO' := Lib.hid (XO.out.add rx most)
          have XL' : (addX X most x).length ≤ k + 1 := by first | omega | exact Nat.le_trans (addX_len X most x) (by omega) | exact Nat.le_trans (remX_len X x) (by omega)
          generalize addX X most x = X' at *
          obtain ⟨A1, c1, z0, R1, l1, m1⟩ := QQ.out.r.list
          have RL : Hid (LL (n1 + 1 + 1) A1 c1 X' W'.drew) := Lib.hid (LL.below ⟨z0, World.block_lt_of_cell? _ _ z0, R1⟩ (Below.refl _ _).drew)
          have QQ := Lib.hid (QQ.out.below (Below.refl _ _).drew)
          clear z0 R1
          go_wp2
          go_region_held3 (fun w' => w'.cell? ⟨n1 + 1 + 1, 0, none⟩ = some (.slice A1 X'.length c1)) (exact RL.out.1)
            (first
              | (go_at_call 19; refine (progLen _ _ (k + 1) most X' _ QQ.out.p).mono ?_; rintro e W1 ⟨rfl, rfl⟩)
              | (go_at_call 20; refine (progAll _ _ (k + 1) most X' _ QQ.out.p XO'.out (by omega)).mono ?_; rintro e W1 ⟨A2, c2, rfl, R2, l2, m2, b2⟩; have QQ := Lib.hid (QQ.out.below b2); have RL := Lib.hid (RL.out.below b2); have R2' := Lib.hid R2; clear R2 b2)
              | (go_at_call 15; refine (refIDsB A2 X' c2 _ R2'.out (by omega) l2 m2).mono ?_; rintro e W1 ⟨A3, c3, rfl, R3, l3, m3, b3⟩; have QQ := Lib.hid (QQ.out.below b3); have RL := Lib.hid (RL.out.below b3); have R3' := Lib.hid R3; clear R3 b3)
              | (go_at_call 14; refine (sameSelf A3 A1 X' c3 c1 _ R3'.out RL.out.2.2 l3 m3 l1 m1).mono ?_; rintro e W1 ⟨rfl, b4⟩; have QQ := Lib.hid (QQ.out.below b4); have RL := Lib.hid (RL.out.below b4); clear b4))
          go_wp2
          go_roundw
          case rel => exact ⟨k + 1, X', by go_num, by omega, Lib.hid ⟨QQ.out.p, QQ.out.r, XO'.out, by omega⟩, Lib.hid QQ.out.bel⟩
          case measure => simp [intOf]; omega
        by_cases e2 : kd = 2
        · subst e2
          go_wp2
          generalize wr.alloc (.cells #[.int .u8 x.n, .int .u16 x.l, .int .u32 x.s, .int .u8 x.d, .int .u8 x.a0, .int .u8 x.a1, .int .u8 x.b0, .int .u8 x.b1, .int .u8 x.c0, .int .u8 x.c1] 38) = W8 at *
          rw [← hxb] at QA hBs ⊢
          clear hxb kd' x0 x1 x2 x3 x4 x5 x6 x7 x8 x9 kc'
          have QQ := Lib.hid (QA.out.below (Below.refl _ _).drew)
          go_region_held3 (fun w' => w'.cell? ⟨xb, 0, none⟩ = some (.int .u8 x.n) ∧ w'.cell? ⟨xb, 1, none⟩ = some (.int .u16 x.l) ∧ w'.cell? ⟨xb, 2, none⟩ = some (.int .u32 x.s) ∧ w'.cell? ⟨xb, 3, none⟩ = some (.int .u8 x.d) ∧ w'.cell? ⟨xb, 4, none⟩ = some (.int .u8 x.a0) ∧ w'.cell? ⟨xb, 5, none⟩ = some (.int .u8 x.a1) ∧ w'.cell? ⟨xb, 6, none⟩ = some (.int .u8 x.b0) ∧ w'.cell? ⟨xb, 7, none⟩ = some (.int .u8 x.b1) ∧ w'.cell? ⟨xb, 8, none⟩ = some (.int .u8 x.c0) ∧ w'.cell? ⟨xb, 9, none⟩ = some (.int .u8 x.c1)) (exact ⟨QQ.out.box.c0, QQ.out.box.c1, QQ.out.box.c2, QQ.out.box.c3, QQ.out.box.c4, QQ.out.box.c5, QQ.out.box.c6, QQ.out.box.c7, QQ.out.box.c8, QQ.out.box.c9⟩)
            (first
              | (go_at_call 8; refine (toID _ _ _ _ _ _ _ _ _ _ _).mono ?_; rintro e W' ⟨rfl, b'⟩; have QQ := Lib.hid (QQ.out.below b'); clear b')
              | (go_at_call 10; refine (progRem _ _ k most X x _ QQ.out.p XO.out rx (by omega)).mono ?_; rintro e W' ⟨rfl, p', g'⟩; have QQ := Lib.hid (QQ.out.prog p' g'); clear p' g')
              | (go_at_call 11; refine (refRem _ _ most X x _ QQ.out.r XO.out rx (by omega)).mono ?_; rintro e W' ⟨rfl, r', g'⟩; have QQ := Lib.hid (QQ.out.ref r' g'); clear r' g'))
          have XO' := Lib.hid (XO.out.rem (x := x))
          have XL' : (remX X x).length ≤ k + 1 := by first | omega | exact Nat.le_trans (addX_len X most x) (by omega) | exact Nat.le_trans (remX_len X x) (by omega)
          generalize remX X x = X' at *
          obtain ⟨A1, c1, z0, R1, l1, m1⟩ := QQ.out.r.list
          have RL : Hid (LL (n1 + 1 + 1) A1 c1 X' W'.drew) := Lib.hid (LL.below ⟨z0, World.block_lt_of_cell? _ _ z0, R1⟩ (Below.refl _ _).drew)
          have QQ := Lib.hid (QQ.out.below (Below.refl _ _).drew)
          clear z0 R1
          go_wp2
          go_region_held3 (fun w' => w'.cell? ⟨n1 + 1 + 1, 0, none⟩ = some (.slice A1 X'.length c1)) (exact RL.out.1)
            (first
              | (go_at_call 19; refine (progLen _ _ (k + 1) most X' _ QQ.out.p).mono ?_; rintro e W1 ⟨rfl, rfl⟩)
              | (go_at_call 20; refine (progAll _ _ (k + 1) most X' _ QQ.out.p XO'.out (by omega)).mono ?_; rintro e W1 ⟨A2, c2, rfl, R2, l2, m2, b2⟩; have QQ := Lib.hid (QQ.out.below b2); have RL := Lib.hid (RL.out.below b2); have R2' := Lib.hid R2; clear R2 b2)
              | (go_at_call 15; refine (refIDsB A2 X' c2 _ R2'.out (by omega) l2 m2).mono ?_; rintro e W1 ⟨A3, c3, rfl, R3, l3, m3, b3⟩; have QQ := Lib.hid (QQ.out.below b3); have RL := Lib.hid (RL.out.below b3); have R3' := Lib.hid R3; clear R3 b3)
              | (go_at_call 14; refine (sameSelf A3 A1 X' c3 c1 _ R3'.out RL.out.2.2 l3 m3 l1 m1).mono ?_; rintro e W1 ⟨rfl, b4⟩; have QQ := Lib.hid (QQ.out.below b4); have RL := Lib.hid (RL.out.below b4); clear b4))
          go_wp2
          go_roundw
          case rel => exact ⟨k + 1, X', by go_num, by omega, Lib.hid ⟨QQ.out.p, QQ.out.r, XO'.out, by omega⟩, Lib.hid QQ.out.bel⟩
          case measure => simp [intOf]; omega
        by_cases e3 : kd = 3
        · subst e3
          go_upto_region 17 with fail
          generalize wr.alloc (.cells #[.int .u8 x.n, .int .u16 x.l, .int .u32 x.s, .int .u8 x.d, .int .u8 x.a0, .int .u8 x.a1, .int .u8 x.b0, .int .u8 x.b1, .int .u8 x.c0, .int .u8 x.c1] 38) = W8 at *
          rw [← hxb] at QA hBs ⊢
          clear hxb kd' x0 x1 x2 x3 x4 x5 x6 x7 x8 x9 kc'
          have QQ := QA
          have q0 := QQ.out.box.c0; have q1 := QQ.out.box.c1; have q2 := QQ.out.box.c2; have q3 := QQ.out.box.c3; have q4 := QQ.out.box.c4; have q5 := QQ.out.box.c5; have q6 := QQ.out.box.c6; have q7 := QQ.out.box.c7; have q8 := QQ.out.box.c8; have q9 := QQ.out.box.c9
          go_wp2_with (first
              | (go_at_call 12; refine (refFind _ _ most X x _ QQ.out.r XO.out rx).mono ?_; rintro e W' ⟨rfl, b'⟩; have QQ := Lib.hid (QQ.out.below b'); clear b'; clear q0 q1 q2 q3 q4 q5 q6 q7 q8 q9; have q0 := QQ.out.box.c0; have q1 := QQ.out.box.c1; have q2 := QQ.out.box.c2; have q3 := QQ.out.box.c3; have q4 := QQ.out.box.c4; have q5 := QQ.out.box.c5; have q6 := QQ.out.box.c6; have q7 := QQ.out.box.c7; have q8 := QQ.out.box.c8; have q9 := QQ.out.box.c9)
              | (go_at_call 8; refine (toID _ _ _ _ _ _ _ _ _ _ _).mono ?_; rintro e W' ⟨rfl, b'⟩; have QQ := Lib.hid (QQ.out.below b'); clear b'; clear q0 q1 q2 q3 q4 q5 q6 q7 q8 q9; have q0 := QQ.out.box.c0; have q1 := QQ.out.box.c1; have q2 := QQ.out.box.c2; have q3 := QQ.out.box.c3; have q4 := QQ.out.box.c4; have q5 := QQ.out.box.c5; have q6 := QQ.out.box.c6; have q7 := QQ.out.box.c7; have q8 := QQ.out.box.c8; have q9 := QQ.out.box.c9)
              | (go_at_call 13; refine (progHas _ _ k most X x _ QQ.out.p XO.out rx).mono ?_; rintro e W' ⟨rfl, b'⟩; have QQ := Lib.hid (QQ.out.below b'); clear b'))
          clear q0 q1 q2 q3 q4 q5 q6 q7 q8 q9
          have QQ := Lib.hid QQ.out.up
          have XO' := Lib.hid XO.out
          have XL' : (X).length ≤ k + 1 := by first | omega | exact Nat.le_trans (addX_len X most x) (by omega) | exact Nat.le_trans (remX_len X x) (by omega)
          obtain ⟨X', hX'⟩ : ∃ X', X' = X := ⟨_, rfl⟩
          subst hX'
          obtain ⟨A1, c1, z0, R1, l1, m1⟩ := QQ.out.r.list
          have RL : Hid (LL (n1 + 1 + 1) A1 c1 X' W'.drew) := Lib.hid (LL.below ⟨z0, World.block_lt_of_cell? _ _ z0, R1⟩ (Below.refl _ _).drew)
          have QQ := Lib.hid (QQ.out.below (Below.refl _ _).drew)
          clear z0 R1
          go_wp2
          go_region_held3 (fun w' => w'.cell? ⟨n1 + 1 + 1, 0, none⟩ = some (.slice A1 X'.length c1)) (exact RL.out.1)
            (first
              | (go_at_call 19; refine (progLen _ _ (k + 1) most X' _ QQ.out.p).mono ?_; rintro e W1 ⟨rfl, rfl⟩)
              | (go_at_call 20; refine (progAll _ _ (k + 1) most X' _ QQ.out.p XO'.out (by omega)).mono ?_; rintro e W1 ⟨A2, c2, rfl, R2, l2, m2, b2⟩; have QQ := Lib.hid (QQ.out.below b2); have RL := Lib.hid (RL.out.below b2); have R2' := Lib.hid R2; clear R2 b2)
              | (go_at_call 15; refine (refIDsB A2 X' c2 _ R2'.out (by omega) l2 m2).mono ?_; rintro e W1 ⟨A3, c3, rfl, R3, l3, m3, b3⟩; have QQ := Lib.hid (QQ.out.below b3); have RL := Lib.hid (RL.out.below b3); have R3' := Lib.hid R3; clear R3 b3)
              | (go_at_call 14; refine (sameSelf A3 A1 X' c3 c1 _ R3'.out RL.out.2.2 l3 m3 l1 m1).mono ?_; rintro e W1 ⟨rfl, b4⟩; have QQ := Lib.hid (QQ.out.below b4); have RL := Lib.hid (RL.out.below b4); clear b4))
          go_wp2
          go_roundw
          case rel => exact ⟨k + 1, X', by go_num, by omega, Lib.hid ⟨QQ.out.p, QQ.out.r, XO'.out, by omega⟩, Lib.hid QQ.out.bel⟩
          case measure => simp [intOf]; omega
        by_cases e4 : kd = 4
        · subst e4
          have FL : (X.filter (ofProc x.n x.l)).length * 16 ≤ 140737488355328 := by have := List.length_filter_le (ofProc x.n x.l) X; omega
          go_wp2
          generalize wr.alloc (.cells #[.int .u8 x.n, .int .u16 x.l, .int .u32 x.s, .int .u8 x.d, .int .u8 x.a0, .int .u8 x.a1, .int .u8 x.b0, .int .u8 x.b1, .int .u8 x.c0, .int .u8 x.c1] 38) = W8 at *
          rw [← hxb] at QA hBs ⊢
          clear hxb kd' x0 x1 x2 x3 x4 x5 x6 x7 x8 x9 kc'
          have QQ := Lib.hid (QA.out.below (Below.refl _ _).drew)
          go_region_held3 (fun w' => w'.cell? ⟨xb, 0, none⟩ = some (.int .u8 x.n) ∧ w'.cell? ⟨xb, 1, none⟩ = some (.int .u16 x.l) ∧ w'.cell? ⟨xb, 2, none⟩ = some (.int .u32 x.s) ∧ w'.cell? ⟨xb, 3, none⟩ = some (.int .u8 x.d) ∧ w'.cell? ⟨xb, 4, none⟩ = some (.int .u8 x.a0) ∧ w'.cell? ⟨xb, 5, none⟩ = some (.int .u8 x.a1) ∧ w'.cell? ⟨xb, 6, none⟩ = some (.int .u8 x.b0) ∧ w'.cell? ⟨xb, 7, none⟩ = some (.int .u8 x.b1) ∧ w'.cell? ⟨xb, 8, none⟩ = some (.int .u8 x.c0) ∧ w'.cell? ⟨xb, 9, none⟩ = some (.int .u8 x.c1)) (exact ⟨QQ.out.box.c0, QQ.out.box.c1, QQ.out.box.c2, QQ.out.box.c3, QQ.out.box.c4, QQ.out.box.c5, QQ.out.box.c6, QQ.out.box.c7, QQ.out.box.c8, QQ.out.box.c9⟩)
            (first
              | (go_at_call 17; refine (toProcB _ _ _).mono ?_; rintro e W' ⟨rfl, b'⟩; have QQ := Lib.hid (QQ.out.below b'); clear b')
              | (go_at_call 16; refine (progUnder _ _ k most X _ _ _ QQ.out.p XO.out (by omega)).mono ?_; rintro e W' ⟨A2, c2, rfl, R2, l2, m2, b2⟩; have QQ := Lib.hid (QQ.out.below b2); have R2' := Lib.hid R2; clear R2 b2)
              | (go_at_call 15; refine (refIDsB A2 _ c2 _ R2'.out FL l2 m2).mono ?_; rintro e W' ⟨A3, c3, rfl, R3, l3, m3, b3⟩; have QQ := Lib.hid (QQ.out.below b3); have R3' := Lib.hid R3; clear R3 b3)
              | (go_at_call 18; refine (refUnd _ _ most X _ _ _ QQ.out.r (by omega)).mono ?_; rintro e W' ⟨A4, c4, rfl, R4, l4, m4, b4⟩; have QQ := Lib.hid (QQ.out.below b4); have R3' := Lib.hid (R3'.out.below b4 (Nat.le_refl _) b4.size); have R4' := Lib.hid R4; clear R4 b4)
              | (go_at_call 14; refine (sameSelf A3 A4 _ c3 c4 _ R3'.out R4'.out l3 m3 l4 m4).mono ?_; rintro e W' ⟨rfl, b5⟩; have QQ := Lib.hid (QQ.out.below b5); clear b5))
          have QQ := Lib.hid QQ.out.up
          have XO' := Lib.hid XO.out
          have XL' : (X).length ≤ k + 1 := by first | omega | exact Nat.le_trans (addX_len X most x) (by omega) | exact Nat.le_trans (remX_len X x) (by omega)
          obtain ⟨X', hX'⟩ : ∃ X', X' = X := ⟨_, rfl⟩
          subst hX'
          obtain ⟨A1, c1, z0, R1, l1, m1⟩ := QQ.out.r.list
          have RL : Hid (LL (n1 + 1 + 1) A1 c1 X' W'.drew) := Lib.hid (LL.below ⟨z0, World.block_lt_of_cell? _ _ z0, R1⟩ (Below.refl _ _).drew)
          have QQ := Lib.hid (QQ.out.below (Below.refl _ _).drew)
          clear z0 R1
          go_wp2
          go_region_held3 (fun w' => w'.cell? ⟨n1 + 1 + 1, 0, none⟩ = some (.slice A1 X'.length c1)) (exact RL.out.1)
            (first
              | (go_at_call 19; refine (progLen _ _ (k + 1) most X' _ QQ.out.p).mono ?_; rintro e W1 ⟨rfl, rfl⟩)
              | (go_at_call 20; refine (progAll _ _ (k + 1) most X' _ QQ.out.p XO'.out (by omega)).mono ?_; rintro e W1 ⟨A2, c2, rfl, R2, l2, m2, b2⟩; have QQ := Lib.hid (QQ.out.below b2); have RL := Lib.hid (RL.out.below b2); have R2' := Lib.hid R2; clear R2 b2)
              | (go_at_call 15; refine (refIDsB A2 X' c2 _ R2'.out (by omega) l2 m2).mono ?_; rintro e W1 ⟨A3, c3, rfl, R3, l3, m3, b3⟩; have QQ := Lib.hid (QQ.out.below b3); have RL := Lib.hid (RL.out.below b3); have R3' := Lib.hid R3; clear R3 b3)
              | (go_at_call 14; refine (sameSelf A3 A1 X' c3 c1 _ R3'.out RL.out.2.2 l3 m3 l1 m1).mono ?_; rintro e W1 ⟨rfl, b4⟩; have QQ := Lib.hid (QQ.out.below b4); have RL := Lib.hid (RL.out.below b4); clear b4))
          go_wp2
          go_roundw
          case rel => exact ⟨k + 1, X', by go_num, by omega, Lib.hid ⟨QQ.out.p, QQ.out.r, XO'.out, by omega⟩, Lib.hid QQ.out.bel⟩
          case measure => simp [intOf]; omega
        · skip
          go_wp2
          generalize wr.alloc (.cells #[.int .u8 x.n, .int .u16 x.l, .int .u32 x.s, .int .u8 x.d, .int .u8 x.a0, .int .u8 x.a1, .int .u8 x.b0, .int .u8 x.b1, .int .u8 x.c0, .int .u8 x.c1] 38) = W8 at *
          rw [← hxb] at QA hBs ⊢
          clear hxb kd' x0 x1 x2 x3 x4 x5 x6 x7 x8 x9 kc'
          have QQ := QA
          have QQ := Lib.hid QQ.out.up
          have XO' := Lib.hid XO.out
          have XL' : (X).length ≤ k + 1 := by first | omega | exact Nat.le_trans (addX_len X most x) (by omega) | exact Nat.le_trans (remX_len X x) (by omega)
          obtain ⟨X', hX'⟩ : ∃ X', X' = X := ⟨_, rfl⟩
          subst hX'
          obtain ⟨A1, c1, z0, R1, l1, m1⟩ := QQ.out.r.list
          have RL : Hid (LL (n1 + 1 + 1) A1 c1 X' W8.drew) := Lib.hid (LL.below ⟨z0, World.block_lt_of_cell? _ _ z0, R1⟩ (Below.refl _ _).drew)
          have QQ := Lib.hid (QQ.out.below (Below.refl _ _).drew)
          clear z0 R1
          go_wp2
          go_region_held3 (fun w' => w'.cell? ⟨n1 + 1 + 1, 0, none⟩ = some (.slice A1 X'.length c1)) (exact RL.out.1)
            (first
              | (go_at_call 19; refine (progLen _ _ (k + 1) most X' _ QQ.out.p).mono ?_; rintro e W1 ⟨rfl, rfl⟩)
              | (go_at_call 20; refine (progAll _ _ (k + 1) most X' _ QQ.out.p XO'.out (by omega)).mono ?_; rintro e W1 ⟨A2, c2, rfl, R2, l2, m2, b2⟩; have QQ := Lib.hid (QQ.out.below b2); have RL := Lib.hid (RL.out.below b2); have R2' := Lib.hid R2; clear R2 b2)
              | (go_at_call 15; refine (refIDsB A2 X' c2 _ R2'.out (by omega) l2 m2).mono ?_; rintro e W1 ⟨A3, c3, rfl, R3, l3, m3, b3⟩; have QQ := Lib.hid (QQ.out.below b3); have RL := Lib.hid (RL.out.below b3); have R3' := Lib.hid R3; clear R3 b3)
              | (go_at_call 14; refine (sameSelf A3 A1 X' c3 c1 _ R3'.out RL.out.2.2 l3 m3 l1 m1).mono ?_; rintro e W1 ⟨rfl, b4⟩; have QQ := Lib.hid (QQ.out.below b4); have RL := Lib.hid (RL.out.below b4); clear b4))
          go_wp2
          go_roundw
          case rel => exact ⟨k + 1, X', by go_num, by omega, Lib.hid ⟨QQ.out.p, QQ.out.r, XO'.out, by omega⟩, Lib.hid QQ.out.bel⟩
          case measure => simp [intOf]; omega
      · obtain rfl : k = L.length := by omega
        go_wp2
        go_ret
        exact ⟨rfl, HW.out⟩

end Go.Proofs.Ytehkofeokccdeaa
