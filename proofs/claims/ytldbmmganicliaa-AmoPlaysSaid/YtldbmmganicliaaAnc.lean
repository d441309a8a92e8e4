/-
  slices.SortFunc at the rows of a table, by the order of their calls: the row holds them by rising calls. Condition: the row lies in a block from B0 on, none of it is frozen.
-/
import Derived.Test.YtldbmmganicliaaAnb
import Derived.Test.YtldbmmganicliaaLcmp
import Derived.Test.YtldbmmganicliaaShelf
import Derived.Sort.Grow
namespace Go.Proofs.Ytldbmmganicliaa
set_option linter.unusedSimpArgs false
set_option linter.unusedVariables false
open Go.RowKit Go.Sort Go.Shelf Go.Lib Go.Maps

/-- the rows of one list. -/
abbrev Ew (L : List Rw) := {x : Rw // x ∈ L}
def Ew.enc {L : List Rw} (x : Ew L) : List Value := x.1.cs.toList
def Rw.cmp (x y : Rw) : Int := x.id.cmp y.id
def Ew.cf {L : List Rw} (x y : Ew L) : Int := x.1.cmp y.1
/-- rows that fit, no call twice. -/
structure FitL (L : List Rw) : Prop where
  fit : ∀ x ∈ L, x.id.Fit
  one : ∀ x ∈ L, ∀ y ∈ L, x.id = y.id → x = y
theorem Ew.lt_iff {L : List Rw} {x y : Ew L} : ltOf Ew.cf x y = true ↔ x.1.cmp y.1 < 0 := decide_eq_true_iff
theorem Ew.nlt_iff {L : List Rw} (h : FitL L) {x y : Ew L} : ltOf Ew.cf x y = false ↔ y.1.cmp x.1 ≤ 0 := by
  have := cmp_anti (h.fit _ y.2) (h.fit _ x.2)
  have h : ltOf Ew.cf x y = false ↔ ¬ x.1.cmp y.1 < 0 := decide_eq_false_iff_not
  rw [h]
  unfold Rw.cmp
  omega
theorem Ew.swo {L : List Rw} (h : FitL L) : SWO (ltOf (Ew.cf (L := L))) where
  irrefl x := by
    rw [Ew.nlt_iff h]
    have := (cmp_zero (h.fit _ x.2) (h.fit _ x.2)).2 rfl
    unfold Rw.cmp
    omega
  trans x y z h1 h2 := by
    rw [Ew.lt_iff] at *
    exact cmp_lt_trans (h.fit _ x.2) (h.fit _ y.2) (h.fit _ z.2) h1 h2
  ntrans x y z h1 h2 := by
    rw [Ew.nlt_iff h] at *
    exact cmp_trans (h.fit _ z.2) (h.fit _ y.2) (h.fit _ x.2) h2 h1
theorem Ew.total {L : List Rw} (h : FitL L) (x y : Ew L) (h1 : ltOf Ew.cf x y = false) (h2 : ltOf Ew.cf y x = false) : x = y := by
  rw [Ew.nlt_iff h] at *
  have := cmp_anti (h.fit _ x.2) (h.fit _ y.2)
  unfold Rw.cmp at h1 h2
  exact Subtype.ext (h.one _ x.2 _ y.2 ((cmp_zero (h.fit _ x.2) (h.fit _ y.2)).1 (by omega)))
theorem Ew.len {L : List Rw} (x : Ew L) : x.enc.length = 13 := rfl
theorem Ew.one {L : List Rw} (x : Ew L) : ∀ v ∈ x.enc, v.oneCell' = true := Rw.one x.1
set_option maxRecDepth 100000 in
set_option maxHeartbeats 4000000 in
theorem cmpFnA (x y : Rw) (hx : 0 ≤ x.id.d) (hy : 0 ≤ y.id.d) (w : World) : Calls Try.prog 51 #[.agg #[.int .u8 x.id.n, .int .u16 x.id.l, .int .u32 x.id.s, .int .u8 x.id.d, .int .u8 x.id.a0, .int .u8 x.id.a1, .int .u8 x.id.b0, .int .u8 x.id.b1, .int .u8 x.id.c0, .int .u8 x.id.c1, .bool x.en, .int .u8 x.code, .string x.val], .agg #[.int .u8 y.id.n, .int .u16 y.id.l, .int .u32 y.id.s, .int .u8 y.id.d, .int .u8 y.id.a0, .int .u8 y.id.a1, .int .u8 y.id.b0, .int .u8 y.id.b1, .int .u8 y.id.c0, .int .u8 y.id.c1, .bool y.en, .int .u8 y.code, .string y.val]] w fun e w' => e = .returned (.int .i64 (x.cmp y)) ∧ ∃ q os, w' = grow (w.drewN q) os := by
  obtain ⟨W1, hW1⟩ : ∃ z, w.alloc (.cells #[.int .u8 x.id.n, .int .u16 x.id.l, .int .u32 x.id.s, .int .u8 x.id.d, .int .u8 x.id.a0, .int .u8 x.id.a1, .int .u8 x.id.b0, .int .u8 x.id.b1, .int .u8 x.id.c0, .int .u8 x.id.c1, .bool x.en, .int .u8 x.code, .string x.val] 88) = z := ⟨_, rfl⟩
  have b1 : L.Below w.heap.size w W1 := by rw [← hW1]; exact (L.Below.refl _ _).alloc (Nat.le_refl _) _
  obtain ⟨kx, hkx⟩ : ∃ z, w.heap.size = z := ⟨_, rfl⟩
  have R1 : W1.heap[kx]? = some (.cells #[.int .u8 x.id.n, .int .u16 x.id.l, .int .u32 x.id.s, .int .u8 x.id.d, .int .u8 x.id.a0, .int .u8 x.id.a1, .int .u8 x.id.b0, .int .u8 x.id.b1, .int .u8 x.id.c0, .int .u8 x.id.c1, .bool x.en, .int .u8 x.code, .string x.val] 88 (0, 0)) := by rw [← hW1, ← hkx]; exact heap_alloc_new _ _
  obtain ⟨W2, hW2⟩ : ∃ z, W1.alloc (.cells #[.int .u8 y.id.n, .int .u16 y.id.l, .int .u32 y.id.s, .int .u8 y.id.d, .int .u8 y.id.a0, .int .u8 y.id.a1, .int .u8 y.id.b0, .int .u8 y.id.b1, .int .u8 y.id.c0, .int .u8 y.id.c1, .bool y.en, .int .u8 y.code, .string y.val] 88) = z := ⟨_, rfl⟩
  have hs1 : W1.heap.size = kx + 1 := by rw [← hW1, World.size_alloc, hkx]
  have b12 : L.Below W1.heap.size W1 W2 := by rw [← hW2]; exact (L.Below.refl _ _).alloc (Nat.le_refl _) _
  have R2 : W2.heap[kx + 1]? = some (.cells #[.int .u8 y.id.n, .int .u16 y.id.l, .int .u32 y.id.s, .int .u8 y.id.d, .int .u8 y.id.a0, .int .u8 y.id.a1, .int .u8 y.id.b0, .int .u8 y.id.b1, .int .u8 y.id.c0, .int .u8 y.id.c1, .bool y.en, .int .u8 y.code, .string y.val] 88 (0, 0)) := by rw [← hW2, ← hs1]; exact heap_alloc_new _ _
  have R1 := (b12.toBelow.block kx (bltA R1)).trans R1
  have b2 : L.Below kx w W2 := (hkx ▸ b1 : L.Below kx w W1).trans (b12.mono (by omega))
  have BK := Lib.hid b2
  have HW1 := Lib.hid hW1
  have HW2 := Lib.hid hW2
  have HKX := Lib.hid hkx
  have HS1 := Lib.hid hs1
  have L2 : Hid (kx ≤ W2.heap.size) := Lib.hid (Nat.le_of_lt (bltA R1))
  have x0 := cell_of R1 0 (.int .u8 x.id.n) rfl
  have x1 := cell_of R1 1 (.int .u16 x.id.l) rfl
  have x2 := cell_of R1 2 (.int .u32 x.id.s) rfl
  have x3 := cell_of R1 3 (.int .u8 x.id.d) rfl
  have x4 := cell_of R1 4 (.int .u8 x.id.a0) rfl
  have x5 := cell_of R1 5 (.int .u8 x.id.a1) rfl
  have x6 := cell_of R1 6 (.int .u8 x.id.b0) rfl
  have x7 := cell_of R1 7 (.int .u8 x.id.b1) rfl
  have x8 := cell_of R1 8 (.int .u8 x.id.c0) rfl
  have x9 := cell_of R1 9 (.int .u8 x.id.c1) rfl
  
  have y0 := cell_of R2 0 (.int .u8 y.id.n) rfl
  have y1 := cell_of R2 1 (.int .u16 y.id.l) rfl
  have y2 := cell_of R2 2 (.int .u32 y.id.s) rfl
  have y3 := cell_of R2 3 (.int .u8 y.id.d) rfl
  have y4 := cell_of R2 4 (.int .u8 y.id.a0) rfl
  have y5 := cell_of R2 5 (.int .u8 y.id.a1) rfl
  have y6 := cell_of R2 6 (.int .u8 y.id.b0) rfl
  have y7 := cell_of R2 7 (.int .u8 y.id.b1) rfl
  have y8 := cell_of R2 8 (.int .u8 y.id.c0) rfl
  have y9 := cell_of R2 9 (.int .u8 y.id.c1) rfl
  
  have KC := Lib.hid (L.compare x.id.n x.id.l x.id.s x.id.d x.id.a0 x.id.a1 x.id.b0 x.id.b1 x.id.c0 x.id.c1 y.id.n y.id.l y.id.s y.id.d y.id.a0 y.id.a1 y.id.b0 y.id.b1 y.id.c0 y.id.c1 W2 hx hy)
  clear b1 b12 b2 hW1 hW2 R1 R2 hs1 hkx
  go_enter Try.func51, Try.ntmps51
  go_wp2_with (first | (rw [HW1.out]; try rw [HKX.out]) | (rw [HW2.out]; try rw [HS1.out]) | (go_at_call 52; refine KC.out.mono ?_; rintro e w3 ⟨rfl, b3⟩; have BK := Lib.hid (BK.out.trans (b3.mono L2.out)); clear b3) | fail)
  go_ret
  refine ⟨rfl, ?_⟩
  have hb := BK.out
  rw [← HKX.out] at hb
  obtain ⟨p, hp⟩ := L.regrown_of_below hb
  exact ⟨p.d, p.os, hp⟩
theorem Ew.lays {L : List Rw} (hL : FitL L) [Inhabited (Ew L)] (blk off size : Nat) (w : World) : CmpLays Try.prog 51 #[] (Ew.enc (L := L)) 13 Ew.cf blk off size w :=
  fun _ _ _ _ x y => cmpFnA x.1 y.1 (hL.fit _ x.2).d0 (hL.fit _ y.2).d0 _
/-- a row in memory. -/
def RwAt (W : World) (b o : Nat) (x : Rw) : Prop := ∀ c, c < 13 → W.cell? ⟨b, o + c, none⟩ = some x.cs.toList[c]!
section
variable {L : List Rw} [Inhabited (Ew L)]
theorem holdsA_of_rows {w : World} {b o : Nat} {d : Array (Ew L)} (hr : ∀ i, i < d.size → RwAt w b (o + i * 13) d[i]!.1) (hf : ∀ j, w.frozen? ⟨b, j, none⟩ = false) : HoldsK Ew.enc 13 w b o d := by
  intro j hj
  rw [size_flatK] at hj
  refine ⟨?_, hf _⟩
  rw [get_flatK _ _ _ _ hj]
  have h := (hr (j / 13) (by omega)) (j % 13) (by omega)
  rw [show o + j / 13 * 13 + j % 13 = o + j by omega] at h
  exact h
theorem rowsA_of_holds {w : World} {b o : Nat} {d : Array (Ew L)} (h : HoldsK Ew.enc 13 w b o d) (i : Nat) (hi : i < d.size) : RwAt w b (o + i * 13) d[i]!.1 :=
  fun c hc => (h.cell hi (c := c) hc).1

/-- slices.SortFunc by calls. -/
theorem sortRs (hL : FitL L) (B0 b o cap : Nat) (d : Array (Ew L)) (w : World) (hB : B0 ≤ b) (hb : b < w.heap.size) (hr : ∀ i, i < d.size → RwAt w b (o + i * 13) d[i]!.1) (hf : ∀ j, w.frozen? ⟨b, j, none⟩ = false) (hs : d.size < 4611686018427387904) :
    Calls Try.prog 59 #[.slice (some ⟨b, o, none⟩) d.size cap, .func (.func 51) #[] #[]] w fun e w' => e = .returned (.tuple #[]) ∧ Below B0 w w' ∧
      ∃ d' : Array (Ew L), d' = (d.toList.mergeSort fun x y => !(ltOf Ew.cf) y x).toArray ∧ d'.size = d.size ∧ (∀ i, i < d'.size → RwAt w' b (o + i * 13) d'[i]!.1) ∧ ∀ j, w'.frozen? ⟨b, j, none⟩ = false := by
  have eg : ∀ args w, (callFunc 51 args).run Try.prog w = .ok (.enter 51 args) w := enters_of Try.func51 (by kernel_rfl) rfl
  have hH := holdsA_of_rows hr hf
  refine (AnyQ.slices_SortFunc_total Try.sortRow 13 (fun _ => by kernel_rfl) (fun _ => by kernel_rfl) Ew.enc Ew.len Ew.one Ew.cf (Ew.swo hL) 51 #[] b o cap d w eg (Ew.lays hL b o d.size w) hH hb hs (Ew.total hL)).mono ?_
  rintro e w' ⟨rfl, n, os, rfl⟩
  have hsz : (d.toList.mergeSort fun x y => !(ltOf Ew.cf) y x).toArray.size = d.size := by simp
  generalize (d.toList.mergeSort fun x y => !(ltOf Ew.cf) y x).toArray = d' at hsz ⊢
  refine ⟨rfl, ⟨rfl, rfl, rfl, ?_, fun k hk => ?_⟩, d', rfl, hsz, ?_⟩
  · simp [sortWorldK, grow, putRowK, putRow, mapBlock, Sort.ahead]
  · have h1 : k < w.heap.size := by omega
    have h2 : b ≠ k := by omega
    simp [sortWorldK, grow, putRowK, putRow, mapBlock, Sort.ahead, Array.getElem?_append, Array.getElem?_modify, Array.getElem_modify, h1, h2]
  · have h := holdsK_grow Ew.enc 13 (putRowK Ew.enc 13 (Sort.ahead w n) b o d') os b o d' (by simp [putRowK, putRow, mapBlock, Sort.ahead]; exact hb) (holdsK_putRowK Ew.enc 13 (Sort.ahead w n) b o d d' (holdsK_ahead Ew.enc 13 w n b o d hH) hsz)
    refine ⟨fun i hi => rowsA_of_holds h i hi, fun j => ?_⟩
    have e : (sortWorldK Ew.enc 13 w b o n d' os).frozen? ⟨b, j, none⟩ = (putRowK Ew.enc 13 (Sort.ahead w n) b o d').frozen? ⟨b, j, none⟩ := World.frozen?_of_block (heap_grow_old _ _ (by simp [putRowK, putRow, mapBlock, Sort.ahead]; exact hb))
    rw [e]
    exact (frozen?_putRow id (Sort.ahead w n) b o _ _).trans (hf j)
end

end Go.Proofs.Ytldbmmganicliaa
