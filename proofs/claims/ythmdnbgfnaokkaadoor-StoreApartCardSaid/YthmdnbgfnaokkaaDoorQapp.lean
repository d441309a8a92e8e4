/-
  The store's Apply of one write, by a contract. Condition: the key is no longer than a slice may be.
-/
import Derived.Test.YthmdnbgfnaokkaaDoorQmap
import Derived.Deep.CutRange
namespace Go.Proofs.YthmdnbgfnaokkaaDoor
set_option linter.unusedSimpArgs false
set_option linter.unusedVariables false
open Go.RowKit Go.Maps

/-- what is there behind a write. -/
def appW (L : List W3) (x : W3) : List W3 := if x.has then x :: wout L x.key else wout L x.key

theorem region_tail_drew {P : Program} {id : Nat} {Q : Exit → Act → World → Prop} {a : Act} {w : World} {l : List Oper} (n : Nat) (hm : P.follows .mixedOrders = true) (hB : Region.lexTailB .any l.toArray n = true)
    (h : wpStill P l.toArray w.drew (fun a' => wpList P l.toArray Q (l.drop n) a' w.drew) (l.take n) a) : (Code.region id l.toArray true).wp P Q a w := wp_region_still_tail n hm hB h
theorem tailMap {W0 : World} {ops : Array Oper} {rest : List Oper} {o : Oper} {a : Act} {Q : Exit → Act → World → Prop} (hg : o.guard = none) (m x v : Operand) (hop : o.op = Op.mapUpdate 84 m x v)
    (bm nn : Nat) (D : DataW Unit) (L : List W3) (y : W3) (hm : a.eval m = .map (some bm)) (O : W0.ownsMap Tryd.prog 9 wrElem bm nn D) (K : KeysW D L) (hn : nn < maxLen) (hx : a.eval x = .string y.key) (hv : a.eval v = .agg #[.string y.key, .string y.val, .bool y.has]) (hk : y.key.size ≤ maxLen)
    (hK : ∀ w' D', w'.ownsMap Tryd.prog 9 wrElem bm (nn + 1) D' → KeysW D' (y :: wout L y.key) → W0.grownBy w' (some bm) → wpList Tryd.prog ops Q rest (a.put o.dst undef) w') : wpList Tryd.prog ops Q (o :: rest) a W0 :=
  wpList_mapUpdate_own W0 hg m x v 84 hop 9 75 strKeyed mapU wrElem bm nn D hm O hn _ _ _ hx hv (strKey y.key hk) y.dat [] (wrElem_mk y) fun w' r1 r2 => hK w' _ r1 (K.put (O.tidy strKeyed) O.isMap y hk) r2

theorem tailDel {W0 : World} {ops : Array Oper} {rest : List Oper} {o : Oper} {a : Act} {Q : Exit → Act → World → Prop} (hg : o.guard = none) (m x : Operand) (hop : o.op = Op.call { callee := Callee.builtin Builtin.delete, args := #[m, x], argTypes := #[84, 9] })
    (bm nn : Nat) (D : DataW Unit) (L : List W3) (key : ByteArray) (hm : a.eval m = .map (some bm)) (O : W0.ownsMap Tryd.prog 9 wrElem bm nn D) (K : KeysW D L) (hx : a.eval x = .string key) (hk : key.size ≤ maxLen)
    (hK : ∀ w' D', w'.ownsMap Tryd.prog 9 wrElem bm nn D' → KeysW D' (wout L key) → W0.grownBy w' (some bm) → wpList Tryd.prog ops Q rest (a.put o.dst (.tuple #[])) w') : wpList Tryd.prog ops Q (o :: rest) a W0 :=
  wpList_delete_own W0 hg m x 84 9 hop 75 strKeyed mapU wrElem bm nn D hm O _ _ hx (strKey key hk) fun w' r1 r2 => hK w' _ r1 (K.del (O.tidy strKeyed) key) r2.grown

set_option maxRecDepth 100000 in
set_option maxHeartbeats 4000000 in
theorem applyOne (b bm k : Nat) (L : List W3) (ad : Addr) (x : W3) (c : Nat) (W : World) (h : PSt b bm k L W) (hb : b ≠ bm) (hr : RowsW W W.heap.size (some ad) [x]) (hc : 1 ≤ c) (hk : x.key.size ≤ maxLen) (hkk : k < maxLen) :
    Calls Tryd.prog 27 #[.pointer (some ⟨b, 0, none⟩), .slice (some ad) 1 c] W fun e W' => e = .returned (.tuple #[]) ∧ PSt b bm (k + 1) (appW L x) W' ∧ W.grownBy W' (some bm) := by
  have h0 := h
  obtain ⟨c0, nn, D, hk', O, K⟩ := h
  have hl := World.block_lt_of_cell? W _ c0
  obtain ⟨rb, ro, e, hrb, hrc⟩ := hr (by simp)
  cases e
  obtain ⟨r0, r1, r2⟩ := hrc 0 x rfl
  rw [Nat.zero_mul, Nat.add_zero] at r0 r1 r2
  have hci : (1 : Int) ≤ (c : Int) := by omega
  have OO := Lib.hid O
  have KK := Lib.hid K
  have HF := Lib.hid h0
  clear O K h0
  by_cases hh : x.has = true
  · rw [hh] at r2
    have ea : appW L x = x :: wout L x.key := by simp [appW, hh]
    rw [ea]
    clear ea
    go_enter Tryd.func27, Tryd.ntmps27
    go_wp2_with (go_at_call 30; refine (madeS b bm _ c0).mono ?_; rintro e W1 ⟨rfl, b1⟩
                 have c1 := (b1.cell (p := ⟨b, 0, none⟩) hl).trans c0
                 have s0 := (b1.cell (p := ⟨rb, ro, none⟩) hrb).trans r0
                 have s1 := (b1.cell (p := ⟨rb, ro + 1, none⟩) hrb).trans r1
                 have s2 := (b1.cell (p := ⟨rb, ro + 2, none⟩) hrb).trans r2
                 have B1 := Lib.hid b1
                 have hs1 := b1.size
                 have hl1 : b < W1.heap.size := Nat.lt_of_lt_of_le hl hs1
                 clear b1)
    go_rounds 2
    have zA : Below W.heap.size W (W1.alloc (.cells #[.string x.key, .string x.val, .bool true] 75)).drew := ((B1.out).alloc B1.out.size _).drew
    have y0 : (W1.alloc (.cells #[.string x.key, .string x.val, .bool true] 75)).drew.cell? ⟨W1.heap.size, 0, none⟩ = some (.string x.key) := cell_of_row _ _ 0 #[.string x.key, .string x.val, .bool true] 75 (0, 0) (heap_alloc_new W1 _)
    have y1 : (W1.alloc (.cells #[.string x.key, .string x.val, .bool true] 75)).drew.cell? ⟨W1.heap.size, 1, none⟩ = some (.string x.val) := cell_of_row _ _ 1 #[.string x.key, .string x.val, .bool true] 75 (0, 0) (heap_alloc_new W1 _)
    have y2 : (W1.alloc (.cells #[.string x.key, .string x.val, .bool true] 75)).drew.cell? ⟨W1.heap.size, 2, none⟩ = some (.bool true) := cell_of_row _ _ 2 #[.string x.key, .string x.val, .bool true] 75 (0, 0) (heap_alloc_new W1 _)
    have z2 : (W1.alloc (.cells #[.string x.key, .string x.val, .bool true] 75)).drew.cell? ⟨b, 0, none⟩ = some (.map (some bm)) := (World.cell?_alloc_lt _ _ _ hl1).trans c1
    refine region_tail_drew 7 (by kernel_rfl) (by kernel_rfl) ?_
    simp only [List.take_succ_cons, List.take_zero, List.drop_succ_cons, List.drop_zero]
    generalize (W1.alloc (.cells #[.string x.key, .string x.val, .bool true] 75)).drew = W2 at *
    have ZA := Lib.hid zA
    clear zA
    repeat still_step
    refine wpStill_nil ?_
    have OA := OO.out.kept (grown_of_belowW ZA.out none) (by simp)
    refine tailMap (by rfl) (.tmp 20) (.tmp 22) (.tmp 23) (by rfl) bm nn D L x (by rfl) OA KK.out (by omega) (by rfl) (by rw [hh]; rfl) hk ?_
    intro w' D' O' K' g'
    have OF := Lib.hid O'
    have KF := Lib.hid K'
    have GF := Lib.hid g'
    clear O' K' g' OA
    go_wp2
    rw [rounds_succ]
    go_wp2
    go_end0
    exact ⟨rfl, ⟨(GF.out.cell_far ⟨b, 0, none⟩ (World.block_lt_of_cell? W2 _ z2) (by simpa using hb)).trans z2, nn + 1, D', by omega, OF.out, KF.out⟩, (grown_of_belowW ZA.out (some bm)).trans GF.out⟩
  · have hh : x.has = false := by simpa using hh
    rw [hh] at r2
    have ea : appW L x = wout L x.key := by simp [appW, hh]
    rw [ea]
    clear ea
    go_enter Tryd.func27, Tryd.ntmps27
    go_wp2_with (go_at_call 30; refine (madeS b bm _ c0).mono ?_; rintro e W1 ⟨rfl, b1⟩
                 have c1 := (b1.cell (p := ⟨b, 0, none⟩) hl).trans c0
                 have s0 := (b1.cell (p := ⟨rb, ro, none⟩) hrb).trans r0
                 have s1 := (b1.cell (p := ⟨rb, ro + 1, none⟩) hrb).trans r1
                 have s2 := (b1.cell (p := ⟨rb, ro + 2, none⟩) hrb).trans r2
                 have B1 := Lib.hid b1
                 have hs1 := b1.size
                 have hl1 : b < W1.heap.size := Nat.lt_of_lt_of_le hl hs1
                 clear b1)
    go_rounds 2
    have zA : Below W.heap.size W (W1.alloc (.cells #[.string x.key, .string x.val, .bool false] 75)).drew := ((B1.out).alloc B1.out.size _).drew
    have y0 : (W1.alloc (.cells #[.string x.key, .string x.val, .bool false] 75)).drew.cell? ⟨W1.heap.size, 0, none⟩ = some (.string x.key) := cell_of_row _ _ 0 #[.string x.key, .string x.val, .bool false] 75 (0, 0) (heap_alloc_new W1 _)
    have y1 : (W1.alloc (.cells #[.string x.key, .string x.val, .bool false] 75)).drew.cell? ⟨W1.heap.size, 1, none⟩ = some (.string x.val) := cell_of_row _ _ 1 #[.string x.key, .string x.val, .bool false] 75 (0, 0) (heap_alloc_new W1 _)
    have y2 : (W1.alloc (.cells #[.string x.key, .string x.val, .bool false] 75)).drew.cell? ⟨W1.heap.size, 2, none⟩ = some (.bool false) := cell_of_row _ _ 2 #[.string x.key, .string x.val, .bool false] 75 (0, 0) (heap_alloc_new W1 _)
    have z2 : (W1.alloc (.cells #[.string x.key, .string x.val, .bool false] 75)).drew.cell? ⟨b, 0, none⟩ = some (.map (some bm)) := (World.cell?_alloc_lt _ _ _ hl1).trans c1
    refine region_tail_drew 6 (by kernel_rfl) (by kernel_rfl) ?_
    simp only [List.take_succ_cons, List.take_zero, List.drop_succ_cons, List.drop_zero]
    generalize (W1.alloc (.cells #[.string x.key, .string x.val, .bool false] 75)).drew = W2 at *
    have ZA := Lib.hid zA
    clear zA
    repeat still_step
    refine wpStill_nil ?_
    have OA := OO.out.kept (grown_of_belowW ZA.out none) (by simp)
    refine tailDel (by rfl) (.tmp 27) (.tmp 29) (by rfl) bm nn D L x.key (by rfl) OA KK.out (by rfl) hk ?_
    intro w' D' O' K' g'
    have OF := Lib.hid O'
    have KF := Lib.hid K'
    have GF := Lib.hid g'
    clear O' K' g' OA
    go_wp2
    rw [rounds_succ]
    go_wp2
    go_end0
    exact ⟨rfl, ⟨(GF.out.cell_far ⟨b, 0, none⟩ (World.block_lt_of_cell? W2 _ z2) (by simpa using hb)).trans z2, nn, D', by omega, OF.out, KF.out⟩, (grown_of_belowW ZA.out (some bm)).trans GF.out⟩

end Go.Proofs.YthmdnbgfnaokkaaDoor
