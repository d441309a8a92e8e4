/-
  The store's map: what it holds is a list of writes, each at its own key; the program's New, made, Len, Get, Apply of one write, by contracts. Condition: keys are no longer than a slice may be.
-/
import Derived.Test.YthmdnbgfnaokkaaDoorQrow
import Derived.Maps.OwnSet
import Derived.Maps.Views
import Derived.Maps.AppendAt
import Derived.StillTailTactics
import Derived.StringKeys
namespace Go.Proofs.YthmdnbgfnaokkaaDoor
set_option linter.unusedSimpArgs false
set_option linter.unusedVariables false
open Go.RowKit Go.Maps

/-- how a write reads, as an element of a map. -/
def W3.dat (x : W3) : DataW Unit := .agg [.lit (.string x.key.data.toList), .lit (.string x.val.data.toList), .lit (.bool x.has)]
def wrElem : Value → Option (DataW Unit × List MemPlace)
  | .agg ⟨[.string k, .string v, .bool h]⟩ => some (W3.dat ⟨k, v, h⟩, [])
  | _ => none
theorem wrElem_mk (x : W3) : wrElem (.agg #[.string x.key, .string x.val, .bool x.has]) = some (x.dat, []) := rfl
theorem dat_inj {x y : W3} (h : x.dat = y.dat) : x = y := by
  obtain ⟨k, v, h1⟩ := x
  obtain ⟨k', v', h2⟩ := y
  simp [W3.dat] at h
  obtain ⟨a, b, c⟩ := h
  have e1 : k = k' := ByteArray.ext a
  have e2 : v = v' := ByteArray.ext b
  rw [e1, e2, c]
theorem wrElem_inv {v : Value} {z : DataW Unit × List MemPlace} (h : wrElem v = some z) : ∃ x : W3, v = .agg #[.string x.key, .string x.val, .bool x.has] ∧ z = (x.dat, []) := by
  unfold wrElem at h
  split at h
  · rename_i k v' h'
    exact ⟨⟨k, v', h'⟩, rfl, by injection h with h; exact h.symm⟩
  · cases h
def keyLit (k : ByteArray) : Lit := .string k.data.toList
theorem keyLit_inj {a b : ByteArray} (h : keyLit a = keyLit b) : a = b := by
  unfold keyLit at h
  injection h with h
  exact ByteArray.ext (Array.ext' h)
theorem strKeyed : Keyed Tryd.prog 9 := string_keyed Tryd.underlying9
theorem strKey (k : ByteArray) (hk : k.size ≤ maxLen) : keyOf Tryd.prog 9 (.string k) = some (keyLit k) := WideMaps.keyOf_string_mk Tryd.underlying9 hk
theorem mapU : Tryd.prog.underlying 84 = some (.map 9 75) := Tryd.underlying84
theorem wrZero (W : World) : (zeroValue 75).run Tryd.prog W = .ok (.agg #[.string ByteArray.empty, .string ByteArray.empty, .bool false]) W := by kernel_rfl

/-- the map holds just these writes, each at its own key. -/
structure KeysW (D : DataW Unit) (L : List W3) : Prop where
  apart : L.Pairwise fun x y => x.key ≠ y.key
  fit : ∀ x ∈ L, x.key.size ≤ maxLen
  all : ∀ kl, has D kl = true → ∃ x ∈ L, kl = (keyLit x.key)
  has_ : ∀ x ∈ L, has D (keyLit x.key) = true
  at_ : ∀ x ∈ L, ∀ z, D.atKey (keyLit x.key) z = x.dat
  size : Maps.size D = L.length
theorem KeysW.perm {D : DataW Unit} {L L' : List W3} (h : KeysW D L) (hp : L'.Perm L) : KeysW D L' :=
  ⟨hp.symm.pairwise h.apart (fun {_ _} hne e => hne e.symm), fun x hx => h.fit x (hp.mem_iff.1 hx), fun kl hk => by
    obtain ⟨x, hx, e⟩ := h.all kl hk
    exact ⟨x, hp.mem_iff.2 hx, e⟩, fun x hx => h.has_ x (hp.mem_iff.1 hx), fun x hx => h.at_ x (hp.mem_iff.1 hx), by rw [h.size, hp.length_eq]⟩
theorem KeysW.nil : KeysW (.map []) [] := ⟨List.Pairwise.nil, (fun _ h => by cases h), (fun kl h => by cases h), (fun _ h => by cases h), (fun _ h => by cases h), rfl⟩
/-- all but the one at a key. -/
def wout (L : List W3) (k : ByteArray) : List W3 := L.filter fun y => decide (y.key ≠ k)
theorem mem_wout {L : List W3} {k : ByteArray} {y : W3} : y ∈ wout L k ↔ y ∈ L ∧ y.key ≠ k := by simp [wout]
theorem KeysW.same {D : DataW Unit} {L : List W3} (h : KeysW D L) {x y : W3} (hx : x ∈ L) (hy : y ∈ L) (e : x.key = y.key) : x = y :=
  dat_inj ((h.at_ x hx (.lit (.bool false))).symm.trans (by rw [show (keyLit x.key) = (keyLit y.key) by rw [e]]; exact h.at_ y hy _))
theorem wout_len {L : List W3} (h : L.Pairwise fun x y => x.key ≠ y.key) {x : W3} (hx : x ∈ L) : (wout L x.key).length + 1 = L.length := by
  induction L with
  | nil => cases hx
  | cons a L ih =>
    obtain ⟨h1, h2⟩ := List.pairwise_cons.1 h
    rcases List.mem_cons.1 hx with rfl | hx
    · have e : wout (x :: L) x.key = L := by
        unfold wout
        rw [List.filter_cons]
        simp
        intro y hy e
        exact h1 y hy e.symm
      rw [e]
      simp
    · have hne := h1 x hx
      have e : wout (a :: L) x.key = a :: wout L x.key := by
        unfold wout
        rw [List.filter_cons]
        simp [hne]
      rw [e, List.length_cons, List.length_cons, ih h2 hx]
theorem wout_none {L : List W3} {k : ByteArray} (h : ∀ y ∈ L, y.key ≠ k) : wout L k = L := by
  unfold wout
  exact List.filter_eq_self.2 fun y hy => by simpa using h y hy
theorem KeysW.hasnt {D : DataW Unit} {L : List W3} (h : KeysW D L) {k : ByteArray} (hn : ∀ y ∈ L, y.key ≠ k) : has D (keyLit k) = false := by
  cases hh : has D (keyLit k) with
  | false => rfl
  | true =>
    obtain ⟨y, hy, e⟩ := h.all _ hh
    exact absurd (keyLit_inj e).symm (hn y hy)
theorem KeysW.del {D : DataW Unit} {L : List W3} (h : KeysW D L) (hT : Tidy D) (k : ByteArray) : KeysW (D.del (keyLit k)) (wout L k) := by
  refine ⟨h.apart.filter _, fun x hx => h.fit x (mem_wout.1 hx).1, fun kl hk => ?_, fun y hy => ?_, fun y hy z => ?_, ?_⟩
  · by_cases e : kl = keyLit k
    · rw [e, has_del_same] at hk
      cases hk
    · rw [has_del_other e] at hk
      obtain ⟨y, hy, ey⟩ := h.all kl hk
      exact ⟨y, mem_wout.2 ⟨hy, fun e' => e (by rw [ey]; rw [e'])⟩, ey⟩
  · obtain ⟨hy, hne⟩ := mem_wout.1 hy
    rw [has_del_other fun e => hne (keyLit_inj e)]
    exact h.has_ y hy
  · obtain ⟨hy, hne⟩ := mem_wout.1 hy
    rw [atKey_del_other fun e => hne (keyLit_inj e)]
    exact h.at_ y hy z
  · have hs := size_del (k := keyLit k) hT
    by_cases hx : ∃ x ∈ L, x.key = k
    · obtain ⟨x, hx, rfl⟩ := hx
      have e : has D (keyLit x.key) = true := h.has_ x hx
      rw [e, h.size] at hs
      have := wout_len h.apart hx
      simp at hs
      omega
    · have hn : ∀ y ∈ L, y.key ≠ k := fun y hy e => hx ⟨y, hy, e⟩
      rw [h.hasnt hn, h.size] at hs
      rw [wout_none hn]
      simpa using hs
theorem KeysW.put {D : DataW Unit} {L : List W3} (h : KeysW D L) (hT : Tidy D) (hI : IsMap D) (x : W3) (hk : x.key.size ≤ maxLen) : KeysW (D.put (keyLit x.key) x.dat) (x :: wout L x.key) := by
  have hkey := strKeyed.key (strKey x.key hk)
  refine ⟨List.pairwise_cons.2 ⟨fun y hy e => (mem_wout.1 hy).2 e.symm, h.apart.filter _⟩, fun y hy => ?_, fun kl hkl => ?_, fun y hy => ?_, fun y hy z => ?_, ?_⟩
  · rcases List.mem_cons.1 hy with rfl | hm
    · exact hk
    · exact h.fit y (mem_wout.1 hm).1
  · by_cases e : kl = (keyLit x.key)
    · exact ⟨x, List.mem_cons_self .., e⟩
    · rw [has_put_other e] at hkl
      obtain ⟨y, hy, ey⟩ := h.all kl hkl
      exact ⟨y, List.mem_cons_of_mem _ (mem_wout.2 ⟨hy, fun e' => e (by rw [ey]; rw [e'])⟩), ey⟩
  · rcases List.mem_cons.1 hy with rfl | hm
    · exact has_put_same hI hkey _
    · obtain ⟨hm, hne⟩ := mem_wout.1 hm
      rw [has_put_other fun e => hne (keyLit_inj e)]
      exact h.has_ y hm
  · rcases List.mem_cons.1 hy with rfl | hm
    · exact atKey_put_same hI hkey _ _
    · obtain ⟨hm, hne⟩ := mem_wout.1 hm
      rw [atKey_put_other fun e => hne (keyLit_inj e)]
      exact h.at_ y hm z
  · rw [size_put hT, h.size, List.length_cons]
    by_cases hx : ∃ y ∈ L, y.key = x.key
    · obtain ⟨y, hy, e⟩ := hx
      have e1 : has D (keyLit x.key) = true := by
        have := h.has_ y hy
        rwa [show (keyLit y.key) = (keyLit x.key) by rw [e]] at this
      have := wout_len h.apart hy
      rw [e] at this
      rw [if_pos e1]
      omega
    · have hn : ∀ y ∈ L, y.key ≠ x.key := fun y hy e => hx ⟨y, hy, e⟩
      have e1 : has D (keyLit x.key) = false := h.hasnt hn
      rw [wout_none hn, e1]
      rfl

/-- a store: its map holds just these writes. -/
def PSt (b bm k : Nat) (L : List W3) (W : World) : Prop :=
  W.cell? ⟨b, 0, none⟩ = some (.map (some bm)) ∧ ∃ (nn : Nat) (D : DataW Unit), nn ≤ k ∧ W.ownsMap Tryd.prog 9 wrElem bm nn D ∧ KeysW D L
theorem PSt.grown {b bm k : Nat} {L : List W3} {W W' : World} {row : Option Nat} (h : PSt b bm k L W) (hg : W.grownBy W' row) (h1 : some b ≠ row) (h2 : some bm ≠ row) : PSt b bm k L W' := by
  obtain ⟨c0, nn, D, hk, O, K⟩ := h
  exact ⟨(hg.cell_far ⟨b, 0, none⟩ (World.block_lt_of_cell? W _ c0) h1).trans c0, nn, D, hk, O.kept hg h2, K⟩
theorem grown_of_belowW {W W' : World} (hb : Below W.heap.size W W') (row : Option Nat) : W.grownBy W' row := ⟨hb.os, hb.tape, hb.output, hb.size, fun k hk _ => hb.block k hk⟩
theorem PSt.below {b bm k : Nat} {L : List W3} {W W' : World} (h : PSt b bm k L W) (hb : Below W.heap.size W W') : PSt b bm k L W' := h.grown (grown_of_belowW hb none) (by simp) (by simp)
theorem PSt.mono {b bm k k' : Nat} {L : List W3} {W : World} (h : PSt b bm k L W) (hk : k ≤ k') : PSt b bm k' L W := by
  obtain ⟨c0, nn, D, hk', O, K⟩ := h
  exact ⟨c0, nn, D, by omega, O, K⟩
theorem PSt.perm {b bm k : Nat} {L L' : List W3} {W : World} (h : PSt b bm k L W) (hp : L'.Perm L) : PSt b bm k L' W := by
  obtain ⟨c0, nn, D, hk', O, K⟩ := h
  exact ⟨c0, nn, D, hk', O, K.perm hp⟩

theorem newS (W : World) : Calls Tryd.prog 25 #[] W fun e W' => e = .returned (.pointer (some ⟨W.heap.size + 1, 0, none⟩)) ∧ (W.alloc (.map #[] 0)).alloc (.cells #[.map (some W.heap.size)] 87) = W' := by
  have hmm := @run_makeMap Tryd.prog
  go_enter Tryd.func25, Tryd.ntmps25
  go_wp2
  go_ret
  exact ⟨by simp, rfl⟩
theorem newS_st (W : World) : PSt (W.heap.size + 1) W.heap.size 0 [] ((W.alloc (.map #[] 0)).alloc (.cells #[.map (some W.heap.size)] 87)) :=
  ⟨(cell_of_row _ _ 0 #[.map (some W.heap.size)] 87 (0, 0) (by have := heap_alloc_new (W.alloc (.map #[] 0)) (.cells #[.map (some W.heap.size)] 87); simpa using this)), 0, .map [], Nat.le_refl _, (World.ownsMap_made W _ _ _).kept (World.grownBy_alloc _ _ none) (by simp), KeysW.nil⟩

set_option maxHeartbeats 1000000 in
theorem madeS (b bm : Nat) (W : World) (h : W.cell? ⟨b, 0, none⟩ = some (.map (some bm))) :
    Calls Tryd.prog 30 #[.pointer (some ⟨b, 0, none⟩)] W fun e W' => e = .returned (.bool true) ∧ Below W.heap.size W W' := by
  have hmn : ∀ (w : World) (r : Option Nat), (binOp .neq 84 (.map r) (.map none)).run Tryd.prog w = .ok (.bool !r.isNone) w := fun w r => run_neq_map_nil w _ _ _ r Tryd.underlying84
  go_enter Tryd.func30, Tryd.ntmps30
  go_wp2
  go_ret
  exact ⟨rfl, Below.refl _ _⟩

set_option maxHeartbeats 1000000 in
theorem lenS (b bm k : Nat) (L : List W3) (W : World) (h : PSt b bm k L W) :
    Calls Tryd.prog 26 #[.pointer (some ⟨b, 0, none⟩)] W fun e W' => e = .returned (.int .i64 L.length) ∧ Below W.heap.size W W' := by
  have h0 := h
  obtain ⟨c0, nn, D, hk, O, K⟩ := h
  have hlen := fun (w : World) (hw : Below W.heap.size W w) ty => (O.kept (grown_of_belowW hw none) (by simp)).len Tryd.underlying84 ty
  have HL := Lib.hid hlen
  have HS := Lib.hid K.size
  clear O K hlen
  go_enter Tryd.func26, Tryd.ntmps26
  go_wp2_with (go_at_call 30; refine (madeS b bm _ c0).mono ?_; rintro e W1 ⟨rfl, b1⟩; have c1 := (b1.cell (p := ⟨b, 0, none⟩) (World.block_lt_of_cell? W _ c0)).trans c0; have hl1 := HL.out _ b1; rw [HS.out] at hl1; have B1 := Lib.hid b1; clear b1)
  go_ret
  exact ⟨rfl, B1.out⟩

theorem pw_same {x y : W3} : ∀ {L : List W3}, (L.Pairwise fun x y => x.key ≠ y.key) → x ∈ L → y ∈ L → x.key = y.key → x = y
  | [], _, hx, _, _ => by cases hx
  | a :: L, h, hx, hy, e => by
    obtain ⟨h1, h2⟩ := List.pairwise_cons.1 h
    rcases List.mem_cons.1 hx with rfl | hx
    · rcases List.mem_cons.1 hy with rfl | hy
      · rfl
      · exact absurd e (h1 y hy)
    · rcases List.mem_cons.1 hy with e2 | hy
      · exact absurd (e2 ▸ e).symm (h1 x hx)
      · exact pw_same h2 hx hy e
theorem emp0 : (ByteArray.mk #[]) = ByteArray.empty := rfl
theorem box3 {W1 : World} {n : Nat} {k v h u0 u1 u2 : Value} (o : Obj) (d0 : W1.cell? ⟨n, 0, none⟩ = some u0) (d1 : W1.cell? ⟨n, 1, none⟩ = some u1) (d2 : W1.cell? ⟨n, 2, none⟩ = some u2) :
    ((((W1.setCell ⟨n, 0, none⟩ k).setCell ⟨n, 1, none⟩ v).setCell ⟨n, 2, none⟩ h).alloc o).cell? ⟨n, 0, none⟩ = some k ∧ ((((W1.setCell ⟨n, 0, none⟩ k).setCell ⟨n, 1, none⟩ v).setCell ⟨n, 2, none⟩ h).alloc o).cell? ⟨n, 1, none⟩ = some v ∧
    ((((W1.setCell ⟨n, 0, none⟩ k).setCell ⟨n, 1, none⟩ v).setCell ⟨n, 2, none⟩ h).alloc o).cell? ⟨n, 2, none⟩ = some h := by
  have hl : n < W1.heap.size := World.block_lt_of_cell? W1 _ d0
  refine ⟨?_, ?_, ?_⟩
  all_goals
    rw [World.cell?_alloc_lt _ _ _ (by simp [World.setCell]; exact hl)]
    go_simp
/-- what is at a key. -/
def getW (L : List W3) (key : ByteArray) : W3 := (L.find? fun y => decide (y.key = key)).getD ⟨key, ByteArray.empty, false⟩
theorem getW_at {L : List W3} (h : L.Pairwise fun x y => x.key ≠ y.key) {x : W3} (hx : x ∈ L) : getW L x.key = x := by
  unfold getW
  cases hf : L.find? (fun y => decide (y.key = x.key)) with
  | none =>
    have := List.find?_eq_none.1 hf x hx
    simp at this
  | some y =>
    have h1 := List.find?_some hf
    have h2 := List.mem_of_find?_eq_some hf
    simp at h1
    exact pw_same h h2 hx h1
theorem getW_none {L : List W3} {k : ByteArray} (h : ∀ y ∈ L, y.key ≠ k) : getW L k = ⟨k, ByteArray.empty, false⟩ := by
  unfold getW
  rw [List.find?_eq_none.2 fun y hy => by simpa using h y hy]
  rfl

set_option maxRecDepth 100000 in
set_option maxHeartbeats 2000000 in
theorem getS (b bm k : Nat) (L : List W3) (key : ByteArray) (W : World) (h : PSt b bm k L W) (hk : key.size ≤ maxLen) :
    Calls Tryd.prog 33 #[.pointer (some ⟨b, 0, none⟩), .string key] W fun e W' => e = .returned (.agg #[.string (getW L key).key, .string (getW L key).val, .bool (getW L key).has]) ∧ Below W.heap.size W W' := by
  obtain ⟨c0, nn, D, hk', O, K⟩ := h
  have hl := World.block_lt_of_cell? W _ c0
  by_cases hx : ∃ x ∈ L, x.key = key
  · obtain ⟨x, hx, rfl⟩ := hx
    rw [getW_at K.apart hx]
    have hh := Lib.hid (K.has_ x hx)
    have ha := Lib.hid (K.at_ x hx)
    have OO := Lib.hid O
    clear K O
    have z0 : (W.alloc (.cells #[.string ByteArray.empty, .string ByteArray.empty, .bool false] 75)).cell? ⟨b, 0, none⟩ = some (.map (some bm)) := (World.cell?_alloc_lt _ _ _ hl).trans c0
    have bz : Below W.heap.size W (W.alloc (.cells #[.string ByteArray.empty, .string ByteArray.empty, .bool false] 75)) := (Below.refl _ _).alloc (Nat.le_refl _) _
    have BZ := Lib.hid bz
    clear bz
    go_enter Tryd.func33, Tryd.ntmps33
    go_wp2_with (first
      | (go_at_call 30; refine (madeS b bm _ z0).mono ?_; rintro e W1 ⟨rfl, b1⟩
         have c1 := (b1.cell (p := ⟨b, 0, none⟩) (by simp; omega)).trans z0
         have nb := fun j => (b1.cell (p := ⟨W.heap.size, j, none⟩) (by simp)).trans (cell_of_row _ _ j #[.string ByteArray.empty, .string ByteArray.empty, .bool false] 75 (0, 0) (heap_alloc_new W _))
         have d0 : W1.cell? ⟨W.heap.size, 0, none⟩ = some (.string ByteArray.empty) := nb 0
         have d1 : W1.cell? ⟨W.heap.size, 1, none⟩ = some (.string ByteArray.empty) := nb 1
         have d2 : W1.cell? ⟨W.heap.size, 2, none⟩ = some (.bool false) := nb 2
         have f0 : W1.frozen? ⟨W.heap.size, 0, none⟩ = false := (b1.frozen (p := ⟨W.heap.size, 0, none⟩) (by simp)).trans (World.frozen?_alloc_new _ _ _ _)
         have f1 : W1.frozen? ⟨W.heap.size, 1, none⟩ = false := (b1.frozen (p := ⟨W.heap.size, 1, none⟩) (by simp)).trans (World.frozen?_alloc_new _ _ _ _)
         have f2 : W1.frozen? ⟨W.heap.size, 2, none⟩ = false := (b1.frozen (p := ⟨W.heap.size, 2, none⟩) (by simp)).trans (World.frozen?_alloc_new _ _ _ _)
         have O1 := Lib.hid (OO.out.kept (grown_of_belowW (BZ.out.trans (b1.mono (by simp))) none) (by simp))
         have B1 := Lib.hid b1
         have hs1 : W.heap.size < W1.heap.size := by have := b1.size; simp at this; omega
         clear b1 nb)
      | (at_lookup; refine wpList_lookup_own_ok _ rfl _ _ 84 rfl 9 75 strKeyed mapU _ (wrZero _) _ _ (wrElem_mk ⟨ByteArray.empty, ByteArray.empty, false⟩) bm nn D rfl O1.out _ _ rfl (strKey x.key hk) ?_; intro v ps hv; rw [ha.out] at hv; obtain ⟨y, rfl, hy⟩ := wrElem_inv hv; obtain rfl : x = y := dat_inj (congrArg Prod.fst hy); clear hv hy; rw [hh.out]))
    obtain ⟨q0, q1, q2⟩ := box3 (k := .string x.key) (v := .string x.val) (h := .bool x.has) (.cells #[.string x.key, .string x.val, .bool x.has] 75) d0 d1 d2
    exact bodyPost_ret (v := .agg #[.string x.key, .string x.val, .bool x.has]) (by simp [results, Tryd.results33, go_sem, q0, q1, q2, emp0]) rfl ⟨rfl, (by repeat (first | exact BZ.out.trans (B1.out.mono (by simp)) | (refine Below.setCell ?_ (by first | omega | (simp; done) | (simp; omega)) _) | (refine Below.alloc ?_ (by first | omega | (simp; done) | (simp; omega)) _)))⟩
  · have hn : ∀ y ∈ L, y.key ≠ key := fun y hy e => hx ⟨y, hy, e⟩
    rw [getW_none hn]
    have hh := Lib.hid (K.hasnt hn)
    have OO := Lib.hid O
    clear K O
    have z0 : (W.alloc (.cells #[.string ByteArray.empty, .string ByteArray.empty, .bool false] 75)).cell? ⟨b, 0, none⟩ = some (.map (some bm)) := (World.cell?_alloc_lt _ _ _ hl).trans c0
    have bz : Below W.heap.size W (W.alloc (.cells #[.string ByteArray.empty, .string ByteArray.empty, .bool false] 75)) := (Below.refl _ _).alloc (Nat.le_refl _) _
    have BZ := Lib.hid bz
    clear bz
    go_enter Tryd.func33, Tryd.ntmps33
    go_wp2_with (first
      | (go_at_call 30; refine (madeS b bm _ z0).mono ?_; rintro e W1 ⟨rfl, b1⟩
         have c1 := (b1.cell (p := ⟨b, 0, none⟩) (by simp; omega)).trans z0
         have nb := fun j => (b1.cell (p := ⟨W.heap.size, j, none⟩) (by simp)).trans (cell_of_row _ _ j #[.string ByteArray.empty, .string ByteArray.empty, .bool false] 75 (0, 0) (heap_alloc_new W _))
         have d0 : W1.cell? ⟨W.heap.size, 0, none⟩ = some (.string ByteArray.empty) := nb 0
         have d1 : W1.cell? ⟨W.heap.size, 1, none⟩ = some (.string ByteArray.empty) := nb 1
         have d2 : W1.cell? ⟨W.heap.size, 2, none⟩ = some (.bool false) := nb 2
         have f0 : W1.frozen? ⟨W.heap.size, 0, none⟩ = false := (b1.frozen (p := ⟨W.heap.size, 0, none⟩) (by simp)).trans (World.frozen?_alloc_new _ _ _ _)
         have f1 : W1.frozen? ⟨W.heap.size, 1, none⟩ = false := (b1.frozen (p := ⟨W.heap.size, 1, none⟩) (by simp)).trans (World.frozen?_alloc_new _ _ _ _)
         have f2 : W1.frozen? ⟨W.heap.size, 2, none⟩ = false := (b1.frozen (p := ⟨W.heap.size, 2, none⟩) (by simp)).trans (World.frozen?_alloc_new _ _ _ _)
         have O1 := Lib.hid (OO.out.kept (grown_of_belowW (BZ.out.trans (b1.mono (by simp))) none) (by simp))
         have B1 := Lib.hid b1
         have hs1 : W.heap.size < W1.heap.size := by have := b1.size; simp at this; omega
         clear b1 nb)
      | (at_lookup; refine wpList_lookup_own_ok _ rfl _ _ 84 rfl 9 75 strKeyed mapU _ (wrZero _) _ _ (wrElem_mk ⟨ByteArray.empty, ByteArray.empty, false⟩) bm nn D rfl O1.out _ _ rfl (strKey key hk) ?_; intro v ps hv; rw [atKey_of_not_has hh.out] at hv; obtain ⟨y, rfl, hy⟩ := wrElem_inv hv; obtain rfl : (⟨ByteArray.empty, ByteArray.empty, false⟩ : W3) = y := dat_inj (congrArg Prod.fst hy); clear hv hy; rw [hh.out]))
    obtain ⟨q0, q1, q2⟩ := box3 (k := .string key) (v := .string ByteArray.empty) (h := .bool false) (.cells #[.string ByteArray.empty, .string ByteArray.empty, .bool false] 75) d0 d1 d2
    exact bodyPost_ret (v := .agg #[.string key, .string ByteArray.empty, .bool false]) (by simp [results, Tryd.results33, go_sem, q0, q1, q2, emp0]) rfl ⟨rfl, (by repeat (first | exact BZ.out.trans (B1.out.mono (by simp)) | (refine Below.setCell ?_ (by first | omega | (simp; done) | (simp; omega)) _) | (refine Below.alloc ?_ (by first | omega | (simp; done) | (simp; omega)) _)))⟩

end Go.Proofs.YthmdnbgfnaokkaaDoor
