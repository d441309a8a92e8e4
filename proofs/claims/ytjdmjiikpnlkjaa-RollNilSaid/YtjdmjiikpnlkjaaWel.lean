/-
  Entries side by side in memory, each with its two lists; the law's Owns: the same entries, lists of their own. Condition: the lists take at most 2^47 bytes, at most 1000 entries.
-/
import Derived.Test.YtjdmjiikpnlkjaaEown
import Derived.LoopN
import Derived.Laws.OwnMore
import Derived.Maps.AppendAt
import Derived.OwnWalk
namespace Go.Proofs.Ytjdmjiikpnlkjaa
set_option linter.unusedSimpArgs false
set_option linter.unusedVariables false
open Go.RowKit Go.Sort

/-- an entry in memory. -/
structure Le where
  x : E18
  A : Option Addr
  X : List P5
  c : Nat
  B : Option Addr
  Y : List W3
  d : Nat
def Le.v (e : Le) : E18 × List P5 × List W3 := (e.x, e.X, e.Y)
def Le.cs (e : Le) : Array Value := #[.int .u8 e.x.k, .int .u8 e.x.n, .int .u16 e.x.l, .int .u32 e.x.s, .int .u8 e.x.d, .int .u8 e.x.a0, .int .u8 e.x.a1, .int .u8 e.x.b0, .int .u8 e.x.b1, .int .u8 e.x.c0, .int .u8 e.x.c1, .int .u32 e.x.fl, .slice e.A e.X.length e.c, .int .u8 e.x.rc, .string e.x.rv, .slice e.B e.Y.length e.d, .int .u8 e.x.vn, .int .u16 e.x.vl]
def cellsE : List Le → List Value
  | [] => []
  | e :: L => e.cs.toList ++ cellsE L
theorem cellsE_append (L M : List Le) : cellsE (L ++ M) = cellsE L ++ cellsE M := by
  induction L with
  | nil => rfl
  | cons e L ih => show e.cs.toList ++ cellsE (L ++ M) = _; rw [ih, ← List.append_assoc]; rfl
theorem cellsE_length (L : List Le) : (cellsE L).length = L.length * 18 := by
  induction L with
  | nil => rfl
  | cons e L ih =>
    show (e.cs.toList ++ cellsE L).length = _
    rw [List.length_append, ih, List.length_cons]
    have : e.cs.toList.length = 18 := rfl
    omega
theorem cellsE_one (e : Le) : ∀ u ∈ e.cs.toList, u.oneCell' = true := by
  intro u hu
  simp [Le.cs] at hu
  rcases hu with rfl | rfl | rfl | rfl | rfl | rfl | rfl | rfl | rfl | rfl | rfl | rfl | rfl | rfl | rfl | rfl | rfl | rfl
  all_goals rfl
/-- its lists may be read. -/
structure Le.At (e : Le) (W : World) (hi : Nat) : Prop where
  rp : RowsP W hi e.A e.X
  rw_ : RowsW W hi e.B e.Y
  hX : e.X.length * 48 ≤ 140737488355328
  hY : e.Y.length * 40 ≤ 140737488355328
  hc : e.X.length ≤ e.c
  hm : e.c ≤ maxLen
  hd : e.Y.length ≤ e.d
  hn : e.d ≤ maxLen
theorem Le.At.below {e : Le} {W W' : World} {B B' C : Nat} (h : e.At W B) (hb : Below C W W') (hC : B ≤ C) (hB : B ≤ B') : e.At W' B' :=
  ⟨h.rp.below hb hC hB, h.rw_.below hb hC hB, h.hX, h.hY, h.hc, h.hm, h.hd, h.hn⟩
/-- its lists are its own. -/
structure Le.Own (e : Le) (W : World) (base : Nat) : Prop where
  op : W.ownsRow base 114 5 (.slice e.A e.X.length e.c) e.X.length (cellsP e.X)
  ow : W.ownsRow base 117 3 (.slice e.B e.Y.length e.d) e.Y.length (cellsW e.Y)
  hX : e.X.length * 48 ≤ 140737488355328
  hY : e.Y.length * 40 ≤ 140737488355328
theorem Le.Own.at_ {e : Le} {W : World} {base : Nat} (h : e.Own W base) : e.At W W.heap.size := by
  obtain ⟨A, c, h1, h2, h3, h4⟩ := rowsP_of_own h.op
  obtain ⟨B, d, h5, h6, h7, h8⟩ := rowsW_of_own h.ow
  cases h1
  cases h5
  exact ⟨h2, h6, h.hX, h.hY, h3, h4, h7, h8⟩
theorem row_keepT {W W' : World} {base : Nat} {e : TypeId} {s : Nat} {v : Value} {n : Nat} {xs : List Value} (h : W.ownsRow base e s v n xs) (hk : ∀ (k : Nat) (c : Array Value), W.heap[k]? = some (.cells c e (0, 0)) → W'.heap[k]? = some (.cells c e (0, 0))) : W'.ownsRow base e s v n xs := by
  refine ⟨h.1, ?_⟩
  rcases h.2 with hn | ⟨g, cap, cur, rfl, hb, hgg, rest⟩
  · exact .inl hn
  · exact .inr ⟨g, cap, cur, rfl, hb, hk g cur hgg, rest⟩
theorem row_lowT {W : World} {base base' : Nat} {e : TypeId} {s : Nat} {v : Value} {n : Nat} {xs : List Value} (h : W.ownsRow base e s v n xs) (hb : base' ≤ base) : W.ownsRow base' e s v n xs := by
  refine ⟨h.1, ?_⟩
  rcases h.2 with hn | ⟨g, cap, cur, rfl, h1, rest⟩
  · exact .inl hn
  · exact .inr ⟨g, cap, cur, rfl, Nat.le_trans hb h1, rest⟩
theorem row_blockT {W : World} {base : Nat} {e : TypeId} {s : Nat} {v : Value} {n : Nat} {xs : List Value} (h : W.ownsRow base e s v n xs) {g : Nat} (hg : v.ownBlock = some g) : ∃ cur, W.heap[g]? = some (.cells cur e (0, 0)) := by
  rcases h.2 with ⟨rfl, _⟩ | ⟨g', cap, cur, rfl, _, hgb, _⟩
  · simp [Value.ownBlock] at hg
  · have : g' = g := by simpa [Value.ownBlock] using hg
    subst this
    exact ⟨_, hgb⟩
theorem apartT {W : World} {k j : Nat} {c d : Array Value} {t u : TypeId} {f g : Nat × Nat} (h : W.heap[k]? = some (.cells c t f)) (h' : W.heap[j]? = some (.cells d u g)) (hne : t ≠ u) : k ≠ j := fun e => by
  subst e
  rw [h] at h'
  injection h' with h'
  injection h' with h1 h2 h3
  exact hne h2
theorem Le.Own.keep {e : Le} {W W' : World} {base : Nat} (h : e.Own W base) (hk : ∀ (k : Nat) (c : Array Value) (t : TypeId), W.heap[k]? = some (.cells c t (0, 0)) → t ≠ 63 → W'.heap[k]? = some (.cells c t (0, 0))) : e.Own W' base :=
  ⟨row_keepT h.op fun k c hc => hk k c _ hc (by decide), row_keepT h.ow fun k c hc => hk k c _ hc (by decide), h.hX, h.hY⟩
/-- entries side by side. -/
def RowsE (W : World) (hi : Nat) (A : Option Addr) (L : List Le) : Prop := L ≠ [] → ∃ b o, A = some ⟨b, o, none⟩ ∧ b < hi ∧ ∀ i e, L[i]? = some e → (∀ j u, e.cs[j]? = some u → W.cell? ⟨b, o + i * 18 + j, none⟩ = some u) ∧ e.At W hi
theorem addE (b o j : Nat) : (⟨b, o, none⟩ : Addr).add j = ⟨b, o + j, none⟩ := by
  unfold Addr.add
  by_cases h : j = 0
  · subst h; rfl
  · simp [h]
theorem entI : (Try.prog.info? 63).map (fun i => (i.zero, i.size, i.bytes)) = some (some (.agg #[.int .u8 0, .int .u8 0, .int .u16 0, .int .u32 0, .int .u8 0, .int .u8 0, .int .u8 0, .int .u8 0, .int .u8 0, .int .u8 0, .int .u8 0, .int .u32 0, .slice none 0 0, .int .u8 0, .string ByteArray.empty, .slice none 0 0, .int .u8 0, .int .u16 0]), 18, 104) := by kernel_rfl

set_option maxRecDepth 100000 in
set_option maxHeartbeats 2000000 in
theorem ownsE (A : Option Addr) (L : List Le) (c : Nat) (W : World) (hr : RowsE W W.heap.size A L) (hl : L.length ≤ 1000) (hc : L.length ≤ c) (hm : c ≤ maxLen) :
    Calls Try.prog 26 #[.slice A L.length c] W fun e W' => ∃ v L', e = .returned v ∧ L'.map Le.v = L.map Le.v ∧ W'.ownsRow W.heap.size 63 18 v L.length (cellsE L') ∧ (∀ e ∈ L', e.Own W' W.heap.size) ∧ Below W.heap.size W W' := by
  obtain ⟨i0, hi0, hz0, hz1, hz2⟩ := info_parts entI
  obtain ⟨n, hn⟩ : ∃ n, L.length = n := ⟨_, rfl⟩
  rw [hn] at hl hc ⊢
  have HR := Lib.hid hr
  have HN := Lib.hid hn
  obtain ⟨base, hbase⟩ : ∃ x, W.heap.size = x := ⟨_, rfl⟩
  have HSZ : Hid (base = W.heap.size) := Lib.hid hbase.symm
  rw [hbase] at HR ⊢
  unfold maxLen at hm
  clear hr hn hbase
  go_enter Try.func26, Try.ntmps26
  go_wp2_with fail
  go_loopw [3, 4] (fun v z wx => ∃ (k : Nat) (L' : List Le), z = .int .i64 k ∧ k ≤ n ∧ Hid (L'.map Le.v = (L.take k).map Le.v) ∧ Hid (wx.ownsRow base 63 18 v k (cellsE L')) ∧ Hid (∀ e ∈ L', e.Own wx base) ∧ Hid (Below base W wx)) (fun _ z _ => n - (intOf z).toNat)
  case atStart => exact ⟨0, [], rfl, by omega, Lib.hid rfl, Lib.hid (World.ownsRow_nil _ _ _ _), Lib.hid (fun e he => by cases he), Lib.hid (Below.refl _ _)⟩
  case round =>
    obtain ⟨k, L', rfl, hk, HL, HO, HE, BB⟩ := hrel
    obtain ⟨u, hu⟩ : ∃ z : World, z = wr := ⟨_, rfl⟩
    subst hu
    by_cases hkn : k < n
    · have HKN := Lib.hid hkn
      have hk1 : (k : Int) < (n : Int) := by omega
      have hk0 : (0 : Int) ≤ (k : Int) := by omega
      have hkL : k < L.length := by rw [HN.out]; exact hkn
      obtain ⟨ab, ao, rfl, hab, hce⟩ := HR.out (by rintro rfl; simp at hkL)
      obtain ⟨e, hx⟩ : ∃ e, L[k]? = some e := ⟨_, List.getElem?_eq_getElem hkL⟩
      obtain ⟨hcell, hat⟩ := hce k e hx
      have hub : base ≤ u.heap.size := by rw [HSZ.out]; exact BB.out.size
      have cst : ∀ j v, e.cs[j]? = some v → u.cell? ⟨ab, ao + k * 18 + j, none⟩ = some v := fun j v hj => (BB.out.cell (p := ⟨ab, _, none⟩) hab).trans (hcell j v hj)
      have hat2 := hat.below BB.out (Nat.le_refl _) hub
      have hsnoc : (L.take (k + 1)).map Le.v = (L.take k).map Le.v ++ [e.v] := by
        rw [List.take_add_one, hx, List.map_append]
        rfl
      have HSN := Lib.hid hsnoc
      obtain ⟨x, A, X, c1, B, Y, d1⟩ := e
      have KO := own5 x A B X Y c1 d1 u hat2.rp hat2.rw_ hat2.hX hat2.hY hat2.hc hat2.hm hat2.hd hat2.hn
      have HXY : Hid (X.length * 48 ≤ 140737488355328 ∧ Y.length * 40 ≤ 140737488355328) := Lib.hid ⟨hat2.hX, hat2.hY⟩
      obtain ⟨nx, hnx⟩ : ∃ z, X.length = z := ⟨_, rfl⟩
      obtain ⟨ny, hny⟩ : ∃ z, Y.length = z := ⟨_, rfl⟩
      have hcs : (Le.mk x A X c1 B Y d1).cs = #[.int .u8 x.k, .int .u8 x.n, .int .u16 x.l, .int .u32 x.s, .int .u8 x.d, .int .u8 x.a0, .int .u8 x.a1, .int .u8 x.b0, .int .u8 x.b1, .int .u8 x.c0, .int .u8 x.c1, .int .u32 x.fl, .slice A nx c1, .int .u8 x.rc, .string x.rv, .slice B ny d1, .int .u8 x.vn, .int .u16 x.vl] := by unfold Le.cs; simp only [hnx, hny]
      rw [hcs] at cst
      rw [hnx, hny] at KO
      have t0 : u.cell? ⟨ab, ao + k * 18, none⟩ = some (.int .u8 x.k) := cst 0 _ rfl
      have t1 : u.cell? ⟨ab, ao + k * 18 + 1, none⟩ = some (.int .u8 x.n) := cst 1 _ rfl
      have t2 : u.cell? ⟨ab, ao + k * 18 + 2, none⟩ = some (.int .u16 x.l) := cst 2 _ rfl
      have t3 : u.cell? ⟨ab, ao + k * 18 + 3, none⟩ = some (.int .u32 x.s) := cst 3 _ rfl
      have t4 : u.cell? ⟨ab, ao + k * 18 + 4, none⟩ = some (.int .u8 x.d) := cst 4 _ rfl
      have t5 : u.cell? ⟨ab, ao + k * 18 + 5, none⟩ = some (.int .u8 x.a0) := cst 5 _ rfl
      have t6 : u.cell? ⟨ab, ao + k * 18 + 6, none⟩ = some (.int .u8 x.a1) := cst 6 _ rfl
      have t7 : u.cell? ⟨ab, ao + k * 18 + 7, none⟩ = some (.int .u8 x.b0) := cst 7 _ rfl
      have t8 : u.cell? ⟨ab, ao + k * 18 + 8, none⟩ = some (.int .u8 x.b1) := cst 8 _ rfl
      have t9 : u.cell? ⟨ab, ao + k * 18 + 9, none⟩ = some (.int .u8 x.c0) := cst 9 _ rfl
      have t10 : u.cell? ⟨ab, ao + k * 18 + 10, none⟩ = some (.int .u8 x.c1) := cst 10 _ rfl
      have t11 : u.cell? ⟨ab, ao + k * 18 + 11, none⟩ = some (.int .u32 x.fl) := cst 11 _ rfl
      have t12 : u.cell? ⟨ab, ao + k * 18 + 12, none⟩ = some (.slice A nx c1) := cst 12 _ rfl
      have t13 : u.cell? ⟨ab, ao + k * 18 + 13, none⟩ = some (.int .u8 x.rc) := cst 13 _ rfl
      have t14 : u.cell? ⟨ab, ao + k * 18 + 14, none⟩ = some (.string x.rv) := cst 14 _ rfl
      have t15 : u.cell? ⟨ab, ao + k * 18 + 15, none⟩ = some (.slice B ny d1) := cst 15 _ rfl
      have t16 : u.cell? ⟨ab, ao + k * 18 + 16, none⟩ = some (.int .u8 x.vn) := cst 16 _ rfl
      have t17 : u.cell? ⟨ab, ao + k * 18 + 17, none⟩ = some (.int .u16 x.vl) := cst 17 _ rfl
      have KO' := Lib.hid KO
      have HNX := Lib.hid hnx
      have HNY := Lib.hid hny
      have HUB := Lib.hid hub
      clear hx hcell hat hce cst hat2 hsnoc KO hcs hnx hny hub hkn hab hkL
      go_wp2_with fail
      refine KO'.out.mono ?_
      rintro e w2 ⟨A2, c2, B2, d2, m2, rfl, op, ow, -, hm2, b2⟩
      rw [← HNX.out] at op
      rw [← HNY.out] at ow
      have BW2 := Lib.hid (BB.out.trans (b2.mono HUB.out))
      have EO : Hid ((Le.mk x A2 X c2 B2 Y d2).Own w2 base) := Lib.hid ⟨row_lowT op HUB.out, row_lowT ow (Nat.le_trans HUB.out hm2), HXY.out.1, HXY.out.2⟩
      obtain ⟨w3, hw3⟩ : ∃ X, w2.alloc (.cells #[.int .u8 x.k, .int .u8 x.n, .int .u16 x.l, .int .u32 x.s, .int .u8 x.d, .int .u8 x.a0, .int .u8 x.a1, .int .u8 x.b0, .int .u8 x.b1, .int .u8 x.c0, .int .u8 x.c1, .int .u32 x.fl, .slice A2 nx c2, .int .u8 x.rc, .string x.rv, .slice B2 ny d2, .int .u8 x.vn, .int .u16 x.vl] 63) = X := ⟨_, rfl⟩
      have r3 : w3.heap[w2.heap.size]? = some (.cells #[.int .u8 x.k, .int .u8 x.n, .int .u16 x.l, .int .u32 x.s, .int .u8 x.d, .int .u8 x.a0, .int .u8 x.a1, .int .u8 x.b0, .int .u8 x.b1, .int .u8 x.c0, .int .u8 x.c1, .int .u32 x.fl, .slice A2 nx c2, .int .u8 x.rc, .string x.rv, .slice B2 ny d2, .int .u8 x.vn, .int .u16 x.vl] 63 (0, 0)) := by rw [← hw3]; exact heap_alloc_new _ _
      have b3 : Below w2.heap.size w2 w3 := by rw [← hw3]; exact (Below.refl _ _).alloc (Nat.le_refl _) _
      have b23 : Below u.heap.size u w3 := b2.trans (b3.mono b2.size)
      have BW3 := Lib.hid (BB.out.trans (b23.mono HUB.out))
      have hb3 : base ≤ w3.heap.size := Nat.le_trans HUB.out b23.size
      have O3 : Hid (w3.ownsRow base 63 18 u3 k (cellsE L')) := Lib.hid (row_keepT HO.out fun k c hc => (b23.block k (Array.getElem?_eq_some_iff.1 hc).1).trans hc)
      have E3 : Hid (∀ e ∈ L', e.Own w3 base) := Lib.hid fun e he => (HE.out e he).keep fun k c t hc _ => (b23.block k (Array.getElem?_eq_some_iff.1 hc).1).trans hc
      have EO3 : Hid ((Le.mk x A2 X c2 B2 Y d2).Own w3 base) := Lib.hid (EO.out.keep fun k c t hc _ => (b3.block k (Array.getElem?_eq_some_iff.1 hc).1).trans hc)
      have HW3 := Lib.hid hw3
      have hcs2 : (Le.mk x A2 X c2 B2 Y d2).cs = #[.int .u8 x.k, .int .u8 x.n, .int .u16 x.l, .int .u32 x.s, .int .u8 x.d, .int .u8 x.a0, .int .u8 x.a1, .int .u8 x.b0, .int .u8 x.b1, .int .u8 x.c0, .int .u8 x.c1, .int .u32 x.fl, .slice A2 nx c2, .int .u8 x.rc, .string x.rv, .slice B2 ny d2, .int .u8 x.vn, .int .u16 x.vl] := by unfold Le.cs; simp only [HNX.out, HNY.out]
      have HCELL : Hid (∀ j v, (cellsE [Le.mk x A2 X c2 B2 Y d2])[j]? = some v → w3.cell? ((⟨w2.heap.size, 0, none⟩ : Addr).add j) = some v) := Lib.hid (fun j v hu => by
        rw [addE, Nat.zero_add, cell_of_row _ _ j _ _ _ r3, ← hcs2]
        simpa [cellsE] using hu)
      have HB3 := Lib.hid hb3
      clear op ow hm2 b2 r3 b3 b23 hw3 hcs2 hb3 KO'
      go_wp2_with (first
        | (rw [HW3.out])
        | (at_builtin
           refine wpList_append_own _ rfl (.tmp 11) (.tmp 17) 37 rfl base 63 i0 _ 18 104 Try.underlying37 hi0 hz0 hz1 hz2 rfl (by decide) _ k _ rfl O3.out ⟨w2.heap.size, 0, none⟩ 1 1 (cellsE [Le.mk x A2 X c2 B2 Y d2]) rfl (by rw [cellsE_length]; rfl) HCELL.out (by intro u hu; exact cellsE_one (Le.mk x A2 X c2 B2 Y d2) u (by simpa [cellsE] using hu)) (by unfold maxLen; omega) (by omega) HB3.out ?_
           intro v4 w4 o4 g4 _
           have BW4 := Lib.hid (BW3.out.trans ((Below.refl _ _).grown g4 HB3.out fun k hk => (O3.out.lt k hk).1))
           have O4 : Hid (w4.ownsRow base 63 18 v4 (k + 1) (cellsE (L' ++ [Le.mk x A2 X c2 B2 Y d2]))) := Lib.hid (by rw [cellsE_append]; exact o4)
           have far : ∀ (k : Nat) (c : Array Value) (t : TypeId), w3.heap[k]? = some (.cells c t (0, 0)) → t ≠ 63 → w4.heap[k]? = some (.cells c t (0, 0)) := fun k c t hc ht => (g4.block k (Array.getElem?_eq_some_iff.1 hc).1 fun e => by
             obtain ⟨cur, hcu⟩ := row_blockT O3.out e.symm
             exact apartT hc hcu ht rfl).trans hc
           have E4 : Hid (∀ e ∈ L' ++ [Le.mk x A2 X c2 B2 Y d2], e.Own w4 base) := Lib.hid (fun e he => by
             rcases List.mem_append.1 he with he | he
             · exact (E3.out e he).keep far
             · obtain rfl : e = Le.mk x A2 X c2 B2 Y d2 := by simpa using he
               exact EO3.out.keep far)
           clear o4 g4 far))
      go_roundw
      case rel => exact ⟨k + 1, L' ++ [Le.mk x A2 X c2 B2 Y d2], by go_num, by have := HKN.out; omega, Lib.hid (by rw [HSN.out, List.map_append, HL.out]; rfl), O4, E4, BW4⟩
      case measure => have := HKN.out; simp [intOf]; omega
    · obtain rfl : n = k := by omega
      have hk1 : ¬ (n : Int) < (n : Int) := by omega
      go_wp2_with fail
      go_ret
      exact ⟨_, rfl, L', by rw [HL.out, List.take_of_length_le (Nat.le_of_eq HN.out)], HO.out, HE.out, BB.out⟩

end Go.Proofs.Ytjdmjiikpnlkjaa
