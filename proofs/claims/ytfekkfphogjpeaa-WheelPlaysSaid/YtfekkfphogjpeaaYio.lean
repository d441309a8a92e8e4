/-
  The wheel's inOrder: the keys of two rows in the order of their timers: by an exact answer. Condition: the rows lie in memory, all timers are different, each number of a key fits its kind.
-/
import Derived.Test.YtfekkfphogjpeaaYso
namespace Go.Proofs.Ytfekkfphogjpeaa
set_option linter.unusedSimpArgs false
set_option linter.unusedVariables false
open Go.RowKit Go.Maps Go.Sort

theorem intI : (Try.prog.info? 3).map (fun i => (i.zero, i.size, i.bytes)) = some (some (.int .i64 0), 1, 8) := by kernel_rfl
theorem keyI : (Try.prog.info? 50).map (fun i => (i.zero, i.size, i.bytes)) = some (some (.agg #[.int .u8 0, .int .u8 0, .int .u16 0, .int .u8 0, .int .u16 0, .int .u32 0, .int .u8 0, .int .u8 0, .int .u8 0, .int .u8 0, .int .u8 0, .int .u8 0, .int .u8 0]), 13, 24) := by kernel_rfl
/-- places, of which the first k are laid. -/
def plc (n k : Nat) : List Value := (List.range n).map fun j => if j < k then .int .i64 (j : Int) else .int .i64 0
theorem plc_len (n k : Nat) : (plc n k).length = n := by simp [plc]
theorem plc_0 (n : Nat) : plc n 0 = List.replicate n (.int .i64 0) := by
  apply List.ext_getElem <;> simp [plc]
theorem plc_set (n k : Nat) (hk : k < n) : (plc n k).set k (.int .i64 (k : Int)) = plc n (k + 1) := by
  apply List.ext_getElem
  · simp [plc]
  · intro j h1 h2
    simp [plc, List.getElem_set]
    split
    · rename_i e
      subst e
      simp
    · rename_i e
      by_cases h : j < k
      · rw [if_pos h, if_pos (by omega)]
      · rw [if_neg h, if_neg (by omega)]
theorem plc_at {n k j : Nat} (hj : j < n) : (plc n k)[j]? = some (if j < k then .int .i64 (j : Int) else .int .i64 0) := by
  simp [plc, hj]
theorem own_lower {W : World} {base base' : Nat} {e : TypeId} {z : Nat} {v : Value} {n : Nat} {xs : List Value} (h : W.ownsRow base e z v n xs) (hb : base' ≤ base) : W.ownsRow base' e z v n xs := by
  refine ⟨h.1, ?_⟩
  rcases h.2 with h2 | ⟨g, cap, cur, hv, h0, r⟩
  · exact .inl h2
  · exact .inr ⟨g, cap, cur, hv, Nat.le_trans hb h0, r⟩
theorem own_below {W W' : World} {base : Nat} {e : TypeId} {z : Nat} {v : Value} {n : Nat} {xs : List Value} (h : W.ownsRow base e z v n xs) (hb : Below W.heap.size W W') : W'.ownsRow base e z v n xs := by
  refine ⟨h.1, ?_⟩
  rcases h.2 with h2 | ⟨g, cap, cur, hv, h0, hg, r⟩
  · exact .inl h2
  · exact .inr ⟨g, cap, cur, hv, h0, (hb.block g (Array.getElem?_eq_some_iff.1 hg).1).trans hg, r⟩
theorem own_cell {W : World} {base g n c : Nat} {e : TypeId} {z : Nat} {xs : List Value} (h : W.ownsRow base e z (.slice (some ⟨g, 0, none⟩) n c) n xs) (j : Nat) (u : Value) (hj : xs[j]? = some u) : W.cell? ⟨g, j, none⟩ = some u := by
  have h2 := h.cells (g := g) rfl j u hj
  rwa [addr_add, Nat.zero_add] at h2
theorem own_frz {W : World} {base g n c : Nat} {e : TypeId} {z : Nat} {xs : List Value} (h : W.ownsRow base e z (.slice (some ⟨g, 0, none⟩) n c) n xs) (j : Nat) : W.frozen? ⟨g, j, none⟩ = false := by
  rcases h.2 with ⟨h2, _⟩ | ⟨g', cap, cur, hv, h0, hg, r⟩
  · cases h2
  · cases hv
    exact frz_row j hg
theorem below_grown {W W' W2 : World} {r : Option Nat} (h : Below W.heap.size W W') (hg : W'.grownBy W2 r) (hr : ∀ g, r = some g → W.heap.size ≤ g) : Below W.heap.size W W2 :=
  ⟨hg.os.trans h.os, hg.tape.trans h.tape, hg.output.trans h.output, Nat.le_trans h.size hg.size, fun k hk => (hg.block k (Nat.lt_of_lt_of_le hk h.size) (fun e => by have := hr k e.symm; omega)).trans (h.block k hk)⟩
theorem cells_newK (w : World) (cs : Array Value) (t : TypeId) (h1 : ∀ u ∈ cs.toList, u.oneCell' = true) : (∀ j u, cs.toList[j]? = some u → (w.alloc (.cells cs t)).cell? ((⟨w.heap.size, 0, none⟩ : Addr).add j) = some u) ∧ ∀ u ∈ cs.toList, u.oneCell' = true :=
  ⟨fun j u hj => by
    rw [addr_add, Nat.zero_add]
    exact cell_of (heap_alloc_new w (.cells cs t)) j u (by simpa using hj), h1⟩
theorem cellsK_snoc (X : List K13) (x : K13) : cellsK (X ++ [x]) = cellsK X ++ x.cs.toList := by simp [cellsK]

set_option maxRecDepth 100000 in
set_option maxHeartbeats 4000000 in
theorem inOrder_yes (W : World) (L : List Tm) (hne : L ≠ []) (hR : ∀ t ∈ L, t.k.Rng) (hN : L.Nodup) (hs : L.length ≤ 100000) (kg tg ck ct : Nat) (lk : kg < W.heap.size) (lt : tg < W.heap.size) (hck : L.length ≤ ck) (hct : L.length ≤ ct)
    (hK : ∀ i t, L[i]? = some t → KAt W kg (i * 13) t.k) (hT : ∀ i t, L[i]? = some t → W.cell? ⟨tg, i, none⟩ = some (.int .i64 t.at_)) :
    Calls Try.prog 31 #[.slice (some ⟨kg, 0, none⟩) L.length ck, .slice (some ⟨tg, 0, none⟩) L.length ct] W fun e W' => ∃ (v : Value) (S : List Tm), e = .returned v ∧ S.Perm L ∧ (S.Pairwise fun a b => a.cmp b ≤ 0) ∧ W'.ownsRow W.heap.size 50 13 v L.length (cellsK (S.map (·.k))) ∧ Below W.heap.size W W' := by
  obtain ⟨i0, hi0, hz0, hz1, hz2⟩ := info_parts intI
  obtain ⟨i1, hi1, hy0, hy1, hy2⟩ := info_parts keyI
  obtain ⟨n, hn⟩ : ∃ n, L.length = n := ⟨_, rfl⟩
  obtain ⟨W2, hW2⟩ : ∃ W2, (W.alloc (.cells #[.slice (some ⟨kg, 0, none⟩) n ck] 59)).alloc (.cells #[.slice (some ⟨tg, 0, none⟩) n ct] 69) = W2 := ⟨_, rfl⟩
  have b2 : Below W.heap.size W W2 := by rw [← hW2]; exact ((Below.refl _ _).alloc (Nat.le_refl _) _).alloc (by simp) _
  have s2 : W2.heap.size = W.heap.size + 2 := by rw [← hW2]; simp
  have rk : W2.heap[W.heap.size]? = some (.cells #[.slice (some ⟨kg, 0, none⟩) n ck] 59 (0, 0)) := by rw [← hW2, Below.heap_alloc _ _ _ (by simp)]; exact heap_alloc_new _ _
  have rt : W2.heap[W.heap.size + 1]? = some (.cells #[.slice (some ⟨tg, 0, none⟩) n ct] 69 (0, 0)) := by
    rw [← hW2]
    have := heap_alloc_new (W.alloc (.cells #[.slice (some ⟨kg, 0, none⟩) n ck] 59)) (.cells #[.slice (some ⟨tg, 0, none⟩) n ct] 69)
    simpa using this
  have ck2 := cell_of rk 0 _ rfl
  have HW2 := Lib.hid hW2
  have B2 := Lib.hid b2
  have S2 := Lib.hid s2
  have RK := Lib.hid rk
  have RT := Lib.hid rt
  have HN := Lib.hid hn
  have hpos : 0 < L.length := List.length_pos_iff.2 hne
  have hn1 : Hid (0 < n) := Lib.hid (by omega)
  have hn2 : Hid (n ≤ 100000) := Lib.hid (by omega)
  have hc1 : (n : Int) ≤ (ck : Int) := by omega
  have HC := Lib.hid (⟨hne, hR, hN, hs, lk, lt, hck, hct, hK, hT⟩ : L ≠ [] ∧ (∀ t ∈ L, t.k.Rng) ∧ L.Nodup ∧ L.length ≤ 100000 ∧ kg < W.heap.size ∧ tg < W.heap.size ∧ L.length ≤ ck ∧ L.length ≤ ct ∧ (∀ i t, L[i]? = some t → KAt W kg (i * 13) t.k) ∧ ∀ i t, L[i]? = some t → W.cell? ⟨tg, i, none⟩ = some (.int .i64 t.at_))
  rw [hn]
  clear hW2 b2 s2 rk rt hn hpos hne hR hN hs lk lt hck hct hK hT
  go_enter Try.func31, Try.ntmps31
  go_wp2_with (first
    | (rw [HW2.out])
    | (refine wpList_make_full _ rfl (.tmp 11) (.tmp 11) 69 rfl W2.heap.size 3 i0 (.int .i64 0) 1 Try.underlying69 hi0 hz0 hz1 .i64 .i64 _ _ n rfl rfl rfl rfl (by rw [hz2]; have := hn2.out; omega) (by have := hn2.out; unfold maxLen; omega) (Nat.le_refl _) ?_
       intro W3 hO3 hg3
       have e3 : (madeCells (Value.int .i64 0).cells (n * 1)).toList = plc n 0 := by rw [plc_0, Nat.mul_one]; exact toList_madeCells_one _ _
       rw [e3] at hO3
       have O3 := Lib.hid hO3
       have B3 := Lib.hid (below_grown (Below.refl W2.heap.size W2) hg3 (fun g h => by cases h))
       clear e3 hO3 hg3))
  go_loopw [15] (fun z wx => ∃ k : Nat, z = .int .i64 k ∧ k ≤ n ∧ Hid (wx.ownsRow W2.heap.size 3 1 (.slice (some ⟨W2.heap.size, 0, none⟩) n n) n (plc n k)) ∧ Hid (Below W2.heap.size W2 wx)) (fun z _ => n - (intOf z).toNat)
  case atStart => exact ⟨0, rfl, Nat.zero_le _, O3, B3⟩
  case round =>
    obtain ⟨k, rfl, hk, O, B⟩ := hrel
    by_cases hlt : k < n
    · have hkb : k < 100000 := by have := hn2.out; omega
      have h0 : (k : Int) < (n : Int) := by omega
      have ce : wr.cell? ⟨W2.heap.size, k, none⟩ = some (.int .i64 0) := own_cell O.out k _ (by rw [plc_at hlt, if_neg (by omega)])
      have fe := own_frz O.out k
      have O' := (O.out.stored k (.int .i64 (k : Int))).1
      rw [plc_set n k hlt] at O'
      have OO := Lib.hid O'
      have BB := Lib.hid (B.out.setCell (p := ⟨W2.heap.size, k, none⟩) (Nat.le_refl _) (.int .i64 (k : Int)))
      clear O'
      go_wp2
      go_roundw
      case rel => exact ⟨k + 1, by go_num, by omega, OO, BB⟩
      case measure => simp [intOf]; omega
    · obtain rfl : k = n := by omega
      have SR : Hid (∀ m, m = L.length → Calls Try.prog 38 #[.slice (some ⟨W2.heap.size, 0, none⟩) m k, .func (.func 39) #[] #[.pointer (some ⟨W.heap.size + 1, 0, none⟩), .pointer (some ⟨W.heap.size, 0, none⟩)]] wr fun e W' => e = .returned (.tuple #[]) ∧
          ∃ S : List (Fin L.length), (S.map (idx L)).Perm L ∧ (S.Pairwise fun i j => tcf L i j ≤ 0) ∧ S.length = L.length ∧ (∀ j i, S[j]? = some i → W'.cell? ⟨W2.heap.size, j, none⟩ = some (.int .i64 (i.val : Int))) ∧ wr.grownBy W' (some W2.heap.size)) := by
        obtain ⟨hne, hR, hN, hs, lk, lt, hck, hct, hK, hT⟩ := HC.out
        have e := HN.out
        have hs2 := S2.out
        have eq : ∀ q, q < W.heap.size → wr.heap[q]? = W.heap[q]? := fun q hq => (B.out.block q (by omega)).trans (B2.out.block q hq)
        refine Lib.hid fun m hm => ?_
        subst hm
        exact sortI L hne hR hN (by omega) wr W2.heap.size k (W.heap.size + 1) W.heap.size tg kg ct ck (by have := (O.out.lt W2.heap.size rfl).2; exact this) (by omega) (by omega) (by omega) (by omega)
          (by rw [e]; exact (B.out.cell (p := ⟨W.heap.size + 1, 0, none⟩) (by show W.heap.size + 1 < _; omega)).trans (cell_of RT.out 0 _ rfl))
          (by rw [e]; exact (B.out.cell (p := ⟨W.heap.size, 0, none⟩) (by show W.heap.size < _; omega)).trans (cell_of RK.out 0 _ rfl))
          (fun i t h => (cell_same (eq tg lt)).trans (hT i t h)) (fun i t h => (hK i t h).same (eq kg lk))
          (fun i hi => own_cell O.out i _ (by rw [plc_at (by omega), if_pos (by omega)])) (fun j => own_frz O.out j)
      have ck3 : wr.cell? ⟨W.heap.size, 0, none⟩ = some (.slice (some ⟨kg, 0, none⟩) k ck) := (B.out.cell (p := ⟨W.heap.size, 0, none⟩) (by show W.heap.size < _; have := S2.out; omega)).trans (cell_of RK.out 0 _ rfl)
      go_wp2_with fail
      refine (SR.out k HN.out.symm).mono ?_
      rintro e W5 ⟨rfl, S, hP, hA, hlS, hrow, hg5⟩
      clear SR
      have b5 : Below W2.heap.size W2 W5 := below_grown B.out hg5 (fun g h => by cases h; exact Nat.le_refl _)
      have B5 := Lib.hid b5
      have s5 : W2.heap.size < W5.heap.size := Nat.lt_of_lt_of_le (O.out.lt W2.heap.size rfl).2 hg5.size
      have HP := Lib.hid (⟨hP, hA⟩ : (S.map (idx L)).Perm L ∧ S.Pairwise fun i j => tcf L i j ≤ 0)
      have HL := Lib.hid (show S.length = k by rw [hlS]; exact HN.out)
      have HROW := Lib.hid hrow
      have S5 := Lib.hid s5
      have ck5 : W5.cell? ⟨W.heap.size, 0, none⟩ = some (.slice (some ⟨kg, 0, none⟩) k ck) := (b5.cell (p := ⟨W.heap.size, 0, none⟩) (by show W.heap.size < _; have := S2.out; omega)).trans (cell_of RK.out 0 _ rfl)
      clear hP hA hlS hrow hg5 b5 s5 ck3 ck2 O3 B3 O
      go_wp2_with (
        refine wpList_make_own _ rfl (.const (.int .i64 0)) (.tmp 27) 59 rfl W5.heap.size 50 i1 _ 13 Try.underlying59 hi1 hy0 hy1 .i64 .i64 _ k rfl rfl rfl (by rw [hy2]; have := hn2.out; omega) (by have := hn2.out; unfold maxLen; omega) (Nat.le_refl _) ?_
        intro W6 hO6 hg6
        have O6 := Lib.hid hO6
        have B6 := Lib.hid (below_grown (Below.refl W5.heap.size W5) hg6 (fun g h => by cases h))
        clear hO6 hg6)
      go_loopw [7, 31] (fun l z wx => ∃ q : Nat, z = .int .i64 q ∧ l = .slice (some ⟨W5.heap.size, 0, none⟩) q k ∧ q ≤ k ∧ Hid (wx.ownsRow W5.heap.size 50 13 (.slice (some ⟨W5.heap.size, 0, none⟩) q k) q (cellsK ((S.take q).map fun i => (idx L i).k))) ∧ Hid (Below W5.heap.size W5 wx)) (fun _ z _ => k - (intOf z).toNat)
      case atStart => exact ⟨0, rfl, rfl, Nat.zero_le _, O6, B6⟩
      case round =>
        obtain ⟨q, rfl, rfl, hq, O, BW⟩ := hrel
        by_cases hlt2 : q < k
        · have hkb : q < 100000 := by have := hn2.out; omega
          have h1 : (q : Int) < (k : Int) := by omega
          have hqs : q < S.length := by have := HL.out; omega
          have hx : S[q]? = some S[q] := List.getElem?_eq_getElem hqs
          have htk : cellsK ((S.take (q + 1)).map fun i => (idx L i).k) = cellsK ((S.take q).map fun i => (idx L i).k) ++ (idx L S[q]).k.cs.toList := by
            have e1 : S.take (q + 1) = S.take q ++ [S[q]] := by rw [List.take_add_one, hx]; rfl
            rw [e1, List.map_append, cellsK_append]
            simp [cellsK]
          have ci : wr.cell? ⟨W2.heap.size, q, none⟩ = some (.int .i64 (S[q].val : Int)) := (BW.out.cell (p := ⟨W2.heap.size, q, none⟩) S5.out).trans (HROW.out q _ hx)
          have cb : wr.cell? ⟨W.heap.size, 0, none⟩ = some (.slice (some ⟨kg, 0, none⟩) k ck) := (BW.out.cell (p := ⟨W.heap.size, 0, none⟩) (by show W.heap.size < _; have := S2.out; have := S5.out; omega)).trans ck5
          have hi : (S[q].val : Int) < (k : Int) := by have := S[q].isLt; have := HN.out; omega
          have KK : KAt wr kg (S[q].val * 13) (idx L S[q]).k := by
            obtain ⟨hne, hR, hN, hs, lk, lt, hck, hct, hK, hT⟩ := HC.out
            refine (hK S[q].val _ (List.getElem?_eq_getElem S[q].isLt)).same ?_
            have h2 := S2.out
            have h5 := S5.out
            exact (BW.out.block kg (by omega)).trans ((B5.out.block kg (by omega)).trans (B2.out.block kg lk))
          have HT := Lib.hid htk
          generalize (idx L S[q]).k = x at KK HT
          generalize S[q].val = p at ci hi KK
          clear htk hx
          have p0 : (0 : Int) ≤ (p : Int) := by omega
          have c0 : wr.cell? ⟨kg, p * 13, none⟩ = some (.int .u8 x.k) := KK 0 _ rfl
          have c1 : wr.cell? ⟨kg, p * 13 + 1, none⟩ = some (.int .u8 x.pn) := KK 1 _ rfl
          have c2 : wr.cell? ⟨kg, p * 13 + 2, none⟩ = some (.int .u16 x.pl) := KK 2 _ rfl
          have c3 : wr.cell? ⟨kg, p * 13 + 3, none⟩ = some (.int .u8 x.x.n) := KK 3 _ rfl
          have c4 : wr.cell? ⟨kg, p * 13 + 4, none⟩ = some (.int .u16 x.x.l) := KK 4 _ rfl
          have c5 : wr.cell? ⟨kg, p * 13 + 5, none⟩ = some (.int .u32 x.x.s) := KK 5 _ rfl
          have c6 : wr.cell? ⟨kg, p * 13 + 6, none⟩ = some (.int .u8 x.x.d) := KK 6 _ rfl
          have c7 : wr.cell? ⟨kg, p * 13 + 7, none⟩ = some (.int .u8 x.x.a0) := KK 7 _ rfl
          have c8 : wr.cell? ⟨kg, p * 13 + 8, none⟩ = some (.int .u8 x.x.a1) := KK 8 _ rfl
          have c9 : wr.cell? ⟨kg, p * 13 + 9, none⟩ = some (.int .u8 x.x.b0) := KK 9 _ rfl
          have c10 : wr.cell? ⟨kg, p * 13 + 10, none⟩ = some (.int .u8 x.x.b1) := KK 10 _ rfl
          have c11 : wr.cell? ⟨kg, p * 13 + 11, none⟩ = some (.int .u8 x.x.c0) := KK 11 _ rfl
          have c12 : wr.cell? ⟨kg, p * 13 + 12, none⟩ = some (.int .u8 x.x.c1) := KK 12 _ rfl
          clear KK
          have HO := Lib.hid (O.out.alloc (.cells x.cs 50))
          have HB := Lib.hid (BW.out.alloc BW.out.size (.cells x.cs 50))
          have HNw := Lib.hid (cells_newK wr x.cs 50 (by intro u hu; exact cellsK_one [x] u (by simpa [cellsK] using hu)))
          unfold K13.cs at HO HB HNw HT
          go_wp2_with (at_builtin
                       refine wpList_append_fits _ rfl (.tmp 35) (.tmp 40) 59 rfl W5.heap.size 50 i1 13 Try.underlying59 hi1 hy1 W5.heap.size q k _ rfl HO.out ⟨wr.heap.size, 0, none⟩ 1 1 _ rfl rfl HNw.out.1 HNw.out.2 (by omega) ?_
                       intro w' hown' hgrow'
                       have BB := Lib.hid (below_grown HB.out hgrow' (fun g h => by cases h; exact Nat.le_refl _))
                       rw [← HT.out] at hown'
                       have OO := Lib.hid hown'
                       clear hown' hgrow')
          go_roundw
          case rel => exact ⟨q + 1, by go_num, rfl, by omega, OO, BB⟩
          case measure => simp [intOf]; omega
        · obtain rfl : q = k := by omega
          have et : S.take q = S := List.take_of_length_le (by have := HL.out; omega)
          rw [et] at O
          go_wp2
          go_ret
          obtain ⟨hP, hA⟩ := HP.out
          have h2 := S2.out
          have h5 := S5.out
          refine ⟨_, S.map (idx L), rfl, hP, List.pairwise_map.2 hA, ?_, B2.out.trans ((B5.out.trans (BW.out.mono (by omega))).mono (by omega))⟩
          rw [List.map_map]
          exact own_lower O.out (by omega)

end Go.Proofs.Ytfekkfphogjpeaa
