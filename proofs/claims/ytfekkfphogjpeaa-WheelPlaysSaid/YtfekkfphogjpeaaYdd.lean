/-
  The document's wheel: At, Next, Due; the law's same of a list with itself: by exact answers. Condition: the wheel lies in memory.
-/
import Derived.Test.YtfekkfphogjpeaaYdc
namespace Go.Proofs.Ytfekkfphogjpeaa
set_option linter.unusedSimpArgs false
set_option linter.unusedVariables false
open Go.RowKit Go.Maps Go.Sort

set_option maxRecDepth 100000 in
set_option maxHeartbeats 2000000 in
theorem atD (W : World) (r most : Nat) (A : Option Addr) (c : Nat) (T : List Tm) (x : K13) (h : DW W r most A c T) :
    Calls Try.prog 17 #[.pointer (some ⟨r, 0, none⟩), .agg x.cs] W fun e W' => e = .returned (.tuple #[.int .i64 (fAt T x).1, .bool (fAt T x).2]) ∧ Below W.heap.size W W' := by
  obtain ⟨W1, hW1⟩ : ∃ W1, W.alloc (.cells x.cs 38) = W1 := ⟨_, rfl⟩
  have b1 : Below W.heap.size W W1 := by rw [← hW1]; exact (Below.refl _ _).alloc (Nat.le_refl _) _
  have r1 : W1.heap[W.heap.size]? = some (.cells x.cs 38 (0, 0)) := by rw [← hW1]; exact heap_alloc_new _ _
  have hsz : (Try.prog.info? 38).map (·.size) = some x.cs.size := by kernel_rfl
  have h1 := h.below b1
  by_cases hx : ∃ t ∈ T, t.k = x
  · obtain ⟨t, ht, hk⟩ := hx
    obtain ⟨i, hi, e⟩ := List.getElem_of_mem ht
    have hj : T[i]? = some t := by rw [← e]; exact List.getElem?_eq_getElem hi
    have eq := fAt_yes h.ap ht
    rw [hk] at eq
    rw [eq]
    have K := Lib.hid (findD_yes W1 r most A c T x h1 i t hj hk)
    obtain ⟨cs, hcs⟩ : ∃ cs, x.cs = cs := ⟨_, rfl⟩
    rw [hcs] at hW1 K r1 hsz
    rw [hcs]
    obtain ⟨g, o, hA, KT⟩ := h1.row.at_ hj
    have cT := KT 13 _ rfl
    have hin : (i : Int) < (T.length : Int) := by omega
    have i0 : (0 : Int) ≤ (i : Int) := by omega
    have bag := h1.bag
    rw [hA] at bag
    generalize T.length = n at bag hin
    have CT := Lib.hid cT
    have BG := Lib.hid bag
    have HW := Lib.hid hW1
    have B1 := Lib.hid b1
    have R1 := Lib.hid r1
    have HZ := Lib.hid hsz
    have HB1 := Lib.hid h1.rl
    have HG := Lib.hid (World.block_lt_of_cell? W1 _ cT)
    clear h hW1 b1 r1 hcs hsz h1 ht hi e hj eq hk KT cT hA bag
    go_enter Try.func17, Try.ntmps17
    go_wp2_with (first | (refine wpList_bx rfl 38 (.tmp 1) rfl 3 rfl cs rfl ?_; rw [HW.out]) | (refine wpList_load_row rfl 38 (.tmp 3) rfl W.heap.size (by rfl) 38 cs (0, 0) _ R1.out Try.underlying38 rfl HZ.out ?_))
    refine K.out.mono ?_
    rintro e W2 ⟨rfl, b2⟩
    have B2 := Lib.hid (B1.out.trans (b2.mono B1.out.size))
    have c0 := cell_of ((b2.block _ HB1.out).trans BG.out) 0 _ rfl
    have c1 := (b2.cell (p := ⟨g, o + i * 14 + 13, none⟩) HG.out).trans CT.out
    clear b2 K
    go_wp2
    exact bodyPost_ret (results_tmp2 rfl _ _ _) rfl ⟨rfl, B2.out⟩
  · have hn : ∀ t ∈ T, t.k ≠ x := fun t ht e => hx ⟨t, ht, e⟩
    rw [fAt_no hn]
    have K := Lib.hid (findD_no W1 r most A c T x h1 hn)
    obtain ⟨cs, hcs⟩ : ∃ cs, x.cs = cs := ⟨_, rfl⟩
    rw [hcs] at hW1 K r1 hsz
    rw [hcs]
    have HW := Lib.hid hW1
    have B1 := Lib.hid b1
    have R1 := Lib.hid r1
    have HZ := Lib.hid hsz
    clear h hW1 b1 r1 hcs hsz h1 hx hn
    go_enter Try.func17, Try.ntmps17
    go_wp2_with (first | (refine wpList_bx rfl 38 (.tmp 1) rfl 3 rfl cs rfl ?_; rw [HW.out]) | (refine wpList_load_row rfl 38 (.tmp 3) rfl W.heap.size (by rfl) 38 cs (0, 0) _ R1.out Try.underlying38 rfl HZ.out ?_))
    refine K.out.mono ?_
    rintro e W2 ⟨rfl, b2⟩
    have B2 := Lib.hid (B1.out.trans (b2.mono B1.out.size))
    clear b2 K
    go_wp2
    exact bodyPost_ret (results_tmp2 rfl _ _ _) rfl ⟨rfl, B2.out⟩

theorem Least.uniq {T : List Tm} {l l' : Int} {f f' : Bool} (h : Least T l f) (h' : Least T l' f') : l = l' ∧ f = f' := by
  rcases h with ⟨rfl, rfl, rfl⟩ | ⟨rfl, ⟨t, ht, rfl⟩, h3⟩
  · rcases h' with ⟨_, rfl, rfl⟩ | ⟨_, ⟨t, ht, _⟩, _⟩
    · exact ⟨rfl, rfl⟩
    · cases ht
  · rcases h' with ⟨rfl, _⟩ | ⟨rfl, ⟨t', ht', rfl⟩, h3'⟩
    · cases ht
    · exact ⟨Int.le_antisymm (h3 _ ht') (h3' _ ht), rfl⟩
theorem least_head {t : Tm} {T : List Tm} (hs : (t :: T).Pairwise fun a b => a.cmp b < 0) : Least (t :: T) t.at_ true :=
  .inr ⟨rfl, ⟨t, List.mem_cons_self .., rfl⟩, fun u hu => by
    rcases List.mem_cons.1 hu with rfl | hu
    · exact Int.le_refl _
    · exact tcmp_at (Int.le_of_lt ((List.pairwise_cons.1 hs).1 u hu))⟩

set_option maxRecDepth 100000 in
set_option maxHeartbeats 2000000 in
theorem nextD (W : World) (r most : Nat) (A : Option Addr) (c : Nat) (T : List Tm) (h : DW W r most A c T) :
    Calls Try.prog 22 #[.pointer (some ⟨r, 0, none⟩)] W fun e W' => ∃ (l : Int) (f : Bool), e = .returned (.tuple #[.int .i64 l, .bool f]) ∧ Least T l f ∧ Below W.heap.size W W' := by
  cases T with
  | nil =>
    have c0 := cell_of h.bag 0 _ rfl
    simp only [List.length_nil] at c0
    clear h
    go_enter Try.func22, Try.ntmps22
    go_wp2
    exact bodyPost_ret (results_tmp2 rfl _ _ _) rfl ⟨0, false, rfl, .inl ⟨rfl, rfl, rfl⟩, Below.refl _ _⟩
  | cons t T =>
    have LH := Lib.hid (least_head h.srt)
    obtain ⟨g, o, hA, KT⟩ := h.row.at_ (i := 0) (t := t) rfl
    have cT : W.cell? ⟨g, o + 13, none⟩ = some (.int .i64 t.at_) := KT 13 _ (by simp [Tm.cs])
    have bag := h.bag
    rw [hA] at bag
    have c0 := cell_of bag 0 _ rfl
    have hn1 : (t :: T).length = T.length + 1 := rfl
    obtain ⟨n, hn⟩ : ∃ n, (t :: T).length = n := ⟨_, rfl⟩
    rw [hn] at c0
    have hn2 : (n == 0) = false := by rw [← hn]; simp
    have hn3 : (0 : Int) < (n : Int) := by omega
    have hn4 : ¬ (n : Int) = 0 := by omega
    clear h KT bag hA hn hn1
    go_enter Try.func22, Try.ntmps22
    go_wp2
    exact bodyPost_ret (results_tmp2 rfl _ _ _) rfl ⟨_, true, rfl, LH.out, Below.refl _ _⟩

theorem keyRI : (Try.prog.info? 38).map (fun i => (i.zero, i.size, i.bytes)) = some (some (.agg #[.int .u8 0, .int .u8 0, .int .u16 0, .int .u8 0, .int .u16 0, .int .u32 0, .int .u8 0, .int .u8 0, .int .u8 0, .int .u8 0, .int .u8 0, .int .u8 0, .int .u8 0]), 13, 24) := by kernel_rfl
theorem wpList_appR {w : World} {ops : Array Oper} {rest : List Oper} {o : Oper} {a : Act} {Q : Exit → Act → World → Prop} (hgd : o.guard = none) (d : Tmp) (hd : o.dst = some d) (s xo : Operand)
    (ho : o.op = .call { callee := .builtin .append, args := #[s, xo], argTypes := #[61, 61] })
    (base : Nat) (v : Value) (n : Nat) (xs : List Value) (hs : a.eval s = v) (hown : w.ownsRow base 38 13 v n xs)
    (g : Nat) (cs : Array Value) (c : Nat) (hz : cs.size = 13) (h1 : ∀ u ∈ cs.toList, u.oneCell' = true) (hx : a.eval xo = .slice (some ⟨g, 0, none⟩) 1 c) (hr : w.heap[g]? = some (.cells cs 38 (0, 0)))
    (hlen : n ≤ 100000) (hbase : base ≤ w.heap.size)
    (h : ∀ v' w', w'.ownsRow base 38 13 v' (n + 1) (xs ++ cs.toList) → w.grownBy w' v.ownBlock → wpList Try.prog ops Q rest (a.put (some d) v') w') : wpList Try.prog ops Q (o :: rest) a w := by
  rw [← hd] at h
  obtain ⟨i0, hi0, hz0, hz1, hz2⟩ := info_parts keyRI
  refine wpList_append_own w hgd s xo 61 ho base 38 i0 _ 13 24 Try.underlying61 hi0 hz0 hz1 hz2 rfl (by decide) v n xs hs hown ⟨g, 0, none⟩ 1 c cs.toList hx (by simp [hz]) (fun j u hu => ?_) h1
    (by unfold maxLen; omega) (by omega) hbase fun v' w' h2 h3 _ => h v' w' h2 h3
  rw [addr_add, Nat.zero_add, cell_of_row _ _ j _ _ _ hr]
  simpa using hu
/-- the first timer let go. -/
theorem DW.pop {W : World} {r most c : Nat} {A A2 : Option Addr} {t : Tm} {T : List Tm} (h : DW W r most A c (t :: T)) (hA2 : (A2 = none ∧ c - 1 = 0) ∨ ∃ g o o2, A = some ⟨g, o, none⟩ ∧ A2 = some ⟨g, o2, none⟩ ∧ (1 < (t :: T).length → o2 = o + 1 * 14)) :
    DW (W.setCell ⟨r, 0, none⟩ (.slice A2 T.length (c - 1))) r most A2 (c - 1) T ∧ W.grownBy (W.setCell ⟨r, 0, none⟩ (.slice A2 T.length (c - 1))) (some r) := by
  have hle := h.le
  simp only [List.length_cons] at hle
  have far : ∀ k, k ≠ r → (W.setCell ⟨r, 0, none⟩ (.slice A2 T.length (c - 1))).heap[k]? = W.heap[k]? := fun k hk => Below.heap_setCell _ _ _ _ hk
  have gr : ∀ g o, A = some ⟨g, o, none⟩ → g ≠ r := fun g o e => by
    rcases h.adr with ⟨e2, _⟩ | ⟨g', o', cur, e2, hg⟩
    · rw [e] at e2; cases e2
    · rw [e] at e2
      cases e2
      rintro rfl
      rw [h.bag] at hg
      simp at hg
  refine ⟨⟨(row_set h.bag _).trans rfl, ?_, ?_, by omega, by have := h.cm; omega, by have := h.few; simp only [List.length_cons] at this; omega, h.most, fun u hu => h.rng u (List.mem_cons_of_mem _ hu), (List.pairwise_cons.1 h.srt).2, (List.pairwise_cons.1 h.ap).2⟩, ⟨rfl, rfl, rfl, by simp [World.setCell], fun k _ hk => far k (by rintro rfl; exact hk rfl)⟩⟩
  · rcases hA2 with ⟨rfl, h0⟩ | ⟨g, o, o2, eA, rfl, h2⟩
    · have e : T = [] := List.eq_nil_of_length_eq_zero (by omega)
      rw [e]
      exact fun hne => absurd rfl hne
    · have hrow := h.row
      rw [eA] at hrow
      have h3 := hrow.drop (o2 := o2) 1 h2
      simp only [List.drop_succ_cons, List.drop_zero] at h3
      exact h3.same fun g' o' e => by cases e; exact far g (gr g o eA)
  · rcases hA2 with ⟨rfl, h0⟩ | ⟨g, o, o2, eA, rfl, h2⟩
    · exact .inl ⟨rfl, h0, List.eq_nil_of_length_eq_zero (by omega)⟩
    · rcases h.adr with ⟨e2, _⟩ | ⟨g', o', cur, e2, hg⟩
      · rw [eA] at e2; cases e2
      · rw [eA] at e2
        cases e2
        exact .inr ⟨g, o2, cur, rfl, (far g (gr g o eA)).trans hg⟩
theorem due_take {now : Int} : ∀ {T : List Tm} {k : Nat}, (T.Pairwise fun a b => a.cmp b < 0) → (∀ j t, j < k → T[j]? = some t → t.at_ ≤ now) → (∀ t, T[k]? = some t → now < t.at_) → due now T = T.take k ∧ late now T = T.drop k
  | [], k, _, _, _ => by simp [due, late]
  | a :: T, 0, hs, _, h2 => by
    have ha : now < a.at_ := h2 a rfl
    have hall : ∀ b ∈ a :: T, now < b.at_ := fun b hb => by
      rcases List.mem_cons.1 hb with rfl | hb
      · exact ha
      · have := tcmp_at (Int.le_of_lt ((List.pairwise_cons.1 hs).1 b hb))
        omega
    constructor
    · simp only [List.take_zero]
      exact List.filter_eq_nil_iff.2 fun b hb => by have := hall b hb; simp; omega
    · simp only [List.drop_zero]
      exact List.filter_eq_self.2 fun b hb => by have := hall b hb; simpa using this
  | a :: T, k + 1, hs, h1, h2 => by
    have ha : a.at_ ≤ now := h1 0 a (by omega) rfl
    have ih := due_take (k := k) (List.pairwise_cons.1 hs).2 (fun j t hj ht => h1 (j + 1) t (by omega) (by simpa using ht)) (fun t ht => h2 t (by simpa using ht))
    constructor
    · have : due now (a :: T) = a :: due now T := by simp [due, ha]
      rw [this, ih.1]
      rfl
    · have : late now (a :: T) = late now T := by
        unfold late
        rw [List.filter_cons, if_neg (by simp; omega)]
      rw [this, ih.2]
      rfl
theorem DW.grown2 {W W' : World} {r most : Nat} {A : Option Addr} {c : Nat} {T : List Tm} {row : Option Nat} (h : DW W r most A c T) (hg : W.grownBy W' row) (h1 : some r ≠ row) (h2 : ∀ g o, A = some ⟨g, o, none⟩ → some g ≠ row) : DW W' r most A c T := by
  refine ⟨(hg.block r h.rl h1).trans h.bag, fun hne => ?_, ?_, h.le, h.cm, h.few, h.most, h.rng, h.srt, h.ap⟩
  · obtain ⟨g, o, e, hc⟩ := h.row hne
    refine ⟨g, o, e, fun j u hu => ?_⟩
    have hl := World.block_lt_of_cell? W _ (hc j u hu)
    exact (cell_same (hg.block g hl (h2 g o e))).trans (hc j u hu)
  · rcases h.adr with h3 | ⟨g', o', cur, e2, hg'⟩
    · exact .inl h3
    · exact .inr ⟨g', o', cur, e2, (hg.block g' (Array.getElem?_eq_some_iff.1 hg').1 (h2 g' o' e2)).trans hg'⟩
theorem own_ne {W : World} {base : Nat} {e t : TypeId} {z : Nat} {v : Value} {n g : Nat} {xs : List Value} {cur : Array Value} {fr : Nat × Nat} (h : W.ownsRow base e z v n xs) (hg : W.heap[g]? = some (.cells cur t fr)) (hne : e ≠ t) : v.ownBlock ≠ some g := by
  rcases h.2 with ⟨rfl, _⟩ | ⟨g', cap, cur', rfl, _, hg', _⟩
  · simp [Value.ownBlock]
  · intro e2
    simp [Value.ownBlock] at e2
    subst e2
    rw [hg] at hg'
    simp at hg'
    exact hne hg'.2.1.symm
theorem grown_out {W wr w1 w3 : World} {r : Nat} {row : Option Nat} (h : W.grownBy wr (some r)) (b1 : Below wr.heap.size wr w1) (g3 : w1.grownBy w3 row) (hr : ∀ k, row = some k → W.heap.size ≤ k) : W.grownBy w3 (some r) :=
  ⟨g3.os.trans (b1.os.trans h.os), g3.tape.trans (b1.tape.trans h.tape), g3.output.trans (b1.output.trans h.output), Nat.le_trans h.size (Nat.le_trans b1.size g3.size), fun k hk hne =>
    (g3.block k (Nat.lt_of_lt_of_le hk (Nat.le_trans h.size b1.size)) (fun e => by have := hr k e.symm; omega)).trans ((b1.block k (Nat.lt_of_lt_of_le hk h.size)).trans (h.block k hk hne))⟩
/-- while the document's wheel lets go. -/
structure DuD (W : World) (r most : Nat) (now : Int) (T : List Tm) (k : Nat) (v : Value) (wx : World) : Prop where
  dw : ∃ A c, DW wx r most A c (T.drop k)
  row : wx.ownsRow W.heap.size 38 13 v k (cellsK ((T.take k).map (·.k)))
  le : ∀ j t, j < k → T[j]? = some t → t.at_ ≤ now
  g : W.grownBy wx (some r)
  hk : k ≤ T.length
def lenV : Value → Nat
  | .slice _ n _ => n
  | _ => 0

set_option maxRecDepth 100000 in
set_option maxHeartbeats 4000000 in
theorem dueD (W : World) (r most : Nat) (A : Option Addr) (c : Nat) (T : List Tm) (now : Int) (h : DW W r most A c T) :
    Calls Try.prog 20 #[.pointer (some ⟨r, 0, none⟩), .int .i64 now] W fun e W' => ∃ (v : Value), e = .returned v ∧ W'.ownsRow W.heap.size 38 13 v (due now T).length (cellsK ((due now T).map (·.k))) ∧ (∃ A' c', DW W' r most A' c' (late now T)) ∧ W.grownBy W' (some r) := by
  have HSRT := Lib.hid h.srt
  have HT : Hid (T.length ≤ 512) := Lib.hid (by have := h.few; have := h.most; omega)
  have RL := Lib.hid h.rl
  have J0 : Hid (DuD W r most now T 0 (.slice none 0 0) W) := Lib.hid ⟨⟨A, c, h⟩, World.ownsRow_nil _ _ _ _, fun j t hj => by omega, World.grownBy.refl _ _, Nat.zero_le _⟩
  clear h
  go_enter Try.func20, Try.ntmps20
  go_wp2
  go_loopw [5] (fun v wx => ∃ k : Nat, Hid (DuD W r most now T k v wx)) (fun v _ => T.length - lenV v)
  case atStart => exact ⟨0, J0⟩
  case round =>
    obtain ⟨k, J⟩ := hrel
    obtain ⟨A1, c1, D⟩ := J.out.dw
    obtain ⟨Ak, ck, hv, -, -, -, -⟩ := own_form J.out.row
    have HVK := Lib.hid hv
    clear hv
    have HJ := J
    cases hT : T.drop k with
    | nil =>
      rw [hT] at D
      have e0 := cell_of D.bag 0 _ rfl
      simp only [List.length_nil] at e0
      have hkk : k = T.length := by
        have := List.drop_eq_nil_iff.1 hT
        have := HJ.out.hk
        omega
      have fin := due_take HSRT.out HJ.out.le (fun t ht => by have := (List.getElem?_eq_some_iff.1 ht).1; omega)
      have hlen : (due now T).length = k := by rw [fin.1, List.length_take]; omega
      have FIN := Lib.hid (show wr.ownsRow W.heap.size 38 13 u5 (due now T).length (cellsK ((due now T).map (·.k))) ∧ (∃ A' c', DW wr r most A' c' (late now T)) ∧ W.grownBy wr (some r) from ⟨by rw [hlen, fin.1]; exact HJ.out.row, by rw [fin.2]; exact HJ.out.dw, HJ.out.g⟩)
      clear D hT hkk fin hlen J HJ J0
      go_wp2
      go_ret
      exact ⟨_, rfl, FIN.out.1, FIN.out.2.1, FIN.out.2.2⟩
    | cons t R =>
      rw [hT] at D
      have hTk : T[k]? = some t := by
        have := congrArg (fun l => l[0]?) hT
        simpa using this
      have hkT : k < T.length := (List.getElem?_eq_some_iff.1 hTk).1
      obtain ⟨g, o, hA1, KT⟩ := D.row.at_ (i := 0) (t := t) rfl
      rw [Nat.zero_mul, Nat.add_zero] at KT
      have bag := D.bag
      rw [hA1] at bag
      have hle := D.le
      obtain ⟨n, hn⟩ : ∃ n, (t :: R).length = n := ⟨_, rfl⟩
      have hR : R.length = n - 1 := by rw [← hn]; rfl
      have e0 := cell_of bag 0 _ rfl
      rw [hn] at e0 hle
      have hn0 : 0 < n := by rw [← hn]; simp
      have n1 : (0 : Int) < (n : Int) := by omega
      have ca : wr.cell? ⟨g, o + 13, none⟩ = some (.int .i64 t.at_) := KT 13 _ (by simp [Tm.cs])
      by_cases hd : t.at_ ≤ now
      · obtain ⟨A2, hsl, hA2⟩ := slFrom A1 n c1 1 (by omega) hle (by
          rcases D.adr with ⟨e1, e2, _⟩ | ⟨g, o, _, e1, _⟩
          · exact .inl ⟨e1, e2⟩
          · exact .inr ⟨g, o, e1⟩)
        rw [show ((1 : Nat) : Int) = 1 from rfl, hA1] at hsl
        rw [← hn] at hA2
        obtain ⟨w1, hw1⟩ : ∃ w1, wr.alloc (.cells #[.int .u8 t.k.k, .int .u8 t.k.pn, .int .u16 t.k.pl, .int .u8 t.k.x.n, .int .u16 t.k.x.l, .int .u32 t.k.x.s, .int .u8 t.k.x.d, .int .u8 t.k.x.a0, .int .u8 t.k.x.a1, .int .u8 t.k.x.b0, .int .u8 t.k.x.b1, .int .u8 t.k.x.c0, .int .u8 t.k.x.c1] 38) = w1 := ⟨_, rfl⟩
        have b1 : Below wr.heap.size wr w1 := by rw [← hw1]; exact (Below.refl _ _).alloc (Nat.le_refl _) _
        have r1 : w1.heap[wr.heap.size]? = some (.cells #[.int .u8 t.k.k, .int .u8 t.k.pn, .int .u16 t.k.pl, .int .u8 t.k.x.n, .int .u16 t.k.x.l, .int .u32 t.k.x.s, .int .u8 t.k.x.d, .int .u8 t.k.x.a0, .int .u8 t.k.x.a1, .int .u8 t.k.x.b0, .int .u8 t.k.x.b1, .int .u8 t.k.x.c0, .int .u8 t.k.x.c1] 38 (0, 0)) := by rw [← hw1]; exact heap_alloc_new _ _
        have row1 := own_below HJ.out.row b1
        have c0_ : wr.cell? ⟨g, o, none⟩ = some (.int .u8 t.k.k) := KT 0 _ rfl
        have c1_ : wr.cell? ⟨g, o + 1, none⟩ = some (.int .u8 t.k.pn) := KT 1 _ rfl
        have c2_ : wr.cell? ⟨g, o + 2, none⟩ = some (.int .u16 t.k.pl) := KT 2 _ rfl
        have c3_ : wr.cell? ⟨g, o + 3, none⟩ = some (.int .u8 t.k.x.n) := KT 3 _ rfl
        have c4_ : wr.cell? ⟨g, o + 4, none⟩ = some (.int .u16 t.k.x.l) := KT 4 _ rfl
        have c5_ : wr.cell? ⟨g, o + 5, none⟩ = some (.int .u32 t.k.x.s) := KT 5 _ rfl
        have c6_ : wr.cell? ⟨g, o + 6, none⟩ = some (.int .u8 t.k.x.d) := KT 6 _ rfl
        have c7_ : wr.cell? ⟨g, o + 7, none⟩ = some (.int .u8 t.k.x.a0) := KT 7 _ rfl
        have c8_ : wr.cell? ⟨g, o + 8, none⟩ = some (.int .u8 t.k.x.a1) := KT 8 _ rfl
        have c9_ : wr.cell? ⟨g, o + 9, none⟩ = some (.int .u8 t.k.x.b0) := KT 9 _ rfl
        have c10_ : wr.cell? ⟨g, o + 10, none⟩ = some (.int .u8 t.k.x.b1) := KT 10 _ rfl
        have c11_ : wr.cell? ⟨g, o + 11, none⟩ = some (.int .u8 t.k.x.c0) := KT 11 _ rfl
        have c12_ : wr.cell? ⟨g, o + 12, none⟩ = some (.int .u8 t.k.x.c1) := KT 12 _ rfl
        have HW1 := Lib.hid hw1
        have B1 := Lib.hid b1
        have R1 := Lib.hid r1
        have ROW1 := Lib.hid row1
        have HSL := Lib.hid hsl
        have HA2 := Lib.hid hA2
        have DD := Lib.hid D
        have HN := Lib.hid hn
        have HR := Lib.hid hR
        have HTK := Lib.hid hTk
        have HD := Lib.hid hd
        have HKT := Lib.hid hkT
        have HTT := Lib.hid hT
        have HO : Hid (∀ u ∈ (#[.int .u8 t.k.k, .int .u8 t.k.pn, .int .u16 t.k.pl, .int .u8 t.k.x.n, .int .u16 t.k.x.l, .int .u32 t.k.x.s, .int .u8 t.k.x.d, .int .u8 t.k.x.a0, .int .u8 t.k.x.a1, .int .u8 t.k.x.b0, .int .u8 t.k.x.b1, .int .u8 t.k.x.c0, .int .u8 t.k.x.c1] : Array Value).toList, u.oneCell' = true) := Lib.hid (fun u hu => cellsK_one [t.k] u (by simpa [cellsK, K13.cs] using hu))
        have hlo : (1 : Int) ≤ (n : Int) := by omega
        have hcc : (n : Int) ≤ (c1 : Int) := by omega
        have GW := Lib.hid HJ.out.g.size
        clear KT bag hle b1 r1 row1 hw1 hA2 hn hR hTk hT hn0 D J J0
        go_wp2_with (first
          | (rw [HW1.out])
          | (refine wpList_appR rfl 32 rfl (.tmp 23) (.tmp 31) rfl W.heap.size u5 _ _ rfl ROW1.out wr.heap.size #[.int .u8 t.k.k, .int .u8 t.k.pn, .int .u16 t.k.pl, .int .u8 t.k.x.n, .int .u16 t.k.x.l, .int .u32 t.k.x.s, .int .u8 t.k.x.d, .int .u8 t.k.x.a0, .int .u8 t.k.x.a1, .int .u8 t.k.x.b0, .int .u8 t.k.x.b1, .int .u8 t.k.x.c0, .int .u8 t.k.x.c1] 1 rfl HO.out rfl R1.out (by have := HKT.out; have := HT.out; omega) (Nat.le_trans GW.out B1.out.size) ?_
             intro v' w3 row3 g3
             have D3 := Lib.hid ((DD.out.below B1.out).grown2 g3 (fun e => by have := (ROW1.out.lt r e.symm).1; have := RL.out; omega) (fun g o e e2 => by
               rcases (DD.out.below B1.out).adr with ⟨e3, _⟩ | ⟨g', o', cur, e3, hg⟩
               · rw [e] at e3; cases e3
               · rw [e] at e3
                 cases e3
                 exact own_ne ROW1.out hg (by decide) e2.symm))
             have G3 := Lib.hid (grown_out HJ.out.g B1.out g3 (fun k e => (ROW1.out.lt k e).1))
             have ROW3 := Lib.hid row3
             clear row3 g3
             have bag3 := D3.out.bag
             rw [HN.out] at bag3
             have e0' := cell_of bag3 0 _ rfl
             have z3 := frz_row 0 bag3
             obtain ⟨dp, gp⟩ := D3.out.pop HA2.out
             rw [HR.out] at dp gp
             have DP := Lib.hid dp
             have GP := Lib.hid gp
             have hA1' := Lib.hid hA1
             clear bag3 dp gp ca c0_ c1_ c2_ c3_ c4_ c5_ c6_ c7_ c8_ c9_ c10_ c11_ c12_
             rw [hA1] at e0'
             have hs := HSL.out))
        obtain ⟨A9, c9, hv9, -, -, -, -⟩ := own_form ROW3.out
        go_roundw
        case rel =>
          have e2 : T.drop (k + 1) = R := by
            have := congrArg List.tail HTT.out
            simpa [List.tail_drop] using this
          refine ⟨k + 1, Lib.hid ⟨⟨A2, c1 - 1, by rw [e2]; exact DP.out⟩, ?_, ?_, ?_, HKT.out⟩⟩
          · have e3 : T.take (k + 1) = T.take k ++ [t] := by rw [List.take_add_one, HTK.out]; rfl
            rw [e3, List.map_append, cellsK_append]
            have h3 := own_grown ROW3.out GP.out (fun q e => by cases e; exact RL.out)
            simpa [cellsK, K13.cs] using h3
          · intro j t' hj ht'
            rcases Nat.lt_or_eq_of_le (Nat.le_of_lt_succ hj) with h3 | h3
            · exact HJ.out.le j t' h3 ht'
            · subst h3
              have e4 := HTK.out
              rw [ht'] at e4
              cases e4
              exact HD.out
          · exact G3.out.trans GP.out
        case measure =>
          rw [hv9, HVK.out]
          simp [lenV]
          have := HKT.out
          omega
      · have hd' : ¬ t.at_ ≤ now := hd
        have fin := due_take HSRT.out HJ.out.le (fun t' ht' => by rw [hTk] at ht'; cases ht'; omega)
        have hlen : (due now T).length = k := by rw [fin.1, List.length_take]; omega
        have FIN := Lib.hid (show wr.ownsRow W.heap.size 38 13 u5 (due now T).length (cellsK ((due now T).map (·.k))) ∧ (∃ A' c', DW wr r most A' c' (late now T)) ∧ W.grownBy wr (some r) from ⟨by rw [hlen, fin.1]; exact HJ.out.row, by rw [fin.2]; exact HJ.out.dw, HJ.out.g⟩)
        have hcc : (n : Int) ≤ (c1 : Int) := by omega
        clear D hT hTk hkT fin hlen J HJ J0 KT bag hA1 hle hn hR hn0
        go_wp2
        go_ret
        exact ⟨_, rfl, FIN.out.1, FIN.out.2.1, FIN.out.2.2⟩

end Go.Proofs.Ytfekkfphogjpeaa
