/-
  The document's wheel: timers appended; Cancel: by exact answers. Condition: the wheel lies in memory.
-/
import Derived.Test.YtfekkfphogjpeaaYdw
namespace Go.Proofs.Ytfekkfphogjpeaa
set_option linter.unusedSimpArgs false
set_option linter.unusedVariables false
open Go.RowKit Go.Maps Go.Sort

theorem run_slB {P : Program} {w : World} {a : Act} {sv xv : Value} {t t0 : TypeId} {x : Operand} {lo hi : Option Operand} {lo' hi' : Option Value} (hx : a.eval x = xv) (hlo : lo.map a.eval = lo') (hhi : hi.map a.eval = hi')
    (hr : (Instr.sliceAt t xv lo' hi' none).run P w = .ok sv w) : (execOp a.eval (bareO (.slice t x lo hi none) t0)).run P w = .ok (.value sv) w := by
  unfold execOp bareO
  simp only [hx, hlo, hhi, Option.map_none, Sem.run_bind, hr, Result.andThen_ok, Sem.run_pure]
theorem timI : (Try.prog.info? 83).map (fun i => (i.zero, i.size, i.bytes)) = some (some (.agg #[.int .u8 0, .int .u8 0, .int .u16 0, .int .u8 0, .int .u16 0, .int .u32 0, .int .u8 0, .int .u8 0, .int .u8 0, .int .u8 0, .int .u8 0, .int .u8 0, .int .u8 0, .int .i64 0]), 14, 32) := by kernel_rfl
theorem slTo (A : Option Addr) (n c k : Nat) (hk : k ≤ n) (hc : n ≤ c) (hA : (A = none ∧ c = 0) ∨ ∃ g o, A = some ⟨g, o, none⟩) (w : World) : (Instr.sliceAt 76 (.slice A n c) none (some (.int .i64 (k : Int))) none).run Try.prog w = .ok (.slice A k c) w := by
  have h1 : (0 : Int) ≤ (k : Int) := by omega
  have h2 : (k : Int) ≤ (c : Int) := by omega
  rcases hA with ⟨rfl, rfl⟩ | ⟨g, o, rfl⟩
  · obtain rfl : k = 0 := by omega
    go_simp
  · go_simp
theorem slFrom (A : Option Addr) (n c k : Nat) (hk : k ≤ n) (hc : n ≤ c) (hA : (A = none ∧ c = 0) ∨ ∃ g o, A = some ⟨g, o, none⟩) : ∃ A2, (∀ w, (Instr.sliceAt 76 (.slice A n c) (some (.int .i64 (k : Int))) none none).run Try.prog w = .ok (.slice A2 (n - k) (c - k)) w) ∧ ((A2 = none ∧ c - k = 0) ∨ ∃ g o o2, A = some ⟨g, o, none⟩ ∧ A2 = some ⟨g, o2, none⟩ ∧ (k < n → o2 = o + k * 14)) := by
  have h1 : (0 : Int) ≤ (k : Int) := by omega
  have h2 : (k : Int) ≤ (n : Int) := by omega
  have h3 : (n : Int) ≤ (c : Int) := by omega
  rcases hA with ⟨rfl, rfl⟩ | ⟨g, o, rfl⟩
  · obtain rfl : k = 0 := by omega
    obtain rfl : n = 0 := by omega
    exact ⟨none, fun w => by go_simp, .inl ⟨rfl, rfl⟩⟩
  · by_cases e : c = k
    · subst e
      exact ⟨some ⟨g, o, none⟩, fun w => by go_simp, .inr ⟨g, o, o, rfl, rfl, fun h => by omega⟩⟩
    · have h4 : (k : Int) < (c : Int) := by omega
      exact ⟨some ⟨g, o + k * 14, none⟩, fun w => by go_simp, .inr ⟨g, o, o + k * 14, rfl, rfl, fun _ => rfl⟩⟩
/-- timers appended to a row that is one's own: whatever is appended, nil too. -/
theorem wp_appT {w : World} {o : Oper} {a : Act} {K : Act → World → Prop} {Q : Exit → Act → World → Prop} (d : Tmp) (hd : o.dst = some d) (s xo : Operand)
    (ho : o.op = .call { callee := .builtin .append, args := #[s, xo], argTypes := #[76, 76] })
    (base : Nat) (v : Value) (n : Nat) (xs : List Value) (hs : a.eval s = v) (hown : w.ownsRow base 83 14 v n xs)
    (A : Option Addr) (Y : List Tm) (m c : Nat) (hx : a.eval xo = .slice A m c) (hm : m = Y.length) (hc : A = none → m = 0 ∧ c = 0) (hr : RowT w A Y)
    (hlen : n + Y.length ≤ 100000) (hbase : base ≤ w.heap.size)
    (h : ∀ v' w', w'.ownsRow base 83 14 v' (n + Y.length) (xs ++ cellsT Y) → w.grownBy w' v.ownBlock → K (a.put (some d) v') w') : o.wp Try.prog a w K Q := by
  subst hm
  rw [← hd] at h
  obtain ⟨i0, hi0, hz0, hz1, hz2⟩ := info_parts timI
  cases A with
  | none =>
    obtain ⟨h1, h2⟩ := hc rfl
    have hX : Y = [] := List.eq_nil_of_length_eq_zero h1
    subst hX
    subst h2
    have hrun := run_append_owned_none (P := Try.prog) (w := w) base 76 o.type 83 i0 14 Try.underlying76 hi0 v n xs hown
    unfold Oper.wp
    simp only [List.length_nil] at hx
    simp [execOp, ho, resolve, invoke, builtin, hs, hx, hrun, Result.andThen]
    exact h v w (by simpa [cellsT] using hown) (World.grownBy.refl _ _)
  | some ad =>
    refine wp_append_own w s xo 76 ho base 83 i0 _ 14 32 Try.underlying76 hi0 hz0 hz1 hz2 rfl (by decide) v n xs hs hown ad Y.length c (cellsT Y) hx (cellsT_length Y) (fun j u hu => ?_) (cellsT_one Y)
      (by unfold maxLen; omega) (by omega) hbase fun v' w' h2 h3 _ => h v' w' h2 h3
    obtain ⟨g, o, e, hcell⟩ := hr (by rintro rfl; simp [cellsT] at hu)
    cases e
    rw [addr_add]
    exact hcell j u hu
theorem wpOp_appT {w : World} {ops : Array Oper} {o : Oper} {i : Nat} {a : Act} {K : Act → World → Prop} {Q : Exit → Act → World → Prop} (hi : ops[i]? = some o) (hgd : o.guard = none) (d : Tmp) (hd : o.dst = some d) (s xo : Operand)
    (ho : o.op = .call { callee := .builtin .append, args := #[s, xo], argTypes := #[76, 76] })
    (base : Nat) (v : Value) (n : Nat) (xs : List Value) (hs : a.eval s = v) (hown : w.ownsRow base 83 14 v n xs)
    (A : Option Addr) (Y : List Tm) (m c : Nat) (hx : a.eval xo = .slice A m c) (hm : m = Y.length) (hc : A = none → m = 0 ∧ c = 0) (hr : RowT w A Y)
    (hlen : n + Y.length ≤ 100000) (hbase : base ≤ w.heap.size)
    (h : ∀ v' w', w'.ownsRow base 83 14 v' (n + Y.length) (xs ++ cellsT Y) → w.grownBy w' v.ownBlock → K (a.put (some d) v') w') : wpOp Try.prog ops Q i K a w := by
  unfold wpOp
  simp only [hi]
  rw [if_pos (by simp [Region.wanted, hgd])]
  exact .inl (wp_appT d hd s xo ho base v n xs hs hown A Y m c hx hm hc hr hlen hbase h)
/-- what an owned row of timers is. -/
theorem row_of_own {W : World} {base : Nat} {v : Value} {T : List Tm} (h : W.ownsRow base 83 14 v T.length (cellsT T)) :
    ∃ A c, v = .slice A T.length c ∧ RowT W A T ∧ ((A = none ∧ c = 0 ∧ T = []) ∨ ∃ g o cur, A = some ⟨g, o, none⟩ ∧ base ≤ g ∧ W.heap[g]? = some (.cells cur 83 (0, 0))) ∧ T.length ≤ c ∧ c ≤ maxLen := by
  have h0 := h
  rcases h.2 with ⟨rfl, h1⟩ | ⟨g, cap, cur, rfl, hb, hg, h1, h2, _⟩
  · have e := List.eq_nil_of_length_eq_zero h1
    subst e
    exact ⟨none, 0, rfl, fun hn => absurd rfl hn, .inl ⟨rfl, rfl, rfl⟩, Nat.le_refl _, by unfold maxLen; omega⟩
  · refine ⟨_, cap, rfl, fun _ => ⟨g, 0, rfl, fun j u hu => ?_⟩, .inr ⟨g, 0, cur, rfl, hb, hg⟩, h1, h2⟩
    rw [Nat.zero_add]
    exact own_cell h0 j u hu
/-- a new list laid into the wheel. -/
theorem DW.laid {W W5 W8 : World} {r most : Nat} {A : Option Addr} {c : Nat} {T T' : List Tm} {v : Value} (h : DW W r most A c T) (b5 : Below W.heap.size W W5) (b8 : Below W5.heap.size W5 W8) (O : W8.ownsRow W5.heap.size 83 14 v T'.length (cellsT T'))
    (few : T'.length ≤ most) (rng : ∀ t ∈ T', t.k.Rng) (srt : T'.Pairwise fun a b => a.cmp b < 0) (ap : T'.Pairwise fun a b => a.k ≠ b.k) :
    ∃ A' c', v = .slice A' T'.length c' ∧ DW (W8.setCell ⟨r, 0, none⟩ v) r most A' c' T' ∧ W.grownBy (W8.setCell ⟨r, 0, none⟩ v) (some r) := by
  obtain ⟨A', c', rfl, hrow, hadr, hle, hcm⟩ := row_of_own O
  have rl := h.rl
  have s5 := b5.size
  have b : Below W.heap.size W W8 := b5.trans (b8.mono s5)
  have hb := (b.block r rl).trans h.bag
  have gg : W8.grownBy (W8.setCell ⟨r, 0, none⟩ (.slice A' T'.length c')) (some r) := ⟨rfl, rfl, rfl, by simp [World.setCell], fun k _ hk => Below.heap_setCell _ _ _ _ (by rintro rfl; exact hk rfl)⟩
  refine ⟨A', c', rfl, ⟨(row_set hb _).trans rfl, hrow.same fun g o e => ?_, ?_, hle, hcm, few, h.most, rng, srt, ap⟩, grown_trans b gg⟩
  · rcases hadr with ⟨e2, _⟩ | ⟨g', o', cur, e2, hb', hg'⟩
    · rw [e] at e2; cases e2
    · rw [e] at e2
      cases e2
      exact Below.heap_setCell _ _ _ _ (by show g ≠ r; omega)
  · rcases hadr with h1 | ⟨g', o', cur, e2, hb', hg'⟩
    · exact .inl h1
    · exact .inr ⟨g', o', cur, e2, (Below.heap_setCell _ _ _ _ (by show g' ≠ r; omega)).trans hg'⟩
theorem outK_mid {T : List Tm} {j : Nat} {t : Tm} (ap : T.Pairwise fun a b => a.k ≠ b.k) (hj : T[j]? = some t) : T.take j ++ T.drop (j + 1) = outK T t.k := by
  obtain ⟨hl, he⟩ := List.getElem?_eq_some_iff.1 hj
  have e : T = T.take j ++ t :: T.drop (j + 1) := by
    rw [← he, ← List.drop_eq_getElem_cons hl, List.take_append_drop]
  generalize T.take j = P at e ⊢
  generalize T.drop (j + 1) = S at e ⊢
  subst e
  obtain ⟨_, h2, h3⟩ := List.pairwise_append.1 ap
  obtain ⟨h4, _⟩ := List.pairwise_cons.1 h2
  unfold outK
  rw [List.filter_append, List.filter_cons, if_neg (by simp)]
  rw [List.filter_eq_self.2 (fun y hy => by simpa using h3 y hy t (List.mem_cons_self ..)), List.filter_eq_self.2 (fun y hy => by simpa using fun e => h4 y hy e.symm)]

theorem findD_no (W : World) (r most : Nat) (A : Option Addr) (c : Nat) (T : List Tm) (x : K13) (h : DW W r most A c T) (hx : ∀ t ∈ T, t.k ≠ x) :
    Calls Try.prog 29 #[.pointer (some ⟨r, 0, none⟩), .agg x.cs] W fun e W' => e = .returned (.int .i64 (-1)) ∧ Below W.heap.size W W' :=
  (findD W r most A c T x h).mono fun e W' ⟨i, he, hb, hi⟩ => by
    rcases hi with ⟨rfl, _⟩ | ⟨j, t, rfl, hj, hk⟩
    · exact ⟨he, hb⟩
    · exact absurd hk (hx t (List.mem_of_getElem? hj))
theorem findD_yes (W : World) (r most : Nat) (A : Option Addr) (c : Nat) (T : List Tm) (x : K13) (h : DW W r most A c T) (j : Nat) (t : Tm) (hj : T[j]? = some t) (hk : t.k = x) :
    Calls Try.prog 29 #[.pointer (some ⟨r, 0, none⟩), .agg x.cs] W fun e W' => e = .returned (.int .i64 j) ∧ Below W.heap.size W W' :=
  (findD W r most A c T x h).mono fun e W' ⟨i, he, hb, hi⟩ => by
    rcases hi with ⟨rfl, hn⟩ | ⟨j', t', rfl, hj', hk'⟩
    · exact absurd hk (hn t (List.mem_of_getElem? hj))
    · have e1 : t' = t := pw_key h.ap (List.mem_of_getElem? hj') (List.mem_of_getElem? hj) (hk'.trans hk.symm)
      subst e1
      have e2 : j' = j := (List.getElem?_inj (List.getElem?_eq_some_iff.1 hj').1 (nodup_of_apart h.ap)).1 (hj'.trans hj.symm)
      rw [e2] at he
      exact ⟨he, hb⟩

set_option maxRecDepth 100000 in
set_option maxHeartbeats 1000000 in
theorem cancelD_no (W : World) (r most : Nat) (A : Option Addr) (c : Nat) (T : List Tm) (x : K13) (h : DW W r most A c T) (hx : ∀ t ∈ T, t.k ≠ x) :
    Calls Try.prog 15 #[.pointer (some ⟨r, 0, none⟩), .agg x.cs] W fun e W' => e = .returned (.bool false) ∧ Below W.heap.size W W' := by
  obtain ⟨W1, hW1⟩ : ∃ W1, W.alloc (.cells x.cs 38) = W1 := ⟨_, rfl⟩
  have b1 : Below W.heap.size W W1 := by rw [← hW1]; exact (Below.refl _ _).alloc (Nat.le_refl _) _
  have r1 : W1.heap[W.heap.size]? = some (.cells x.cs 38 (0, 0)) := by rw [← hW1]; exact heap_alloc_new _ _
  have hsz : (Try.prog.info? 38).map (·.size) = some x.cs.size := by kernel_rfl
  have h1 := h.below b1
  have K := Lib.hid (findD_no W1 r most A c T x h1 hx)
  obtain ⟨cs, hcs⟩ : ∃ cs, x.cs = cs := ⟨_, rfl⟩
  rw [hcs] at hW1 K r1 hsz
  rw [hcs]
  have HW := Lib.hid hW1
  have B1 := Lib.hid b1
  have R1 := Lib.hid r1
  have HZ := Lib.hid hsz
  clear h hW1 b1 r1 hcs hx hsz h1
  go_enter Try.func15, Try.ntmps15
  go_wp2_with (first | (refine wpList_bx rfl 38 (.tmp 1) rfl 3 rfl cs rfl ?_; rw [HW.out]) | (refine wpList_load_row rfl 38 (.tmp 3) rfl W.heap.size (by rfl) 38 cs (0, 0) _ R1.out Try.underlying38 rfl HZ.out ?_))
  refine K.out.mono ?_
  rintro e W2 ⟨rfl, b2⟩
  have B2 := Lib.hid (B1.out.trans (b2.mono B1.out.size))
  clear b2 K
  go_wp2
  go_ret
  exact ⟨rfl, B2.out⟩

set_option maxRecDepth 100000 in
set_option maxHeartbeats 3000000 in
theorem cancelD_yes (W : World) (r most : Nat) (A : Option Addr) (c : Nat) (T : List Tm) (x : K13) (h : DW W r most A c T) (i : Nat) (t : Tm) (hi : T[i]? = some t) (hk : t.k = x) :
    Calls Try.prog 15 #[.pointer (some ⟨r, 0, none⟩), .agg x.cs] W fun e W' => e = .returned (.bool true) ∧ ∃ A' c', DW W' r most A' c' (outK T x) ∧ W.grownBy W' (some r) := by
  obtain ⟨W1, hW1⟩ : ∃ W1, W.alloc (.cells x.cs 38) = W1 := ⟨_, rfl⟩
  have b1 : Below W.heap.size W W1 := by rw [← hW1]; exact (Below.refl _ _).alloc (Nat.le_refl _) _
  have r1 : W1.heap[W.heap.size]? = some (.cells x.cs 38 (0, 0)) := by rw [← hW1]; exact heap_alloc_new _ _
  have hsz : (Try.prog.info? 38).map (·.size) = some x.cs.size := by kernel_rfl
  have h1 := h.below b1
  have K := Lib.hid (findD_yes W1 r most A c T x h1 i t hi hk)
  obtain ⟨cs, hcs⟩ : ∃ cs, x.cs = cs := ⟨_, rfl⟩
  rw [hcs] at hW1 K r1 hsz
  rw [hcs]
  have hil : i < T.length := (List.getElem?_eq_some_iff.1 hi).1
  have hmid := outK_mid h.ap hi
  rw [hk] at hmid
  have HMID := Lib.hid hmid
  have hfew := h.few
  have hmost := h.most
  have hle := h.le
  obtain ⟨n, hn⟩ : ∃ n, T.length = n := ⟨_, rfl⟩
  have HN := Lib.hid hn
  have hn1 : Hid (n ≤ 512) := Lib.hid (by omega)
  have hi2 : Hid (i < n) := Lib.hid (by omega)
  rw [hn] at hle
  have HADR : Hid ((A = none ∧ c = 0) ∨ ∃ g o, A = some ⟨g, o, none⟩) := Lib.hid (by
    rcases h.adr with ⟨h1, h2, _⟩ | ⟨g, o, _, h1, _⟩
    · exact .inl ⟨h1, h2⟩
    · exact .inr ⟨g, o, h1⟩)
  have hwr : IntKind.i64.wrap ((i : Int) + 1) = (i : Int) + 1 := IntWalk.i64_in _ (by omega)
  have HWR := Lib.hid hwr
  obtain ⟨A5, h5, h5A⟩ := slFrom A n c (i + 1) (by omega) hle HADR.out
  rw [show (((i + 1 : Nat) : Int)) = (i : Int) + 1 by omega] at h5
  have HT := Lib.hid (slTo A n c i (by omega) hle HADR.out)
  have H5 := Lib.hid h5
  have H5A := Lib.hid h5A
  have HA0 : Hid (A = none → i = 0 ∧ c = 0) := Lib.hid (fun e => by
    rcases HADR.out with ⟨_, h2⟩ | ⟨g, o, h2⟩
    · have := h.le
      omega
    · rw [e] at h2
      cases h2)
  have HA5 : Hid (A5 = none → n - (i + 1) = 0 ∧ c - (i + 1) = 0) := Lib.hid (fun e => by
    rcases h5A with ⟨_, h2⟩ | ⟨g, o, o2, _, h2, _⟩
    · omega
    · rw [e] at h2
      cases h2)
  have HP := Lib.hid h
  have HW := Lib.hid hW1
  have B1 := Lib.hid b1
  have R1 := Lib.hid r1
  have HZ := Lib.hid hsz
  have hi0 : (0 : Int) ≤ (i : Int) := by omega
  clear h hW1 b1 r1 hcs hsz h1 hi hk hil hmid hfew hmost hn hle hwr h5 h5A
  go_enter Try.func15, Try.ntmps15
  go_wp2_with (first | (refine wpList_bx rfl 38 (.tmp 1) rfl 3 rfl cs rfl ?_; rw [HW.out]) | (refine wpList_load_row rfl 38 (.tmp 3) rfl W.heap.size (by rfl) 38 cs (0, 0) _ R1.out Try.underlying38 rfl HZ.out ?_))
  refine K.out.mono ?_
  rintro e W2 ⟨rfl, b2⟩
  have B2 := Lib.hid (B1.out.trans (b2.mono B1.out.size))
  clear b2 K
  go_wp2
  obtain ⟨W5, hW5⟩ : ∃ X, W2.drew = X := ⟨_, rfl⟩
  have B5 := Lib.hid (show Below W.heap.size W W5 by rw [← hW5]; exact B2.out.drew)
  have P5 := Lib.hid (HP.out.below B5.out)
  have HW5 := Lib.hid hW5
  clear hW5
  refine region_heldT (S := fun X => X.heap[r]? = some (.cells #[.slice A n c, .int .i64 most] 78 (0, 0))) 17 (by kernel_rfl) (by decide) (fun inv => ?_)
  change FirstH _ _ _ _ _ _ _ _ _ _ W2.drew
  rw [HW5.out]
  have HB5 := Lib.hid (show W5.heap[r]? = some (.cells #[.slice A n c, .int .i64 most] 78 (0, 0)) from HN.out ▸ P5.out.bag)
  have HS : W5.heap[r]? = some (.cells #[.slice A n c, .int .i64 most] 78 (0, 0)) := HB5.out
  try simp only [Act.put, List.setIfInBounds_toArray, List.set_cons_zero, List.set_cons_succ]
  refine FirstH.go (i := 0) (v := .pointer (some ⟨r, 0, none⟩)) rfl rfl _ rfl _ rfl (by kernel_rfl) (fun _ _ _ h => h) inv (fun X _ => by unfold bareO; go_simp) HS (fun inv => ?_)
  try simp only [Act.put, List.setIfInBounds_toArray, List.set_cons_zero, List.set_cons_succ]
  refine FirstH.go (i := 2) (v := .pointer (some ⟨r, 0, none⟩)) rfl rfl _ rfl _ rfl (by kernel_rfl) (fun _ _ _ h => h) inv (fun X _ => by unfold bareO; go_simp) HS (fun inv => ?_)
  try simp only [Act.put, List.setIfInBounds_toArray, List.set_cons_zero, List.set_cons_succ]
  refine FirstH.go (i := 3) (v := .pointer (some ⟨r, 0, none⟩)) rfl rfl _ rfl _ rfl (by kernel_rfl) (fun _ _ _ h => h) inv (fun X _ => by unfold bareO; go_simp) HS (fun inv => ?_)
  try simp only [Act.put, List.setIfInBounds_toArray, List.set_cons_zero, List.set_cons_succ]
  refine FirstH.go (i := 4) (v := .pointer (some ⟨r, 0, none⟩)) rfl rfl _ rfl _ rfl (by kernel_rfl) (fun _ _ _ h => h) inv (fun X _ => by unfold bareO; go_simp) HS (fun inv => ?_)
  try simp only [Act.put, List.setIfInBounds_toArray, List.set_cons_zero, List.set_cons_succ]
  refine FirstH.go (i := 5) (v := .slice A n c) rfl rfl _ rfl _ rfl (by kernel_rfl) (fun _ _ _ h => h) inv (fun X hS => by have c1 := cell_of hS 0 (.slice A n c) rfl; unfold bareO; go_simp) HS (fun inv => ?_)
  try simp only [Act.put, List.setIfInBounds_toArray, List.set_cons_zero, List.set_cons_succ]
  refine FirstH.go (i := 6) (v := .int .i64 i) rfl rfl _ rfl _ rfl (by kernel_rfl) (fun _ _ _ h => h) inv (fun X _ => by unfold bareO; go_simp) HS (fun inv => ?_)
  try simp only [Act.put, List.setIfInBounds_toArray, List.set_cons_zero, List.set_cons_succ]
  refine FirstH.go (i := 7) (v := .slice A i c) rfl rfl _ rfl _ rfl (by kernel_rfl) (fun _ _ _ h => h) inv (fun X _ => run_slB rfl rfl rfl (HT.out X)) HS (fun inv => ?_)
  try simp only [Act.put, List.setIfInBounds_toArray, List.set_cons_zero, List.set_cons_succ]
  refine FirstH.go (i := 9) (v := .pointer (some ⟨r, 0, none⟩)) rfl rfl _ rfl _ rfl (by kernel_rfl) (fun _ _ _ h => h) inv (fun X _ => by unfold bareO; go_simp) HS (fun inv => ?_)
  try simp only [Act.put, List.setIfInBounds_toArray, List.set_cons_zero, List.set_cons_succ]
  refine FirstH.go (i := 10) (v := .pointer (some ⟨r, 0, none⟩)) rfl rfl _ rfl _ rfl (by kernel_rfl) (fun _ _ _ h => h) inv (fun X _ => by unfold bareO; go_simp) HS (fun inv => ?_)
  try simp only [Act.put, List.setIfInBounds_toArray, List.set_cons_zero, List.set_cons_succ]
  refine FirstH.go (i := 11) (v := .pointer (some ⟨r, 0, none⟩)) rfl rfl _ rfl _ rfl (by kernel_rfl) (fun _ _ _ h => h) inv (fun X _ => by unfold bareO; go_simp) HS (fun inv => ?_)
  try simp only [Act.put, List.setIfInBounds_toArray, List.set_cons_zero, List.set_cons_succ]
  refine FirstH.go (i := 12) (v := .slice A n c) rfl rfl _ rfl _ rfl (by kernel_rfl) (fun _ _ _ h => h) inv (fun X hS => by have c1 := cell_of hS 0 (.slice A n c) rfl; unfold bareO; go_simp) HS (fun inv => ?_)
  try simp only [Act.put, List.setIfInBounds_toArray, List.set_cons_zero, List.set_cons_succ]
  refine FirstH.go (i := 13) (v := .int .i64 i) rfl rfl _ rfl _ rfl (by kernel_rfl) (fun _ _ _ h => h) inv (fun X _ => by unfold bareO; go_simp) HS (fun inv => ?_)
  try simp only [Act.put, List.setIfInBounds_toArray, List.set_cons_zero, List.set_cons_succ]
  refine FirstH.go (i := 14) (v := .int .i64 ((i : Int) + 1)) rfl rfl _ rfl _ rfl (by kernel_rfl) (fun _ _ _ h => h) inv (fun X _ => by have hwr := HWR.out; unfold bareO; go_simp) HS (fun inv => ?_)
  try simp only [Act.put, List.setIfInBounds_toArray, List.set_cons_zero, List.set_cons_succ]
  refine FirstH.go (i := 15) (v := .slice A5 (n - (i + 1)) (c - (i + 1))) rfl rfl _ rfl _ rfl (by kernel_rfl) (fun _ _ _ h => h) inv (fun X _ => run_slB rfl rfl rfl (H5.out X)) HS (fun inv => ?_)
  try simp only [Act.put, List.setIfInBounds_toArray, List.set_cons_zero, List.set_cons_succ]
  clear HS
  refine FirstH.only (i := 1) (by kernel_rfl) (by decide) inv (fun inv => wpOp_vl (i := 1) (v := .slice (some ⟨W5.heap.size, 0, none⟩) 0 0) (w' := W5.alloc (.cells #[] 83)) rfl rfl 12 rfl _ rfl (by unfold bareO; go_simp) ?_)
  obtain ⟨W6, hW6⟩ : ∃ x, W5.alloc (.cells #[] 83) = x := ⟨_, rfl⟩
  have o6 : W6.ownsRow W5.heap.size 83 14 (.slice (some ⟨W5.heap.size, 0, none⟩) 0 0) 0 [] := by rw [← hW6]; exact ⟨rfl, .inr ⟨W5.heap.size, 0, #[], rfl, Nat.le_refl _, heap_alloc_new _ _, Nat.le_refl _, by unfold maxLen; omega, rfl, rfl⟩⟩
  have b6 : Below W5.heap.size W5 W6 := by rw [← hW6]; exact (Below.refl _ _).alloc (Nat.le_refl _) _
  rw [hW6]
  refine ⟨(b6.block _ P5.out.rl).trans HB5.out, ?_⟩
  have O6 := Lib.hid o6
  have B6 := Lib.hid b6
  have ROW6 := Lib.hid (P5.out.below b6).row
  clear o6 b6 hW6
  try simp only [Act.put, List.setIfInBounds_toArray, List.set_cons_zero, List.set_cons_succ]
  refine FirstH.only (i := 8) (by kernel_rfl) (by decide) inv (fun inv => wpOp_appT (i := 8) rfl rfl 19 rfl (.tmp 12) (.tmp 18) rfl W5.heap.size _ 0 [] rfl O6.out A (T.take i) i c rfl (by rw [List.length_take, HN.out]; have := hi2.out; omega) HA0.out (ROW6.out.take i) (by rw [List.length_take, HN.out]; have := hi2.out; have := hn1.out; omega) B6.out.size ?_)
  intro v7 W7 O7 g7
  have hg7 : W6.grownBy W7 (some W5.heap.size) := g7
  have b7 : Below W5.heap.size W5 W7 := below_grown B6.out hg7 (fun k e => by cases e; exact Nat.le_refl _)
  refine ⟨(b7.block _ P5.out.rl).trans HB5.out, ?_⟩
  have O7' := Lib.hid O7
  have B7 := Lib.hid b7
  have ROW7 := Lib.hid (P5.out.below b7).row
  clear O7 g7 hg7 b7
  try simp only [Act.put, List.setIfInBounds_toArray, List.set_cons_zero, List.set_cons_succ]
  refine FirstH.only (i := 16) (by kernel_rfl) (by decide) inv (fun inv => wpOp_appT (i := 16) rfl rfl 27 rfl (.tmp 19) (.tmp 26) rfl W5.heap.size v7 (0 + (T.take i).length) _ rfl O7'.out A5 (T.drop (i + 1)) (n - (i + 1)) (c - (i + 1)) rfl (by rw [List.length_drop, HN.out]) HA5.out (by
    rcases H5A.out with ⟨_, h2⟩ | ⟨g, o, o2, hA, h2, h3⟩
    · intro hne
      exact absurd (List.drop_eq_nil_of_le (by have := P5.out.le; have := HN.out; omega)) hne
    · rw [h2]
      have := ROW7.out
      rw [hA] at this
      exact this.drop (i + 1) (by rw [HN.out]; exact h3)) (by rw [List.length_take, List.length_drop, HN.out]; have := hi2.out; have := hn1.out; omega) B7.out.size ?_)
  intro v8 W8 O8 g8
  have b8 : Below W5.heap.size W5 W8 := below_grown B7.out g8 (fun k hk => (O7'.out.lt k hk).1)
  have l8 := (b8.block _ P5.out.rl).trans HB5.out
  refine ⟨l8, ?_⟩
  have O8' : W8.ownsRow W5.heap.size 83 14 v8 (outK T x).length (cellsT (outK T x)) := by
    rw [← HMID.out, cellsT_append, List.length_append]
    simpa using O8
  have hsub : (outK T x).Sublist T := List.filter_sublist
  obtain ⟨A8, c8, rfl, D8, G8⟩ := HP.out.laid B5.out b8 O8' (Nat.le_trans hsub.length_le HP.out.few) (fun t ht => HP.out.rng t (hsub.subset ht)) (HP.out.srt.sublist hsub) (HP.out.ap.sublist hsub)
  have DD := Lib.hid D8
  have GG := Lib.hid G8
  obtain ⟨q, hq⟩ : ∃ q, (outK T x).length = q := ⟨_, rfl⟩
  rw [hq] at DD GG ⊢
  have c1 := cell_of l8 0 (.slice A n c) rfl
  have z1 := frz_row 0 l8
  clear O8 O8' g8 b8 l8 hsub D8 G8 hq
  try simp only [Act.put, List.setIfInBounds_toArray, List.set_cons_zero, List.set_cons_succ]
  refine ⟨by kernel_rfl, ?_⟩
  simp only [List.drop_succ_cons, List.drop_zero]
  go_wp2
  go_ret
  exact ⟨rfl, A8, c8, DD.out, GG.out⟩

theorem cancelD (W : World) (r most : Nat) (A : Option Addr) (c : Nat) (T : List Tm) (x : K13) (h : DW W r most A c T) :
    Calls Try.prog 15 #[.pointer (some ⟨r, 0, none⟩), .agg x.cs] W fun e W' => e = .returned (.bool (fAt T x).2) ∧ ∃ A' c', DW W' r most A' c' (outK T x) ∧ W.grownBy W' (some r) := by
  by_cases hx : ∃ t ∈ T, t.k = x
  · obtain ⟨t, ht, rfl⟩ := hx
    obtain ⟨i, hi, e⟩ := List.getElem_of_mem ht
    rw [fAt_yes h.ap ht]
    exact cancelD_yes W r most A c T t.k h i t (by rw [← e]; exact List.getElem?_eq_getElem hi) rfl
  · have hn : ∀ t ∈ T, t.k ≠ x := fun t ht e => hx ⟨t, ht, e⟩
    rw [fAt_no hn, outK_none hn]
    exact (cancelD_no W r most A c T x h hn).mono fun e W' ⟨he, hb⟩ => ⟨he, A, c, h.below hb, grown_of_below hb _⟩

end Go.Proofs.Ytfekkfphogjpeaa
