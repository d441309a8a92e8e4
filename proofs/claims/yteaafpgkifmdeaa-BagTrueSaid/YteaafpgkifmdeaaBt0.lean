/-
  What is told was put, or is like it, or such a one spoilt once: lists of parcels, frames. Condition: the bag lies in memory.
-/
import Derived.Test.YteaafpgkifmdeaaBdf
namespace Go.Proofs.Yteaafpgkifmdeaa
set_option linter.unusedSimpArgs false
set_option linter.unusedVariables false
open Go.RowKit Go.Sort

set_option maxRecDepth 100000 in
set_option maxHeartbeats 2000000 in
theorem take_yes2 (base b l most : Nat) (v : Value) (L : List Lp) (i : Nat) (W : World) (h : PB base W b l most v L) (hi : i < L.length) :
    Calls Try.prog 19 #[.pointer (some ⟨b, 0, none⟩), .int .i64 i] W fun e W' => e = .returned (.tuple #[.agg L[i].cs, .int .i64 0]) ∧ L[i].Ok W' base ∧ ∃ v', v'.ownBlock = v.ownBlock ∧ PB base W' b l most v' (L.take i ++ L.drop (i + 1)) ∧ KP (fun k => k = l ∨ v.ownBlock = some k) W W' := by
  obtain ⟨W1, hW1⟩ : ∃ W1, W.alloc (.cells #[.int .u8 0, .int .u16 0, .int .u8 0, .int .u16 0, .slice none 0 0, .bool false] 45) = W1 := ⟨_, rfl⟩
  have b1 : Below W.heap.size W W1 := by rw [← hW1]; exact (Below.refl _ _).alloc (Nat.le_refl _) _
  have r1 : W1.heap[W.heap.size]? = some (.cells #[.int .u8 0, .int .u16 0, .int .u8 0, .int .u16 0, .slice none 0 0, .bool false] 45 (0, 0)) := by rw [← hW1]; exact heap_alloc_new _ _
  have s1 : W1.heap.size = W.heap.size + 1 := by rw [← hW1]; simp
  have P1 := h.below b1
  have K := Lib.hid (find_yes base b l most v L i W1 P1 hi)
  obtain ⟨g, c, hv, six, hlc, hcm⟩ := P1.at_ hi
  have hmost := h.most
  have hfew := h.few
  obtain ⟨x, hx⟩ : ∃ x, L[i] = x := ⟨_, rfl⟩
  have okx := h.ok _ (List.getElem_mem hi)
  rw [hx] at six okx ⊢
  obtain ⟨n, hn⟩ : ∃ n, L.length = n := ⟨_, rfl⟩
  subst hv
  rw [hn] at K hlc hfew hi
  obtain ⟨W3, hW3⟩ : ∃ X, W1.alloc (.cells #[.int .u8 0, .int .u16 0, .int .u8 0, .int .u16 0, .slice none 0 0, .bool false] 45) = X := ⟨_, rfl⟩
  have b3 : Below W1.heap.size W1 W3 := by rw [← hW3]; exact (Below.refl _ _).alloc (Nat.le_refl _) _
  have r3 : W3.heap[W.heap.size + 1]? = some (.cells #[.int .u8 0, .int .u16 0, .int .u8 0, .int .u16 0, .slice none 0 0, .bool false] 45 (0, 0)) := by rw [← hW3, ← s1]; exact heap_alloc_new _ _
  obtain ⟨fn, fl, tn, tl, A, q, xc, bad, hcs⟩ : ∃ (fn fl tn tl : Nat) (A : Option Addr) (q xc : Nat) (bad : Bool), x.cs = #[.int .u8 fn, .int .u16 fl, .int .u8 tn, .int .u16 tl, .slice A q xc, .bool bad] := ⟨_, _, _, _, _, _, _, _, rfl⟩
  rw [hcs] at six ⊢
  obtain ⟨W4, hW4⟩ : ∃ X, W3.setRow (W.heap.size + 1) #[.int .u8 fn, .int .u16 fl, .int .u8 tn, .int .u16 tl, .slice A q xc, .bool bad] = X := ⟨_, rfl⟩
  have r4 : W4.heap[W.heap.size + 1]? = some (.cells #[.int .u8 fn, .int .u16 fl, .int .u8 tn, .int .u16 tl, .slice A q xc, .bool bad] 45 (0, 0)) := by rw [← hW4]; exact setRow_heap _ _ _ _ _ _ r3
  have b4 : Below W1.heap.size W1 W4 := by rw [← hW4]; exact below_row b3 (by omega) _
  obtain ⟨W5, hW5⟩ : ∃ X, W4.drew = X := ⟨_, rfl⟩
  have b5 : Below W1.heap.size W1 W5 := by rw [← hW5]; exact b4.drew
  have B5 := b1.trans (b5.mono b1.size)
  have P5 := h.below B5
  have r5 : W5.heap[W.heap.size + 1]? = some (.cells #[.int .u8 fn, .int .u16 fl, .int .u8 tn, .int .u16 tl, .slice A q xc, .bool bad] 45 (0, 0)) := by rw [← hW5]; exact r4
  have q5 : W5.heap[W.heap.size]? = some (.cells #[.int .u8 0, .int .u16 0, .int .u8 0, .int .u16 0, .slice none 0 0, .bool false] 45 (0, 0)) := (b5.block _ (by omega)).trans r1
  have gb := (P5.row.lt g rfl)
  have gw := (h.row.lt g rfl).2
  have hrow := P5.row
  rw [hn] at hrow
  have KD := Lib.hid (delP base g n c i L W5 gb.1 hn hi hrow)
  have h5 := P5.lst
  rw [hn] at h5
  have HS : W5.heap[b]? = some (.cells #[.pointer (some ⟨l, 0, none⟩)] 64 (0, 0)) ∧ W5.heap[l]? = some (.cells #[.int .i64 most, .slice (some ⟨g, 0, none⟩) n c] 67 (0, 0)) := ⟨P5.bag, h5⟩
  obtain ⟨c0, c1, c2, c3, c4, c5⟩ := six
  simp only [List.getElem?_toArray, List.getElem?_cons_zero, List.getElem?_cons_succ] at c0 c1 c2 c3 c4 c5
  have HX := Lib.hid hx
  have OKX := Lib.hid okx
  have HN := Lib.hid hn
  have HW := Lib.hid hW1
  have HW3 := Lib.hid hW3
  have HW4 := Lib.hid hW4
  have HW5 := Lib.hid hW5
  have HH := Lib.hid HS
  have PP5 := Lib.hid P5
  have BB5 := Lib.hid B5
  have R3 := Lib.hid r3
  have R5 := Lib.hid r5
  have Q5 := Lib.hid q5
  have HP := Lib.hid h
  have S1 := Lib.hid s1
  have hi2 : Hid (i < n) := Lib.hid hi
  have hn1 : Hid (n ≤ 2000) := Lib.hid (by omega)
  have GW := Lib.hid gw
  have hwr : IntKind.i64.wrap ((i : Int) + 1) = (i : Int) + 1 := IntWalk.i64_in _ (by omega)
  have HWR := Lib.hid hwr
  clear h hW1 b1 r1 s1 P1 hx okx hn hlc hcm hfew hi hW3 b3 r3 hcs hW4 r4 b4 hW5 b5 B5 P5 r5 q5 gb gw hrow h5 HS hmost hwr
  go_enter Try.func19, Try.ntmps19
  go_wp2_with (rw [HW.out])
  refine K.out.mono ?_
  rintro e w' ⟨⟨g', c', e', rfl⟩, rfl⟩
  obtain ⟨rfl, -⟩ : g = g' ∧ c = c' := by simp at e'; exact e'
  clear e' K
  go_wp2_with (first
    | (rw [HW3.out])
    | (refine wpList_store_row rfl 45 (.tmp 8) (.tmp 21) rfl (W.heap.size + 1) #[.int .u8 fn, .int .u16 fl, .int .u8 tn, .int .u16 tl, .slice A q xc, .bool bad] (by rw [← S1.out]; rfl) (by rfl) 45 #[.int .u8 0, .int .u16 0, .int .u8 0, .int .u16 0, .slice none 0 0, .bool false] R3.out (by kernel_rfl) rfl (by simp [Value.oneCell']) ?_; rw [HW4.out]))
  refine region_heldT (S := fun X => X.heap[b]? = some (.cells #[.pointer (some ⟨l, 0, none⟩)] 64 (0, 0)) ∧ X.heap[l]? = some (.cells #[.int .i64 most, .slice (some ⟨g, 0, none⟩) n c] 67 (0, 0))) 15 (by kernel_rfl) (by decide) (fun inv => ?_)
  change FirstH _ _ _ _ _ _ _ _ _ _ W4.drew
  rw [HW5.out]
  have HS := HH.out
  try simp only [Act.put, List.setIfInBounds_toArray, List.set_cons_zero, List.set_cons_succ]
  refine FirstH.go (i := 0) (v := .pointer (some ⟨b, 0, none⟩)) rfl rfl _ rfl _ rfl (by kernel_rfl) (fun _ _ _ h => h) inv (fun X _ => by unfold bareO; go_simp) HS (fun inv => ?_)
  try simp only [Act.put, List.setIfInBounds_toArray, List.set_cons_zero, List.set_cons_succ]
  refine FirstH.go (i := 1) (v := .pointer (some ⟨b, 0, none⟩)) rfl rfl _ rfl _ rfl (by kernel_rfl) (fun _ _ _ h => h) inv (fun X _ => by unfold bareO; go_simp) HS (fun inv => ?_)
  try simp only [Act.put, List.setIfInBounds_toArray, List.set_cons_zero, List.set_cons_succ]
  refine FirstH.go (i := 2) (v := .pointer (some ⟨b, 0, none⟩)) rfl rfl _ rfl _ rfl (by kernel_rfl) (fun _ _ _ h => h) inv (fun X _ => by unfold bareO; go_simp) HS (fun inv => ?_)
  try simp only [Act.put, List.setIfInBounds_toArray, List.set_cons_zero, List.set_cons_succ]
  refine FirstH.go (i := 3) (v := .pointer (some ⟨l, 0, none⟩)) rfl rfl _ rfl _ rfl (by kernel_rfl) (fun _ _ _ h => h) inv (fun X hS => by have c1 := cell_of hS.1 0 (.pointer (some ⟨l, 0, none⟩)) rfl; unfold bareO; go_simp) HS (fun inv => ?_)
  try simp only [Act.put, List.setIfInBounds_toArray, List.set_cons_zero, List.set_cons_succ]
  refine FirstH.go (i := 4) (v := .pointer (some ⟨b, 0, none⟩)) rfl rfl _ rfl _ rfl (by kernel_rfl) (fun _ _ _ h => h) inv (fun X _ => by unfold bareO; go_simp) HS (fun inv => ?_)
  try simp only [Act.put, List.setIfInBounds_toArray, List.set_cons_zero, List.set_cons_succ]
  refine FirstH.go (i := 5) (v := .pointer (some ⟨b, 0, none⟩)) rfl rfl _ rfl _ rfl (by kernel_rfl) (fun _ _ _ h => h) inv (fun X _ => by unfold bareO; go_simp) HS (fun inv => ?_)
  try simp only [Act.put, List.setIfInBounds_toArray, List.set_cons_zero, List.set_cons_succ]
  refine FirstH.go (i := 6) (v := .pointer (some ⟨b, 0, none⟩)) rfl rfl _ rfl _ rfl (by kernel_rfl) (fun _ _ _ h => h) inv (fun X _ => by unfold bareO; go_simp) HS (fun inv => ?_)
  try simp only [Act.put, List.setIfInBounds_toArray, List.set_cons_zero, List.set_cons_succ]
  refine FirstH.go (i := 7) (v := .pointer (some ⟨l, 0, none⟩)) rfl rfl _ rfl _ rfl (by kernel_rfl) (fun _ _ _ h => h) inv (fun X hS => by have c1 := cell_of hS.1 0 (.pointer (some ⟨l, 0, none⟩)) rfl; unfold bareO; go_simp) HS (fun inv => ?_)
  try simp only [Act.put, List.setIfInBounds_toArray, List.set_cons_zero, List.set_cons_succ]
  refine FirstH.go (i := 8) (v := .pointer (some ⟨l, 0, none⟩)) rfl rfl _ rfl _ rfl (by kernel_rfl) (fun _ _ _ h => h) inv (fun X _ => by unfold bareO; go_simp) HS (fun inv => ?_)
  try simp only [Act.put, List.setIfInBounds_toArray, List.set_cons_zero, List.set_cons_succ]
  refine FirstH.go (i := 9) (v := .pointer (some ⟨l, 1, none⟩)) rfl rfl _ rfl _ rfl (by kernel_rfl) (fun _ _ _ h => h) inv (fun X _ => by unfold bareO; go_simp) HS (fun inv => ?_)
  try simp only [Act.put, List.setIfInBounds_toArray, List.set_cons_zero, List.set_cons_succ]
  refine FirstH.go (i := 10) (v := .slice (some ⟨g, 0, none⟩) n c) rfl rfl _ rfl _ rfl (by kernel_rfl) (fun _ _ _ h => h) inv (fun X hS => by have c1 := cell_of hS.2 1 (.slice (some ⟨g, 0, none⟩) n c) rfl; unfold bareO; go_simp) HS (fun inv => ?_)
  try simp only [Act.put, List.setIfInBounds_toArray, List.set_cons_zero, List.set_cons_succ]
  refine FirstH.go (i := 11) (v := .int .i64 i) rfl rfl _ rfl _ rfl (by kernel_rfl) (fun _ _ _ h => h) inv (fun X _ => by unfold bareO; go_simp) HS (fun inv => ?_)
  try simp only [Act.put, List.setIfInBounds_toArray, List.set_cons_zero, List.set_cons_succ]
  refine FirstH.go (i := 12) (v := .int .i64 i) rfl rfl _ rfl _ rfl (by kernel_rfl) (fun _ _ _ h => h) inv (fun X _ => by unfold bareO; go_simp) HS (fun inv => ?_)
  try simp only [Act.put, List.setIfInBounds_toArray, List.set_cons_zero, List.set_cons_succ]
  refine FirstH.go (i := 13) (v := .int .i64 ((i : Int) + 1)) rfl rfl _ rfl _ rfl (by kernel_rfl) (fun _ _ _ h => h) inv (fun X _ => by have hwr := HWR.out; unfold bareO; go_simp) HS (fun inv => ?_)
  try simp only [Act.put, List.setIfInBounds_toArray, List.set_cons_zero, List.set_cons_succ]
  clear HS
  refine FirstH.only (i := 14) (by kernel_rfl) (by decide) inv (fun inv => wpOp_call (i := 14) rfl rfl 36 rfl _ rfl 36 #[.slice (some ⟨g, 0, none⟩) n c, .int .i64 i, .int .i64 ((i : Int) + 1)] (by unfold bareO; go_simp) KD.out ?_)
  rintro e W6 ⟨rfl, o6, k6⟩
  have lt : ∀ {k : Nat} {o : Obj}, W5.heap[k]? = some o → k < W5.heap.size := fun h => (Array.getElem?_eq_some_iff.1 h).1
  obtain ⟨cg, hcg⟩ := row_block PP5.out.row (g := g) rfl
  have nb : b ≠ g := apart_of PP5.out.bag hcg (by decide)
  have nl : l ≠ g := apart_of PP5.out.lst hcg (by decide)
  have bag6 := (k6.block b (lt PP5.out.bag) nb).trans PP5.out.bag
  have lst6 : W6.heap[l]? = some (.cells #[.int .i64 most, .slice (some ⟨g, 0, none⟩) n c] 67 (0, 0)) := (k6.block l (lt PP5.out.lst) nl).trans HH.out.2
  refine ⟨_, rfl, ⟨bag6, lst6⟩, ?_⟩
  have s5 := S1.out
  have gw := GW.out
  have q6 := (k6.block _ (lt Q5.out) (by omega)).trans Q5.out
  have r6 := (k6.block _ (lt R5.out) (by omega)).trans R5.out
  have bl : b ≠ l := apart_of PP5.out.bag PP5.out.lst (by decide)
  have bw := (Array.getElem?_eq_some_iff.1 HP.out.bag).1
  have lw := (Array.getElem?_eq_some_iff.1 HP.out.lst).1
  have c1 := cell_of lst6 1 (.slice (some ⟨g, 0, none⟩) n c) rfl
  have z1 := frz_row 1 lst6
  have O6 := Lib.hid o6
  have K6 := Lib.hid k6
  have Q6 := Lib.hid q6
  have R6 := Lib.hid r6
  have BAG6 := Lib.hid bag6
  have LST6 := Lib.hid lst6
  have NB := Lib.hid nb
  have NL := Lib.hid nl
  have BL := Lib.hid bl
  have HCG := Lib.hid hcg
  have BW := Lib.hid bw
  have LW := Lib.hid lw
  clear o6 k6 q6 r6 bag6 lst6 nb nl bl hcg bw lw s5 gw lt
  try simp only [Act.put, List.setIfInBounds_toArray, List.set_cons_zero, List.set_cons_succ]
  refine ⟨by kernel_rfl, ?_⟩
  simp only [List.drop_succ_cons, List.drop_zero]
  go_wp2_with (first
    | (refine wpList_load_row rfl 45 (.tmp 8) rfl (W.heap.size + 1) (by rw [← S1.out]; rfl) 45 #[.int .u8 fn, .int .u16 fl, .int .u8 tn, .int .u16 tl, .slice A q xc, .bool bad] (0, 0) _ (other_set R6.out (by have := LW.out; omega) _) Try.underlying45 rfl (by kernel_rfl) ?_)
    | (refine wpList_store_row rfl 45 (.tmp 4) (.tmp 39) rfl W.heap.size #[.int .u8 fn, .int .u16 fl, .int .u8 tn, .int .u16 tl, .slice A q xc, .bool bad] (by rfl) (by rfl) 45 #[.int .u8 0, .int .u16 0, .int .u8 0, .int .u16 0, .slice none 0 0, .bool false] (other_set Q6.out (by have := LW.out; omega) _) (by kernel_rfl) rfl (by simp [Value.oneCell']) ?_))
  have lt : ∀ {k : Nat} {o : Obj}, W5.heap[k]? = some o → k < W5.heap.size := fun h => (Array.getElem?_eq_some_iff.1 h).1
  have lw := LW.out
  have ER := setRow_heap _ W.heap.size _ #[.int .u8 fn, .int .u16 fl, .int .u8 tn, .int .u16 tl, .slice A q xc, .bool bad] _ _ (other_set Q6.out (show W.heap.size ≠ l by omega) (i := 1) (.slice (some ⟨g, 0, none⟩) (n - 1) c))
  obtain ⟨WF, hWF⟩ : ∃ X, (W6.setCell ⟨l, 1, none⟩ (.slice (some ⟨g, 0, none⟩) (n - 1) c)).setRow W.heap.size #[.int .u8 fn, .int .u16 fl, .int .u8 tn, .int .u16 tl, .slice A q xc, .bool bad] = X := ⟨_, rfl⟩
  rw [hWF] at ER ⊢
  have far : ∀ (k : Nat) (c' : Array Value) (t : TypeId), W5.heap[k]? = some (.cells c' t (0, 0)) → t ≠ 45 → t ≠ 67 → WF.heap[k]? = some (.cells c' t (0, 0)) := fun k c' t h1 h2 h3 => by
    rw [← hWF]
    refine setRow_at (other_set ((K6.out.block k (lt h1) (apart_of h1 HCG.out h2)).trans h1) (apart_of h1 HH.out.2 h3) _) (apart_of h1 Q5.out h2) _
  have ok7 : ∀ (z : Lp), z.Ok W base → z.Ok WF base := fun z hz => hz.keep fun k cur _ _ _ hk => far k cur _ ((BB5.out.block k (Array.getElem?_eq_some_iff.1 hk).1).trans hk) (by decide) (by decide)
  refine bodyPost_ret (v := .tuple #[.agg #[.int .u8 fn, .int .u16 fl, .int .u8 tn, .int .u16 tl, .slice A q xc, .bool bad], .int .i64 0]) (results_cell2_row (p := 4) (u := 5) (ty := 45) rfl _ _ W.heap.size 45 _ (0, 0) _ (by rfl) ER Try.underlying45 rfl (by kernel_rfl)) rfl ⟨rfl, ok7 x OKX.out, .slice (some ⟨g, 0, none⟩) (n - 1) c, rfl, ?_, ?_⟩
  · have hi2' := hi2.out
    have e1 : (L.take i ++ L.drop (i + 1)).length = n - 1 := by
      rw [List.length_append, List.length_take, List.length_drop, HN.out]
      omega
    have e2 : (L.take i ++ L.drop (i + 1)).Sublist L := by
      have := List.eraseIdx_sublist L i
      rwa [List.eraseIdx_eq_take_drop_succ] at this
    refine ⟨HP.out.hb, HP.out.hl, far _ _ _ PP5.out.bag (by decide) (by decide), ?_, ?_, fun z hz => ok7 z (HP.out.ok z (e2.subset hz)), HP.out.ap.sublist e2, by rw [e1]; have := HP.out.few; rw [HN.out] at this; omega, HP.out.most⟩
    · rw [← hWF]
      exact (setRow_at (row_set LST6.out _) (by omega) _).trans rfl
    · rw [e1, ← hWF]
      have h1 := O6.out.kept (w' := W6.setCell ⟨l, 1, none⟩ (.slice (some ⟨g, 0, none⟩) (n - 1) c)) (row := some l) ⟨rfl, rfl, rfl, by simp [World.setCell], fun k _ hk => Below.heap_setCell _ _ _ _ (by simpa using hk)⟩ (.inr fun e => NL.out (by injection e with e; exact e.symm))
      exact h1.kept (row := some W.heap.size) ⟨rfl, rfl, rfl, by simp [World.setRow], fun k _ hk => setRow_other _ _ _ _ (by simpa using hk)⟩ (.inr fun e => by have e' : g = W.heap.size := (by simpa [Value.ownBlock] using e); have := GW.out; omega)
  · rw [← hWF]
    have k1 : KP (fun k => k = l ∨ (Value.slice (some ⟨g, 0, none⟩) L.length c).ownBlock = some k) W W6 := (KP.of_below BB5.out).trans (K6.out.mono fun k hk => .inr (by rw [hk]; rfl)) fun _ _ h => h
    have k2 := k1.trans (KP.set (S := fun k => k = l) W6 l 1 (.slice (some ⟨g, 0, none⟩) (n - 1) c) rfl) fun k _ hk => .inl hk
    exact k2.trans (KP.setRow (S := fun k => k = W.heap.size) _ W.heap.size #[.int .u8 fn, .int .u16 fl, .int .u8 tn, .int .u16 tl, .slice A q xc, .bool bad] rfl) fun k h1 h2 => absurd (show k = W.heap.size from h2) (by omega)



/-- like one that was put, or such a one spoilt once. -/
def Like (p q : Pc) : Prop := p.fn = q.fn ∧ p.fl = q.fl ∧ p.tn = q.tn ∧ p.tl = q.tl ∧ ((p.bad = false ∧ p.B = q.B) ∨ (p.bad = true ∧ ∃ a m, p.B = xorAt q.B a (maskB m) 4 ∧ a + 4 ≤ q.B.length ∧ 0 < m ∧ m < 4294967296))
def Told (ps : List Pc) (Q : List Lp) : Prop := ∀ p ∈ ps, ∃ q ∈ Q, Like p q.p
theorem inP_mem {i : Int} {ps : List Pc} (h : inP i ps) : ps.getD i.toNat zPc ∈ ps := by
  have hl : i.toNat < ps.length := by unfold inP at h; omega
  rw [List.getD_eq_getElem?_getD, List.getElem?_eq_getElem hl]
  exact List.getElem_mem hl
theorem Told.put {most : Nat} {ps : List Pc} {Q : List Lp} (h : Told ps Q) (y : Lp) (hb : y.p.bad = false) : Told (fPut most y.p ps).1 (Q ++ [y]) := by
  have h2 : Told ps (Q ++ [y]) := fun p hp => by
    obtain ⟨q, hq, hl⟩ := h p hp
    exact ⟨q, List.mem_append_left _ hq, hl⟩
  unfold fPut
  split
  · intro p hp
    rcases List.mem_append.1 hp with hp | hp
    · exact h2 p hp
    · obtain rfl : p = y.p := by simpa using hp
      exact ⟨y, by simp, rfl, rfl, rfl, rfl, .inl ⟨hb, rfl⟩⟩
  · exact h2
theorem Told.twice {most : Nat} {ps : List Pc} {Q : List Lp} (h : Told ps Q) (i : Int) : Told (fTwice most i ps).1 Q := by
  unfold fTwice
  split
  · rename_i hi
    unfold fPut
    split
    · intro p hp
      rcases List.mem_append.1 hp with hp | hp
      · exact h p hp
      · obtain rfl : p = ps.getD i.toNat zPc := by simpa using hp
        exact h _ (inP_mem hi)
    · exact h
  · exact h
theorem Told.sub {ps qs : List Pc} {Q : List Lp} (h : Told ps Q) (hs : ∀ p ∈ qs, p ∈ ps) : Told qs Q := fun p hp => h p (hs p hp)
theorem Told.spoil {ps : List Pc} {Q : List Lp} (h : Told ps Q) (i a : Int) (m : Nat) (hm : m < 4294967296) : Told (fSpoil i a m ps).1 Q := by
  unfold fSpoil
  split
  · rename_i hi
    split
    · rename_i he
      intro p hp
      rcases List.mem_or_eq_of_mem_set hp with hp | hp
      · exact h p hp
      · obtain ⟨q, hq, l1, l2, l3, l4, l5⟩ := h _ (inP_mem hi)
        obtain ⟨x, hx⟩ : ∃ x, ps.getD i.toNat zPc = x := ⟨_, rfl⟩
        rw [hx] at hp he l1 l2 l3 l4 l5
        subst hp
        unfold pErr at he
        split at he
        · omega
        · rename_i hbad
          split at he
          · omega
          · split at he
            · omega
            · rename_i hm0 hr
              rcases l5 with ⟨h6, h7⟩ | ⟨h6, _⟩
              · refine ⟨q, hq, l1, l2, l3, l4, .inr ⟨rfl, a.toNat, m, by show xorAt x.B _ _ 4 = _; rw [h7], by rw [← h7]; omega, by omega, hm⟩⟩
              · exact absurd h6 hbad
    · exact h
  · exact h
theorem take_sub {i : Int} {ps : List Pc} : ∀ p ∈ fTake i ps, p ∈ ps := fun p hp => by
  unfold fTake at hp
  split at hp
  · rcases List.mem_append.1 hp with hp | hp
    · exact List.mem_of_mem_take hp
    · exact List.mem_of_mem_drop hp
  · exact hp
theorem like_facts {p q : Pc} {d : Int} (h : Like p q) (hd : DifOk q.B p.B d) : p.fn = q.fn ∧ p.fl = q.fl ∧ p.tn = q.tn ∧ p.tl = q.tl ∧ ((d = 0 ∧ p.bad = false) ∨ (1 ≤ d ∧ d ≤ 4 ∧ p.bad = true)) := by
  obtain ⟨h1, h2, h3, h4, h5⟩ := h
  refine ⟨h1, h2, h3, h4, ?_⟩
  rcases h5 with ⟨h6, h7⟩ | ⟨h6, a, m, h7, h8, h9, h10⟩
  · exact .inl ⟨hd.2.2.1 h7.symm, h6⟩
  · have := hd.2.2.2 a m h7 h8 h9 h10
    exact .inr ⟨this.1, this.2, h6⟩

section
variable {base b l most : Nat} {v : Value} {L : List Lp} {W W' : World}
theorem PB.far (h : PB base W b l most v L) (hs : KP (PS l v L) W W') (hW : base ≤ W.heap.size) : Below base W W' ∧ (∀ (k : Nat) (c : Array Value) (t : TypeId), W.heap[k]? = some (.cells c t (0, 0)) → t ≠ 67 → t ≠ 45 → t ≠ 5 → W'.heap[k]? = some (.cells c t (0, 0))) := by
  have hbase : ∀ k, PS l v L k → base ≤ k := fun k hk => by
    rcases hk with hk | hk | ⟨x, hx, hn, hk⟩
    · rw [hk]; exact h.hl
    · exact (h.row.lt k hk).1
    · rw [← hk]; exact ((h.ok x hx).lt hn).1
  have lt : ∀ {k : Nat} {o : Obj}, W.heap[k]? = some o → k < W.heap.size := fun h => (Array.getElem?_eq_some_iff.1 h).1
  refine ⟨hs.below hW hbase, fun k c t hk h5 h6 h7 => (hs.block k (lt hk) fun hp => ?_).trans hk⟩
  rcases hp with hs | hs | ⟨x, hx, hn, hs⟩
  · exact apart_of hk h.lst h5 hs
  · obtain ⟨cv, hcv⟩ := row_block h.row hs
    exact apart_of hk hcv h6 rfl
  · obtain ⟨cv, hcv⟩ := (h.ok x hx).block hn
    exact apart_of hk hcv h7 hs.symm
theorem PB.PS_lt (h : PB base W b l most v L) {k : Nat} (hk : PS l v L k) : k < W.heap.size := by
  rcases hk with hk | hk | ⟨x, hx, hn, hk⟩
  · rw [hk]; exact (Array.getElem?_eq_some_iff.1 h.lst).1
  · exact (h.row.lt k hk).2
  · rw [← hk]; exact ((h.ok x hx).lt hn).2
theorem PB.setBox (h : PB base W b l most v L) {k0 : Nat} {cs0 : Array Value} (hk : W.heap[k0]? = some (.cells cs0 45 (0, 0))) (hv : v.ownBlock ≠ some k0) (row : Array Value) : PB base (W.setRow k0 row) b l most v L := h.keep fun k _ hs => setRow_other W k0 k row fun e => by
  subst e
  rcases hs with hs | hs | hs | ⟨x, hx, hn, hs⟩
  · exact apart_of hk h.bag (by decide) hs
  · exact apart_of hk h.lst (by decide) hs
  · exact hv hs
  · obtain ⟨cv, hcv⟩ := (h.ok x hx).block hn
    exact apart_of hk hcv (by decide) hs.symm
theorem PB.grown (h : PB base W b l most v L) {row : Option Nat} (g : W.grownBy W' row) (hr : ∀ k, row = some k → ∃ cur, W.heap[k]? = some (.cells cur 36 (0, 0))) : PB base W' b l most v L := h.keep fun k hk hs => g.block k hk fun e => by
  obtain ⟨cur, hc⟩ := hr k e.symm
  rcases hs with hs | hs | hs | ⟨x, hx, hn, hs⟩
  · exact apart_of hc h.bag (by decide) hs
  · exact apart_of hc h.lst (by decide) hs
  · obtain ⟨cv, hcv⟩ := row_block h.row hs
    exact apart_of hc hcv (by decide) rfl
  · obtain ⟨cv, hcv⟩ := (h.ok x hx).block hn
    exact apart_of hc hcv (by decide) hs.symm

/-- what Take and Look tell. -/
def Tell (base b l most : Nat) (v : Value) (L : List Lp) (W : World) (e : Ending) (W' : World) : Prop := ∃ (y : Lp) (z : Nat) (v' : Value) (L' : List Lp), e = .returned (.tuple #[.agg y.cs, .int .i64 z]) ∧ ((z = 0 ∧ y.p ∈ L.map Lp.p) ∨ z = 3) ∧ y.Ok W' base ∧ PB base W' b l most v' L' ∧ (∀ p ∈ L'.map Lp.p, p ∈ L.map Lp.p) ∧ v'.ownBlock = v.ownBlock ∧ KP (PS l v L) W W'
theorem lookT (i : Int) (h : PB base W b l most v L) (hb : base ≤ W.heap.size) :
    Calls Try.prog 13 #[.pointer (some ⟨b, 0, none⟩), .int .i64 i] W fun e W' => Tell base b l most v L W e W' := by
  by_cases hi : inP i (L.map Lp.p)
  · obtain ⟨k, rfl, hk, e⟩ := inP_yes hi
    refine (look_yes base b l most v L k W h hk).mono ?_
    rintro e W' ⟨y, rfl, h1, h2, h3⟩
    exact ⟨y, 0, v, L, rfl, .inl ⟨rfl, by rw [h1]; exact List.mem_map_of_mem (List.getElem_mem hk)⟩, h2.lower hb, h.below h3, fun _ hp => hp, rfl, KP.of_below h3⟩
  · refine (look_no base b l most v L i W h (inP_no hi)).mono ?_
    rintro e W' ⟨rfl, h3⟩
    exact ⟨zLp, 3, v, L, rfl, .inr rfl, zOk _ _, h.below h3, fun _ hp => hp, rfl, KP.of_below h3⟩
theorem takeT (i : Int) (h : PB base W b l most v L) (hb : base ≤ W.heap.size) :
    Calls Try.prog 19 #[.pointer (some ⟨b, 0, none⟩), .int .i64 i] W fun e W' => Tell base b l most v L W e W' := by
  by_cases hi : inP i (L.map Lp.p)
  · obtain ⟨k, rfl, hk, e⟩ := inP_yes hi
    refine (take_yes2 base b l most v L k W h hk).mono ?_
    rintro e W' ⟨rfl, h1, v', h0, h2, h3⟩
    have e2 : (L.take k ++ L.drop (k + 1)).Sublist L := by
      have := List.eraseIdx_sublist L k
      rwa [List.eraseIdx_eq_take_drop_succ] at this
    refine ⟨L[k], 0, v', _, rfl, .inl ⟨rfl, List.mem_map_of_mem (List.getElem_mem hk)⟩, h1, h2, fun p hp => (e2.map Lp.p).subset hp, h0, h3.mono fun k hk => ?_⟩
    rcases hk with hk | hk
    · exact .inl hk
    · exact .inr (.inl hk)
  · refine (take_no base b l most v L i W h (inP_no hi)).mono ?_
    rintro e W' ⟨rfl, h3⟩
    exact ⟨zLp, 3, v, L, rfl, .inr rfl, zOk _ _, h.below h3, fun _ hp => hp, rfl, KP.of_below h3⟩
end

/-- what was put. -/
structure JQ (base m : Nat) (vq : Value) (Q : List Lp) (W : World) : Prop where
  len : Q.length = m
  row : W.ownsRow base 36 6 vq m (cellsL Q)
  each : ∀ q ∈ Q, BytesAt W base q.A q.p.B ∧ q.p.B.length ≤ 6000
section
variable {base m : Nat} {vq : Value} {Q : List Lp} {W W' : World}
theorem JQ.keep (h : JQ base m vq Q W) (hb : Below base W W') (ht : ∀ (k : Nat) (c : Array Value), W.heap[k]? = some (.cells c 36 (0, 0)) → W'.heap[k]? = some (.cells c 36 (0, 0))) : JQ base m vq Q W' := by
  refine ⟨h.len, ⟨h.row.1, ?_⟩, fun q hq => ⟨(h.each q hq).1.below hb (Nat.le_refl _) (Nat.le_refl _), (h.each q hq).2⟩⟩
  rcases h.row.2 with hn | ⟨g, cap, cur, rfl, hb, hgg, rest⟩
  · exact .inl hn
  · exact .inr ⟨g, cap, cur, rfl, hb, ht g cur hgg, rest⟩
theorem JQ.below (h : JQ base m vq Q W) (hb : Below W.heap.size W W') (hbase : base ≤ W.heap.size) : JQ base m vq Q W' := h.keep (hb.mono hbase) fun k c hk => (hb.block k (Array.getElem?_eq_some_iff.1 hk).1).trans hk
theorem JQ.slice (h : JQ base m vq Q W) : ∃ A c, vq = .slice A m c := by
  rcases h.row.2 with ⟨rfl, h0⟩ | ⟨g, cap, cur, rfl, _⟩
  · exact ⟨none, 0, by rw [h0]⟩
  · exact ⟨_, _, rfl⟩
theorem JQ.at_ (h : JQ base m vq Q W) {k : Nat} (hk : k < Q.length) : ∃ g c, vq = .slice (some ⟨g, 0, none⟩) m c ∧ Six W g (k * 6) Q[k].cs ∧ g < W.heap.size := by
  have hr := h.row
  have hl := h.len
  rcases h.row.2 with ⟨rfl, h0⟩ | ⟨g, cap, cur, rfl, _, hg, h1, h2, _⟩
  · omega
  · exact ⟨g, cap, rfl, Six.of_row hr (List.getElem?_eq_getElem hk), (Array.getElem?_eq_some_iff.1 hg).1⟩
end
/-- what holds from round to round. -/
def JT (base b l m : Nat) (vq : Value) (W : World) : Prop := ∃ v L Q, PB base W b l 200 v L ∧ Told (L.map Lp.p) Q ∧ JQ base m vq Q W
theorem JT.below {base b l m : Nat} {vq : Value} {W W' : World} (h : JT base b l m vq W) (hb : Below W.heap.size W W') (hbase : base ≤ W.heap.size) : JT base b l m vq W' := by
  obtain ⟨v, L, Q, h1, h2, h3⟩ := h
  exact ⟨v, L, Q, h1.below hb, h2, h3.below hb hbase⟩
theorem jt_step {base b l m : Nat} {v vq : Value} {L Q : List Lp} {ps : List Pc} {W W' : World} (h : PB base W b l 200 v L) (hs : PStep base b l 200 v L ps W W') (ht : Told ps Q) (hq : JQ base m vq Q W) (hb : base ≤ W.heap.size) : JT base b l m vq W' ∧ Below base W W' := by
  obtain ⟨v', L', h1, h2, h3, h4⟩ := hs
  have hf := h.far h4 hb
  exact ⟨⟨v', L', Q, h1, by rw [h2]; exact ht, hq.keep hf.1 fun k c hk => hf.2 k c _ hk (by decide) (by decide) (by decide)⟩, hf.1⟩
theorem jt_put {base b l m : Nat} {v vq v7 : Value} {L Q : List Lp} {y : Lp} {W W' : World} (h : PB base W b l 200 v L) (ht : Told (L.map Lp.p) (Q ++ [y])) (hq : JQ base m vq Q W) (hb : base ≤ W.heap.size) (ho : W'.ownsRow base 36 6 v7 (m + 1) (cellsL Q ++ cellsL [y])) (hg : W.grownBy W' vq.ownBlock) (hy : BytesAt W base y.A y.p.B ∧ y.p.B.length ≤ 6000) : JT base b l (m + 1) v7 W' ∧ Below base W W' := by
  have hB : Below base W W' := (Below.refl _ _).grown hg hb fun k hk => (hq.row.lt k hk).1
  refine ⟨⟨v, L, Q ++ [y], h.grown hg fun k hk => row_block hq.row hk, ht, by rw [List.length_append, hq.len]; rfl, by rw [cellsL_append]; exact ho, fun q hm => ?_⟩, hB⟩
  rcases List.mem_append.1 hm with hm | hm
  · exact ⟨(hq.each q hm).1.below hB (Nat.le_refl _) (Nat.le_refl _), (hq.each q hm).2⟩
  · obtain rfl : q = y := by simpa using hm
    exact ⟨hy.1.below hB (Nat.le_refl _) (Nat.le_refl _), hy.2⟩

end Go.Proofs.Yteaafpgkifmdeaa
