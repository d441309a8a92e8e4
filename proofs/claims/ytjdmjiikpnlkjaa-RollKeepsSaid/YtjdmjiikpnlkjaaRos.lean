/-
  The law's field: a step. Condition: all lies in memory; numbers are of 64 bits.
-/
import Derived.Test.YtjdmjiikpnlkjaaRor
import Derived.Deep.MidRow
import Derived.Deep.WholeRow
import Derived.Deep.Upon
namespace Go.Proofs.Ytjdmjiikpnlkjaa
set_option linter.unusedSimpArgs false
set_option linter.unusedVariables false
open Go.RowKit Go.Maps Go.Sort
open V (P2)

/-- what a step leaves behind. -/
def StepR (base : Nat) (W W' : World) (a : Fa) (R : Nat → Rd) (c : Nat) : Prop := ∃ a' R' F' c', FM base W' a' R' F' c' ∧ a'.bf = a.bf ∧ a'.n = a.n ∧ Inv a.n R' (F'.map Tl.p) ∧ Held a.n R R' ∧ c' ≤ c + 1 ∧ Below base W W'
theorem Inv.add {n : Nat} {R : Nat → Rd} {F : List Tp} (h : Inv n R F) (v : EV) (hc : ((R 0).addD true v).commit ≤ ((R 0).addD true v).L.length) (hl : ((R 0).addD true v).L.length ≤ 400) : Inv n (up R 0 ((R 0).addD true v)) F := by
  unfold Rd.addD at hc hl ⊢
  split
  · rename_i hy
    rw [if_pos hy] at hc hl
    refine h.counted { (R 0) with L := (R 0).L ++ [v] } [v] rfl rfl rfl rfl (fun i hi h1 => h.told i hi h1) rfl hl ?_
    have : max (R 0).commit (Rd.top { (R 0) with L := (R 0).L ++ [v] }) ≤ ((R 0).L ++ [v]).length := hc
    show Rd.top { (R 0) with L := (R 0).L ++ [v] } ≤ ((R 0).L ++ [v]).length
    omega
  · refine h.head _ [] rfl rfl rfl (by simp) (fun i hi hi1 => h.told i hi hi1) (Nat.le_refl _) (h.com 0 h.pos) ?_
    rcases h.maj with e | e
    · exact .inl e
    · refine .inr (Nat.le_trans e (many_mono fun i hi hp => ?_))
      simp only [decide_eq_true_eq] at hp ⊢
      by_cases e : i = 0
      · subst e
        rw [up_same]
        exact hp
      · rw [up_ne _ _ e]
        exact hp
theorem take_self {α : Type} {X l : List α} {k : Nat} (h : X = l.take k) : X = l.take X.length := by
  rcases Nat.le_total k l.length with e | e
  · have : X.length = k := by rw [h, List.length_take]; omega
    rw [this]
    exact h
  · have h2 : X = l := by rw [h, List.take_of_length_le e]
    rw [h2, List.take_length]
theorem Inv.snoc {n : Nat} {R : Nat → Rd} {F : List Tp} (h : Inv n R F) (t : Tp) (ht : (t.to = 0 → 1 ≤ t.co ∧ t.co < n ∧ t.fr ≤ (R t.co).L.length) ∧ (t.to ≠ 0 → t.to < n ∧ t.co ≤ (R 0).commit ∧ t.fr ≤ (R 0).L.length ∧ t.X = ((R 0).L.drop t.fr).take t.X.length)) : Inv n R (F ++ [t]) :=
  ⟨h.pos, h.five, h.M, h.pre, h.com, h.top, h.told, h.maj, fun s hs => by
    rcases List.mem_append.1 hs with hs | hs
    · exact h.fly s hs
    · obtain rfl : s = t := by simpa using hs
      exact ht⟩
theorem wp_appZ {P : Program} {w : World} {o : Oper} {a : Act} {K : Act → World → Prop} {Q : Exit → Act → World → Prop} (d : Tmp) (hd : o.dst = some d) (s x : Operand) (t e : TypeId)
    (ho : o.op = .call { callee := .builtin .append, args := #[s, x], argTypes := #[t, t] }) (i : TypeInfo) (z : Value) (sz bytes : Nat) (ht : P.underlying t = some (.slice e)) (hi : P.info? e = some i) (hz : i.zero = some z)
    (hsize : i.size = sz) (hby : i.bytes = bytes) (hzs : z.cells.size = sz) (hsz : 0 < sz)
    (v : Value) (n : Nat) (xs : List Value) (hs : a.eval s = v) (hr : RowO w e sz v n xs)
    (ad : Addr) (m c : Nat) (news : List Value) (hx : a.eval x = .slice (some ad) m c) (hl : news.length = m * sz) (hnews : ∀ j u, news[j]? = some u → w.cell? (ad.add j) = some u) (h1 : ∀ u ∈ news, u.oneCell' = true)
    (hlen : n + m ≤ 100000) (hbytes : bytes ≤ 1000)
    (h : ∀ v' w', RowO w' e sz v' (n + m) (xs ++ news) → w.grownBy w' v.ownBlock → (v'.ownBlock = v.ownBlock ∨ ∃ k, v'.ownBlock = some k ∧ w.heap.size ≤ k) → K (a.put (some d) v') w') : o.wp P a w K Q := by
  by_cases hm : 0 < m
  · exact wp_appO d hd s x t e ho i z sz bytes ht hi hz hsize hby hzs hsz v n xs hs hr ad m c news hx hl hnews h1 hm hlen hbytes h
  · obtain rfl : m = 0 := by omega
    have hnil : news = [] := List.eq_nil_of_length_eq_zero (by simpa using hl)
    subst hnil
    obtain ⟨A, cc, rfl, h2, h3, _⟩ := hr.slice
    rw [← hd] at h
    have hrun := run_append_nothing (P := P) w t t o.type e i ht hi A n cc h2 (.slice (some ad) 0 c) (Src.ofSlice (P := P) w ht ad 0 c [] (by simp) (fun j u hu => by simp at hu) (fun u hu => by cases hu))
    unfold Oper.wp execOp
    simp only [ho, resolve, invoke, builtin, Sem.run_bind, Sem.run_pure, Result.andThen_ok, List.map_toArray, List.map_cons, List.map_nil, hs, hx, hrun]
    refine h _ w ?_ ⟨rfl, rfl, rfl, Nat.le_refl _, fun _ _ _ => rfl⟩ (.inl rfl)
    rw [List.append_nil]
    exact hr
theorem tolI : (Try.prog.info? 84).map (fun i => (i.zero, i.size, i.bytes)) = some (some (.agg #[.int .i64 0, .int .i64 0, .int .i64 0, .slice none 0 0]), 4, 48) := by kernel_rfl
theorem Tl.oneB (t : Tl) : ∀ u ∈ t.cs.toList, u.oneCell' = true := by
  intro u hu
  simp [Tl.cs] at hu
  rcases hu with rfl | rfl | rfl | rfl <;> rfl
theorem Tl.sz (t : Tl) : t.cs.size = 4 := rfl
theorem rem_in (z : Int) (n : Nat) (hn : 0 < n) : ∃ (r : Int) (x : Nat), z.tmod n = r ∧ -(n : Int) < r ∧ r < n ∧ (r + n).tmod n = x ∧ x < n := by
  have h1 := Int.lt_tmod_of_pos z (show (0 : Int) < n by omega)
  have h2 := Int.tmod_lt_of_pos z (show (0 : Int) < n by omega)
  have h3 := Int.tmod_nonneg (a := z.tmod n + n) n (by omega)
  have h4 := Int.tmod_lt_of_pos (z.tmod n + n) (show (0 : Int) < n by omega)
  exact ⟨z.tmod n, ((z.tmod n + n).tmod n).toNat, rfl, by omega, h2, by omega, by omega⟩
set_option maxRecDepth 100000 in
set_option maxHeartbeats 20000000 in
theorem stepC (base : Nat) (W : World) (a : Fa) (R : Nat → Rd) (F : List Tl) (c : Nat) (h : FM base W a R F c) (hI : Inv a.n R (F.map Tl.p)) (kd X N I : Int) (hk : ∀ i, i < a.n → (R i).k ≤ 100000) (hc : c ≤ 1000) (hs : base ≤ W.heap.size) :
    Calls Try.prog 9 #[.pointer (some ⟨a.bf, 0, none⟩), .agg #[.int .i64 kd, .int .i64 X, .int .i64 N, .int .i64 I]] W fun e W' => e = .returned (.tuple #[]) ∧ StepR base W W' a R c := by
  have HF := Lib.hid h
  have HI := Lib.hid hI
  have HKK := Lib.hid hk
  have HSS := Lib.hid hs
  have HC := Lib.hid hc
  obtain ⟨g, o, cp, hvr, hcp, hcm⟩ := h.rs hI.pos
  have HVR := Lib.hid hvr
  obtain ⟨Af, cf, hvf, hcf, hmf, hAf⟩ := RowO.slice h.ff
  obtain ⟨nF, hnF⟩ : ∃ z, F.length = z := ⟨_, rfl⟩
  rw [hnF] at hvf hcf
  have HVF := Lib.hid hvf
  have HNF := Lib.hid hnF
  have HAF := Lib.hid hAf
  have h5 := hI.five
  have h0n := hI.pos
  have hnF1 : nF ≤ 100 := hnF ▸ h.few
  obtain ⟨r1, x, hr1, hra, hrb, hx, hxn⟩ := rem_in X a.n h0n
  have hw1 : IntKind.i64.wrap r1 = r1 := wrapI (by omega) (by omega)
  have hw2 : IntKind.i64.wrap (r1 + (a.n : Int)) = r1 + (a.n : Int) := wrapI (by omega) (by omega)
  have hw3 : IntKind.i64.wrap (x : Int) = (x : Int) := wrapI (by omega) (by omega)
  have hn0 : ¬ ((a.n : Int) = 0) := by omega
  have HX := Lib.hid hxn
  obtain ⟨b0, hb0⟩ : ∃ z, a.bs 0 = z := ⟨_, rfl⟩
  obtain ⟨bx, hbx⟩ : ∃ z, a.bs x = z := ⟨_, rfl⟩
  have HB0 := Lib.hid hb0
  have HBX := Lib.hid hbx
  obtain ⟨k0, hk0⟩ : ∃ k, W.heap.size = k := ⟨_, rfl⟩
  obtain ⟨w1, hw⟩ : ∃ z, W.alloc (.cells #[.int .i64 kd, .int .i64 X, .int .i64 N, .int .i64 I] 28) = z := ⟨_, rfl⟩
  have b1 : Below W.heap.size W w1 := by rw [← hw]; exact (Below.refl _ _).alloc (Nat.le_refl _) _
  have r1' : w1.heap[k0]? = some (.cells #[.int .i64 kd, .int .i64 X, .int .i64 N, .int .i64 I] 28 (0, 0)) := by rw [← hw, ← hk0]; exact heap_alloc_new _ _
  have hgl : g < W.heap.size := RowO.lt h.rr g (by rw [hvr]; rfl)
  have R1d : Hid (w1.drew.heap[a.bf]? = some (.cells #[.slice (some ⟨g, o, none⟩) a.n cp, .slice Af nF cf, .int .i64 c] 35 (0, 0)) ∧ w1.drew.cell? ⟨g, o, none⟩ = some (.pointer (some ⟨b0, 0, none⟩)) ∧ w1.drew.cell? ⟨g, o + x, none⟩ = some (.pointer (some ⟨bx, 0, none⟩)) ∧ g < w1.drew.heap.size ∧ w1.drew.heap[k0]? = some (.cells #[.int .i64 kd, .int .i64 X, .int .i64 N, .int .i64 I] 28 (0, 0))) := Lib.hid (by
    refine ⟨?_, ?_, ?_, Nat.lt_of_lt_of_le hgl b1.size, r1'⟩
    · rw [← hvr, ← hvf]
      exact (b1.block a.bf (heap_lt h.fld)).trans h.fld
    · rw [← hb0]
      exact (b1.cell (p := ⟨g, o, none⟩) hgl).trans (h.ptr hvr h0n)
    · rw [← hbx]
      exact (b1.cell (p := ⟨g, o + x, none⟩) hgl).trans (h.ptr hvr hxn))
  have Bd : Hid (Below W.heap.size W w1.drew) := Lib.hid b1.drew
  have HW1 := Lib.hid hw
  have HK := Lib.hid hk0
  unfold maxLen at hcm hmf
  have hci : (a.n : Int) ≤ (cp : Int) := by omega
  have hxi : (x : Int) < (a.n : Int) := by omega
  have hx0 : (0 : Int) ≤ (x : Int) := by omega
  clear h hI hk hs hc hvr hvf hnF hw b1 r1' hb0 hbx hgl hAf hk0
  go_enter Try.func9, Try.ntmps9
  go_wp2_with (first
    | (rw [HW1.out, HK.out])
    | fail)
  refine region_heldT (S := fun u => u.heap[a.bf]? = some (.cells #[.slice (some ⟨g, o, none⟩) a.n cp, .slice Af nF cf, .int .i64 c] 35 (0, 0)) ∧ u.cell? ⟨g, o, none⟩ = some (.pointer (some ⟨b0, 0, none⟩)) ∧ u.cell? ⟨g, o + x, none⟩ = some (.pointer (some ⟨bx, 0, none⟩)) ∧ g < u.heap.size ∧ u.heap[k0]? = some (.cells #[.int .i64 kd, .int .i64 X, .int .i64 N, .int .i64 I] 28 (0, 0))) 20 (by kernel_rfl) (by decide) (fun inv => ?_)
  have HS := R1d.out
  change FirstH _ _ _ _ _ _ _ _ _ _ w1.drew
  generalize w1.drew = wd at *
  refine FirstH.go (i := 0) (v := .pointer (some ⟨k0, 1, none⟩)) rfl rfl 10 rfl (Op.fieldAddr 28 (Operand.tmp 3) 1) rfl (by kernel_rfl) (fun _ _ _ h => h) inv (fun W hS => by unfold bareO; go_simp) HS (fun inv => ?_)
  try simp only [Act.put, List.setIfInBounds_toArray, List.set_cons_zero, List.set_cons_succ]
  refine FirstH.go (i := 1) (v := .int .i64 X) rfl rfl 11 rfl (Op.load 3 (Operand.tmp 10)) rfl (by kernel_rfl) (fun _ _ _ h => h) inv (fun W hS => by have q0 := cell_of hS.1 0 (.slice (some ⟨g, o, none⟩) a.n cp) rfl; have q1 := cell_of hS.1 1 (.slice Af nF cf) rfl; have q2 := cell_of hS.1 2 (.int .i64 c) rfl; have y0 := hS.2.1; have y1 := hS.2.2.1; have s0 := cell_of hS.2.2.2.2 0 (.int .i64 kd) rfl; have s1 := cell_of hS.2.2.2.2 1 (.int .i64 X) rfl; have s2 := cell_of hS.2.2.2.2 2 (.int .i64 N) rfl; have s3 := cell_of hS.2.2.2.2 3 (.int .i64 I) rfl; unfold bareO; go_simp) HS (fun inv => ?_)
  try simp only [Act.put, List.setIfInBounds_toArray, List.set_cons_zero, List.set_cons_succ]
  refine FirstH.go (i := 2) (v := .pointer (some ⟨a.bf, 0, none⟩)) rfl rfl 12 rfl (Op.move (Operand.tmp 0)) rfl (by kernel_rfl) (fun _ _ _ h => h) inv (fun W hS => by unfold bareO; go_simp) HS (fun inv => ?_)
  try simp only [Act.put, List.setIfInBounds_toArray, List.set_cons_zero, List.set_cons_succ]
  refine FirstH.go (i := 3) (v := .pointer (some ⟨a.bf, 0, none⟩)) rfl rfl 13 rfl (Op.nilCheck (Operand.tmp 12)) rfl (by kernel_rfl) (fun _ _ _ h => h) inv (fun W hS => by unfold bareO; go_simp) HS (fun inv => ?_)
  try simp only [Act.put, List.setIfInBounds_toArray, List.set_cons_zero, List.set_cons_succ]
  refine FirstH.go (i := 4) (v := .pointer (some ⟨a.bf, 0, none⟩)) rfl rfl 14 rfl (Op.fieldAddr 35 (Operand.tmp 13) 0) rfl (by kernel_rfl) (fun _ _ _ h => h) inv (fun W hS => by unfold bareO; go_simp) HS (fun inv => ?_)
  try simp only [Act.put, List.setIfInBounds_toArray, List.set_cons_zero, List.set_cons_succ]
  refine FirstH.go (i := 5) (v := .slice (some ⟨g, o, none⟩) a.n cp) rfl rfl 15 rfl (Op.load 32 (Operand.tmp 14)) rfl (by kernel_rfl) (fun _ _ _ h => h) inv (fun W hS => by have q0 := cell_of hS.1 0 (.slice (some ⟨g, o, none⟩) a.n cp) rfl; have q1 := cell_of hS.1 1 (.slice Af nF cf) rfl; have q2 := cell_of hS.1 2 (.int .i64 c) rfl; have y0 := hS.2.1; have y1 := hS.2.2.1; have s0 := cell_of hS.2.2.2.2 0 (.int .i64 kd) rfl; have s1 := cell_of hS.2.2.2.2 1 (.int .i64 X) rfl; have s2 := cell_of hS.2.2.2.2 2 (.int .i64 N) rfl; have s3 := cell_of hS.2.2.2.2 3 (.int .i64 I) rfl; unfold bareO; go_simp) HS (fun inv => ?_)
  try simp only [Act.put, List.setIfInBounds_toArray, List.set_cons_zero, List.set_cons_succ]
  refine FirstH.go (i := 6) (v := .int .i64 a.n) rfl rfl 16 rfl (Op.call { callee := Callee.builtin Builtin.len, args := #[Operand.tmp 15], argTypes := #[32] }) rfl (by kernel_rfl) (fun _ _ _ h => h) inv (fun W hS => by unfold bareO; go_simp) HS (fun inv => ?_)
  try simp only [Act.put, List.setIfInBounds_toArray, List.set_cons_zero, List.set_cons_succ]
  refine FirstH.go (i := 7) (v := .int .i64 r1) rfl rfl 17 rfl (Op.binOp BinOp.rem 3 (Operand.tmp 11) (Operand.tmp 16) 3) rfl (by kernel_rfl) (fun _ _ _ h => h) inv (fun W hS => by have h1 := hn0; have h2 := hr1; have h3 := hw1; unfold bareO; go_simp; try omega) HS (fun inv => ?_)
  try simp only [Act.put, List.setIfInBounds_toArray, List.set_cons_zero, List.set_cons_succ]
  refine FirstH.go (i := 8) (v := .pointer (some ⟨a.bf, 0, none⟩)) rfl rfl 18 rfl (Op.move (Operand.tmp 0)) rfl (by kernel_rfl) (fun _ _ _ h => h) inv (fun W hS => by unfold bareO; go_simp) HS (fun inv => ?_)
  try simp only [Act.put, List.setIfInBounds_toArray, List.set_cons_zero, List.set_cons_succ]
  refine FirstH.go (i := 9) (v := .pointer (some ⟨a.bf, 0, none⟩)) rfl rfl 19 rfl (Op.nilCheck (Operand.tmp 18)) rfl (by kernel_rfl) (fun _ _ _ h => h) inv (fun W hS => by unfold bareO; go_simp) HS (fun inv => ?_)
  try simp only [Act.put, List.setIfInBounds_toArray, List.set_cons_zero, List.set_cons_succ]
  refine FirstH.go (i := 10) (v := .pointer (some ⟨a.bf, 0, none⟩)) rfl rfl 20 rfl (Op.fieldAddr 35 (Operand.tmp 19) 0) rfl (by kernel_rfl) (fun _ _ _ h => h) inv (fun W hS => by unfold bareO; go_simp) HS (fun inv => ?_)
  try simp only [Act.put, List.setIfInBounds_toArray, List.set_cons_zero, List.set_cons_succ]
  refine FirstH.go (i := 11) (v := .slice (some ⟨g, o, none⟩) a.n cp) rfl rfl 21 rfl (Op.load 32 (Operand.tmp 20)) rfl (by kernel_rfl) (fun _ _ _ h => h) inv (fun W hS => by have q0 := cell_of hS.1 0 (.slice (some ⟨g, o, none⟩) a.n cp) rfl; have q1 := cell_of hS.1 1 (.slice Af nF cf) rfl; have q2 := cell_of hS.1 2 (.int .i64 c) rfl; have y0 := hS.2.1; have y1 := hS.2.2.1; have s0 := cell_of hS.2.2.2.2 0 (.int .i64 kd) rfl; have s1 := cell_of hS.2.2.2.2 1 (.int .i64 X) rfl; have s2 := cell_of hS.2.2.2.2 2 (.int .i64 N) rfl; have s3 := cell_of hS.2.2.2.2 3 (.int .i64 I) rfl; unfold bareO; go_simp) HS (fun inv => ?_)
  try simp only [Act.put, List.setIfInBounds_toArray, List.set_cons_zero, List.set_cons_succ]
  refine FirstH.go (i := 12) (v := .int .i64 a.n) rfl rfl 22 rfl (Op.call { callee := Callee.builtin Builtin.len, args := #[Operand.tmp 21], argTypes := #[32] }) rfl (by kernel_rfl) (fun _ _ _ h => h) inv (fun W hS => by unfold bareO; go_simp) HS (fun inv => ?_)
  try simp only [Act.put, List.setIfInBounds_toArray, List.set_cons_zero, List.set_cons_succ]
  refine FirstH.go (i := 13) (v := .int .i64 (r1 + (a.n : Int))) rfl rfl 23 rfl (Op.binOp BinOp.add 3 (Operand.tmp 17) (Operand.tmp 22) 3) rfl (by kernel_rfl) (fun _ _ _ h => h) inv (fun W hS => by have h3 := hw2; unfold bareO; go_simp) HS (fun inv => ?_)
  try simp only [Act.put, List.setIfInBounds_toArray, List.set_cons_zero, List.set_cons_succ]
  refine FirstH.go (i := 14) (v := .pointer (some ⟨a.bf, 0, none⟩)) rfl rfl 24 rfl (Op.move (Operand.tmp 0)) rfl (by kernel_rfl) (fun _ _ _ h => h) inv (fun W hS => by unfold bareO; go_simp) HS (fun inv => ?_)
  try simp only [Act.put, List.setIfInBounds_toArray, List.set_cons_zero, List.set_cons_succ]
  refine FirstH.go (i := 15) (v := .pointer (some ⟨a.bf, 0, none⟩)) rfl rfl 25 rfl (Op.nilCheck (Operand.tmp 24)) rfl (by kernel_rfl) (fun _ _ _ h => h) inv (fun W hS => by unfold bareO; go_simp) HS (fun inv => ?_)
  try simp only [Act.put, List.setIfInBounds_toArray, List.set_cons_zero, List.set_cons_succ]
  refine FirstH.go (i := 16) (v := .pointer (some ⟨a.bf, 0, none⟩)) rfl rfl 26 rfl (Op.fieldAddr 35 (Operand.tmp 25) 0) rfl (by kernel_rfl) (fun _ _ _ h => h) inv (fun W hS => by unfold bareO; go_simp) HS (fun inv => ?_)
  try simp only [Act.put, List.setIfInBounds_toArray, List.set_cons_zero, List.set_cons_succ]
  refine FirstH.go (i := 17) (v := .slice (some ⟨g, o, none⟩) a.n cp) rfl rfl 27 rfl (Op.load 32 (Operand.tmp 26)) rfl (by kernel_rfl) (fun _ _ _ h => h) inv (fun W hS => by have q0 := cell_of hS.1 0 (.slice (some ⟨g, o, none⟩) a.n cp) rfl; have q1 := cell_of hS.1 1 (.slice Af nF cf) rfl; have q2 := cell_of hS.1 2 (.int .i64 c) rfl; have y0 := hS.2.1; have y1 := hS.2.2.1; have s0 := cell_of hS.2.2.2.2 0 (.int .i64 kd) rfl; have s1 := cell_of hS.2.2.2.2 1 (.int .i64 X) rfl; have s2 := cell_of hS.2.2.2.2 2 (.int .i64 N) rfl; have s3 := cell_of hS.2.2.2.2 3 (.int .i64 I) rfl; unfold bareO; go_simp) HS (fun inv => ?_)
  try simp only [Act.put, List.setIfInBounds_toArray, List.set_cons_zero, List.set_cons_succ]
  refine FirstH.go (i := 18) (v := .int .i64 a.n) rfl rfl 28 rfl (Op.call { callee := Callee.builtin Builtin.len, args := #[Operand.tmp 27], argTypes := #[32] }) rfl (by kernel_rfl) (fun _ _ _ h => h) inv (fun W hS => by unfold bareO; go_simp) HS (fun inv => ?_)
  try simp only [Act.put, List.setIfInBounds_toArray, List.set_cons_zero, List.set_cons_succ]
  refine FirstH.go (i := 19) (v := .int .i64 x) rfl rfl 29 rfl (Op.binOp BinOp.rem 3 (Operand.tmp 23) (Operand.tmp 28) 3) rfl (by kernel_rfl) (fun _ _ _ h => h) inv (fun W hS => by have h1 := hn0; have h2 := hx; have h3 := hw3; unfold bareO; go_simp; try omega) HS (fun inv => ?_)
  try simp only [Act.put, List.setIfInBounds_toArray, List.set_cons_zero, List.set_cons_succ]
  refine ⟨by kernel_rfl, ?_⟩
  simp only [List.drop_succ_cons, List.drop_zero]
  have HSd := Lib.hid HS
  clear HS inv
  have HFd := Lib.hid (HF.out.below Bd.out)
  have BBd : Hid (Below base W wd) := Lib.hid (Bd.out.mono HSS.out)
  have SZd : Hid (base ≤ wd.heap.size) := Lib.hid (Nat.le_trans HSS.out Bd.out.size)
  have qlf : ∀ (W : World) (ty : TypeId), (Builtin.len_ #[33] ty #[.slice Af nF cf]).run Try.prog W = .ok (.int .i64 nF) W := fun W ty => by first | rfl | go_simp
  have HNO : Hid (StepR base W wd a R c) := Lib.hid ⟨a, R, F, c, HFd.out, rfl, rfl, HI.out, Held.refl _ _, Nat.le_succ _, BBd.out⟩
  have q0 := cell_of HSd.out.1 0 (.slice (some ⟨g, o, none⟩) a.n cp) rfl
  have q1 := cell_of HSd.out.1 1 (.slice Af nF cf) rfl
  have q2 := cell_of HSd.out.1 2 (.int .i64 c) rfl
  have y0 := HSd.out.2.1
  have y1 := HSd.out.2.2.1
  have s0 := cell_of HSd.out.2.2.2.2 0 (.int .i64 kd) rfl
  have s1 := cell_of HSd.out.2.2.2.2 1 (.int .i64 X) rfl
  have s2 := cell_of HSd.out.2.2.2.2 2 (.int .i64 N) rfl
  have s3 := cell_of HSd.out.2.2.2.2 3 (.int .i64 I) rfl
  clear hr1 hra hrb hw1 hw2 hw3 hx
  by_cases e0 : kd = 0
  · have hkb : (kd == 0) = true := by simp [e0]
    have hkc : decide (kd = 0) = true := by simp [e0]
    clear e0
    as_aux_lemma =>
    skip
    obtain ⟨w2, hw2⟩ : ∃ z, wd.setCell ⟨a.bf, 2, none⟩ (.int .i64 ((c : Int) + 1)) = z := ⟨_, rfl⟩
    have HF2 : Hid (FM base w2 a R F (c + 1)) := Lib.hid (by rw [← hw2, show (c : Int) + 1 = ((c + 1 : Nat) : Int) by omega]; exact HFd.out.tick (c + 1))
    have kp2 : KP (fun j => j = a.bf) wd w2 := by rw [← hw2]; exact KP.set (S := fun j => j = a.bf) wd a.bf 2 _ rfl
    have B2 : Hid (Below base W w2) := Lib.hid (BBd.out.trans (kp2.below SZd.out fun j hj => by rw [hj]; exact HFd.out.lo.1))
    have S2 : Hid (w2.drew.heap[a.bf]? = some (.cells #[.slice (some ⟨g, o, none⟩) a.n cp, .slice Af nF cf, .int .i64 ((c : Int) + 1)] 35 (0, 0)) ∧ w2.drew.cell? ⟨g, o, none⟩ = some (.pointer (some ⟨b0, 0, none⟩)) ∧ w2.drew.cell? ⟨g, o + x, none⟩ = some (.pointer (some ⟨bx, 0, none⟩)) ∧ g < w2.drew.heap.size ∧ w2.drew.heap[k0]? = some (.cells #[.int .i64 kd, .int .i64 X, .int .i64 N, .int .i64 I] 28 (0, 0))) := Lib.hid (by
      refine ⟨?_, ?_, ?_, Nat.lt_of_lt_of_le HSd.out.2.2.2.1 kp2.size, ?_⟩
      · rw [← hw2]
        exact (row_set (i := 2) HSd.out.1 _).trans rfl
      · have := HF2.out.ptr HVR.out h0n
        rw [HB0.out] at this
        exact this
      · have := HF2.out.ptr HVR.out HX.out
        rw [HBX.out] at this
        exact this
      · refine (kp2.block k0 (heap_lt HSd.out.2.2.2.2) fun e => ?_).trans HSd.out.2.2.2.2
        exact absurd (heap_ty (e ▸ HSd.out.2.2.2.2) HSd.out.1) (by decide))
    have f2 := frz_row 2 HSd.out.1
    have HW2 := Lib.hid hw2
    have hcw : IntKind.i64.wrap ((c : Int) + 1) = (c : Int) + 1 := wrapI (by have := HC.out; omega) (by have := HC.out; omega)
    have hcb : c ≤ 1000 := HC.out
    have HF2d := Lib.hid (HF2.out.below (Below.refl _ _).drew)
    have B2d : Hid (Below base W w2.drew) := Lib.hid B2.out.drew
    have SZ2 : Hid (base ≤ w2.drew.heap.size) := Lib.hid (Nat.le_trans SZd.out kp2.size)
    clear hw2 kp2
    go_wp2_with (first
      | (rw [HW2.out])
      | fail)
    refine region_heldT (S := fun u => u.heap[a.bf]? = some (.cells #[.slice (some ⟨g, o, none⟩) a.n cp, .slice Af nF cf, .int .i64 ((c : Int) + 1)] 35 (0, 0)) ∧ u.cell? ⟨g, o, none⟩ = some (.pointer (some ⟨b0, 0, none⟩)) ∧ u.cell? ⟨g, o + x, none⟩ = some (.pointer (some ⟨bx, 0, none⟩)) ∧ g < u.heap.size ∧ u.heap[k0]? = some (.cells #[.int .i64 kd, .int .i64 X, .int .i64 N, .int .i64 I] 28 (0, 0))) 12 (by kernel_rfl) (by decide) (fun inv => ?_)
    have HS := S2.out
    change FirstH _ _ _ _ _ _ _ _ _ _ w2.drew
    generalize w2.drew = we at *
    refine FirstH.go (i := 0) (v := .pointer (some ⟨a.bf, 0, none⟩)) rfl rfl 46 rfl (Op.move (Operand.tmp 0)) rfl (by kernel_rfl) (fun _ _ _ h => h) inv (fun W hS => by unfold bareO; go_simp) HS (fun inv => ?_)
    try simp only [Act.put, List.setIfInBounds_toArray, List.set_cons_zero, List.set_cons_succ]
    refine FirstH.go (i := 1) (v := .pointer (some ⟨a.bf, 0, none⟩)) rfl rfl 47 rfl (Op.nilCheck (Operand.tmp 46)) rfl (by kernel_rfl) (fun _ _ _ h => h) inv (fun W hS => by unfold bareO; go_simp) HS (fun inv => ?_)
    try simp only [Act.put, List.setIfInBounds_toArray, List.set_cons_zero, List.set_cons_succ]
    refine FirstH.go (i := 2) (v := .pointer (some ⟨a.bf, 0, none⟩)) rfl rfl 48 rfl (Op.fieldAddr 35 (Operand.tmp 47) 0) rfl (by kernel_rfl) (fun _ _ _ h => h) inv (fun W hS => by unfold bareO; go_simp) HS (fun inv => ?_)
    try simp only [Act.put, List.setIfInBounds_toArray, List.set_cons_zero, List.set_cons_succ]
    refine FirstH.go (i := 3) (v := .slice (some ⟨g, o, none⟩) a.n cp) rfl rfl 49 rfl (Op.load 32 (Operand.tmp 48)) rfl (by kernel_rfl) (fun _ _ _ h => h) inv (fun W hS => by have q0 := cell_of hS.1 0 (.slice (some ⟨g, o, none⟩) a.n cp) rfl; have q1 := cell_of hS.1 1 (.slice Af nF cf) rfl; have q2 := cell_of hS.1 2 (.int .i64 ((c : Int) + 1)) rfl; have y0 := hS.2.1; have y1 := hS.2.2.1; have s0 := cell_of hS.2.2.2.2 0 (.int .i64 kd) rfl; have s1 := cell_of hS.2.2.2.2 1 (.int .i64 X) rfl; have s2 := cell_of hS.2.2.2.2 2 (.int .i64 N) rfl; have s3 := cell_of hS.2.2.2.2 3 (.int .i64 I) rfl; unfold bareO; go_simp) HS (fun inv => ?_)
    try simp only [Act.put, List.setIfInBounds_toArray, List.set_cons_zero, List.set_cons_succ]
    refine FirstH.go (i := 4) (v := .pointer (some ⟨g, o, none⟩)) rfl rfl 50 rfl (Op.indexAddr 32 (Operand.tmp 49) (Operand.const (Value.int IntKind.i64 0))) rfl (by kernel_rfl) (fun _ _ _ h => h) inv (fun W hS => by have hp := h0n; unfold bareO; go_simp) HS (fun inv => ?_)
    try simp only [Act.put, List.setIfInBounds_toArray, List.set_cons_zero, List.set_cons_succ]
    refine FirstH.go (i := 5) (v := .pointer (some ⟨b0, 0, none⟩)) rfl rfl 51 rfl (Op.load 36 (Operand.tmp 50)) rfl (by kernel_rfl) (fun _ _ _ h => h) inv (fun W hS => by have q0 := cell_of hS.1 0 (.slice (some ⟨g, o, none⟩) a.n cp) rfl; have q1 := cell_of hS.1 1 (.slice Af nF cf) rfl; have q2 := cell_of hS.1 2 (.int .i64 ((c : Int) + 1)) rfl; have y0 := hS.2.1; have y1 := hS.2.2.1; have s0 := cell_of hS.2.2.2.2 0 (.int .i64 kd) rfl; have s1 := cell_of hS.2.2.2.2 1 (.int .i64 X) rfl; have s2 := cell_of hS.2.2.2.2 2 (.int .i64 N) rfl; have s3 := cell_of hS.2.2.2.2 3 (.int .i64 I) rfl; unfold bareO; go_simp) HS (fun inv => ?_)
    try simp only [Act.put, List.setIfInBounds_toArray, List.set_cons_zero, List.set_cons_succ]
    refine FirstH.go (i := 6) (v := .pointer (some ⟨a.bf, 0, none⟩)) rfl rfl 52 rfl (Op.move (Operand.tmp 0)) rfl (by kernel_rfl) (fun _ _ _ h => h) inv (fun W hS => by unfold bareO; go_simp) HS (fun inv => ?_)
    try simp only [Act.put, List.setIfInBounds_toArray, List.set_cons_zero, List.set_cons_succ]
    refine FirstH.go (i := 7) (v := .pointer (some ⟨a.bf, 0, none⟩)) rfl rfl 53 rfl (Op.nilCheck (Operand.tmp 52)) rfl (by kernel_rfl) (fun _ _ _ h => h) inv (fun W hS => by unfold bareO; go_simp) HS (fun inv => ?_)
    try simp only [Act.put, List.setIfInBounds_toArray, List.set_cons_zero, List.set_cons_succ]
    refine FirstH.go (i := 8) (v := .pointer (some ⟨a.bf, 2, none⟩)) rfl rfl 54 rfl (Op.fieldAddr 35 (Operand.tmp 53) 2) rfl (by kernel_rfl) (fun _ _ _ h => h) inv (fun W hS => by unfold bareO; go_simp) HS (fun inv => ?_)
    try simp only [Act.put, List.setIfInBounds_toArray, List.set_cons_zero, List.set_cons_succ]
    refine FirstH.go (i := 9) (v := .int .i64 ((c : Int) + 1)) rfl rfl 55 rfl (Op.load 3 (Operand.tmp 54)) rfl (by kernel_rfl) (fun _ _ _ h => h) inv (fun W hS => by have q0 := cell_of hS.1 0 (.slice (some ⟨g, o, none⟩) a.n cp) rfl; have q1 := cell_of hS.1 1 (.slice Af nF cf) rfl; have q2 := cell_of hS.1 2 (.int .i64 ((c : Int) + 1)) rfl; have y0 := hS.2.1; have y1 := hS.2.2.1; have s0 := cell_of hS.2.2.2.2 0 (.int .i64 kd) rfl; have s1 := cell_of hS.2.2.2.2 1 (.int .i64 X) rfl; have s2 := cell_of hS.2.2.2.2 2 (.int .i64 N) rfl; have s3 := cell_of hS.2.2.2.2 3 (.int .i64 I) rfl; unfold bareO; go_simp) HS (fun inv => ?_)
    try simp only [Act.put, List.setIfInBounds_toArray, List.set_cons_zero, List.set_cons_succ]
    refine FirstH.go (i := 10) (v := .int .i64 (((c + 1) % 16 : Nat) : Int)) rfl rfl 56 rfl (Op.binOp BinOp.rem 3 (Operand.tmp 55) (Operand.const (Value.int IntKind.i64 16)) 3) rfl (by kernel_rfl) (fun _ _ _ h => h) inv (fun W hS => by have hm : ((c : Int) + 1).tmod 16 = (((c + 1) % 16 : Nat) : Int) := (by rw [Int.tmod_eq_emod_of_nonneg (by omega)]; omega); have hm2 : IntKind.i64.wrap (((c + 1) % 16 : Nat) : Int) = (((c + 1) % 16 : Nat) : Int) := wrapI (by omega) (by omega); unfold bareO; go_simp) HS (fun inv => ?_)
    try simp only [Act.put, List.setIfInBounds_toArray, List.set_cons_zero, List.set_cons_succ]
    refine FirstH.only (i := 11) (by kernel_rfl) (by decide) inv (fun inv => wpOp_call (i := 11) rfl rfl 57 rfl (Op.call { callee := Callee.value (.func 18), args := #[Operand.tmp 56], argTypes := #[3] }) rfl 18 #[.int .i64 (((c + 1) % 16 : Nat) : Int)] (by unfold bareO; go_simp) (killC ((c + 1) % 16) (by omega) we) ?_)
    rintro e w3 ⟨rfl, b3⟩
    have HS3 : w3.heap[a.bf]? = some (.cells #[.slice (some ⟨g, o, none⟩) a.n cp, .slice Af nF cf, .int .i64 ((c : Int) + 1)] 35 (0, 0)) ∧ w3.cell? ⟨g, o, none⟩ = some (.pointer (some ⟨b0, 0, none⟩)) ∧ w3.cell? ⟨g, o + x, none⟩ = some (.pointer (some ⟨bx, 0, none⟩)) ∧ g < w3.heap.size ∧ w3.heap[k0]? = some (.cells #[.int .i64 kd, .int .i64 X, .int .i64 N, .int .i64 I] 28 (0, 0)) := ⟨(b3.block a.bf (heap_lt HS.1)).trans HS.1, (b3.cell (p := ⟨g, o, none⟩) HS.2.2.2.1).trans HS.2.1, (b3.cell (p := ⟨g, o + x, none⟩) HS.2.2.2.1).trans HS.2.2.1, Nat.lt_of_lt_of_le HS.2.2.2.1 b3.size, (b3.block k0 (heap_lt HS.2.2.2.2)).trans HS.2.2.2.2⟩
    have B3 := Lib.hid (B2d.out.trans (b3.mono SZ2.out))
    have HF3 := Lib.hid (HF2d.out.below b3)
    have SZ3 : Hid (base ≤ w3.heap.size) := Lib.hid (Nat.le_trans SZ2.out b3.size)
    clear b3 HS
    refine ⟨_, rfl, HS3, ?_⟩
    try simp only [Act.put, List.setIfInBounds_toArray, List.set_cons_zero, List.set_cons_succ]
    refine ⟨by kernel_rfl, ?_⟩
    simp only [List.drop_succ_cons, List.drop_zero]
    clear HS3
    have KA := Lib.hid (rAdd w3 (a.bs 0) (a.ms 0) (a.lbs 0) (R 0) (HF3.out.rolls 0 h0n) (killE ((c + 1) % 16)) (killE_ok _ w3) true fun u _ => rightK ((c + 1) % 16) (by omega) _ u)
    rw [HB0.out] at KA
    go_wp2_with fail
    refine KA.out.mono ?_
    rintro e w4 ⟨rfl, lb4, hp4, kp4, hl4⟩
    have HF4 := Lib.hid (HF3.out.roll h0n lb4 _ (HB0.out ▸ kp4) (HB0.out ▸ hp4) hl4 SZ3.out)
    have HI4 := Lib.hid (HI.out.add (killV ((c + 1) % 16)) hp4.hc.1 hp4.hc.2)
    have B4 : Hid (Below base W w4) := Lib.hid (B3.out.trans (HF3.out.belowR h0n (HB0.out ▸ kp4) SZ3.out))
    have HEND : Hid (StepR base W w4 a R c) := Lib.hid ⟨_, _, F, c + 1, HF4.out, rfl, rfl, HI4.out, Held.up (addD_held _ _ _).1 (addD_held _ _ _).2, Nat.le_refl _, B4.out⟩
    clear hp4 kp4 hl4
    go_wp2_with fail
    first | (refine bodyPost_end (results_none rfl _ _ _) rfl ⟨rfl, HEND.out⟩) | (refine bodyPost_ret (results_none rfl _ _ _) rfl ⟨rfl, HEND.out⟩)
  have hkb0 : (kd == 0) = false := by simpa using e0
  have hkc0 : decide (kd = 0) = false := by simpa using e0
  by_cases e1 : kd = 1
  · have hkb1 : (kd == 1) = true := by simp [e1]
    have hkc1 : decide (kd = 1) = true := by simp [e1]
    have hkb2 : (kd == 2) = false := by simp [e1]
    have hkc2 : decide (kd = 2) = false := by simp [e1]
    have hkb7 : (kd == 7) = false := by simp [e1]
    have hkc7 : decide (kd = 7) = false := by simp [e1]
    have hkg : decide ((3 : Int) ≤ kd) = false := by simp [e1]
    clear e0 e1
    by_cases hx1 : 0 < x
    · have hxi1 : (0 : Int) < (x : Int) := by omega
      by_cases hf1 : nF < 100
      · have hfi1 : (nF : Int) < 100 := by omega
        as_aux_lemma =>
        skip
        have S2 : Hid (wd.drew.heap[a.bf]? = some (.cells #[.slice (some ⟨g, o, none⟩) a.n cp, .slice Af nF cf, .int .i64 c] 35 (0, 0)) ∧ wd.drew.cell? ⟨g, o, none⟩ = some (.pointer (some ⟨b0, 0, none⟩)) ∧ wd.drew.cell? ⟨g, o + x, none⟩ = some (.pointer (some ⟨bx, 0, none⟩)) ∧ g < wd.drew.heap.size ∧ wd.drew.heap[k0]? = some (.cells #[.int .i64 kd, .int .i64 X, .int .i64 N, .int .i64 I] 28 (0, 0))) := Lib.hid HSd.out
        have Bd2 : Hid (Below base W wd.drew) := Lib.hid BBd.out.drew
        have HFd2 := Lib.hid (HFd.out.below (Below.refl _ _).drew)
        have SZd2 : Hid (base ≤ wd.drew.heap.size) := Lib.hid SZd.out
        obtain ⟨r3, nn, hn1, hn2, hn3, hn4, hn5⟩ := rem_in N 3 (by decide)
        replace hn1 : N.tmod 3 = r3 := hn1
        replace hn4 : (r3 + 3).tmod 3 = (nn : Int) := hn4
        have hv1 : IntKind.i64.wrap r3 = r3 := wrapI (by omega) (by omega)
        have hv2 : IntKind.i64.wrap (r3 + 3) = r3 + 3 := wrapI (by omega) (by omega)
        have hv3 : IntKind.i64.wrap (nn : Int) = (nn : Int) := wrapI (by omega) (by omega)
        have hv4 : IntKind.i64.wrap (1 + (nn : Int)) = 1 + (nn : Int) := wrapI (by omega) (by omega)
        go_wp2_with fail
        refine region_heldT (S := fun u => u.heap[a.bf]? = some (.cells #[.slice (some ⟨g, o, none⟩) a.n cp, .slice Af nF cf, .int .i64 c] 35 (0, 0)) ∧ u.cell? ⟨g, o, none⟩ = some (.pointer (some ⟨b0, 0, none⟩)) ∧ u.cell? ⟨g, o + x, none⟩ = some (.pointer (some ⟨bx, 0, none⟩)) ∧ g < u.heap.size ∧ u.heap[k0]? = some (.cells #[.int .i64 kd, .int .i64 X, .int .i64 N, .int .i64 I] 28 (0, 0))) 19 (by kernel_rfl) (by decide) (fun inv => ?_)
        have HS := S2.out
        change FirstH _ _ _ _ _ _ _ _ _ _ wd.drew
        generalize wd.drew = we at *
        refine FirstH.go (i := 0) (v := .pointer (some ⟨a.bf, 0, none⟩)) rfl rfl 72 rfl (Op.move (Operand.tmp 0)) rfl (by kernel_rfl) (fun _ _ _ h => h) inv (fun W hS => by unfold bareO; go_simp) HS (fun inv => ?_)
        try simp only [Act.put, List.setIfInBounds_toArray, List.set_cons_zero, List.set_cons_succ]
        refine FirstH.go (i := 1) (v := .pointer (some ⟨a.bf, 0, none⟩)) rfl rfl 73 rfl (Op.nilCheck (Operand.tmp 72)) rfl (by kernel_rfl) (fun _ _ _ h => h) inv (fun W hS => by unfold bareO; go_simp) HS (fun inv => ?_)
        try simp only [Act.put, List.setIfInBounds_toArray, List.set_cons_zero, List.set_cons_succ]
        refine FirstH.go (i := 2) (v := .pointer (some ⟨a.bf, 0, none⟩)) rfl rfl 74 rfl (Op.fieldAddr 35 (Operand.tmp 73) 0) rfl (by kernel_rfl) (fun _ _ _ h => h) inv (fun W hS => by unfold bareO; go_simp) HS (fun inv => ?_)
        try simp only [Act.put, List.setIfInBounds_toArray, List.set_cons_zero, List.set_cons_succ]
        refine FirstH.go (i := 3) (v := .slice (some ⟨g, o, none⟩) a.n cp) rfl rfl 75 rfl (Op.load 32 (Operand.tmp 74)) rfl (by kernel_rfl) (fun _ _ _ h => h) inv (fun W hS => by have q0 := cell_of hS.1 0 (.slice (some ⟨g, o, none⟩) a.n cp) rfl; have q1 := cell_of hS.1 1 (.slice Af nF cf) rfl; have q2 := cell_of hS.1 2 (.int .i64 c) rfl; have y0 := hS.2.1; have y1 := hS.2.2.1; have s0 := cell_of hS.2.2.2.2 0 (.int .i64 kd) rfl; have s1 := cell_of hS.2.2.2.2 1 (.int .i64 X) rfl; have s2 := cell_of hS.2.2.2.2 2 (.int .i64 N) rfl; have s3 := cell_of hS.2.2.2.2 3 (.int .i64 I) rfl; unfold bareO; go_simp) HS (fun inv => ?_)
        try simp only [Act.put, List.setIfInBounds_toArray, List.set_cons_zero, List.set_cons_succ]
        refine FirstH.go (i := 4) (v := .pointer (some ⟨g, o, none⟩)) rfl rfl 76 rfl (Op.indexAddr 32 (Operand.tmp 75) (Operand.const (Value.int IntKind.i64 0))) rfl (by kernel_rfl) (fun _ _ _ h => h) inv (fun W hS => by have hp := h0n; unfold bareO; go_simp) HS (fun inv => ?_)
        try simp only [Act.put, List.setIfInBounds_toArray, List.set_cons_zero, List.set_cons_succ]
        refine FirstH.go (i := 5) (v := .pointer (some ⟨b0, 0, none⟩)) rfl rfl 77 rfl (Op.load 36 (Operand.tmp 76)) rfl (by kernel_rfl) (fun _ _ _ h => h) inv (fun W hS => by have q0 := cell_of hS.1 0 (.slice (some ⟨g, o, none⟩) a.n cp) rfl; have q1 := cell_of hS.1 1 (.slice Af nF cf) rfl; have q2 := cell_of hS.1 2 (.int .i64 c) rfl; have y0 := hS.2.1; have y1 := hS.2.2.1; have s0 := cell_of hS.2.2.2.2 0 (.int .i64 kd) rfl; have s1 := cell_of hS.2.2.2.2 1 (.int .i64 X) rfl; have s2 := cell_of hS.2.2.2.2 2 (.int .i64 N) rfl; have s3 := cell_of hS.2.2.2.2 3 (.int .i64 I) rfl; unfold bareO; go_simp) HS (fun inv => ?_)
        try simp only [Act.put, List.setIfInBounds_toArray, List.set_cons_zero, List.set_cons_succ]
        refine FirstH.go (i := 6) (v := .int .i64 x) rfl rfl 78 rfl (Op.move (Operand.tmp 4)) rfl (by kernel_rfl) (fun _ _ _ h => h) inv (fun W hS => by unfold bareO; go_simp) HS (fun inv => ?_)
        try simp only [Act.put, List.setIfInBounds_toArray, List.set_cons_zero, List.set_cons_succ]
        refine FirstH.go (i := 8) (v := .pointer (some ⟨k0, 2, none⟩)) rfl rfl 80 rfl (Op.fieldAddr 28 (Operand.tmp 3) 2) rfl (by kernel_rfl) (fun _ _ _ h => h) inv (fun W hS => by unfold bareO; go_simp) HS (fun inv => ?_)
        try simp only [Act.put, List.setIfInBounds_toArray, List.set_cons_zero, List.set_cons_succ]
        refine FirstH.go (i := 9) (v := .int .i64 N) rfl rfl 81 rfl (Op.load 3 (Operand.tmp 80)) rfl (by kernel_rfl) (fun _ _ _ h => h) inv (fun W hS => by have q0 := cell_of hS.1 0 (.slice (some ⟨g, o, none⟩) a.n cp) rfl; have q1 := cell_of hS.1 1 (.slice Af nF cf) rfl; have q2 := cell_of hS.1 2 (.int .i64 c) rfl; have y0 := hS.2.1; have y1 := hS.2.2.1; have s0 := cell_of hS.2.2.2.2 0 (.int .i64 kd) rfl; have s1 := cell_of hS.2.2.2.2 1 (.int .i64 X) rfl; have s2 := cell_of hS.2.2.2.2 2 (.int .i64 N) rfl; have s3 := cell_of hS.2.2.2.2 3 (.int .i64 I) rfl; unfold bareO; go_simp) HS (fun inv => ?_)
        try simp only [Act.put, List.setIfInBounds_toArray, List.set_cons_zero, List.set_cons_succ]
        refine FirstH.go (i := 10) (v := .int .i64 r3) rfl rfl 82 rfl (Op.binOp BinOp.rem 3 (Operand.tmp 81) (Operand.const (Value.int IntKind.i64 3)) 3) rfl (by kernel_rfl) (fun _ _ _ h => h) inv (fun W hS => by have h1 := hn1; have h2 := hv1; unfold bareO; go_simp) HS (fun inv => ?_)
        try simp only [Act.put, List.setIfInBounds_toArray, List.set_cons_zero, List.set_cons_succ]
        refine FirstH.go (i := 11) (v := .int .i64 (r3 + 3)) rfl rfl 83 rfl (Op.binOp BinOp.add 3 (Operand.tmp 82) (Operand.const (Value.int IntKind.i64 3)) 3) rfl (by kernel_rfl) (fun _ _ _ h => h) inv (fun W hS => by have h2 := hv2; unfold bareO; go_simp) HS (fun inv => ?_)
        try simp only [Act.put, List.setIfInBounds_toArray, List.set_cons_zero, List.set_cons_succ]
        refine FirstH.go (i := 12) (v := .int .i64 nn) rfl rfl 84 rfl (Op.binOp BinOp.rem 3 (Operand.tmp 83) (Operand.const (Value.int IntKind.i64 3)) 3) rfl (by kernel_rfl) (fun _ _ _ h => h) inv (fun W hS => by have h1 := hn4; have h2 := hv3; unfold bareO; go_simp) HS (fun inv => ?_)
        try simp only [Act.put, List.setIfInBounds_toArray, List.set_cons_zero, List.set_cons_succ]
        refine FirstH.go (i := 13) (v := .int .i64 (1 + (nn : Int))) rfl rfl 85 rfl (Op.binOp BinOp.add 3 (Operand.const (Value.int IntKind.i64 1)) (Operand.tmp 84) 3) rfl (by kernel_rfl) (fun _ _ _ h => h) inv (fun W hS => by have h2 := hv4; unfold bareO; go_simp) HS (fun inv => ?_)
        try simp only [Act.put, List.setIfInBounds_toArray, List.set_cons_zero, List.set_cons_succ]
        refine FirstH.only (i := 7) (by kernel_rfl) (by decide) inv (fun inv => wpOp_call (i := 7) rfl rfl 79 rfl (Op.call { callee := Callee.value (.func 16), args := #[Operand.tmp 78], argTypes := #[3] }) rfl 16 #[.int .i64 x] (by unfold bareO; go_simp) (procC x (by have := HX.out; omega) we) ?_)
        rintro e w2 ⟨rfl, b2⟩
        have HS2 : w2.heap[a.bf]? = some (.cells #[.slice (some ⟨g, o, none⟩) a.n cp, .slice Af nF cf, .int .i64 c] 35 (0, 0)) ∧ w2.cell? ⟨g, o, none⟩ = some (.pointer (some ⟨b0, 0, none⟩)) ∧ w2.cell? ⟨g, o + x, none⟩ = some (.pointer (some ⟨bx, 0, none⟩)) ∧ g < w2.heap.size ∧ w2.heap[k0]? = some (.cells #[.int .i64 kd, .int .i64 X, .int .i64 N, .int .i64 I] 28 (0, 0)) := ⟨(b2.block a.bf (heap_lt HS.1)).trans HS.1, (b2.cell (p := ⟨g, o, none⟩) HS.2.2.2.1).trans HS.2.1, (b2.cell (p := ⟨g, o + x, none⟩) HS.2.2.2.1).trans HS.2.2.1, Nat.lt_of_lt_of_le HS.2.2.2.1 b2.size, (b2.block k0 (heap_lt HS.2.2.2.2)).trans HS.2.2.2.2⟩
        have B2 := Lib.hid (Bd2.out.trans (b2.mono SZd2.out))
        have HF2 := Lib.hid (HFd2.out.below b2)
        have SZ2 : Hid (base ≤ w2.heap.size) := Lib.hid (Nat.le_trans SZd2.out b2.size)
        clear b2 HS
        refine ⟨_, rfl, HS2, ?_⟩
        try simp only [Act.put, List.setIfInBounds_toArray, List.set_cons_zero, List.set_cons_succ]
        refine FirstH.only (i := 14) (by kernel_rfl) (by decide) inv (fun inv => wpOp_call (i := 14) rfl rfl 86 rfl (Op.call { callee := Callee.value (.func 25), args := #[Operand.tmp 77, Operand.tmp 79, Operand.tmp 85], argTypes := #[36, 49, 3] }) rfl 25 #[.pointer (some ⟨b0, 0, none⟩), .agg #[.int .u8 (pr x).n, .int .u16 (pr x).l], .int .i64 (1 + (nn : Int))] (by unfold bareO; go_simp) (HB0.out ▸ rSince w2 (a.bs 0) (a.ms 0) (a.lbs 0) (R 0) (HF2.out.rolls 0 h0n) (pr x) (pr_rg (by have := HX.out; omega)) (1 + (nn : Int)) HI.out.lead0 (by rw [(HI.out.M 0 h0n).1, rk_mem HX.out]; omega) (by omega)) ?_)
        rintro e w3 ⟨v3, rfl, L3, hm3, hx3, hf3, b3⟩
        have HS3 : w3.heap[a.bf]? = some (.cells #[.slice (some ⟨g, o, none⟩) a.n cp, .slice Af nF cf, .int .i64 c] 35 (0, 0)) ∧ w3.cell? ⟨g, o, none⟩ = some (.pointer (some ⟨b0, 0, none⟩)) ∧ w3.cell? ⟨g, o + x, none⟩ = some (.pointer (some ⟨bx, 0, none⟩)) ∧ g < w3.heap.size ∧ w3.heap[k0]? = some (.cells #[.int .i64 kd, .int .i64 X, .int .i64 N, .int .i64 I] 28 (0, 0)) := ⟨(b3.block a.bf (heap_lt HS2.1)).trans HS2.1, (b3.cell (p := ⟨g, o, none⟩) HS2.2.2.2.1).trans HS2.2.1, (b3.cell (p := ⟨g, o + x, none⟩) HS2.2.2.2.1).trans HS2.2.2.1, Nat.lt_of_lt_of_le HS2.2.2.2.1 b3.size, (b3.block k0 (heap_lt HS2.2.2.2.2)).trans HS2.2.2.2.2⟩
        have B3 := Lib.hid (B2.out.trans (b3.mono SZ2.out))
        have HF3 := Lib.hid (HF2.out.below b3)
        have SZ3 : Hid (base ≤ w3.heap.size) := Lib.hid (Nat.le_trans SZ2.out b3.size)
        obtain ⟨A3, c3, rfl, -, -, -, -⟩ := hx3.rows
        obtain ⟨hs3, hhs3⟩ : ∃ z, (R 0).has (pr x) = z := ⟨_, rfl⟩
        rw [hhs3] at hm3 ⊢
        obtain ⟨n3, hn3'⟩ : ∃ z, L3.length = z := ⟨_, rfl⟩
        have HN3 := Lib.hid hn3'
        have HHS3 := Lib.hid hhs3
        have HM3 := Lib.hid hm3
        have HX3 := Lib.hid hx3
        have HFR3 : Hid (∀ q i, (Value.slice A3 L3.length c3).ownBlock = some q → i < a.n → a.lbs i ≠ some q) := Lib.hid fun q i hq hi e => by
          have h1 := hf3 q hq
          obtain ⟨wi, ei, qi⟩ := HF2.out.rolls i hi
          have h2 := RowO.lt qi.row q (ei.trans e)
          omega
        rw [hn3']
        clear b3 HS2 hm3 hx3 hf3 hn3' hhs3
        refine ⟨_, rfl, HS3, ?_⟩
        try simp only [Act.put, List.setIfInBounds_toArray, List.set_cons_zero, List.set_cons_succ]
        refine FirstH.go (i := 15) (v := .tuple #[.int .i64 hs3, .slice A3 n3 c3]) rfl rfl 71 rfl (Op.move (Operand.tmp 86)) rfl (by kernel_rfl) (fun _ _ _ h => h) inv (fun W hS => by unfold bareO; go_simp) HS3 (fun inv => ?_)
        try simp only [Act.put, List.setIfInBounds_toArray, List.set_cons_zero, List.set_cons_succ]
        refine FirstH.go (i := 16) (v := .int .i64 hs3) rfl rfl 87 rfl (Op.extract (Operand.tmp 71) 0) rfl (by kernel_rfl) (fun _ _ _ h => h) inv (fun W hS => by unfold bareO; go_simp) HS3 (fun inv => ?_)
        try simp only [Act.put, List.setIfInBounds_toArray, List.set_cons_zero, List.set_cons_succ]
        refine FirstH.go (i := 17) (v := .slice A3 n3 c3) rfl rfl 88 rfl (Op.extract (Operand.tmp 71) 1) rfl (by kernel_rfl) (fun _ _ _ h => h) inv (fun W hS => by unfold bareO; go_simp) HS3 (fun inv => ?_)
        try simp only [Act.put, List.setIfInBounds_toArray, List.set_cons_zero, List.set_cons_succ]
        refine FirstH.go (i := 18) (v := .int .i64 hs3) rfl rfl 6 rfl (Op.assign (Operand.tmp 87)) rfl (by kernel_rfl) (fun _ _ _ h => h) inv (fun W hS => by unfold bareO; go_simp) HS3 (fun inv => ?_)
        try simp only [Act.put, List.setIfInBounds_toArray, List.set_cons_zero, List.set_cons_succ]
        refine ⟨by kernel_rfl, ?_⟩
        simp only [List.drop_succ_cons, List.drop_zero]
        have S3 : Hid (w3.drew.heap[a.bf]? = some (.cells #[.slice (some ⟨g, o, none⟩) a.n cp, .slice Af nF cf, .int .i64 c] 35 (0, 0)) ∧ w3.drew.cell? ⟨g, o, none⟩ = some (.pointer (some ⟨b0, 0, none⟩)) ∧ w3.drew.cell? ⟨g, o + x, none⟩ = some (.pointer (some ⟨bx, 0, none⟩)) ∧ g < w3.drew.heap.size ∧ w3.drew.heap[k0]? = some (.cells #[.int .i64 kd, .int .i64 X, .int .i64 N, .int .i64 I] 28 (0, 0))) := Lib.hid HS3
        have B3d : Hid (Below base W w3.drew) := Lib.hid B3.out.drew
        have HF3d := Lib.hid (HF3.out.below (Below.refl _ _).drew)
        have HX3d := Lib.hid (HX3.out.keep (Keeps.of_below (Below.refl _ _).drew))
        have SZ3d : Hid (base ≤ w3.drew.heap.size) := Lib.hid SZ3.out
        clear HS3
        go_wp2_with fail
        refine region_heldT (S := fun u => u.heap[a.bf]? = some (.cells #[.slice (some ⟨g, o, none⟩) a.n cp, .slice Af nF cf, .int .i64 c] 35 (0, 0)) ∧ u.cell? ⟨g, o, none⟩ = some (.pointer (some ⟨b0, 0, none⟩)) ∧ u.cell? ⟨g, o + x, none⟩ = some (.pointer (some ⟨bx, 0, none⟩)) ∧ g < u.heap.size ∧ u.heap[k0]? = some (.cells #[.int .i64 kd, .int .i64 X, .int .i64 N, .int .i64 I] 28 (0, 0))) 18 (by kernel_rfl) (by decide) (fun inv => ?_)
        have HS := S3.out
        change FirstH _ _ _ _ _ _ _ _ _ _ w3.drew
        generalize w3.drew = w4 at *
        refine FirstH.go (i := 0) (v := .pointer (some ⟨a.bf, 0, none⟩)) rfl rfl 89 rfl (Op.move (Operand.tmp 0)) rfl (by kernel_rfl) (fun _ _ _ h => h) inv (fun W hS => by unfold bareO; go_simp) HS (fun inv => ?_)
        try simp only [Act.put, List.setIfInBounds_toArray, List.set_cons_zero, List.set_cons_succ]
        refine FirstH.go (i := 1) (v := .pointer (some ⟨a.bf, 0, none⟩)) rfl rfl 90 rfl (Op.move (Operand.tmp 0)) rfl (by kernel_rfl) (fun _ _ _ h => h) inv (fun W hS => by unfold bareO; go_simp) HS (fun inv => ?_)
        try simp only [Act.put, List.setIfInBounds_toArray, List.set_cons_zero, List.set_cons_succ]
        refine FirstH.go (i := 2) (v := .pointer (some ⟨a.bf, 0, none⟩)) rfl rfl 91 rfl (Op.nilCheck (Operand.tmp 90)) rfl (by kernel_rfl) (fun _ _ _ h => h) inv (fun W hS => by unfold bareO; go_simp) HS (fun inv => ?_)
        try simp only [Act.put, List.setIfInBounds_toArray, List.set_cons_zero, List.set_cons_succ]
        refine FirstH.go (i := 3) (v := .pointer (some ⟨a.bf, 1, none⟩)) rfl rfl 92 rfl (Op.fieldAddr 35 (Operand.tmp 91) 1) rfl (by kernel_rfl) (fun _ _ _ h => h) inv (fun W hS => by unfold bareO; go_simp) HS (fun inv => ?_)
        try simp only [Act.put, List.setIfInBounds_toArray, List.set_cons_zero, List.set_cons_succ]
        refine FirstH.go (i := 4) (v := .slice Af nF cf) rfl rfl 93 rfl (Op.load 33 (Operand.tmp 92)) rfl (by kernel_rfl) (fun _ _ _ h => h) inv (fun W hS => by have q0 := cell_of hS.1 0 (.slice (some ⟨g, o, none⟩) a.n cp) rfl; have q1 := cell_of hS.1 1 (.slice Af nF cf) rfl; have q2 := cell_of hS.1 2 (.int .i64 c) rfl; have y0 := hS.2.1; have y1 := hS.2.2.1; have s0 := cell_of hS.2.2.2.2 0 (.int .i64 kd) rfl; have s1 := cell_of hS.2.2.2.2 1 (.int .i64 X) rfl; have s2 := cell_of hS.2.2.2.2 2 (.int .i64 N) rfl; have s3 := cell_of hS.2.2.2.2 3 (.int .i64 I) rfl; unfold bareO; go_simp) HS (fun inv => ?_)
        try simp only [Act.put, List.setIfInBounds_toArray, List.set_cons_zero, List.set_cons_succ]
        refine FirstH.go (i := 5) (v := .int .i64 x) rfl rfl 94 rfl (Op.move (Operand.tmp 4)) rfl (by kernel_rfl) (fun _ _ _ h => h) inv (fun W hS => by unfold bareO; go_simp) HS (fun inv => ?_)
        try simp only [Act.put, List.setIfInBounds_toArray, List.set_cons_zero, List.set_cons_succ]
        refine FirstH.go (i := 6) (v := .int .i64 hs3) rfl rfl 95 rfl (Op.move (Operand.tmp 6)) rfl (by kernel_rfl) (fun _ _ _ h => h) inv (fun W hS => by unfold bareO; go_simp) HS (fun inv => ?_)
        try simp only [Act.put, List.setIfInBounds_toArray, List.set_cons_zero, List.set_cons_succ]
        refine FirstH.go (i := 7) (v := .pointer (some ⟨a.bf, 0, none⟩)) rfl rfl 96 rfl (Op.move (Operand.tmp 0)) rfl (by kernel_rfl) (fun _ _ _ h => h) inv (fun W hS => by unfold bareO; go_simp) HS (fun inv => ?_)
        try simp only [Act.put, List.setIfInBounds_toArray, List.set_cons_zero, List.set_cons_succ]
        refine FirstH.go (i := 8) (v := .pointer (some ⟨a.bf, 0, none⟩)) rfl rfl 97 rfl (Op.nilCheck (Operand.tmp 96)) rfl (by kernel_rfl) (fun _ _ _ h => h) inv (fun W hS => by unfold bareO; go_simp) HS (fun inv => ?_)
        try simp only [Act.put, List.setIfInBounds_toArray, List.set_cons_zero, List.set_cons_succ]
        refine FirstH.go (i := 9) (v := .pointer (some ⟨a.bf, 0, none⟩)) rfl rfl 98 rfl (Op.fieldAddr 35 (Operand.tmp 97) 0) rfl (by kernel_rfl) (fun _ _ _ h => h) inv (fun W hS => by unfold bareO; go_simp) HS (fun inv => ?_)
        try simp only [Act.put, List.setIfInBounds_toArray, List.set_cons_zero, List.set_cons_succ]
        refine FirstH.go (i := 10) (v := .slice (some ⟨g, o, none⟩) a.n cp) rfl rfl 99 rfl (Op.load 32 (Operand.tmp 98)) rfl (by kernel_rfl) (fun _ _ _ h => h) inv (fun W hS => by have q0 := cell_of hS.1 0 (.slice (some ⟨g, o, none⟩) a.n cp) rfl; have q1 := cell_of hS.1 1 (.slice Af nF cf) rfl; have q2 := cell_of hS.1 2 (.int .i64 c) rfl; have y0 := hS.2.1; have y1 := hS.2.2.1; have s0 := cell_of hS.2.2.2.2 0 (.int .i64 kd) rfl; have s1 := cell_of hS.2.2.2.2 1 (.int .i64 X) rfl; have s2 := cell_of hS.2.2.2.2 2 (.int .i64 N) rfl; have s3 := cell_of hS.2.2.2.2 3 (.int .i64 I) rfl; unfold bareO; go_simp) HS (fun inv => ?_)
        try simp only [Act.put, List.setIfInBounds_toArray, List.set_cons_zero, List.set_cons_succ]
        refine FirstH.go (i := 11) (v := .pointer (some ⟨g, o, none⟩)) rfl rfl 100 rfl (Op.indexAddr 32 (Operand.tmp 99) (Operand.const (Value.int IntKind.i64 0))) rfl (by kernel_rfl) (fun _ _ _ h => h) inv (fun W hS => by have hp := h0n; unfold bareO; go_simp) HS (fun inv => ?_)
        try simp only [Act.put, List.setIfInBounds_toArray, List.set_cons_zero, List.set_cons_succ]
        refine FirstH.go (i := 12) (v := .pointer (some ⟨b0, 0, none⟩)) rfl rfl 101 rfl (Op.load 36 (Operand.tmp 100)) rfl (by kernel_rfl) (fun _ _ _ h => h) inv (fun W hS => by have q0 := cell_of hS.1 0 (.slice (some ⟨g, o, none⟩) a.n cp) rfl; have q1 := cell_of hS.1 1 (.slice Af nF cf) rfl; have q2 := cell_of hS.1 2 (.int .i64 c) rfl; have y0 := hS.2.1; have y1 := hS.2.2.1; have s0 := cell_of hS.2.2.2.2 0 (.int .i64 kd) rfl; have s1 := cell_of hS.2.2.2.2 1 (.int .i64 X) rfl; have s2 := cell_of hS.2.2.2.2 2 (.int .i64 N) rfl; have s3 := cell_of hS.2.2.2.2 3 (.int .i64 I) rfl; unfold bareO; go_simp) HS (fun inv => ?_)
        try simp only [Act.put, List.setIfInBounds_toArray, List.set_cons_zero, List.set_cons_succ]
        refine FirstH.go (i := 14) (v := .slice A3 n3 c3) rfl rfl 103 rfl (Op.move (Operand.tmp 7)) rfl (by kernel_rfl) (fun _ _ _ h => h) inv (fun W hS => by unfold bareO; go_simp) HS (fun inv => ?_)
        try simp only [Act.put, List.setIfInBounds_toArray, List.set_cons_zero, List.set_cons_succ]
        refine FirstH.only (i := 13) (by kernel_rfl) (by decide) inv (fun inv => wpOp_call (i := 13) rfl rfl 102 rfl (Op.call { callee := Callee.value (.func 13), args := #[Operand.tmp 101], argTypes := #[36] }) rfl 13 #[.pointer (some ⟨b0, 0, none⟩)] (by unfold bareO; go_simp) (HB0.out ▸ rCommit w4 (a.bs 0) (a.ms 0) (a.lbs 0) (R 0) (HF3d.out.rolls 0 h0n)) ?_)
        rintro e w5 ⟨rfl, rfl⟩
        refine ⟨_, rfl, HS, ?_⟩
        try simp only [Act.put, List.setIfInBounds_toArray, List.set_cons_zero, List.set_cons_succ]
        obtain ⟨tn, htn⟩ : ∃ t : Tl, t = ⟨x, hs3, (R 0).commit, A3, c3, L3⟩ := ⟨_, rfl⟩
        have hcs : tn.cs = #[.int .i64 x, .int .i64 hs3, .int .i64 (R 0).commit, .slice A3 n3 c3] := by rw [htn, ← HN3.out]; rfl
        have HTE := Lib.hid htn
        clear htn
        have HTN : Hid ((tn.p.to = 0 → 1 ≤ tn.p.co ∧ tn.p.co < a.n ∧ tn.p.fr ≤ (R tn.p.co).L.length) ∧ (tn.p.to ≠ 0 → tn.p.to < a.n ∧ tn.p.co ≤ (R 0).commit ∧ tn.p.fr ≤ (R 0).L.length ∧ tn.p.X = ((R 0).L.drop tn.p.fr).take tn.p.X.length)) := Lib.hid (by
          have htn := HTE.out
          subst htn
          refine ⟨fun h => ?_, fun _ => ⟨HX.out, Nat.le_refl _, ?_, ?_⟩⟩
          · change x = 0 at h
            omega
          · show hs3 ≤ _
            rw [← HHS3.out]
            obtain ⟨wi, ei, qi⟩ := HF3d.out.rolls 0 h0n
            exact Rd.has_le qi _
          · exact take_self HM3.out)
        refine FirstH.go (i := 15) (v := .agg tn.cs) rfl rfl 104 rfl (Op.build 84 #[(0, Operand.tmp 94), (1, Operand.tmp 95), (2, Operand.tmp 102), (3, Operand.tmp 103)]) rfl (by kernel_rfl) (fun _ _ _ h => h) inv (fun W hS => by rw [hcs]; unfold bareO; go_simp) HS (fun inv => ?_)
        try simp only [Act.put, List.setIfInBounds_toArray, List.set_cons_zero, List.set_cons_succ]
        obtain ⟨ka, hka⟩ : ∃ z, w4.heap.size = z := ⟨_, rfl⟩
        obtain ⟨w6, hw6⟩ : ∃ z, w4.alloc (.cells tn.cs 84) = z := ⟨_, rfl⟩
        have b6 : Below w4.heap.size w4 w6 := by rw [← hw6]; exact (Below.refl _ _).alloc (Nat.le_refl _) _
        have r6 : w6.heap[ka]? = some (.cells tn.cs 84 (0, 0)) := by rw [← hw6, ← hka]; exact heap_alloc_new _ _
        have HS6 : w6.heap[a.bf]? = some (.cells #[.slice (some ⟨g, o, none⟩) a.n cp, .slice Af nF cf, .int .i64 c] 35 (0, 0)) ∧ w6.cell? ⟨g, o, none⟩ = some (.pointer (some ⟨b0, 0, none⟩)) ∧ w6.cell? ⟨g, o + x, none⟩ = some (.pointer (some ⟨bx, 0, none⟩)) ∧ g < w6.heap.size ∧ w6.heap[k0]? = some (.cells #[.int .i64 kd, .int .i64 X, .int .i64 N, .int .i64 I] 28 (0, 0)) := ⟨(b6.block a.bf (heap_lt HS.1)).trans HS.1, (b6.cell (p := ⟨g, o, none⟩) HS.2.2.2.1).trans HS.2.1, (b6.cell (p := ⟨g, o + x, none⟩) HS.2.2.2.1).trans HS.2.2.1, Nat.lt_of_lt_of_le HS.2.2.2.1 b6.size, (b6.block k0 (heap_lt HS.2.2.2.2)).trans HS.2.2.2.2⟩
        refine FirstH.only (i := 16) (by kernel_rfl) (by decide) inv (fun inv => wpOp_vl (i := 16) (v := .slice (some ⟨ka, 0, none⟩) 1 1) (w' := w6) rfl rfl 105 rfl _ rfl (by rw [← hw6, ← hka]; unfold bareO; go_simp) ?_)
        refine ⟨HS6, ?_⟩
        try simp only [Act.put, List.setIfInBounds_toArray, List.set_cons_zero, List.set_cons_succ]
        have B6 := Lib.hid (B3d.out.trans (b6.mono SZ3d.out))
        have HF6 := Lib.hid (HF3d.out.below b6)
        have SZ6 : Hid (base ≤ w6.heap.size) := Lib.hid (Nat.le_trans SZ3d.out b6.size)
        have R6 := Lib.hid r6
        have HFL : Hid (EnO w6 tn.v tn.L ∧ ∀ q i, tn.v.ownBlock = some q → i < a.n → a.lbs i ≠ some q) := Lib.hid (by have htn := HTE.out; subst htn; exact ⟨HX3d.out.keep (Keeps.of_below b6), HFR3.out⟩)
        clear hw6 hka b6 r6 HS
        obtain ⟨i0, hi0, hz0, hz1, hz2⟩ := info_parts tolI
        refine FirstH.only (i := 17) (by kernel_rfl) (by decide) inv (fun inv => wpOp_any rfl rfl (wp_appO 106 rfl (.tmp 93) (.tmp 105) 33 84 rfl i0 _ 4 48 Try.underlying33 hi0 hz0 hz1 hz2 rfl (by decide) (.slice Af nF cf) nF (flat Tl.cs F) rfl (by have := HF6.out.ff; rw [HVF.out, HNF.out] at this; exact this) ⟨ka, 0, none⟩ 1 1 tn.cs.toList rfl rfl (fun j u hu => by rw [addr_add, Nat.zero_add, cell_of_row _ _ j _ _ _ R6.out]; simpa using hu) (Tl.oneB tn) (by decide) (by omega) (by decide) ?_))
        intro v7 w7 O7 g7 f7
        obtain ⟨A7, c7, rfl, _, _, _⟩ := O7.slice
        have kp7 : KP (fun k => (Value.slice Af nF cf).ownBlock = some k) w6 w7 := KP.grown g7 fun k hk => hk
        have hnot : ∀ (q : Nat) (cur : Array Value) (t : TypeId), w6.heap[q]? = some (.cells cur t (0, 0)) → t ≠ 84 → ¬ (Value.slice Af nF cf).ownBlock = some q := fun q cur t hq ht e => by
          have hff := HF6.out.ff
          rw [HVF.out] at hff
          obtain ⟨cur', hc'⟩ := RowO.block hff q e
          exact ht (heap_ty hq hc')
        have hg6 : ∃ cur, w6.heap[g]? = some (.cells cur 36 (0, 0)) := RowO.block HF6.out.rr g (by rw [HVR.out]; rfl)
        obtain ⟨curg, hg6⟩ := hg6
        have hgk : w7.heap[g]? = w6.heap[g]? := kp7.block g (heap_lt hg6) (hnot g _ _ hg6 (by decide))
        have HS7 : w7.heap[a.bf]? = some (.cells #[.slice (some ⟨g, o, none⟩) a.n cp, .slice Af nF cf, .int .i64 c] 35 (0, 0)) ∧ w7.cell? ⟨g, o, none⟩ = some (.pointer (some ⟨b0, 0, none⟩)) ∧ w7.cell? ⟨g, o + x, none⟩ = some (.pointer (some ⟨bx, 0, none⟩)) ∧ g < w7.heap.size ∧ w7.heap[k0]? = some (.cells #[.int .i64 kd, .int .i64 X, .int .i64 N, .int .i64 I] 28 (0, 0)) := ⟨(kp7.block a.bf (heap_lt HS6.1) (hnot _ _ _ HS6.1 (by decide))).trans HS6.1, (World.cell?_of_block (a := ⟨g, o, none⟩) hgk).trans HS6.2.1, (World.cell?_of_block (a := ⟨g, o + x, none⟩) hgk).trans HS6.2.2.1, Nat.lt_of_lt_of_le HS6.2.2.2.1 kp7.size, (kp7.block k0 (heap_lt HS6.2.2.2.2) (hnot _ _ _ HS6.2.2.2.2 (by decide))).trans HS6.2.2.2.2⟩
        refine ⟨HS7, ?_⟩
        try simp only [Act.put, List.setIfInBounds_toArray, List.set_cons_zero, List.set_cons_succ]
        refine ⟨by kernel_rfl, ?_⟩
        simp only [List.drop_succ_cons, List.drop_zero]
        have f1 := frz_row 1 HS7.1
        have c1' := cell_of HS7.1 1 (.slice Af nF cf) rfl
        have R7 := Lib.hid HS7.1
        have KP7 := Lib.hid kp7
        have F7 := Lib.hid f7
        have O7' := Lib.hid O7
        have HEND : Hid (StepR base W (w7.setCell ⟨a.bf, 1, none⟩ (.slice A7 (nF + 1) c7)) a R c) := Lib.hid (by
          have kset : KP (fun j => j = a.bf) w7 (w7.setCell ⟨a.bf, 1, none⟩ (.slice A7 (nF + 1) c7)) := KP.set (S := fun j => j = a.bf) w7 a.bf 1 _ rfl
          have kall : KP (fun j => a.vf.ownBlock = some j ∨ j = a.bf) w6 (w7.setCell ⟨a.bf, 1, none⟩ (.slice A7 (nF + 1) c7)) := (kp7.mono fun j hj => .inl (by rw [HVF.out]; exact hj)).trans (kset.mono fun j hj => .inr hj) fun _ _ h => h
          have hlen : (F ++ [tn]).length = nF + 1 := by rw [List.length_append, HNF.out]; rfl
          have hrow : RowO w7 84 4 (.slice A7 (nF + 1) c7) (F ++ [tn]).length (flat Tl.cs (F ++ [tn])) := by
            rw [hlen, flat_append]
            simpa [flat] using O7'.out
          have hFM := HF6.out.fly (F' := F ++ [tn]) (c' := c) (.slice A7 (nF + 1) c7) kall ((row_set (i := 1) R7.out _).trans (by rw [HVR.out]; rfl)) (hrow.keepB fun q hq => by
            obtain ⟨cur, hc⟩ := RowO.block hrow q hq
            exact kset.block q (heap_lt hc) fun e => absurd (heap_ty (e ▸ hc) R7.out) (by decide)) (fun t ht => by
            rcases List.mem_append.1 ht with ht | ht
            · exact HF6.out.fl t ht
            · obtain rfl : t = tn := by simpa using ht
              exact HFL.out) (fun q hq => by
            rcases F7.out with e | ⟨j, e, hj⟩
            · exact HF6.out.lo.2.2 q (by rw [HVF.out]; exact e ▸ hq)
            · rw [e] at hq
              injection hq with hq
              subst hq
              exact Nat.le_trans SZ6.out hj) (by rw [hlen]; omega)
          refine ⟨{ a with vf := .slice A7 (nF + 1) c7 }, R, F ++ [tn], c, hFM, rfl, rfl, ?_, Held.refl _ _, Nat.le_succ _, B6.out.trans (HF6.out.belowF kall SZ6.out)⟩
          rw [List.map_append]
          exact HI.out.snoc _ HTN.out)
        clear HS6 HS7 kp7 g7 f7 O7 hi0 hz0 hz1 hz2 hnot hgk inv
        go_wp2
        first | (refine bodyPost_end (results_none rfl _ _ _) rfl ⟨rfl, HEND.out⟩) | (refine bodyPost_ret (results_none rfl _ _ _) rfl ⟨rfl, HEND.out⟩)
      · have hfi1 : ¬ (nF : Int) < 100 := by omega
        go_wp2_with fail
        first | (refine bodyPost_end (results_none rfl _ _ _) rfl ⟨rfl, HNO.out⟩) | (refine bodyPost_ret (results_none rfl _ _ _) rfl ⟨rfl, HNO.out⟩)
    · have hxi1 : ¬ (0 : Int) < (x : Int) := by omega
      go_wp2_with fail
      first | (refine bodyPost_end (results_none rfl _ _ _) rfl ⟨rfl, HNO.out⟩) | (refine bodyPost_ret (results_none rfl _ _ _) rfl ⟨rfl, HNO.out⟩)
  by_cases e2 : kd = 2
  · have hkb1 : (kd == 1) = false := by simp [e2]
    have hkc1 : decide (kd = 1) = false := by simp [e2]
    have hkb2 : (kd == 2) = true := by simp [e2]
    have hkc2 : decide (kd = 2) = true := by simp [e2]
    have hkb7 : (kd == 7) = false := by simp [e2]
    have hkc7 : decide (kd = 7) = false := by simp [e2]
    have hkg : decide ((3 : Int) ≤ kd) = false := by simp [e2]
    clear e0 e1 e2
    by_cases hx1 : 0 < x
    · have hxi1 : (0 : Int) < (x : Int) := by omega
      by_cases hf1 : nF < 100
      · have hfi1 : (nF : Int) < 100 := by omega
        as_aux_lemma =>
        skip
        have S2 : Hid (wd.drew.heap[a.bf]? = some (.cells #[.slice (some ⟨g, o, none⟩) a.n cp, .slice Af nF cf, .int .i64 c] 35 (0, 0)) ∧ wd.drew.cell? ⟨g, o, none⟩ = some (.pointer (some ⟨b0, 0, none⟩)) ∧ wd.drew.cell? ⟨g, o + x, none⟩ = some (.pointer (some ⟨bx, 0, none⟩)) ∧ g < wd.drew.heap.size ∧ wd.drew.heap[k0]? = some (.cells #[.int .i64 kd, .int .i64 X, .int .i64 N, .int .i64 I] 28 (0, 0))) := Lib.hid HSd.out
        have Bd2 : Hid (Below base W wd.drew) := Lib.hid BBd.out.drew
        have HFd2 := Lib.hid (HFd.out.below (Below.refl _ _).drew)
        have SZd2 : Hid (base ≤ wd.drew.heap.size) := Lib.hid SZd.out
        go_wp2_with fail
        refine region_heldT (S := fun u => u.heap[a.bf]? = some (.cells #[.slice (some ⟨g, o, none⟩) a.n cp, .slice Af nF cf, .int .i64 c] 35 (0, 0)) ∧ u.cell? ⟨g, o, none⟩ = some (.pointer (some ⟨b0, 0, none⟩)) ∧ u.cell? ⟨g, o + x, none⟩ = some (.pointer (some ⟨bx, 0, none⟩)) ∧ g < u.heap.size ∧ u.heap[k0]? = some (.cells #[.int .i64 kd, .int .i64 X, .int .i64 N, .int .i64 I] 28 (0, 0))) 17 (by kernel_rfl) (by decide) (fun inv => ?_)
        have HS := S2.out
        change FirstH _ _ _ _ _ _ _ _ _ _ wd.drew
        generalize wd.drew = w4 at *
        refine FirstH.go (i := 0) (v := .pointer (some ⟨a.bf, 0, none⟩)) rfl rfl 121 rfl (Op.move (Operand.tmp 0)) rfl (by kernel_rfl) (fun _ _ _ h => h) inv (fun W hS => by unfold bareO; go_simp) HS (fun inv => ?_)
        try simp only [Act.put, List.setIfInBounds_toArray, List.set_cons_zero, List.set_cons_succ]
        refine FirstH.go (i := 1) (v := .pointer (some ⟨a.bf, 0, none⟩)) rfl rfl 122 rfl (Op.move (Operand.tmp 0)) rfl (by kernel_rfl) (fun _ _ _ h => h) inv (fun W hS => by unfold bareO; go_simp) HS (fun inv => ?_)
        try simp only [Act.put, List.setIfInBounds_toArray, List.set_cons_zero, List.set_cons_succ]
        refine FirstH.go (i := 2) (v := .pointer (some ⟨a.bf, 0, none⟩)) rfl rfl 123 rfl (Op.nilCheck (Operand.tmp 122)) rfl (by kernel_rfl) (fun _ _ _ h => h) inv (fun W hS => by unfold bareO; go_simp) HS (fun inv => ?_)
        try simp only [Act.put, List.setIfInBounds_toArray, List.set_cons_zero, List.set_cons_succ]
        refine FirstH.go (i := 3) (v := .pointer (some ⟨a.bf, 1, none⟩)) rfl rfl 124 rfl (Op.fieldAddr 35 (Operand.tmp 123) 1) rfl (by kernel_rfl) (fun _ _ _ h => h) inv (fun W hS => by unfold bareO; go_simp) HS (fun inv => ?_)
        try simp only [Act.put, List.setIfInBounds_toArray, List.set_cons_zero, List.set_cons_succ]
        refine FirstH.go (i := 4) (v := .slice Af nF cf) rfl rfl 125 rfl (Op.load 33 (Operand.tmp 124)) rfl (by kernel_rfl) (fun _ _ _ h => h) inv (fun W hS => by have q0 := cell_of hS.1 0 (.slice (some ⟨g, o, none⟩) a.n cp) rfl; have q1 := cell_of hS.1 1 (.slice Af nF cf) rfl; have q2 := cell_of hS.1 2 (.int .i64 c) rfl; have y0 := hS.2.1; have y1 := hS.2.2.1; have s0 := cell_of hS.2.2.2.2 0 (.int .i64 kd) rfl; have s1 := cell_of hS.2.2.2.2 1 (.int .i64 X) rfl; have s2 := cell_of hS.2.2.2.2 2 (.int .i64 N) rfl; have s3 := cell_of hS.2.2.2.2 3 (.int .i64 I) rfl; unfold bareO; go_simp) HS (fun inv => ?_)
        try simp only [Act.put, List.setIfInBounds_toArray, List.set_cons_zero, List.set_cons_succ]
        refine FirstH.go (i := 5) (v := .pointer (some ⟨a.bf, 0, none⟩)) rfl rfl 126 rfl (Op.move (Operand.tmp 0)) rfl (by kernel_rfl) (fun _ _ _ h => h) inv (fun W hS => by unfold bareO; go_simp) HS (fun inv => ?_)
        try simp only [Act.put, List.setIfInBounds_toArray, List.set_cons_zero, List.set_cons_succ]
        refine FirstH.go (i := 6) (v := .pointer (some ⟨a.bf, 0, none⟩)) rfl rfl 127 rfl (Op.nilCheck (Operand.tmp 126)) rfl (by kernel_rfl) (fun _ _ _ h => h) inv (fun W hS => by unfold bareO; go_simp) HS (fun inv => ?_)
        try simp only [Act.put, List.setIfInBounds_toArray, List.set_cons_zero, List.set_cons_succ]
        refine FirstH.go (i := 7) (v := .pointer (some ⟨a.bf, 0, none⟩)) rfl rfl 128 rfl (Op.fieldAddr 35 (Operand.tmp 127) 0) rfl (by kernel_rfl) (fun _ _ _ h => h) inv (fun W hS => by unfold bareO; go_simp) HS (fun inv => ?_)
        try simp only [Act.put, List.setIfInBounds_toArray, List.set_cons_zero, List.set_cons_succ]
        refine FirstH.go (i := 8) (v := .slice (some ⟨g, o, none⟩) a.n cp) rfl rfl 129 rfl (Op.load 32 (Operand.tmp 128)) rfl (by kernel_rfl) (fun _ _ _ h => h) inv (fun W hS => by have q0 := cell_of hS.1 0 (.slice (some ⟨g, o, none⟩) a.n cp) rfl; have q1 := cell_of hS.1 1 (.slice Af nF cf) rfl; have q2 := cell_of hS.1 2 (.int .i64 c) rfl; have y0 := hS.2.1; have y1 := hS.2.2.1; have s0 := cell_of hS.2.2.2.2 0 (.int .i64 kd) rfl; have s1 := cell_of hS.2.2.2.2 1 (.int .i64 X) rfl; have s2 := cell_of hS.2.2.2.2 2 (.int .i64 N) rfl; have s3 := cell_of hS.2.2.2.2 3 (.int .i64 I) rfl; unfold bareO; go_simp) HS (fun inv => ?_)
        try simp only [Act.put, List.setIfInBounds_toArray, List.set_cons_zero, List.set_cons_succ]
        refine FirstH.go (i := 9) (v := .int .i64 x) rfl rfl 130 rfl (Op.move (Operand.tmp 4)) rfl (by kernel_rfl) (fun _ _ _ h => h) inv (fun W hS => by unfold bareO; go_simp) HS (fun inv => ?_)
        try simp only [Act.put, List.setIfInBounds_toArray, List.set_cons_zero, List.set_cons_succ]
        refine FirstH.go (i := 10) (v := .pointer (some ⟨g, o + x, none⟩)) rfl rfl 131 rfl (Op.indexAddr 32 (Operand.tmp 129) (Operand.tmp 130)) rfl (by kernel_rfl) (fun _ _ _ h => h) inv (fun W hS => by have hp := hxi; have hp2 := hx0; unfold bareO; go_simp) HS (fun inv => ?_)
        try simp only [Act.put, List.setIfInBounds_toArray, List.set_cons_zero, List.set_cons_succ]
        refine FirstH.go (i := 11) (v := .pointer (some ⟨bx, 0, none⟩)) rfl rfl 132 rfl (Op.load 36 (Operand.tmp 131)) rfl (by kernel_rfl) (fun _ _ _ h => h) inv (fun W hS => by have q0 := cell_of hS.1 0 (.slice (some ⟨g, o, none⟩) a.n cp) rfl; have q1 := cell_of hS.1 1 (.slice Af nF cf) rfl; have q2 := cell_of hS.1 2 (.int .i64 c) rfl; have y0 := hS.2.1; have y1 := hS.2.2.1; have s0 := cell_of hS.2.2.2.2 0 (.int .i64 kd) rfl; have s1 := cell_of hS.2.2.2.2 1 (.int .i64 X) rfl; have s2 := cell_of hS.2.2.2.2 2 (.int .i64 N) rfl; have s3 := cell_of hS.2.2.2.2 3 (.int .i64 I) rfl; unfold bareO; go_simp) HS (fun inv => ?_)
        try simp only [Act.put, List.setIfInBounds_toArray, List.set_cons_zero, List.set_cons_succ]
        refine FirstH.go (i := 13) (v := .int .i64 x) rfl rfl 134 rfl (Op.move (Operand.tmp 4)) rfl (by kernel_rfl) (fun _ _ _ h => h) inv (fun W hS => by unfold bareO; go_simp) HS (fun inv => ?_)
        try simp only [Act.put, List.setIfInBounds_toArray, List.set_cons_zero, List.set_cons_succ]
        refine FirstH.only (i := 12) (by kernel_rfl) (by decide) inv (fun inv => wpOp_call (i := 12) rfl rfl 133 rfl (Op.call { callee := Callee.value (.func 21), args := #[Operand.tmp 132], argTypes := #[36] }) rfl 21 #[.pointer (some ⟨bx, 0, none⟩)] (by unfold bareO; go_simp) (HBX.out ▸ rLen w4 (a.bs x) (a.ms x) (a.lbs x) (R x) (HFd2.out.rolls x HX.out)) ?_)
        rintro e w5 ⟨rfl, rfl⟩
        refine ⟨_, rfl, HS, ?_⟩
        try simp only [Act.put, List.setIfInBounds_toArray, List.set_cons_zero, List.set_cons_succ]
        obtain ⟨tn, htn⟩ : ∃ t : Tl, t = ⟨0, (R x).L.length, x, none, 0, []⟩ := ⟨_, rfl⟩
        have hcs : tn.cs = #[.int .i64 0, .int .i64 (R x).L.length, .int .i64 x, .slice none 0 0] := by rw [htn]; rfl
        have HTE := Lib.hid htn
        clear htn
        have HX1 := Lib.hid hx1
        have HTN : Hid ((tn.p.to = 0 → 1 ≤ tn.p.co ∧ tn.p.co < a.n ∧ tn.p.fr ≤ (R tn.p.co).L.length) ∧ (tn.p.to ≠ 0 → tn.p.to < a.n ∧ tn.p.co ≤ (R 0).commit ∧ tn.p.fr ≤ (R 0).L.length ∧ tn.p.X = ((R 0).L.drop tn.p.fr).take tn.p.X.length)) := Lib.hid (by
          have htn := HTE.out
          subst htn
          exact ⟨fun _ => ⟨HX1.out, HX.out, Nat.le_refl _⟩, fun h => absurd rfl h⟩)
        refine FirstH.go (i := 14) (v := .agg tn.cs) rfl rfl 135 rfl (Op.build 84 #[(0, Operand.const (Value.int IntKind.i64 0)), (1, Operand.tmp 133), (2, Operand.tmp 134), (3, Operand.const (Value.slice none 0 0))]) rfl (by kernel_rfl) (fun _ _ _ h => h) inv (fun W hS => by rw [hcs]; unfold bareO; go_simp) HS (fun inv => ?_)
        try simp only [Act.put, List.setIfInBounds_toArray, List.set_cons_zero, List.set_cons_succ]
        obtain ⟨ka, hka⟩ : ∃ z, w4.heap.size = z := ⟨_, rfl⟩
        obtain ⟨w6, hw6⟩ : ∃ z, w4.alloc (.cells tn.cs 84) = z := ⟨_, rfl⟩
        have b6 : Below w4.heap.size w4 w6 := by rw [← hw6]; exact (Below.refl _ _).alloc (Nat.le_refl _) _
        have r6 : w6.heap[ka]? = some (.cells tn.cs 84 (0, 0)) := by rw [← hw6, ← hka]; exact heap_alloc_new _ _
        have HS6 : w6.heap[a.bf]? = some (.cells #[.slice (some ⟨g, o, none⟩) a.n cp, .slice Af nF cf, .int .i64 c] 35 (0, 0)) ∧ w6.cell? ⟨g, o, none⟩ = some (.pointer (some ⟨b0, 0, none⟩)) ∧ w6.cell? ⟨g, o + x, none⟩ = some (.pointer (some ⟨bx, 0, none⟩)) ∧ g < w6.heap.size ∧ w6.heap[k0]? = some (.cells #[.int .i64 kd, .int .i64 X, .int .i64 N, .int .i64 I] 28 (0, 0)) := ⟨(b6.block a.bf (heap_lt HS.1)).trans HS.1, (b6.cell (p := ⟨g, o, none⟩) HS.2.2.2.1).trans HS.2.1, (b6.cell (p := ⟨g, o + x, none⟩) HS.2.2.2.1).trans HS.2.2.1, Nat.lt_of_lt_of_le HS.2.2.2.1 b6.size, (b6.block k0 (heap_lt HS.2.2.2.2)).trans HS.2.2.2.2⟩
        refine FirstH.only (i := 15) (by kernel_rfl) (by decide) inv (fun inv => wpOp_vl (i := 15) (v := .slice (some ⟨ka, 0, none⟩) 1 1) (w' := w6) rfl rfl 136 rfl _ rfl (by rw [← hw6, ← hka]; unfold bareO; go_simp) ?_)
        refine ⟨HS6, ?_⟩
        try simp only [Act.put, List.setIfInBounds_toArray, List.set_cons_zero, List.set_cons_succ]
        have B6 := Lib.hid (Bd2.out.trans (b6.mono SZd2.out))
        have HF6 := Lib.hid (HFd2.out.below b6)
        have SZ6 : Hid (base ≤ w6.heap.size) := Lib.hid (Nat.le_trans SZd2.out b6.size)
        have R6 := Lib.hid r6
        have HFL : Hid (EnO w6 tn.v tn.L ∧ ∀ q i, tn.v.ownBlock = some q → i < a.n → a.lbs i ≠ some q) := Lib.hid (by have htn := HTE.out; subst htn; exact ⟨EnO.nil w6, fun q i hq => by simp [Tl.v, Value.ownBlock] at hq⟩)
        clear hw6 hka b6 r6 HS
        obtain ⟨i0, hi0, hz0, hz1, hz2⟩ := info_parts tolI
        refine FirstH.only (i := 16) (by kernel_rfl) (by decide) inv (fun inv => wpOp_any rfl rfl (wp_appO 137 rfl (.tmp 125) (.tmp 136) 33 84 rfl i0 _ 4 48 Try.underlying33 hi0 hz0 hz1 hz2 rfl (by decide) (.slice Af nF cf) nF (flat Tl.cs F) rfl (by have := HF6.out.ff; rw [HVF.out, HNF.out] at this; exact this) ⟨ka, 0, none⟩ 1 1 tn.cs.toList rfl rfl (fun j u hu => by rw [addr_add, Nat.zero_add, cell_of_row _ _ j _ _ _ R6.out]; simpa using hu) (Tl.oneB tn) (by decide) (by omega) (by decide) ?_))
        intro v7 w7 O7 g7 f7
        obtain ⟨A7, c7, rfl, _, _, _⟩ := O7.slice
        have kp7 : KP (fun k => (Value.slice Af nF cf).ownBlock = some k) w6 w7 := KP.grown g7 fun k hk => hk
        have hnot : ∀ (q : Nat) (cur : Array Value) (t : TypeId), w6.heap[q]? = some (.cells cur t (0, 0)) → t ≠ 84 → ¬ (Value.slice Af nF cf).ownBlock = some q := fun q cur t hq ht e => by
          have hff := HF6.out.ff
          rw [HVF.out] at hff
          obtain ⟨cur', hc'⟩ := RowO.block hff q e
          exact ht (heap_ty hq hc')
        have hg6 : ∃ cur, w6.heap[g]? = some (.cells cur 36 (0, 0)) := RowO.block HF6.out.rr g (by rw [HVR.out]; rfl)
        obtain ⟨curg, hg6⟩ := hg6
        have hgk : w7.heap[g]? = w6.heap[g]? := kp7.block g (heap_lt hg6) (hnot g _ _ hg6 (by decide))
        have HS7 : w7.heap[a.bf]? = some (.cells #[.slice (some ⟨g, o, none⟩) a.n cp, .slice Af nF cf, .int .i64 c] 35 (0, 0)) ∧ w7.cell? ⟨g, o, none⟩ = some (.pointer (some ⟨b0, 0, none⟩)) ∧ w7.cell? ⟨g, o + x, none⟩ = some (.pointer (some ⟨bx, 0, none⟩)) ∧ g < w7.heap.size ∧ w7.heap[k0]? = some (.cells #[.int .i64 kd, .int .i64 X, .int .i64 N, .int .i64 I] 28 (0, 0)) := ⟨(kp7.block a.bf (heap_lt HS6.1) (hnot _ _ _ HS6.1 (by decide))).trans HS6.1, (World.cell?_of_block (a := ⟨g, o, none⟩) hgk).trans HS6.2.1, (World.cell?_of_block (a := ⟨g, o + x, none⟩) hgk).trans HS6.2.2.1, Nat.lt_of_lt_of_le HS6.2.2.2.1 kp7.size, (kp7.block k0 (heap_lt HS6.2.2.2.2) (hnot _ _ _ HS6.2.2.2.2 (by decide))).trans HS6.2.2.2.2⟩
        refine ⟨HS7, ?_⟩
        try simp only [Act.put, List.setIfInBounds_toArray, List.set_cons_zero, List.set_cons_succ]
        refine ⟨by kernel_rfl, ?_⟩
        simp only [List.drop_succ_cons, List.drop_zero]
        have f1 := frz_row 1 HS7.1
        have c1' := cell_of HS7.1 1 (.slice Af nF cf) rfl
        have R7 := Lib.hid HS7.1
        have KP7 := Lib.hid kp7
        have F7 := Lib.hid f7
        have O7' := Lib.hid O7
        have HEND : Hid (StepR base W (w7.setCell ⟨a.bf, 1, none⟩ (.slice A7 (nF + 1) c7)) a R c) := Lib.hid (by
          have kset : KP (fun j => j = a.bf) w7 (w7.setCell ⟨a.bf, 1, none⟩ (.slice A7 (nF + 1) c7)) := KP.set (S := fun j => j = a.bf) w7 a.bf 1 _ rfl
          have kall : KP (fun j => a.vf.ownBlock = some j ∨ j = a.bf) w6 (w7.setCell ⟨a.bf, 1, none⟩ (.slice A7 (nF + 1) c7)) := (kp7.mono fun j hj => .inl (by rw [HVF.out]; exact hj)).trans (kset.mono fun j hj => .inr hj) fun _ _ h => h
          have hlen : (F ++ [tn]).length = nF + 1 := by rw [List.length_append, HNF.out]; rfl
          have hrow : RowO w7 84 4 (.slice A7 (nF + 1) c7) (F ++ [tn]).length (flat Tl.cs (F ++ [tn])) := by
            rw [hlen, flat_append]
            simpa [flat] using O7'.out
          have hFM := HF6.out.fly (F' := F ++ [tn]) (c' := c) (.slice A7 (nF + 1) c7) kall ((row_set (i := 1) R7.out _).trans (by rw [HVR.out]; rfl)) (hrow.keepB fun q hq => by
            obtain ⟨cur, hc⟩ := RowO.block hrow q hq
            exact kset.block q (heap_lt hc) fun e => absurd (heap_ty (e ▸ hc) R7.out) (by decide)) (fun t ht => by
            rcases List.mem_append.1 ht with ht | ht
            · exact HF6.out.fl t ht
            · obtain rfl : t = tn := by simpa using ht
              exact HFL.out) (fun q hq => by
            rcases F7.out with e | ⟨j, e, hj⟩
            · exact HF6.out.lo.2.2 q (by rw [HVF.out]; exact e ▸ hq)
            · rw [e] at hq
              injection hq with hq
              subst hq
              exact Nat.le_trans SZ6.out hj) (by rw [hlen]; omega)
          refine ⟨{ a with vf := .slice A7 (nF + 1) c7 }, R, F ++ [tn], c, hFM, rfl, rfl, ?_, Held.refl _ _, Nat.le_succ _, B6.out.trans (HF6.out.belowF kall SZ6.out)⟩
          rw [List.map_append]
          exact HI.out.snoc _ HTN.out)
        clear HS6 HS7 kp7 g7 f7 O7 hi0 hz0 hz1 hz2 hnot hgk inv
        go_wp2
        first | (refine bodyPost_end (results_none rfl _ _ _) rfl ⟨rfl, HEND.out⟩) | (refine bodyPost_ret (results_none rfl _ _ _) rfl ⟨rfl, HEND.out⟩)
      · have hfi1 : ¬ (nF : Int) < 100 := by omega
        go_wp2_with fail
        first | (refine bodyPost_end (results_none rfl _ _ _) rfl ⟨rfl, HNO.out⟩) | (refine bodyPost_ret (results_none rfl _ _ _) rfl ⟨rfl, HNO.out⟩)
    · have hxi1 : ¬ (0 : Int) < (x : Int) := by omega
      go_wp2_with fail
      first | (refine bodyPost_end (results_none rfl _ _ _) rfl ⟨rfl, HNO.out⟩) | (refine bodyPost_ret (results_none rfl _ _ _) rfl ⟨rfl, HNO.out⟩)
  have hkb1 : (kd == 1) = false := by simpa using e1
  have hkc1 : decide (kd = 1) = false := by simpa using e1
  have hkb2 : (kd == 2) = false := by simpa using e2
  have hkc2 : decide (kd = 2) = false := by simpa using e2
  by_cases e7 : kd = 7
  · have hkb7 : (kd == 7) = true := by simp [e7]
    have hkc7 : decide (kd = 7) = true := by simp [e7]
    clear e0 e1 e2 e7
    as_aux_lemma =>
    skip
    have KS := Lib.hid (HBX.out ▸ rShut wd (a.bs x) (a.ms x) (a.lbs x) (R x) (HFd.out.rolls x HX.out) : Calls Try.prog 11 #[.pointer (some ⟨bx, 0, none⟩)] wd fun e W' => e = .returned (.tuple #[]) ∧ RP W' bx (a.ms x) (a.lbs x) (R x).closed ∧ KP (fun j => j = bx) wd W')
    go_wp2_with fail
    refine KS.out.mono ?_
    rintro e w2 ⟨rfl, hp, kp⟩
    have HEND : Hid (StepR base W w2 a R c) := Lib.hid (by
      have kp' : KP (FR (a.bs x) (a.ms x) (a.lbs x)) wd w2 := HBX.out ▸ kp.mono fun j hj => .inl hj
      have hf := HFd.out.roll HX.out (a.lbs x) _ kp' (HBX.out ▸ hp) (.inl rfl) SZd.out
      exact ⟨_, _, F, c, hf, rfl, rfl, HI.out.shut x HX.out, Held.up (fun h => ⟨rfl, rfl⟩) (Nat.le_succ _), Nat.le_succ _, BBd.out.trans (HFd.out.belowR HX.out kp' SZd.out)⟩)
    clear hp kp
    go_wp2_with fail
    first | (refine bodyPost_end (results_none rfl _ _ _) rfl ⟨rfl, HEND.out⟩) | (refine bodyPost_ret (results_none rfl _ _ _) rfl ⟨rfl, HEND.out⟩)
  have hkb7 : (kd == 7) = false := by simpa using e7
  have hkc7 : decide (kd = 7) = false := by simpa using e7
  by_cases e3 : 3 ≤ kd
  · have hkg : decide ((3 : Int) ≤ kd) = true := by simpa using e3
    by_cases hf0 : 0 < nF
    · have hfi0 : (0 : Int) < (nF : Int) := by omega
      clear e0 e1 e2 e7
      obtain ⟨gF, oF, rfl⟩ : ∃ g o, Af = some ⟨g, o, none⟩ := by
        rcases HAF.out with ⟨h1, h2⟩ | h
        · omega
        · exact h
      obtain ⟨r4, i, hi1, hi2, hi3, hi4, hi5⟩ := rem_in I nF hf0
      have hv1 : IntKind.i64.wrap r4 = r4 := wrapI (by omega) (by omega)
      have hv2 : IntKind.i64.wrap (r4 + (nF : Int)) = r4 + (nF : Int) := wrapI (by omega) (by omega)
      have hv3 : IntKind.i64.wrap (i : Int) = (i : Int) := wrapI (by omega) (by omega)
      have hnF0 : ¬ nF = 0 := by omega
      have hnFi : ¬ (nF : Int) = 0 := by omega
      have hii : (i : Int) < (nF : Int) := by omega
      have hi0 : (0 : Int) ≤ (i : Int) := by omega
      have hcfi : (nF : Int) ≤ (cf : Int) := by omega
      have HI5 := Lib.hid hi5
      obtain ⟨ti, hti⟩ : ∃ t, F[i]? = some t := ⟨_, List.getElem?_eq_getElem (by rw [HNF.out]; exact hi5)⟩
      have HTI := Lib.hid hti
      have hmem : ti ∈ F := List.mem_of_getElem? hti
      have HMEM := Lib.hid hmem
      have HFF : Hid (RowO wd 84 4 (.slice (some ⟨gF, oF, none⟩) nF cf) nF (flat Tl.cs F)) := Lib.hid (by have := HFd.out.ff; rw [HVF.out, HNF.out] at this; exact this)
      have HRNG : Hid (wd.rangeAt gF (oF + i * 4) ti.cs.toList) := Lib.hid fun j u hj => by
        have hj4 : j < 4 := (List.getElem?_eq_some_iff.1 hj).1
        have := RowO.elem (f := Tl.cs) (fun _ => rfl) HFF.out hti hj4
        rw [this, ← Array.getElem?_toList]
        exact hj
      have hpp := (HI.out.fly ti.p (List.mem_map.2 ⟨ti, hmem, rfl⟩))
      have HT0 : Hid (ti.to = 0 → 1 ≤ ti.co ∧ ti.co < a.n ∧ ti.fr ≤ (R ti.co).L.length) := Lib.hid hpp.1
      have HT1 : Hid (ti.to ≠ 0 → ti.to < a.n ∧ ti.co ≤ (R 0).commit ∧ ti.fr ≤ (R 0).L.length ∧ ti.L.map Le.v = ((R 0).L.drop ti.fr).take (ti.L.map Le.v).length) := Lib.hid hpp.2
      obtain ⟨kx, hkx⟩ : ∃ z, wd.heap.size = z := ⟨_, rfl⟩
      obtain ⟨wa, hwa⟩ : ∃ z, wd.alloc (.cells #[.int .i64 0, .int .i64 0, .int .i64 0, .slice none 0 0] 84) = z := ⟨_, rfl⟩
      have ra : wa.heap[kx]? = some (.cells #[.int .i64 0, .int .i64 0, .int .i64 0, .slice none 0 0] 84 (0, 0)) := by rw [← hwa, ← hkx]; exact heap_alloc_new _ _
      obtain ⟨wb, hwb⟩ : ∃ z, wa.setRow kx ti.cs = z := ⟨_, rfl⟩
      have rb : wb.heap[kx]? = some (.cells ti.cs 84 (0, 0)) := by rw [← hwb]; exact setRow_heapG _ _ _ _ _ _ ra
      have bb : Below wd.heap.size wd wb := by
        rw [← hwb, ← hwa, ← hkx]
        exact ((Below.refl _ _).alloc (Nat.le_refl _) _).trans ⟨rfl, rfl, rfl, by simp [World.setRow], fun k hk => setRow_other _ wd.heap.size k _ (by omega)⟩
      have HSb : wb.heap[a.bf]? = some (.cells #[.slice (some ⟨g, o, none⟩) a.n cp, .slice (some ⟨gF, oF, none⟩) nF cf, .int .i64 c] 35 (0, 0)) ∧ wb.cell? ⟨g, o, none⟩ = some (.pointer (some ⟨b0, 0, none⟩)) ∧ wb.cell? ⟨g, o + x, none⟩ = some (.pointer (some ⟨bx, 0, none⟩)) ∧ g < wb.heap.size ∧ wb.heap[k0]? = some (.cells #[.int .i64 kd, .int .i64 X, .int .i64 N, .int .i64 I] 28 (0, 0)) := ⟨(bb.block a.bf (heap_lt HSd.out.1)).trans HSd.out.1, (bb.cell (p := ⟨g, o, none⟩) HSd.out.2.2.2.1).trans HSd.out.2.1, (bb.cell (p := ⟨g, o + x, none⟩) HSd.out.2.2.2.1).trans HSd.out.2.2.1, Nat.lt_of_lt_of_le HSd.out.2.2.2.1 bb.size, (bb.block k0 (heap_lt HSd.out.2.2.2.2)).trans HSd.out.2.2.2.2⟩
      have HSB := Lib.hid HSb
      have Bb : Hid (Below base W wb) := Lib.hid (BBd.out.trans (bb.mono SZd.out))
      have HFb := Lib.hid (HFd.out.below bb)
      have SZb : Hid (base ≤ wb.heap.size) := Lib.hid (Nat.le_trans SZd.out bb.size)
      have HXb := Lib.hid (HFb.out.fl ti hmem).1
      have RKb := Lib.hid rb
      have RA := Lib.hid ra
      have HWA := Lib.hid hwa
      have HWB := Lib.hid hwb
      have HKX := Lib.hid hkx
      clear hti hmem hpp hwa ra hwb rb bb hkx HSb
      by_cases h5' : kd = 5
      · have hk5 : (kd == 5) = true := by simp [h5']
        have hk5' : decide (kd = 5) = true := by simp [h5']
        have hk6 : (kd == 6) = false := by simp [h5']
        have hk6' : decide (kd = 6) = false := by simp [h5']
        clear h5' e3
        as_aux_lemma =>
        skip
        have z0 := cell_of HSB.out.2.2.2.2 0 (.int .i64 kd) rfl
        go_wp2_with (first
          | (refine wpList_load_mid rfl 84 (.tmp 173) rfl gF (oF + i * 4) (by rfl) ti.cs.toList _ HRNG.out Try.underlying84 rfl (by kernel_rfl) ?_)
          | (rw [HWA.out, HKX.out])
          | (refine wpList_store_row rfl 84 (.tmp 9) (.tmp 174) rfl kx ti.cs (by rfl) (by rfl) 84 _ RA.out (by kernel_rfl) rfl (by rw [Array.all_eq_true']; intro u hu; exact Tl.oneB ti u (Array.mem_toList_iff.2 hu)) ?_; rw [HWB.out])
          | (refine wpList_load_row rfl 84 (.tmp 9) rfl kx (by rfl) 84 ti.cs (0, 0) _ RKb.out Try.underlying84 rfl (by kernel_rfl) ?_)
          | fail)
        refine (comeC base wb a R F c HFb.out ((F).map Tl.p) HI.out ti HXb.out HT0.out HT1.out (HKK.out 0 h0n) SZb.out).mono ?_
        rintro e wf ⟨rfl, lbs', R', hf, hi, hh, hb⟩
        have HEND : Hid (StepR base W wf a R c) := Lib.hid ⟨_, R', F, c, hf, rfl, rfl, hi, hh, Nat.le_succ _, Bb.out.trans hb⟩
        clear hf hi hh hb
        go_wp2_with fail
        first | (refine bodyPost_end (results_none rfl _ _ _) rfl ⟨rfl, HEND.out⟩) | (refine bodyPost_ret (results_none rfl _ _ _) rfl ⟨rfl, HEND.out⟩)
      · have hk5 : (kd == 5) = false := by simpa using h5'
        have hk5' : decide (kd = 5) = false := by simpa using h5'
        clear e3 h5'
        by_cases hcap : cf = i + 1
        · have hcf3 : nF - (i + 1) = 0 := by omega
          have hcf4 : cf - (i + 1) = 0 := by omega
          have HC5 := Lib.hid (And.intro hcf3 hcap)
          clear hcap
          as_aux_lemma =>
          skip
          have hv4 : IntKind.i64.wrap ((i : Int) + 1) = (i : Int) + 1 := wrapI (by omega) (by omega)
          have hic : (i : Int) ≤ (cf : Int) := by omega
          have z0 := cell_of HSB.out.2.2.2.2 0 (.int .i64 kd) rfl
          go_wp2_with (first
            | (refine wpList_load_mid rfl 84 (.tmp 173) rfl gF (oF + i * 4) (by rfl) ti.cs.toList _ HRNG.out Try.underlying84 rfl (by kernel_rfl) ?_)
            | (rw [HWA.out, HKX.out])
            | (refine wpList_store_row rfl 84 (.tmp 9) (.tmp 174) rfl kx ti.cs (by rfl) (by rfl) 84 _ RA.out (by kernel_rfl) rfl (by rw [Array.all_eq_true']; intro u hu; exact Tl.oneB ti u (Array.mem_toList_iff.2 hu)) ?_; rw [HWB.out])
            | (refine wpList_load_row rfl 84 (.tmp 9) rfl kx (by rfl) 84 ti.cs (0, 0) _ RKb.out Try.underlying84 rfl (by kernel_rfl) ?_)
            | fail)
          have HSBd : Hid (wb.drew.heap[a.bf]? = some (.cells #[.slice (some ⟨g, o, none⟩) a.n cp, .slice (some ⟨gF, oF, none⟩) nF cf, .int .i64 c] 35 (0, 0)) ∧ wb.drew.cell? ⟨g, o, none⟩ = some (.pointer (some ⟨b0, 0, none⟩)) ∧ wb.drew.cell? ⟨g, o + x, none⟩ = some (.pointer (some ⟨bx, 0, none⟩)) ∧ g < wb.drew.heap.size ∧ wb.drew.heap[k0]? = some (.cells #[.int .i64 kd, .int .i64 X, .int .i64 N, .int .i64 I] 28 (0, 0))) := Lib.hid HSB.out
          have Bbd : Hid (Below base W wb.drew) := Lib.hid Bb.out.drew
          have HFbd := Lib.hid (HFb.out.below (Below.refl _ _).drew)
          have HXbd := Lib.hid (HXb.out.keep (Keeps.of_below (Below.refl _ _).drew))
          have SZbd : Hid (base ≤ wb.drew.heap.size) := Lib.hid SZb.out
          have RKbd : Hid (wb.drew.heap[kx]? = some (.cells ti.cs 84 (0, 0))) := Lib.hid RKb.out
          clear z0
          refine region_heldT (S := fun u => u.heap[a.bf]? = some (.cells #[.slice (some ⟨g, o, none⟩) a.n cp, .slice (some ⟨gF, oF, none⟩) nF cf, .int .i64 c] 35 (0, 0)) ∧ u.cell? ⟨g, o, none⟩ = some (.pointer (some ⟨b0, 0, none⟩)) ∧ u.cell? ⟨g, o + x, none⟩ = some (.pointer (some ⟨bx, 0, none⟩)) ∧ g < u.heap.size ∧ u.heap[k0]? = some (.cells #[.int .i64 kd, .int .i64 X, .int .i64 N, .int .i64 I] 28 (0, 0))) 17 (by kernel_rfl) (by decide) (fun inv => ?_)
          have HS := HSBd.out
          change FirstH _ _ _ _ _ _ _ _ _ _ wb.drew
          generalize wb.drew = we at *
          refine FirstH.go (i := 0) (v := .pointer (some ⟨a.bf, 0, none⟩)) rfl rfl 178 rfl (Op.move (Operand.tmp 0)) rfl (by kernel_rfl) (fun _ _ _ h => h) inv (fun W hS => by unfold bareO; go_simp) HS (fun inv => ?_)
          try simp only [Act.put, List.setIfInBounds_toArray, List.set_cons_zero, List.set_cons_succ]
          refine FirstH.go (i := 2) (v := .pointer (some ⟨a.bf, 0, none⟩)) rfl rfl 180 rfl (Op.move (Operand.tmp 0)) rfl (by kernel_rfl) (fun _ _ _ h => h) inv (fun W hS => by unfold bareO; go_simp) HS (fun inv => ?_)
          try simp only [Act.put, List.setIfInBounds_toArray, List.set_cons_zero, List.set_cons_succ]
          refine FirstH.go (i := 3) (v := .pointer (some ⟨a.bf, 0, none⟩)) rfl rfl 181 rfl (Op.nilCheck (Operand.tmp 180)) rfl (by kernel_rfl) (fun _ _ _ h => h) inv (fun W hS => by unfold bareO; go_simp) HS (fun inv => ?_)
          try simp only [Act.put, List.setIfInBounds_toArray, List.set_cons_zero, List.set_cons_succ]
          refine FirstH.go (i := 4) (v := .pointer (some ⟨a.bf, 1, none⟩)) rfl rfl 182 rfl (Op.fieldAddr 35 (Operand.tmp 181) 1) rfl (by kernel_rfl) (fun _ _ _ h => h) inv (fun W hS => by unfold bareO; go_simp) HS (fun inv => ?_)
          try simp only [Act.put, List.setIfInBounds_toArray, List.set_cons_zero, List.set_cons_succ]
          refine FirstH.go (i := 5) (v := .slice (some ⟨gF, oF, none⟩) nF cf) rfl rfl 183 rfl (Op.load 33 (Operand.tmp 182)) rfl (by kernel_rfl) (fun _ _ _ h => h) inv (fun W hS => by have q0 := cell_of hS.1 0 (.slice (some ⟨g, o, none⟩) a.n cp) rfl; have q1 := cell_of hS.1 1 (.slice (some ⟨gF, oF, none⟩) nF cf) rfl; have q2 := cell_of hS.1 2 (.int .i64 c) rfl; have y0 := hS.2.1; have y1 := hS.2.2.1; have s0 := cell_of hS.2.2.2.2 0 (.int .i64 kd) rfl; have s1 := cell_of hS.2.2.2.2 1 (.int .i64 X) rfl; have s2 := cell_of hS.2.2.2.2 2 (.int .i64 N) rfl; have s3 := cell_of hS.2.2.2.2 3 (.int .i64 I) rfl; unfold bareO; go_simp) HS (fun inv => ?_)
          try simp only [Act.put, List.setIfInBounds_toArray, List.set_cons_zero, List.set_cons_succ]
          refine FirstH.go (i := 6) (v := .int .i64 i) rfl rfl 184 rfl (Op.move (Operand.tmp 8)) rfl (by kernel_rfl) (fun _ _ _ h => h) inv (fun W hS => by unfold bareO; go_simp) HS (fun inv => ?_)
          try simp only [Act.put, List.setIfInBounds_toArray, List.set_cons_zero, List.set_cons_succ]
          refine FirstH.go (i := 7) (v := .slice (some ⟨gF, oF, none⟩) i cf) rfl rfl 185 rfl (Op.slice 33 (Operand.tmp 183) none (some (Operand.tmp 184)) none) rfl (by kernel_rfl) (fun _ _ _ h => h) inv (fun W hS => by have h1 := hii; have h2 := hi0; have h3 := hcfi; have h4 := hic; unfold bareO; go_simp; try omega) HS (fun inv => ?_)
          try simp only [Act.put, List.setIfInBounds_toArray, List.set_cons_zero, List.set_cons_succ]
          refine FirstH.go (i := 9) (v := .pointer (some ⟨a.bf, 0, none⟩)) rfl rfl 187 rfl (Op.move (Operand.tmp 0)) rfl (by kernel_rfl) (fun _ _ _ h => h) inv (fun W hS => by unfold bareO; go_simp) HS (fun inv => ?_)
          try simp only [Act.put, List.setIfInBounds_toArray, List.set_cons_zero, List.set_cons_succ]
          refine FirstH.go (i := 10) (v := .pointer (some ⟨a.bf, 0, none⟩)) rfl rfl 188 rfl (Op.nilCheck (Operand.tmp 187)) rfl (by kernel_rfl) (fun _ _ _ h => h) inv (fun W hS => by unfold bareO; go_simp) HS (fun inv => ?_)
          try simp only [Act.put, List.setIfInBounds_toArray, List.set_cons_zero, List.set_cons_succ]
          refine FirstH.go (i := 11) (v := .pointer (some ⟨a.bf, 1, none⟩)) rfl rfl 189 rfl (Op.fieldAddr 35 (Operand.tmp 188) 1) rfl (by kernel_rfl) (fun _ _ _ h => h) inv (fun W hS => by unfold bareO; go_simp) HS (fun inv => ?_)
          try simp only [Act.put, List.setIfInBounds_toArray, List.set_cons_zero, List.set_cons_succ]
          refine FirstH.go (i := 12) (v := .slice (some ⟨gF, oF, none⟩) nF cf) rfl rfl 190 rfl (Op.load 33 (Operand.tmp 189)) rfl (by kernel_rfl) (fun _ _ _ h => h) inv (fun W hS => by have q0 := cell_of hS.1 0 (.slice (some ⟨g, o, none⟩) a.n cp) rfl; have q1 := cell_of hS.1 1 (.slice (some ⟨gF, oF, none⟩) nF cf) rfl; have q2 := cell_of hS.1 2 (.int .i64 c) rfl; have y0 := hS.2.1; have y1 := hS.2.2.1; have s0 := cell_of hS.2.2.2.2 0 (.int .i64 kd) rfl; have s1 := cell_of hS.2.2.2.2 1 (.int .i64 X) rfl; have s2 := cell_of hS.2.2.2.2 2 (.int .i64 N) rfl; have s3 := cell_of hS.2.2.2.2 3 (.int .i64 I) rfl; unfold bareO; go_simp) HS (fun inv => ?_)
          try simp only [Act.put, List.setIfInBounds_toArray, List.set_cons_zero, List.set_cons_succ]
          refine FirstH.go (i := 13) (v := .int .i64 i) rfl rfl 191 rfl (Op.move (Operand.tmp 8)) rfl (by kernel_rfl) (fun _ _ _ h => h) inv (fun W hS => by unfold bareO; go_simp) HS (fun inv => ?_)
          try simp only [Act.put, List.setIfInBounds_toArray, List.set_cons_zero, List.set_cons_succ]
          refine FirstH.go (i := 14) (v := .int .i64 ((i : Int) + 1)) rfl rfl 192 rfl (Op.binOp BinOp.add 3 (Operand.tmp 191) (Operand.const (Value.int IntKind.i64 1)) 3) rfl (by kernel_rfl) (fun _ _ _ h => h) inv (fun W hS => by have h1 := hv4; unfold bareO; go_simp) HS (fun inv => ?_)
          try simp only [Act.put, List.setIfInBounds_toArray, List.set_cons_zero, List.set_cons_succ]
          refine FirstH.go (i := 15) (v := .slice (some ⟨gF, oF, none⟩) 0 0) rfl rfl 193 rfl (Op.slice 33 (Operand.tmp 190) (some (Operand.tmp 192)) none none) rfl (by kernel_rfl) (fun _ _ _ h => h) inv (fun W hS => by have h1 := hii; have h2 := hi0; have h3 := hcfi; have h4 := hcf3; have h5 := hcf4; have h7 : ((i : Int) + 1) ≤ (nF : Int) := (by omega); have h8 : (0 : Int) ≤ (i : Int) + 1 := (by omega); have h6 := HC5.out.2; unfold bareO; go_simp; try omega) HS (fun inv => ?_)
          try simp only [Act.put, List.setIfInBounds_toArray, List.set_cons_zero, List.set_cons_succ]
          obtain ⟨kz, hkz⟩ : ∃ z, we.heap.size = z := ⟨_, rfl⟩
          obtain ⟨w2, hw2⟩ : ∃ z, we.alloc (.cells #[] 84) = z := ⟨_, rfl⟩
          have b2 : Below we.heap.size we w2 := by rw [← hw2]; exact (Below.refl _ _).alloc (Nat.le_refl _) _
          have r2 : w2.heap[kz]? = some (.cells #[] 84 (0, 0)) := by rw [← hw2, ← hkz]; exact heap_alloc_new _ _
          have HS2 : w2.heap[a.bf]? = some (.cells #[.slice (some ⟨g, o, none⟩) a.n cp, .slice (some ⟨gF, oF, none⟩) nF cf, .int .i64 c] 35 (0, 0)) ∧ w2.cell? ⟨g, o, none⟩ = some (.pointer (some ⟨b0, 0, none⟩)) ∧ w2.cell? ⟨g, o + x, none⟩ = some (.pointer (some ⟨bx, 0, none⟩)) ∧ g < w2.heap.size ∧ w2.heap[k0]? = some (.cells #[.int .i64 kd, .int .i64 X, .int .i64 N, .int .i64 I] 28 (0, 0)) := ⟨(b2.block a.bf (heap_lt HS.1)).trans HS.1, (b2.cell (p := ⟨g, o, none⟩) HS.2.2.2.1).trans HS.2.1, (b2.cell (p := ⟨g, o + x, none⟩) HS.2.2.2.1).trans HS.2.2.1, Nat.lt_of_lt_of_le HS.2.2.2.1 b2.size, (b2.block k0 (heap_lt HS.2.2.2.2)).trans HS.2.2.2.2⟩
          refine FirstH.only (i := 1) (by kernel_rfl) (by decide) inv (fun inv => wpOp_vl (i := 1) (v := .slice (some ⟨kz, 0, none⟩) 0 0) (w' := w2) rfl rfl 179 rfl _ rfl (by rw [← hw2, ← hkz]; unfold bareO; go_simp) ?_)
          refine ⟨HS2, ?_⟩
          try simp only [Act.put, List.setIfInBounds_toArray, List.set_cons_zero, List.set_cons_succ]
          have B2 := Lib.hid b2
          have HKZ := Lib.hid hkz
          have hff2 : RowO w2 84 4 (.slice (some ⟨gF, oF, none⟩) nF cf) nF (flat Tl.cs F) := by
            have := (HFbd.out.below b2).ff
            rw [HVF.out, HNF.out] at this
            exact this
          have HFF2 := Lib.hid hff2
          have hrz : RowO w2 84 4 (.slice (some ⟨kz, 0, none⟩) 0 0) 0 (flat Tl.cs ([] : List Tl)) := ⟨rfl, .inr ⟨kz, 0, 0, #[], rfl, r2, Nat.le_refl _, by unfold maxLen; omega, by simp, fun j u hu => by simp [flat] at hu⟩⟩
          have HRZ := Lib.hid hrz
          clear hw2 b2 r2 HS hff2 hrz
          obtain ⟨i0, hi0', hz0, hz1, hz2⟩ := info_parts tolI
          refine FirstH.only (i := 8) (by kernel_rfl) (by decide) inv (fun inv => wpOp_any rfl rfl (wp_appZ 186 rfl (.tmp 179) (.tmp 185) 33 84 rfl i0 _ 4 48 Try.underlying33 hi0' hz0 hz1 hz2 rfl (by decide) (.slice (some ⟨kz, 0, none⟩) 0 0) 0 (flat Tl.cs ([] : List Tl)) rfl HRZ.out ⟨gF, oF, none⟩ i cf (flat Tl.cs (F.take i)) rfl (by rw [flat_len Tl.sz, List.length_take, HNF.out, Nat.min_eq_left (by omega)]) (fun j u hu => by
            rw [addr_add]
            refine RowO.cells HFF2.out j u ?_
            rw [← flat_take Tl.sz F i (by rw [HNF.out]; omega), List.getElem?_take] at hu
            split at hu
            · exact hu
            · cases hu) (flat_one Tl.oneB _) (by omega) (by decide) ?_))
          intro v3 w3 O3 g3 f3
          rw [Nat.zero_add] at O3
          obtain ⟨A3, c3, rfl, _, _, _⟩ := O3.slice
          have h3b : Below we.heap.size we w3 := B2.out.grown g3 B2.out.size (by intro q hq; simp [Value.ownBlock] at hq; rw [← hq, HKZ.out]; exact Nat.le_refl _)
          have HS3 : w3.heap[a.bf]? = some (.cells #[.slice (some ⟨g, o, none⟩) a.n cp, .slice (some ⟨gF, oF, none⟩) nF cf, .int .i64 c] 35 (0, 0)) ∧ w3.cell? ⟨g, o, none⟩ = some (.pointer (some ⟨b0, 0, none⟩)) ∧ w3.cell? ⟨g, o + x, none⟩ = some (.pointer (some ⟨bx, 0, none⟩)) ∧ g < w3.heap.size ∧ w3.heap[k0]? = some (.cells #[.int .i64 kd, .int .i64 X, .int .i64 N, .int .i64 I] 28 (0, 0)) := by
            have hs := HSBd.out
            exact ⟨(h3b.block a.bf (heap_lt hs.1)).trans hs.1, (h3b.cell (p := ⟨g, o, none⟩) hs.2.2.2.1).trans hs.2.1, (h3b.cell (p := ⟨g, o + x, none⟩) hs.2.2.2.1).trans hs.2.2.1, Nat.lt_of_lt_of_le hs.2.2.2.1 h3b.size, (h3b.block k0 (heap_lt hs.2.2.2.2)).trans hs.2.2.2.2⟩
          refine ⟨HS3, ?_⟩
          try simp only [Act.put, List.setIfInBounds_toArray, List.set_cons_zero, List.set_cons_succ]
          have B3 := Lib.hid h3b
          have HFF3 : Hid (RowO w3 84 4 (.slice (some ⟨gF, oF, none⟩) nF cf) nF (flat Tl.cs F)) := Lib.hid (by
            have := (HFbd.out.below h3b).ff
            rw [HVF.out, HNF.out] at this
            exact this)
          have O3' : Hid (RowO w3 84 4 (.slice A3 i c3) i (flat Tl.cs (F.take i))) := Lib.hid (by
            have := O3
            simpa [flat] using this)
          have F3 : Hid (∀ q, (Value.slice A3 i c3).ownBlock = some q → we.heap.size ≤ q) := Lib.hid fun q hq => by
            rcases f3 with e | ⟨j, e, hj⟩
            · rw [e] at hq
              simp [Value.ownBlock] at hq
              rw [← hq, HKZ.out]
              exact Nat.le_refl _
            · rw [e] at hq
              injection hq with hq
              rw [← hq]
              exact Nat.le_trans B2.out.size hj
          clear HS2 O3 g3 f3 h3b
          refine FirstH.only (i := 16) (by kernel_rfl) (by decide) inv (fun inv => wpOp_any rfl rfl (wp_appZ 194 rfl (.tmp 186) (.tmp 193) 33 84 rfl i0 _ 4 48 Try.underlying33 hi0' hz0 hz1 hz2 rfl (by decide) (.slice A3 i c3) i (flat Tl.cs (F.take i)) rfl O3'.out ⟨gF, oF, none⟩ 0 0 (flat Tl.cs (F.drop (i + 1))) rfl (by rw [flat_len Tl.sz, List.length_drop, HNF.out]; omega) (fun j u hu => ?_) (flat_one Tl.oneB _) (by omega) (by decide) ?_))
          · rw [addr_add]
            have hdr : (flat Tl.cs F)[(i + 1) * 4 + j]? = some u := by
              rw [← flat_drop Tl.sz F (i + 1) (by rw [HNF.out]; omega), List.getElem?_drop] at hu
              exact hu
            exfalso
            have h2 := HC5.out.1
            have h1 := (List.getElem?_eq_some_iff.1 hu).1
            rw [flat_len Tl.sz, List.length_drop, HNF.out] at h1
            omega
          intro v4 w4 O4 g4 f4
          obtain ⟨A4, c4, rfl, _, _, _⟩ := O4.slice
          have h4b : Below we.heap.size we w4 := B3.out.grown g4 B3.out.size F3.out
          have HS4 : w4.heap[a.bf]? = some (.cells #[.slice (some ⟨g, o, none⟩) a.n cp, .slice (some ⟨gF, oF, none⟩) nF cf, .int .i64 c] 35 (0, 0)) ∧ w4.cell? ⟨g, o, none⟩ = some (.pointer (some ⟨b0, 0, none⟩)) ∧ w4.cell? ⟨g, o + x, none⟩ = some (.pointer (some ⟨bx, 0, none⟩)) ∧ g < w4.heap.size ∧ w4.heap[k0]? = some (.cells #[.int .i64 kd, .int .i64 X, .int .i64 N, .int .i64 I] 28 (0, 0)) := by
            have hs := HSBd.out
            exact ⟨(h4b.block a.bf (heap_lt hs.1)).trans hs.1, (h4b.cell (p := ⟨g, o, none⟩) hs.2.2.2.1).trans hs.2.1, (h4b.cell (p := ⟨g, o + x, none⟩) hs.2.2.2.1).trans hs.2.2.1, Nat.lt_of_lt_of_le hs.2.2.2.1 h4b.size, (h4b.block k0 (heap_lt hs.2.2.2.2)).trans hs.2.2.2.2⟩
          refine ⟨HS4, ?_⟩
          try simp only [Act.put, List.setIfInBounds_toArray, List.set_cons_zero, List.set_cons_succ]
          obtain ⟨F', hF'⟩ : ∃ G, F.take i ++ F.drop (i + 1) = G := ⟨_, rfl⟩
          have HF' := Lib.hid hF'
          obtain ⟨n4, hn4⟩ : ∃ z, (i + 0) = z := ⟨_, rfl⟩
          have hF'l : Hid (F'.length = n4) := Lib.hid (by rw [← hF', List.length_append, List.length_take, List.length_drop, HNF.out]; omega)
          rw [hn4] at O4 f4 ⊢
          have O4' : Hid (RowO w4 84 4 (.slice A4 n4 c4) F'.length (flat Tl.cs F')) := Lib.hid (by
            rw [hF'l.out, ← hF', flat_append]
            exact O4)
          have F4 : Hid (∀ q, (Value.slice A4 n4 c4).ownBlock = some q → we.heap.size ≤ q) := Lib.hid fun q hq => by
            rcases f4 with e | ⟨j, e, hj⟩
            · exact F3.out q (e ▸ hq)
            · rw [e] at hq
              injection hq with hq
              rw [← hq]
              exact Nat.le_trans B3.out.size hj
          have B4 := Lib.hid h4b
          have R4 := Lib.hid HS4
          have HN4 : Hid (n4 ≤ 100) := Lib.hid (by omega)
          have f1 := frz_row 1 HS4.1
          have c1' := cell_of HS4.1 1 (.slice (some ⟨gF, oF, none⟩) nF cf) rfl
          clear HS3 HS4 O4 g4 f4 h4b hn4 hF' hi0' hz0 hz1 hz2
          refine ⟨by kernel_rfl, ?_⟩
          simp only [List.drop_succ_cons, List.drop_zero]
          clear inv
          obtain ⟨w5, hw5⟩ : ∃ z, w4.setCell ⟨a.bf, 1, none⟩ (.slice A4 n4 c4) = z := ⟨_, rfl⟩
          have kset : KP (fun j => j = a.bf) w4 w5 := by rw [← hw5]; exact KP.set (S := fun j => j = a.bf) w4 a.bf 1 _ rfl
          have kall : KP (fun j => a.vf.ownBlock = some j ∨ j = a.bf) we w5 := (KP.of_below (S := fun j => a.vf.ownBlock = some j ∨ j = a.bf) B4.out).trans (kset.mono fun j hj => .inr hj) fun _ _ h => h
          have HSUB : Hid (∀ t ∈ F', t ∈ F) := Lib.hid fun t ht => by
            rw [← HF'.out] at ht
            rcases List.mem_append.1 ht with h | h
            · exact List.mem_of_mem_take h
            · exact List.mem_of_mem_drop h
          have HF5 : Hid (FM base w5 { a with vf := .slice A4 n4 c4 } R F' c) := Lib.hid (HFbd.out.fly (F' := F') (c' := c) (.slice A4 n4 c4) kall (by rw [← hw5]; exact (row_set (i := 1) R4.out.1 _).trans (by rw [HVR.out]; rfl)) (O4'.out.keepB fun q hq => by
            obtain ⟨cur, hc⟩ := RowO.block O4'.out q hq
            exact kset.block q (heap_lt hc) fun e => absurd (heap_ty (e ▸ hc) R4.out.1) (by decide)) (fun t ht => HFbd.out.fl t (HSUB.out t ht)) (fun q hq => Nat.le_trans SZbd.out (F4.out q hq)) (by rw [hF'l.out]; exact HN4.out))
          have HI5' : Hid (Inv a.n R (F'.map Tl.p)) := Lib.hid (HI.out.sub fun t ht => by
            obtain ⟨s, hs, e⟩ := List.mem_map.1 ht
            exact List.mem_map.2 ⟨s, HSUB.out s hs, e⟩)
          have B5 : Hid (Below base W w5) := Lib.hid (Bbd.out.trans (HFbd.out.belowF kall SZbd.out))
          have HX5 : Hid (EnO w5 ti.v ti.L) := Lib.hid (HXbd.out.keep ((Keeps.of_below B4.out).trans (Keeps.of_KP kset fun q cur t hq ht e => by
            have := heap_ty (e ▸ hq) R4.out.1
            rw [this] at ht
            revert ht
            simp [Ty])))
          have RK5 : Hid (w5.heap[kx]? = some (.cells ti.cs 84 (0, 0))) := Lib.hid (by
            have h1 := (B4.out.block kx (heap_lt RKbd.out)).trans RKbd.out
            exact (kset.block kx (heap_lt h1) fun e => absurd (heap_ty (e ▸ h1) R4.out.1) (by decide)).trans h1)
          have SZ5 : Hid (base ≤ w5.heap.size) := Lib.hid (Nat.le_trans SZbd.out kall.size)
          have z5 : w5.cell? ⟨k0, 0, none⟩ = some (.int .i64 kd) := by
            have h1 := R4.out.2.2.2.2
            exact cell_of ((kset.block k0 (heap_lt h1) fun e => absurd (heap_ty (e ▸ h1) R4.out.1) (by decide)).trans h1) 0 _ rfl
          have HW5 := Lib.hid hw5
          clear hw5 kset kall
          by_cases h6' : kd = 6
          · have hk6 : (kd == 6) = true := by simp [h6']
            have hk6' : decide (kd = 6) = true := by simp [h6']
            clear h6'
            have HEND : Hid (StepR base W w5 a R c) := Lib.hid ⟨_, R, F', c, HF5.out, rfl, rfl, HI5'.out, Held.refl _ _, Nat.le_succ _, B5.out⟩
            go_wp2_with (first
              | (rw [HW5.out])
              | fail)
            first | (refine bodyPost_end (results_none rfl _ _ _) rfl ⟨rfl, HEND.out⟩) | (refine bodyPost_ret (results_none rfl _ _ _) rfl ⟨rfl, HEND.out⟩)
          · have hk6 : (kd == 6) = false := by simpa using h6'
            have hk6' : decide (kd = 6) = false := by simpa using h6'
            clear h6'
            go_wp2_with (first
              | (rw [HW5.out])
              | (refine wpList_load_row rfl 84 (.tmp 9) rfl kx (by rfl) 84 ti.cs (0, 0) _ RK5.out Try.underlying84 rfl (by kernel_rfl) ?_)
              | fail)
            refine (comeC base w5 { a with vf := .slice A4 n4 c4 } R F' c HF5.out ((F').map Tl.p) HI5'.out ti HX5.out HT0.out HT1.out (HKK.out 0 h0n) SZ5.out).mono ?_
            rintro e wf ⟨rfl, lbs', R', hf, hi, hh, hb⟩
            have HEND : Hid (StepR base W wf a R c) := Lib.hid ⟨_, R', F', c, hf, rfl, rfl, hi, hh, Nat.le_succ _, B5.out.trans hb⟩
            clear hf hi hh hb
            go_wp2_with fail
            first | (refine bodyPost_end (results_none rfl _ _ _) rfl ⟨rfl, HEND.out⟩) | (refine bodyPost_ret (results_none rfl _ _ _) rfl ⟨rfl, HEND.out⟩)
        · have hcf3 : ¬ cf - (i + 1) = 0 := by omega
          have hcf4 : ((i : Int) + 1) ≤ (nF : Int) := by omega
          as_aux_lemma =>
          skip
          have hv4 : IntKind.i64.wrap ((i : Int) + 1) = (i : Int) + 1 := wrapI (by omega) (by omega)
          have hic : (i : Int) ≤ (cf : Int) := by omega
          have z0 := cell_of HSB.out.2.2.2.2 0 (.int .i64 kd) rfl
          go_wp2_with (first
            | (refine wpList_load_mid rfl 84 (.tmp 173) rfl gF (oF + i * 4) (by rfl) ti.cs.toList _ HRNG.out Try.underlying84 rfl (by kernel_rfl) ?_)
            | (rw [HWA.out, HKX.out])
            | (refine wpList_store_row rfl 84 (.tmp 9) (.tmp 174) rfl kx ti.cs (by rfl) (by rfl) 84 _ RA.out (by kernel_rfl) rfl (by rw [Array.all_eq_true']; intro u hu; exact Tl.oneB ti u (Array.mem_toList_iff.2 hu)) ?_; rw [HWB.out])
            | (refine wpList_load_row rfl 84 (.tmp 9) rfl kx (by rfl) 84 ti.cs (0, 0) _ RKb.out Try.underlying84 rfl (by kernel_rfl) ?_)
            | fail)
          have HSBd : Hid (wb.drew.heap[a.bf]? = some (.cells #[.slice (some ⟨g, o, none⟩) a.n cp, .slice (some ⟨gF, oF, none⟩) nF cf, .int .i64 c] 35 (0, 0)) ∧ wb.drew.cell? ⟨g, o, none⟩ = some (.pointer (some ⟨b0, 0, none⟩)) ∧ wb.drew.cell? ⟨g, o + x, none⟩ = some (.pointer (some ⟨bx, 0, none⟩)) ∧ g < wb.drew.heap.size ∧ wb.drew.heap[k0]? = some (.cells #[.int .i64 kd, .int .i64 X, .int .i64 N, .int .i64 I] 28 (0, 0))) := Lib.hid HSB.out
          have Bbd : Hid (Below base W wb.drew) := Lib.hid Bb.out.drew
          have HFbd := Lib.hid (HFb.out.below (Below.refl _ _).drew)
          have HXbd := Lib.hid (HXb.out.keep (Keeps.of_below (Below.refl _ _).drew))
          have SZbd : Hid (base ≤ wb.drew.heap.size) := Lib.hid SZb.out
          have RKbd : Hid (wb.drew.heap[kx]? = some (.cells ti.cs 84 (0, 0))) := Lib.hid RKb.out
          clear z0
          refine region_heldT (S := fun u => u.heap[a.bf]? = some (.cells #[.slice (some ⟨g, o, none⟩) a.n cp, .slice (some ⟨gF, oF, none⟩) nF cf, .int .i64 c] 35 (0, 0)) ∧ u.cell? ⟨g, o, none⟩ = some (.pointer (some ⟨b0, 0, none⟩)) ∧ u.cell? ⟨g, o + x, none⟩ = some (.pointer (some ⟨bx, 0, none⟩)) ∧ g < u.heap.size ∧ u.heap[k0]? = some (.cells #[.int .i64 kd, .int .i64 X, .int .i64 N, .int .i64 I] 28 (0, 0))) 17 (by kernel_rfl) (by decide) (fun inv => ?_)
          have HS := HSBd.out
          change FirstH _ _ _ _ _ _ _ _ _ _ wb.drew
          generalize wb.drew = we at *
          refine FirstH.go (i := 0) (v := .pointer (some ⟨a.bf, 0, none⟩)) rfl rfl 178 rfl (Op.move (Operand.tmp 0)) rfl (by kernel_rfl) (fun _ _ _ h => h) inv (fun W hS => by unfold bareO; go_simp) HS (fun inv => ?_)
          try simp only [Act.put, List.setIfInBounds_toArray, List.set_cons_zero, List.set_cons_succ]
          refine FirstH.go (i := 2) (v := .pointer (some ⟨a.bf, 0, none⟩)) rfl rfl 180 rfl (Op.move (Operand.tmp 0)) rfl (by kernel_rfl) (fun _ _ _ h => h) inv (fun W hS => by unfold bareO; go_simp) HS (fun inv => ?_)
          try simp only [Act.put, List.setIfInBounds_toArray, List.set_cons_zero, List.set_cons_succ]
          refine FirstH.go (i := 3) (v := .pointer (some ⟨a.bf, 0, none⟩)) rfl rfl 181 rfl (Op.nilCheck (Operand.tmp 180)) rfl (by kernel_rfl) (fun _ _ _ h => h) inv (fun W hS => by unfold bareO; go_simp) HS (fun inv => ?_)
          try simp only [Act.put, List.setIfInBounds_toArray, List.set_cons_zero, List.set_cons_succ]
          refine FirstH.go (i := 4) (v := .pointer (some ⟨a.bf, 1, none⟩)) rfl rfl 182 rfl (Op.fieldAddr 35 (Operand.tmp 181) 1) rfl (by kernel_rfl) (fun _ _ _ h => h) inv (fun W hS => by unfold bareO; go_simp) HS (fun inv => ?_)
          try simp only [Act.put, List.setIfInBounds_toArray, List.set_cons_zero, List.set_cons_succ]
          refine FirstH.go (i := 5) (v := .slice (some ⟨gF, oF, none⟩) nF cf) rfl rfl 183 rfl (Op.load 33 (Operand.tmp 182)) rfl (by kernel_rfl) (fun _ _ _ h => h) inv (fun W hS => by have q0 := cell_of hS.1 0 (.slice (some ⟨g, o, none⟩) a.n cp) rfl; have q1 := cell_of hS.1 1 (.slice (some ⟨gF, oF, none⟩) nF cf) rfl; have q2 := cell_of hS.1 2 (.int .i64 c) rfl; have y0 := hS.2.1; have y1 := hS.2.2.1; have s0 := cell_of hS.2.2.2.2 0 (.int .i64 kd) rfl; have s1 := cell_of hS.2.2.2.2 1 (.int .i64 X) rfl; have s2 := cell_of hS.2.2.2.2 2 (.int .i64 N) rfl; have s3 := cell_of hS.2.2.2.2 3 (.int .i64 I) rfl; unfold bareO; go_simp) HS (fun inv => ?_)
          try simp only [Act.put, List.setIfInBounds_toArray, List.set_cons_zero, List.set_cons_succ]
          refine FirstH.go (i := 6) (v := .int .i64 i) rfl rfl 184 rfl (Op.move (Operand.tmp 8)) rfl (by kernel_rfl) (fun _ _ _ h => h) inv (fun W hS => by unfold bareO; go_simp) HS (fun inv => ?_)
          try simp only [Act.put, List.setIfInBounds_toArray, List.set_cons_zero, List.set_cons_succ]
          refine FirstH.go (i := 7) (v := .slice (some ⟨gF, oF, none⟩) i cf) rfl rfl 185 rfl (Op.slice 33 (Operand.tmp 183) none (some (Operand.tmp 184)) none) rfl (by kernel_rfl) (fun _ _ _ h => h) inv (fun W hS => by have h1 := hii; have h2 := hi0; have h3 := hcfi; have h4 := hic; unfold bareO; go_simp; try omega) HS (fun inv => ?_)
          try simp only [Act.put, List.setIfInBounds_toArray, List.set_cons_zero, List.set_cons_succ]
          refine FirstH.go (i := 9) (v := .pointer (some ⟨a.bf, 0, none⟩)) rfl rfl 187 rfl (Op.move (Operand.tmp 0)) rfl (by kernel_rfl) (fun _ _ _ h => h) inv (fun W hS => by unfold bareO; go_simp) HS (fun inv => ?_)
          try simp only [Act.put, List.setIfInBounds_toArray, List.set_cons_zero, List.set_cons_succ]
          refine FirstH.go (i := 10) (v := .pointer (some ⟨a.bf, 0, none⟩)) rfl rfl 188 rfl (Op.nilCheck (Operand.tmp 187)) rfl (by kernel_rfl) (fun _ _ _ h => h) inv (fun W hS => by unfold bareO; go_simp) HS (fun inv => ?_)
          try simp only [Act.put, List.setIfInBounds_toArray, List.set_cons_zero, List.set_cons_succ]
          refine FirstH.go (i := 11) (v := .pointer (some ⟨a.bf, 1, none⟩)) rfl rfl 189 rfl (Op.fieldAddr 35 (Operand.tmp 188) 1) rfl (by kernel_rfl) (fun _ _ _ h => h) inv (fun W hS => by unfold bareO; go_simp) HS (fun inv => ?_)
          try simp only [Act.put, List.setIfInBounds_toArray, List.set_cons_zero, List.set_cons_succ]
          refine FirstH.go (i := 12) (v := .slice (some ⟨gF, oF, none⟩) nF cf) rfl rfl 190 rfl (Op.load 33 (Operand.tmp 189)) rfl (by kernel_rfl) (fun _ _ _ h => h) inv (fun W hS => by have q0 := cell_of hS.1 0 (.slice (some ⟨g, o, none⟩) a.n cp) rfl; have q1 := cell_of hS.1 1 (.slice (some ⟨gF, oF, none⟩) nF cf) rfl; have q2 := cell_of hS.1 2 (.int .i64 c) rfl; have y0 := hS.2.1; have y1 := hS.2.2.1; have s0 := cell_of hS.2.2.2.2 0 (.int .i64 kd) rfl; have s1 := cell_of hS.2.2.2.2 1 (.int .i64 X) rfl; have s2 := cell_of hS.2.2.2.2 2 (.int .i64 N) rfl; have s3 := cell_of hS.2.2.2.2 3 (.int .i64 I) rfl; unfold bareO; go_simp) HS (fun inv => ?_)
          try simp only [Act.put, List.setIfInBounds_toArray, List.set_cons_zero, List.set_cons_succ]
          refine FirstH.go (i := 13) (v := .int .i64 i) rfl rfl 191 rfl (Op.move (Operand.tmp 8)) rfl (by kernel_rfl) (fun _ _ _ h => h) inv (fun W hS => by unfold bareO; go_simp) HS (fun inv => ?_)
          try simp only [Act.put, List.setIfInBounds_toArray, List.set_cons_zero, List.set_cons_succ]
          refine FirstH.go (i := 14) (v := .int .i64 ((i : Int) + 1)) rfl rfl 192 rfl (Op.binOp BinOp.add 3 (Operand.tmp 191) (Operand.const (Value.int IntKind.i64 1)) 3) rfl (by kernel_rfl) (fun _ _ _ h => h) inv (fun W hS => by have h1 := hv4; unfold bareO; go_simp) HS (fun inv => ?_)
          try simp only [Act.put, List.setIfInBounds_toArray, List.set_cons_zero, List.set_cons_succ]
          refine FirstH.go (i := 15) (v := .slice (some ⟨gF, oF + (i + 1) * 4, none⟩) (nF - (i + 1)) (cf - (i + 1))) rfl rfl 193 rfl (Op.slice 33 (Operand.tmp 190) (some (Operand.tmp 192)) none none) rfl (by kernel_rfl) (fun _ _ _ h => h) inv (fun W hS => by have h1 := hii; have h2 := hi0; have h3 := hcfi; have h4 := hcf3; have h5 := hcf4; have h7 : ((i : Int) + 1) ≤ (nF : Int) := (by omega); have h8 : (0 : Int) ≤ (i : Int) + 1 := (by omega); have h6 : ¬ cf = i + 1 := (by omega); unfold bareO; go_simp; try omega) HS (fun inv => ?_)
          try simp only [Act.put, List.setIfInBounds_toArray, List.set_cons_zero, List.set_cons_succ]
          obtain ⟨kz, hkz⟩ : ∃ z, we.heap.size = z := ⟨_, rfl⟩
          obtain ⟨w2, hw2⟩ : ∃ z, we.alloc (.cells #[] 84) = z := ⟨_, rfl⟩
          have b2 : Below we.heap.size we w2 := by rw [← hw2]; exact (Below.refl _ _).alloc (Nat.le_refl _) _
          have r2 : w2.heap[kz]? = some (.cells #[] 84 (0, 0)) := by rw [← hw2, ← hkz]; exact heap_alloc_new _ _
          have HS2 : w2.heap[a.bf]? = some (.cells #[.slice (some ⟨g, o, none⟩) a.n cp, .slice (some ⟨gF, oF, none⟩) nF cf, .int .i64 c] 35 (0, 0)) ∧ w2.cell? ⟨g, o, none⟩ = some (.pointer (some ⟨b0, 0, none⟩)) ∧ w2.cell? ⟨g, o + x, none⟩ = some (.pointer (some ⟨bx, 0, none⟩)) ∧ g < w2.heap.size ∧ w2.heap[k0]? = some (.cells #[.int .i64 kd, .int .i64 X, .int .i64 N, .int .i64 I] 28 (0, 0)) := ⟨(b2.block a.bf (heap_lt HS.1)).trans HS.1, (b2.cell (p := ⟨g, o, none⟩) HS.2.2.2.1).trans HS.2.1, (b2.cell (p := ⟨g, o + x, none⟩) HS.2.2.2.1).trans HS.2.2.1, Nat.lt_of_lt_of_le HS.2.2.2.1 b2.size, (b2.block k0 (heap_lt HS.2.2.2.2)).trans HS.2.2.2.2⟩
          refine FirstH.only (i := 1) (by kernel_rfl) (by decide) inv (fun inv => wpOp_vl (i := 1) (v := .slice (some ⟨kz, 0, none⟩) 0 0) (w' := w2) rfl rfl 179 rfl _ rfl (by rw [← hw2, ← hkz]; unfold bareO; go_simp) ?_)
          refine ⟨HS2, ?_⟩
          try simp only [Act.put, List.setIfInBounds_toArray, List.set_cons_zero, List.set_cons_succ]
          have B2 := Lib.hid b2
          have HKZ := Lib.hid hkz
          have hff2 : RowO w2 84 4 (.slice (some ⟨gF, oF, none⟩) nF cf) nF (flat Tl.cs F) := by
            have := (HFbd.out.below b2).ff
            rw [HVF.out, HNF.out] at this
            exact this
          have HFF2 := Lib.hid hff2
          have hrz : RowO w2 84 4 (.slice (some ⟨kz, 0, none⟩) 0 0) 0 (flat Tl.cs ([] : List Tl)) := ⟨rfl, .inr ⟨kz, 0, 0, #[], rfl, r2, Nat.le_refl _, by unfold maxLen; omega, by simp, fun j u hu => by simp [flat] at hu⟩⟩
          have HRZ := Lib.hid hrz
          clear hw2 b2 r2 HS hff2 hrz
          obtain ⟨i0, hi0', hz0, hz1, hz2⟩ := info_parts tolI
          refine FirstH.only (i := 8) (by kernel_rfl) (by decide) inv (fun inv => wpOp_any rfl rfl (wp_appZ 186 rfl (.tmp 179) (.tmp 185) 33 84 rfl i0 _ 4 48 Try.underlying33 hi0' hz0 hz1 hz2 rfl (by decide) (.slice (some ⟨kz, 0, none⟩) 0 0) 0 (flat Tl.cs ([] : List Tl)) rfl HRZ.out ⟨gF, oF, none⟩ i cf (flat Tl.cs (F.take i)) rfl (by rw [flat_len Tl.sz, List.length_take, HNF.out, Nat.min_eq_left (by omega)]) (fun j u hu => by
            rw [addr_add]
            refine RowO.cells HFF2.out j u ?_
            rw [← flat_take Tl.sz F i (by rw [HNF.out]; omega), List.getElem?_take] at hu
            split at hu
            · exact hu
            · cases hu) (flat_one Tl.oneB _) (by omega) (by decide) ?_))
          intro v3 w3 O3 g3 f3
          rw [Nat.zero_add] at O3
          obtain ⟨A3, c3, rfl, _, _, _⟩ := O3.slice
          have h3b : Below we.heap.size we w3 := B2.out.grown g3 B2.out.size (by intro q hq; simp [Value.ownBlock] at hq; rw [← hq, HKZ.out]; exact Nat.le_refl _)
          have HS3 : w3.heap[a.bf]? = some (.cells #[.slice (some ⟨g, o, none⟩) a.n cp, .slice (some ⟨gF, oF, none⟩) nF cf, .int .i64 c] 35 (0, 0)) ∧ w3.cell? ⟨g, o, none⟩ = some (.pointer (some ⟨b0, 0, none⟩)) ∧ w3.cell? ⟨g, o + x, none⟩ = some (.pointer (some ⟨bx, 0, none⟩)) ∧ g < w3.heap.size ∧ w3.heap[k0]? = some (.cells #[.int .i64 kd, .int .i64 X, .int .i64 N, .int .i64 I] 28 (0, 0)) := by
            have hs := HSBd.out
            exact ⟨(h3b.block a.bf (heap_lt hs.1)).trans hs.1, (h3b.cell (p := ⟨g, o, none⟩) hs.2.2.2.1).trans hs.2.1, (h3b.cell (p := ⟨g, o + x, none⟩) hs.2.2.2.1).trans hs.2.2.1, Nat.lt_of_lt_of_le hs.2.2.2.1 h3b.size, (h3b.block k0 (heap_lt hs.2.2.2.2)).trans hs.2.2.2.2⟩
          refine ⟨HS3, ?_⟩
          try simp only [Act.put, List.setIfInBounds_toArray, List.set_cons_zero, List.set_cons_succ]
          have B3 := Lib.hid h3b
          have HFF3 : Hid (RowO w3 84 4 (.slice (some ⟨gF, oF, none⟩) nF cf) nF (flat Tl.cs F)) := Lib.hid (by
            have := (HFbd.out.below h3b).ff
            rw [HVF.out, HNF.out] at this
            exact this)
          have O3' : Hid (RowO w3 84 4 (.slice A3 i c3) i (flat Tl.cs (F.take i))) := Lib.hid (by
            have := O3
            simpa [flat] using this)
          have F3 : Hid (∀ q, (Value.slice A3 i c3).ownBlock = some q → we.heap.size ≤ q) := Lib.hid fun q hq => by
            rcases f3 with e | ⟨j, e, hj⟩
            · rw [e] at hq
              simp [Value.ownBlock] at hq
              rw [← hq, HKZ.out]
              exact Nat.le_refl _
            · rw [e] at hq
              injection hq with hq
              rw [← hq]
              exact Nat.le_trans B2.out.size hj
          clear HS2 O3 g3 f3 h3b
          refine FirstH.only (i := 16) (by kernel_rfl) (by decide) inv (fun inv => wpOp_any rfl rfl (wp_appZ 194 rfl (.tmp 186) (.tmp 193) 33 84 rfl i0 _ 4 48 Try.underlying33 hi0' hz0 hz1 hz2 rfl (by decide) (.slice A3 i c3) i (flat Tl.cs (F.take i)) rfl O3'.out ⟨gF, oF + (i + 1) * 4, none⟩ (nF - (i + 1)) (cf - (i + 1)) (flat Tl.cs (F.drop (i + 1))) rfl (by rw [flat_len Tl.sz, List.length_drop, HNF.out]) (fun j u hu => ?_) (flat_one Tl.oneB _) (by omega) (by decide) ?_))
          · rw [addr_add]
            have hdr : (flat Tl.cs F)[(i + 1) * 4 + j]? = some u := by
              rw [← flat_drop Tl.sz F (i + 1) (by rw [HNF.out]; omega), List.getElem?_drop] at hu
              exact hu
            rw [Nat.add_assoc]
            exact RowO.cells HFF3.out _ u hdr
          intro v4 w4 O4 g4 f4
          obtain ⟨A4, c4, rfl, _, _, _⟩ := O4.slice
          have h4b : Below we.heap.size we w4 := B3.out.grown g4 B3.out.size F3.out
          have HS4 : w4.heap[a.bf]? = some (.cells #[.slice (some ⟨g, o, none⟩) a.n cp, .slice (some ⟨gF, oF, none⟩) nF cf, .int .i64 c] 35 (0, 0)) ∧ w4.cell? ⟨g, o, none⟩ = some (.pointer (some ⟨b0, 0, none⟩)) ∧ w4.cell? ⟨g, o + x, none⟩ = some (.pointer (some ⟨bx, 0, none⟩)) ∧ g < w4.heap.size ∧ w4.heap[k0]? = some (.cells #[.int .i64 kd, .int .i64 X, .int .i64 N, .int .i64 I] 28 (0, 0)) := by
            have hs := HSBd.out
            exact ⟨(h4b.block a.bf (heap_lt hs.1)).trans hs.1, (h4b.cell (p := ⟨g, o, none⟩) hs.2.2.2.1).trans hs.2.1, (h4b.cell (p := ⟨g, o + x, none⟩) hs.2.2.2.1).trans hs.2.2.1, Nat.lt_of_lt_of_le hs.2.2.2.1 h4b.size, (h4b.block k0 (heap_lt hs.2.2.2.2)).trans hs.2.2.2.2⟩
          refine ⟨HS4, ?_⟩
          try simp only [Act.put, List.setIfInBounds_toArray, List.set_cons_zero, List.set_cons_succ]
          obtain ⟨F', hF'⟩ : ∃ G, F.take i ++ F.drop (i + 1) = G := ⟨_, rfl⟩
          have HF' := Lib.hid hF'
          obtain ⟨n4, hn4⟩ : ∃ z, (i + (nF - (i + 1))) = z := ⟨_, rfl⟩
          have hF'l : Hid (F'.length = n4) := Lib.hid (by rw [← hF', List.length_append, List.length_take, List.length_drop, HNF.out]; omega)
          rw [hn4] at O4 f4 ⊢
          have O4' : Hid (RowO w4 84 4 (.slice A4 n4 c4) F'.length (flat Tl.cs F')) := Lib.hid (by
            rw [hF'l.out, ← hF', flat_append]
            exact O4)
          have F4 : Hid (∀ q, (Value.slice A4 n4 c4).ownBlock = some q → we.heap.size ≤ q) := Lib.hid fun q hq => by
            rcases f4 with e | ⟨j, e, hj⟩
            · exact F3.out q (e ▸ hq)
            · rw [e] at hq
              injection hq with hq
              rw [← hq]
              exact Nat.le_trans B3.out.size hj
          have B4 := Lib.hid h4b
          have R4 := Lib.hid HS4
          have HN4 : Hid (n4 ≤ 100) := Lib.hid (by omega)
          have f1 := frz_row 1 HS4.1
          have c1' := cell_of HS4.1 1 (.slice (some ⟨gF, oF, none⟩) nF cf) rfl
          clear HS3 HS4 O4 g4 f4 h4b hn4 hF' hi0' hz0 hz1 hz2
          refine ⟨by kernel_rfl, ?_⟩
          simp only [List.drop_succ_cons, List.drop_zero]
          clear inv
          obtain ⟨w5, hw5⟩ : ∃ z, w4.setCell ⟨a.bf, 1, none⟩ (.slice A4 n4 c4) = z := ⟨_, rfl⟩
          have kset : KP (fun j => j = a.bf) w4 w5 := by rw [← hw5]; exact KP.set (S := fun j => j = a.bf) w4 a.bf 1 _ rfl
          have kall : KP (fun j => a.vf.ownBlock = some j ∨ j = a.bf) we w5 := (KP.of_below (S := fun j => a.vf.ownBlock = some j ∨ j = a.bf) B4.out).trans (kset.mono fun j hj => .inr hj) fun _ _ h => h
          have HSUB : Hid (∀ t ∈ F', t ∈ F) := Lib.hid fun t ht => by
            rw [← HF'.out] at ht
            rcases List.mem_append.1 ht with h | h
            · exact List.mem_of_mem_take h
            · exact List.mem_of_mem_drop h
          have HF5 : Hid (FM base w5 { a with vf := .slice A4 n4 c4 } R F' c) := Lib.hid (HFbd.out.fly (F' := F') (c' := c) (.slice A4 n4 c4) kall (by rw [← hw5]; exact (row_set (i := 1) R4.out.1 _).trans (by rw [HVR.out]; rfl)) (O4'.out.keepB fun q hq => by
            obtain ⟨cur, hc⟩ := RowO.block O4'.out q hq
            exact kset.block q (heap_lt hc) fun e => absurd (heap_ty (e ▸ hc) R4.out.1) (by decide)) (fun t ht => HFbd.out.fl t (HSUB.out t ht)) (fun q hq => Nat.le_trans SZbd.out (F4.out q hq)) (by rw [hF'l.out]; exact HN4.out))
          have HI5' : Hid (Inv a.n R (F'.map Tl.p)) := Lib.hid (HI.out.sub fun t ht => by
            obtain ⟨s, hs, e⟩ := List.mem_map.1 ht
            exact List.mem_map.2 ⟨s, HSUB.out s hs, e⟩)
          have B5 : Hid (Below base W w5) := Lib.hid (Bbd.out.trans (HFbd.out.belowF kall SZbd.out))
          have HX5 : Hid (EnO w5 ti.v ti.L) := Lib.hid (HXbd.out.keep ((Keeps.of_below B4.out).trans (Keeps.of_KP kset fun q cur t hq ht e => by
            have := heap_ty (e ▸ hq) R4.out.1
            rw [this] at ht
            revert ht
            simp [Ty])))
          have RK5 : Hid (w5.heap[kx]? = some (.cells ti.cs 84 (0, 0))) := Lib.hid (by
            have h1 := (B4.out.block kx (heap_lt RKbd.out)).trans RKbd.out
            exact (kset.block kx (heap_lt h1) fun e => absurd (heap_ty (e ▸ h1) R4.out.1) (by decide)).trans h1)
          have SZ5 : Hid (base ≤ w5.heap.size) := Lib.hid (Nat.le_trans SZbd.out kall.size)
          have z5 : w5.cell? ⟨k0, 0, none⟩ = some (.int .i64 kd) := by
            have h1 := R4.out.2.2.2.2
            exact cell_of ((kset.block k0 (heap_lt h1) fun e => absurd (heap_ty (e ▸ h1) R4.out.1) (by decide)).trans h1) 0 _ rfl
          have HW5 := Lib.hid hw5
          clear hw5 kset kall
          by_cases h6' : kd = 6
          · have hk6 : (kd == 6) = true := by simp [h6']
            have hk6' : decide (kd = 6) = true := by simp [h6']
            clear h6'
            have HEND : Hid (StepR base W w5 a R c) := Lib.hid ⟨_, R, F', c, HF5.out, rfl, rfl, HI5'.out, Held.refl _ _, Nat.le_succ _, B5.out⟩
            go_wp2_with (first
              | (rw [HW5.out])
              | fail)
            first | (refine bodyPost_end (results_none rfl _ _ _) rfl ⟨rfl, HEND.out⟩) | (refine bodyPost_ret (results_none rfl _ _ _) rfl ⟨rfl, HEND.out⟩)
          · have hk6 : (kd == 6) = false := by simpa using h6'
            have hk6' : decide (kd = 6) = false := by simpa using h6'
            clear h6'
            go_wp2_with (first
              | (rw [HW5.out])
              | (refine wpList_load_row rfl 84 (.tmp 9) rfl kx (by rfl) 84 ti.cs (0, 0) _ RK5.out Try.underlying84 rfl (by kernel_rfl) ?_)
              | fail)
            refine (comeC base w5 { a with vf := .slice A4 n4 c4 } R F' c HF5.out ((F').map Tl.p) HI5'.out ti HX5.out HT0.out HT1.out (HKK.out 0 h0n) SZ5.out).mono ?_
            rintro e wf ⟨rfl, lbs', R', hf, hi, hh, hb⟩
            have HEND : Hid (StepR base W wf a R c) := Lib.hid ⟨_, R', F', c, hf, rfl, rfl, hi, hh, Nat.le_succ _, B5.out.trans hb⟩
            clear hf hi hh hb
            go_wp2_with fail
            first | (refine bodyPost_end (results_none rfl _ _ _) rfl ⟨rfl, HEND.out⟩) | (refine bodyPost_ret (results_none rfl _ _ _) rfl ⟨rfl, HEND.out⟩)
    · have hfi0 : ¬ (0 : Int) < (nF : Int) := by omega
      clear e0 e1 e2 e7 e3
      go_wp2_with fail
      first | (refine bodyPost_end (results_none rfl _ _ _) rfl ⟨rfl, HNO.out⟩) | (refine bodyPost_ret (results_none rfl _ _ _) rfl ⟨rfl, HNO.out⟩)
  · have hkg : decide ((3 : Int) ≤ kd) = false := by simpa using e3
    clear e0 e1 e2 e7 e3
    go_wp2_with fail
    first | (refine bodyPost_end (results_none rfl _ _ _) rfl ⟨rfl, HNO.out⟩) | (refine bodyPost_ret (results_none rfl _ _ _) rfl ⟨rfl, HNO.out⟩)

end Go.Proofs.Ytjdmjiikpnlkjaa
