/-
  The document's link in memory; its New. Condition: the numbers fit their kinds.
-/
import Derived.Test.YtgnfclikdfllnaaJox
namespace Go.Proofs.Ytgnfclikdfllnaa
set_option linter.unusedSimpArgs false
set_option linter.unusedVariables false
open Go.RowKit Go.Maps Go.Sort

def Kr.cs (x : Kr) : Array Value := #[.int .u64 x.seq, .slice x.b.A x.b.B.length x.b.c]
theorem Kr.sz : ∀ x : Kr, x.cs.size = 2 := fun _ => rfl
theorem Kr.one : ∀ x : Kr, ∀ u ∈ x.cs.toList, u.oneCell' = true := by
  intro x u hu
  simp only [Kr.cs, List.mem_cons, List.not_mem_nil, or_false] at hu
  rcases hu with rfl | rfl <;> rfl
def Sc.ds (s : Sc) (v w : Value) : Array Value := #[.int .u8 s.mn, .int .u16 s.ml, .int .u8 s.pn, .int .u16 s.pl, .int .i64 s.again, .int .u64 s.next, .int .u64 s.want, v, w, .bool s.owed]
theorem rsI : (Try.prog.info? 88).map (fun i => (i.zero, i.size, i.bytes)) = some (some (.agg #[.int .u64 0, .slice none 0 0, .bool false, .int .i64 0]), 4, 48) := by kernel_rfl
theorem rkI : (Try.prog.info? 98).map (fun i => (i.zero, i.size, i.bytes)) = some (some (.agg #[.int .u64 0, .slice none 0 0]), 2, 32) := by kernel_rfl
/-- the link of the document: block b; its rows: v and w. -/
structure DL (base : Nat) (W : World) (b : Nat) (v w : Value) (s : Sc) (L : List Ls) (K : List Kr) : Prop where
  hb : base ≤ b
  hv : ∀ g, v.ownBlock = some g → base ≤ g
  hw : ∀ g, w.ownBlock = some g → base ≤ g
  lnk : W.heap[b]? = some (.cells (s.ds v w) 60 (0, 0))
  row : RowO W 88 4 v L.length (flat Ls.cs L)
  krow : RowO W 98 2 w K.length (flat Kr.cs K)
  okL : ∀ x ∈ L, x.b.Ok W
  okK : ∀ x ∈ K, x.b.Ok W
  few : L.length ≤ 32
  kfew : K.length ≤ 1000
  nxt : s.next ≤ 18446744073709551615
  wnt : s.want ≤ 18446744073709551615
  agn : 1 ≤ s.again ∧ s.again ≤ 9223372036854775807
  seqs : ∀ i x, L[i]? = some x → x.seq + L.length = s.next + i
  ats : ∀ x ∈ L, -9223372036854775808 ≤ x.at_ ∧ x.at_ ≤ 9223372036854775807
/-- what a call may change. -/
def FD (b : Nat) (v w : Value) (k : Nat) : Prop := k = b ∨ v.ownBlock = some k ∨ w.ownBlock = some k
theorem DL.keep {base : Nat} {W W' : World} {b : Nat} {v w : Value} {s : Sc} {L : List Ls} {K : List Kr} (h : DL base W b v w s L K) (k1 : W'.heap[b]? = W.heap[b]?) (k2 : ∀ g, v.ownBlock = some g → W'.heap[g]? = W.heap[g]?) (k3 : ∀ g, w.ownBlock = some g → W'.heap[g]? = W.heap[g]?)
    (k4 : ∀ (g : Nat) (cur : Array Value), W.heap[g]? = some (.cells cur 5 (0, 0)) → W'.heap[g]? = W.heap[g]?) : DL base W' b v w s L K :=
  ⟨h.hb, h.hv, h.hw, k1.trans h.lnk, h.row.keepB k2, h.krow.keepB k3, fun x hx => (h.okL x hx).keep k4, fun x hx => (h.okK x hx).keep k4, h.few, h.kfew, h.nxt, h.wnt, h.agn, h.seqs, h.ats⟩
theorem DL.keepK {base : Nat} {W W' : World} {b : Nat} {v w : Value} {s : Sc} {L : List Ls} {K : List Kr} {S : Nat → Prop} (h : DL base W b v w s L K) (k : KP S W W') (k1 : ¬ S b) (k2 : ∀ g, v.ownBlock = some g → ¬ S g) (k3 : ∀ g, w.ownBlock = some g → ¬ S g)
    (k4 : ∀ (g : Nat) (cur : Array Value), W.heap[g]? = some (.cells cur 5 (0, 0)) → ¬ S g) : DL base W' b v w s L K :=
  h.keep (k.block b (blt h.lnk) k1) (fun g hg => k.block g (h.row.lt g hg) (k2 g hg)) (fun g hg => k.block g (h.krow.lt g hg) (k3 g hg)) fun g cur hc => k.block g (blt hc) (k4 g cur hc)
theorem DL.below {base : Nat} {W W' : World} {b : Nat} {v w : Value} {s : Sc} {L : List Ls} {K : List Kr} (h : DL base W b v w s L K) (hb : Below W.heap.size W W') : DL base W' b v w s L K :=
  h.keep (hb.block b (blt h.lnk)) (fun g hg => hb.block g (h.row.lt g hg)) (fun g hg => hb.block g (h.krow.lt g hg)) fun g cur hc => hb.block g (blt hc)
theorem DL.foot {base : Nat} {W : World} {b : Nat} {v w : Value} {s : Sc} {L : List Ls} {K : List Kr} (h : DL base W b v w s L K) : ∀ k, FD b v w k → base ≤ k := by
  rintro k (rfl | hk | hk)
  · exact h.hb
  · exact h.hv k hk
  · exact h.hw k hk
theorem DL.u8 {base : Nat} {W : World} {b : Nat} {v w : Value} {s : Sc} {L : List Ls} {K : List Kr} (h : DL base W b v w s L K) : ∀ (g : Nat) (cur : Array Value), W.heap[g]? = some (.cells cur 5 (0, 0)) → ¬ FD b v w g := by
  rintro g cur hg (rfl | hk | hk)
  · exact apart_of hg h.lnk (by decide) rfl
  · obtain ⟨c2, h2⟩ := h.row.block g hk
    exact apart_of hg h2 (by decide) rfl
  · obtain ⟨c2, h2⟩ := h.krow.block g hk
    exact apart_of hg h2 (by decide) rfl
theorem DL.ne_bv {base : Nat} {W : World} {b : Nat} {v w : Value} {s : Sc} {L : List Ls} {K : List Kr} (h : DL base W b v w s L K) : ∀ g, v.ownBlock = some g → g ≠ b := by
  intro g hg
  obtain ⟨c2, h2⟩ := h.row.block g hg
  exact apart_of h2 h.lnk (by decide)
theorem DL.ne_bw {base : Nat} {W : World} {b : Nat} {v w : Value} {s : Sc} {L : List Ls} {K : List Kr} (h : DL base W b v w s L K) : ∀ g, w.ownBlock = some g → g ≠ b := by
  intro g hg
  obtain ⟨c2, h2⟩ := h.krow.block g hg
  exact apart_of h2 h.lnk (by decide)
theorem DL.ne_vw {base : Nat} {W : World} {b : Nat} {v w : Value} {s : Sc} {L : List Ls} {K : List Kr} (h : DL base W b v w s L K) : ∀ g, v.ownBlock = some g → w.ownBlock ≠ some g := by
  intro g hg e
  obtain ⟨c1, h1⟩ := h.row.block g hg
  obtain ⟨c2, h2⟩ := h.krow.block g e
  exact apart_of h1 h2 (by decide) rfl
/-- the link's row alone has changed. -/
theorem DL.num {base : Nat} {W W' : World} {b : Nat} {v w : Value} {s s' : Sc} {L : List Ls} {K : List Kr} (h : DL base W b v w s L K) (k : KP (fun k => k = b) W W') (hl : W'.heap[b]? = some (.cells (s'.ds v w) 60 (0, 0))) (h1 : s'.next = s.next) (h2 : s'.again = s.again) (h3 : s'.want ≤ 18446744073709551615) : DL base W' b v w s' L K := by
  have hu : ∀ (g' : Nat) (cur : Array Value), W.heap[g']? = some (.cells cur 5 (0, 0)) → ¬ (g' = b) := fun g' cur hg e => h.u8 g' cur hg (Or.inl e)
  exact ⟨h.hb, h.hv, h.hw, hl, h.row.keepK k h.ne_bv, h.krow.keepK k h.ne_bw, fun y hy => (h.okL y hy).keepK k hu, fun y hy => (h.okK y hy).keepK k hu, h.few, h.kfew, by rw [h1]; exact h.nxt, h3, by rw [h2]; exact h.agn, by rw [h1]; exact h.seqs, h.ats⟩
theorem DL.owe {base : Nat} {W : World} {b : Nat} {v w : Value} {s : Sc} {L : List Ls} {K : List Kr} (h : DL base W b v w s L K) (o : Bool) : DL base (W.setCell ⟨b, 9, none⟩ (.bool o)) b v w { s with owed := o } L K :=
  h.num (KP.set (S := fun k => k = b) W b 9 _ rfl) ((row_set h.lnk _).trans rfl) rfl rfl h.wnt
theorem new_dl (W : World) (A B : Obj) (mn ml pn pl : Int) (first : Nat) (again mx : Int) (hx : mx = max again 1) (hf : first ≤ 18446744073709551615) (ha : again ≤ 9223372036854775807) :
    DL W.heap.size (((W.alloc A).alloc B).alloc (.cells #[.int .u8 mn, .int .u16 ml, .int .u8 pn, .int .u16 pl, .int .i64 mx, .int .u64 first, .int .u64 first, .slice none 0 0, .slice none 0 0, .bool false] 60)) (W.heap.size + 2) (.slice none 0 0) (.slice none 0 0) ⟨mn, ml, pn, pl, max again 1, first, first, false⟩ [] [] := by
  subst hx
  refine ⟨by omega, fun g hg => by simp [Value.ownBlock] at hg, fun g hg => by simp [Value.ownBlock] at hg, ?_, RowO.nil _ _ _, RowO.nil _ _ _, fun _ hx => (by cases hx), fun _ hx => (by cases hx), by simp, by simp, hf, hf, ⟨?_, ?_⟩, fun i x hx => by simp at hx, fun _ hx => (by cases hx)⟩
  · have := heap_alloc_new ((W.alloc A).alloc B) (.cells #[.int .u8 mn, .int .u16 ml, .int .u8 pn, .int .u16 pl, .int .i64 (max again 1), .int .u64 first, .int .u64 first, .slice none 0 0, .slice none 0 0, .bool false] 60)
    simpa [Sc.ds] using this
  · show 1 ≤ max again 1
    omega
  · show max again 1 ≤ 9223372036854775807
    omega
set_option maxRecDepth 100000 in
set_option maxHeartbeats 1000000 in
theorem newD (mn ml pn pl : Int) (first : Nat) (again : Int) (hf : first ≤ 18446744073709551615) (ha : again ≤ 9223372036854775807) (W : World) :
    Calls Try.prog 11 #[.agg #[.int .u8 mn, .int .u16 ml], .agg #[.int .u8 pn, .int .u16 pl], .int .u64 first, .int .i64 again] W fun e W' => e = .returned (.pointer (some ⟨W.heap.size + 2, 0, none⟩)) ∧ DL W.heap.size W' (W.heap.size + 2) (.slice none 0 0) (.slice none 0 0) ⟨mn, ml, pn, pl, max again 1, first, first, false⟩ [] [] ∧ Below W.heap.size W W' := by
  go_enter Try.func11, Try.ntmps11
  go_wp2
  all_goals
    go_ret
    exact ⟨by simp, new_dl W _ _ mn ml pn pl first again _ (by omega) hf ha, (((Below.refl _ _).alloc (Nat.le_refl _) _).alloc (by simp) _).alloc (by simp; omega) _⟩

set_option maxRecDepth 100000 in
set_option maxHeartbeats 1000000 in
theorem lateD (at_ now again : Int) (W : World) (ha : -9223372036854775808 ≤ at_ ∧ at_ ≤ 9223372036854775807) (hn : now ≤ 9223372036854775807) (hg : 1 ≤ again ∧ again ≤ 9223372036854775807) :
    Calls Try.prog 34 #[.int .i64 at_, .int .i64 now, .int .i64 again] W fun e W' => e = .returned (.bool (dueB true at_ now again)) ∧ W = W' := by
  have hp := Lib.hid (u64_pos hg)
  have hd := Lib.hid (fun h : at_ ≤ now => u64_diff h ha.1 hn)
  unfold dueB
  by_cases hle : at_ ≤ now
  · have hd' := hd.out hle
    clear ha hn hg
    go_enter Try.func34, Try.ntmps34
    go_wp2
    go_ret
    refine ⟨?_, rfl⟩
    show Ending.returned (.bool (decide (IntKind.u64.wrap again ≤ now - at_))) = _
    rw [hp.out]
    simp [hle]
  · clear ha hn hg
    go_enter Try.func34, Try.ntmps34
    go_wp2
    go_ret
    refine ⟨?_, rfl⟩
    show Ending.returned (.bool false) = _
    have e : decide (at_ ≤ now) = false := by simp; omega
    simp [e]

end Go.Proofs.Ytgnfclikdfllnaa
