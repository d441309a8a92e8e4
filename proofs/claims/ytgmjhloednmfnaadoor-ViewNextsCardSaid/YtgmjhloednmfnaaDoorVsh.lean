/-
  A view as text, where its numbers are small; a group's first view; a view's clone: the program's Show, First, Clone, by exact answers. Condition: the members lie in memory, they are few; numbers below 100 in Show.
-/
import Derived.Test.YtgmjhloednmfnaaDoorVbu
import Derived.Test.YtgmjhloednmfnaaDoorVri
import Derived.Test.YtgmjhloednmfnaaDoorVapp
import Derived.Test.YtgmjhloednmfnaaDoorTail
import Derived.Laws.Concat
namespace Go.Proofs.YtgmjhloednmfnaaDoor
set_option linter.unusedSimpArgs false
set_option linter.unusedVariables false
open Go.RowKit Go.Shelf

/-- the text ahead of the members; a member's text. -/
def shH (g N : Int) : ByteArray := (((⟨#[103]⟩ ++ txt g) ++ ⟨#[32, 118]⟩) ++ txt N) ++ ⟨#[58]⟩
def shP (p : P2) : ByteArray := ((⟨#[32]⟩ ++ txt p.n) ++ ⟨#[46]⟩) ++ txt p.l
def shL (g N : Int) (V : List P2) (k : Nat) : List UInt8 := (shH g N).data.toList ++ (V.take k).flatMap fun p => (shP p).data.toList
theorem shL_step {g N : Int} {V : List P2} {k : Nat} {x : P2} (h : V[k]? = some x) : shL g N V (k + 1) = shL g N V k ++ (shP x).data.toList := by
  unfold shL
  rw [List.take_add_one, h]
  simp [List.flatMap_append]
theorem dec_small (n : Nat) (h : n < 100) : (Lib.decDigits n).length ≤ 2 := by
  unfold Lib.decDigits
  split
  · simp
  · unfold Lib.decDigits
    split
    · simp
    · omega
theorem txt_small (n : Int) (h0 : 0 ≤ n) (h : n < 100) : (txt n).size ≤ 2 := by
  show (Lib.decDigits n.toNat).toArray.size ≤ 2
  rw [List.size_toArray]
  exact dec_small _ (by omega)
theorem shP_size (p : P2) (h : (0 ≤ p.n ∧ p.n < 100) ∧ (0 ≤ p.l ∧ p.l < 100)) : (shP p).size ≤ 6 := by
  have h1 := txt_small p.n h.1.1 h.1.2
  have h2 := txt_small p.l h.2.1 h.2.2
  unfold shP
  simp only [ByteArray.size_append]
  show 1 + _ + 1 + _ ≤ 6
  omega
theorem shH_size (g N : Int) (hg : 0 ≤ g ∧ g < 100) (hN : 0 ≤ N ∧ N < 100) : (shH g N).size ≤ 8 := by
  have h1 := txt_small g hg.1 hg.2
  have h2 := txt_small N hN.1 hN.2
  unfold shH
  simp only [ByteArray.size_append]
  show 1 + _ + 2 + _ + 1 ≤ 8
  omega
theorem shL_len (g N : Int) (V : List P2) (k : Nat) (hg : 0 ≤ g ∧ g < 100) (hN : 0 ≤ N ∧ N < 100) (hV : ∀ p ∈ V, (0 ≤ p.n ∧ p.n < 100) ∧ (0 ≤ p.l ∧ p.l < 100)) : (shL g N V k).length ≤ 8 + 6 * k := by
  induction k with
  | zero =>
    have := shH_size g N hg hN
    unfold shL
    simpa using this
  | succ k ih =>
    cases h : V[k]? with
    | none =>
      have : V.take (k + 1) = V.take k := by rw [List.take_add_one, h]; simp
      unfold shL at *
      rw [this]
      omega
    | some x =>
      have h2 := shP_size x (hV x (List.mem_of_getElem? h))
      rw [shL_step h, List.length_append]
      have : (shP x).data.toList.length = (shP x).size := Array.length_toList
      omega

theorem shL_zero (g N : Int) (V : List P2) : Lib.byteCells (shL g N V 0) = [] ++ Lib.strCells (shH g N) := by
  unfold shL
  rw [Lib.strCells_eq]
  simp
/-- the view's box, and the builder that holds the text so far. -/
structure ShAt (w W : World) (g N : Int) (A : Option Addr) (V : List P2) (c k : Nat) : Prop where
  bel : Below w.heap.size w W
  rv : W.heap[w.heap.size]? = some (.cells #[.int .u8 g, .int .u32 N, .slice A V.length c] 30 (0, 0))
  bu : Lib.BuilderAt 70 5 (w.heap.size + 1) (w.heap.size + 1) (.pointer (some ⟨w.heap.size + 1, 0, none⟩)) (Lib.byteCells (shL g N V k)) W
  sz : w.heap.size + 2 ≤ W.heap.size
theorem shAt0 {w W0 w1 : World} {g N : Int} {A : Option Addr} {V : List P2} {c : Nat} {s4 : ByteArray} (B0 : Below w.heap.size w W0) (R0 : W0.heap[w.heap.size]? = some (.cells #[.int .u8 g, .int .u32 N, .slice A V.length c] 30 (0, 0))) (S0 : W0.heap.size = w.heap.size + 2) (h5 : s4 = shH g N)
    (hbu : Lib.BuilderAt 70 5 (w.heap.size + 1) (w.heap.size + 1) (.pointer (some ⟨w.heap.size + 1, 0, none⟩)) ([] ++ Lib.strCells s4) w1) (b1 : Below (w.heap.size + 1) W0.drew w1) : ShAt w w1 g N A V c 0 := by
  have hs : W0.heap.size ≤ w1.heap.size := b1.size
  refine ⟨(B0.trans (((Below.refl W0.heap.size W0).drew).mono B0.size)).trans (b1.mono (by omega)), (b1.block w.heap.size (by omega)).trans R0, ?_, by omega⟩
  rw [shL_zero, ← h5]
  exact hbu
theorem shAtS {w wr wx w1 : World} {g N : Int} {A : Option Addr} {V : List P2} {c k : Nat} {s4 : ByteArray} {x : P2} (hx : V[k]? = some x) (I : ShAt w wr g N A V c k) (ha : Below wr.heap.size wr wx) (h5 : s4 = shP x)
    (hbu : Lib.BuilderAt 70 5 (w.heap.size + 1) (w.heap.size + 1) (.pointer (some ⟨w.heap.size + 1, 0, none⟩)) (Lib.byteCells (shL g N V k) ++ Lib.strCells s4) w1) (b1 : Below (w.heap.size + 1) wx w1) : ShAt w w1 g N A V c (k + 1) := by
  have hz := I.sz
  have hs : wx.heap.size ≤ w1.heap.size := b1.size
  have hs2 := ha.size
  refine ⟨(I.bel.trans (ha.mono (by omega))).trans (b1.mono (by omega)), (b1.block w.heap.size (by omega)).trans ((ha.block w.heap.size (by omega)).trans I.rv), ?_, by omega⟩
  rw [shL_step hx, Lib.byteCells_append, ← Lib.strCells_eq, ← h5]
  exact hbu
theorem isB_below {B b : Nat} {p : Value} {bs : List Value} {W W' : World} (h : Lib.BuilderAt 70 5 B b p bs W) (hb : Below W.heap.size W W') : Lib.BuilderAt 70 5 B b p bs W' := by
  have hl := h.lt
  obtain ⟨h1, v, h2, h3, h4⟩ := h
  exact ⟨h1, v, (hb.block b hl).trans h2, own_kept h3 hb, h4⟩
theorem shL_ne (g N : Int) (V : List P2) (k : Nat) : shL g N V k ≠ [] := by
  have h : 1 ≤ (shH g N).size := by
    unfold shH
    simp only [ByteArray.size_append]
    show 1 ≤ 1 + _ + 2 + _ + 1
    omega
  intro e
  have h2 : (shL g N V k).length = 0 := by rw [e]; rfl
  unfold shL at h2
  rw [List.length_append] at h2
  have : (shH g N).data.toList.length = (shH g N).size := Array.length_toList
  omega
theorem catS (a b : ByteArray) (ha : a.size ≤ 1000) (hb : b.size ≤ 1000) : ∃ s : ByteArray, Hid (s = a ++ b) ∧ ∀ W : World, Sem.run Tryd.prog (Op.stringOp .add a b) W = .ok (.string s) W :=
  ⟨a ++ b, Lib.hid rfl, fun W => run_string_add W a b (by omega) (by omega)⟩

set_option maxRecDepth 100000 in
set_option maxHeartbeats 2000000 in
theorem showO (g N : Int) (A : Option Addr) (V : List P2) (c : Nat) (w : World) (hr : RowsV w w.heap.size A V) (hc : V.length ≤ c) (hm : c ≤ maxLen) (hVl : V.length ≤ 1000) (hg : 0 ≤ g ∧ g < 100) (hN : 0 ≤ N ∧ N < 100) (hV : ∀ p ∈ V, (0 ≤ p.n ∧ p.n < 100) ∧ (0 ≤ p.l ∧ p.l < 100)) :
    Calls Tryd.prog 19 #[.agg #[.int .u8 g, .int .u32 N, .slice A V.length c]] w fun e w' => e = .returned (.string ⟨(shL g N V V.length).toArray⟩) ∧ Below w.heap.size w w' := by
  obtain ⟨W0, hW0⟩ : ∃ W0, (w.alloc (.cells #[.int .u8 g, .int .u32 N, .slice A V.length c] 30)).alloc (.cells #[.pointer none, .slice none 0 0] 70) = W0 := ⟨_, rfl⟩
  have b0 : Below w.heap.size w W0 := by rw [← hW0]; exact two_below _ _ _ _ _
  have r0 : W0.heap[w.heap.size]? = some (.cells #[.int .u8 g, .int .u32 N, .slice A V.length c] 30 (0, 0)) := by rw [← hW0]; exact rowA _ _ _ _ _
  have r1 : W0.heap[w.heap.size + 1]? = some (.cells #[.pointer none, .slice none 0 0] 70 (0, 0)) := by rw [← hW0]; exact rowB _ _ _ _ _
  have s0 : W0.heap.size = w.heap.size + 2 := by rw [← hW0]; simp
  have hB : Lib.IsBuilder 70 5 (w.heap.size + 1) (w.heap.size + 1) [] W0 := .inl ⟨Nat.le_refl _, _, r1, ⟨rfl, .inl ⟨rfl, rfl⟩⟩, by simp [Value.ownBlock]⟩
  have hs := shH_size g N hg hN
  have KW := Lib.hid (fun W (h : Lib.IsBuilder 70 5 (w.heap.size + 1) (w.heap.size + 1) [] W) (hs' : w.heap.size + 1 ≤ W.heap.size) => sbWrite (w.heap.size + 1) (w.heap.size + 1) [] (shH g N) W h (by simp; omega) hs')
  have R0 := Lib.hid r0
  have B0 := Lib.hid b0
  have S0 := Lib.hid s0
  have HB := Lib.hid hB
  have HS1 : Hid (w.heap.size + 1 ≤ W0.drew.heap.size) := Lib.hid (by show w.heap.size + 1 ≤ W0.heap.size; omega)
  have HW0 := Lib.hid hW0
  have HG := Lib.hid hg
  have HN := Lib.hid hN
  clear b0 r0 r1 s0 hB hW0 hs
  have KI := Lib.hid (fun W => itoaS g W hg.1 hg.2)
  have KF := Lib.hid (fun W => fmtS N W hN.1 hN.2)
  have ht1 := txt_small g hg.1 hg.2
  have ht2 := txt_small N hN.1 hN.2
  obtain ⟨s1, h1, q1⟩ := catS ⟨#[103]⟩ (txt g) (by show 1 ≤ 1000; omega) (by omega)
  obtain ⟨s2, h2, q2⟩ := catS s1 ⟨#[32, 118]⟩ (by rw [h1.out, ByteArray.size_append]; show 1 + _ ≤ 1000; omega) (by show 2 ≤ 1000; omega)
  obtain ⟨s3, h3, q3⟩ := catS s2 (txt N) (by rw [h2.out, h1.out, ByteArray.size_append, ByteArray.size_append]; show 1 + _ + 2 ≤ 1000; omega) (by omega)
  obtain ⟨s4, h4, q4⟩ := catS s3 ⟨#[58]⟩ (by rw [h3.out, h2.out, h1.out, ByteArray.size_append, ByteArray.size_append, ByteArray.size_append]; show 1 + _ + 2 + _ ≤ 1000; omega) (by show 1 ≤ 1000; omega)
  have h5 : Hid (s4 = shH g N) := Lib.hid (by rw [h4.out, h3.out, h2.out, h1.out]; rfl)
  rw [← h5.out] at KW
  clear h1 h2 h3 h4 ht1 ht2
  generalize txt g = tg at *
  generalize txt N = tN at *
  have hwg : IntKind.i64.wrap g = g := IntWalk.i64_in _ (by omega)
  have hwN : IntKind.u64.wrap N = N := IntWalk.u64_in _ (by omega)
  unfold maxLen at hm
  go_enter Tryd.func19, Tryd.ntmps19
  go_wp2
  rw [HW0.out]
  go_region_held3 (fun W => W.cell? ⟨w.heap.size, 0, none⟩ = some (.int .u8 g) ∧ W.cell? ⟨w.heap.size, 1, none⟩ = some (.int .u32 N)) ((first | (exact ⟨(cell_of_row _ _ 0 _ _ _ R2.out).trans rfl, (cell_of_row _ _ 1 _ _ _ R2.out).trans rfl⟩) | (exact ⟨(cell_of_row _ _ 0 _ _ _ R0.out).trans rfl, (cell_of_row _ _ 1 _ _ _ R0.out).trans rfl⟩) | (simp; done) | go_keep)) (first
      | (go_at_call 36; refine (KI.out _).mono ?_; rintro e1 w1 ⟨rfl, rfl⟩)
      | (go_at_call 37; refine (KF.out _).mono ?_; rintro e1 w1 ⟨rfl, rfl⟩)
      | (go_at_call 35; refine (KW.out W0.drew HB.out HS1.out).mono ?_; rintro e1 w1 ⟨rfl, hbu, b1⟩
         have Q9 := Lib.hid (shAt0 B0.out R0.out S0.out h5.out hbu b1)
         have R2 := Lib.hid Q9.out.rv
         clear hbu b1))
  have HQ := Q9
  clear q1 q2 q3 q4 KW KI KF R0 B0 S0 HB HW0 HS1 h5 hwg hwN Q9 W0
  have e2 : w1.cell? ⟨w.heap.size, 2, none⟩ = some (.slice A V.length c) := (cell_of_row _ _ 2 _ _ _ R2.out).trans rfl
  go_wp2
  clear e2 R2
  go_loopw [22] (fun i wx => ∃ k : Nat, k ≤ V.length ∧ i = .int .i64 k ∧ Hid (ShAt w wx g N A V c k)) (fun i _ => V.length - (intOf i).toNat)
  case atStart => exact ⟨0, by omega, rfl, HQ⟩
  case round =>
    clear HQ
    obtain ⟨k, hk, rfl, I⟩ := hrel
    by_cases hlt : k < V.length
    · obtain ⟨b, o, rfl, hb, C⟩ := hr.at_ hlt
      obtain ⟨c0, c1⟩ := C.below I.out.bel hb
      have HX := Lib.hid (show V[k]? = some V[k] from List.getElem?_eq_getElem hlt)
      have hxr := hV V[k] (List.getElem_mem hlt)
      have hln := shL_len g N V k HG.out HN.out hV
      generalize V[k] = x at *
      clear hr C
      have hji : (k : Int) < (V.length : Int) := by omega
      have hj0 : (0 : Int) ≤ (k : Int) := by omega
      have hci : (V.length : Int) ≤ (c : Int) := by omega
      have ht1 := txt_small x.n hxr.1.1 hxr.1.2
      have ht2 := txt_small x.l hxr.2.1 hxr.2.2
      have KI := Lib.hid (fun W => itoaS x.n W hxr.1.1 hxr.1.2)
      have KJ := Lib.hid (fun W => itoaS x.l W hxr.2.1 hxr.2.2)
      obtain ⟨s1, h1, q1⟩ := catS ⟨#[32]⟩ (txt x.n) (by show 1 ≤ 1000; omega) (by omega)
      obtain ⟨s2, h2, q2⟩ := catS s1 ⟨#[46]⟩ (by rw [h1.out, ByteArray.size_append]; show 1 + _ ≤ 1000; omega) (by show 1 ≤ 1000; omega)
      obtain ⟨s3, h3, q3⟩ := catS s2 (txt x.l) (by rw [h2.out, h1.out, ByteArray.size_append, ByteArray.size_append]; show 1 + _ + 1 ≤ 1000; omega) (by omega)
      have h5 : Hid (s3 = shP x) := Lib.hid (by rw [h3.out, h2.out, h1.out]; rfl)
      have hsz := shP_size x hxr
      have KW := Lib.hid (fun wx (ha : Below wr.heap.size wr wx) => sbWrite (w.heap.size + 1) (w.heap.size + 1) (Lib.byteCells (shL g N V k)) s3 wx (.inr (isB_below I.out.bu ha)) (by rw [Lib.byteCells_length, h5.out]; omega) (Nat.le_trans (Nat.le_of_succ_le I.out.sz) ha.size))
      have HK := Lib.hid (fun (wx w1 : World) ha => @shAtS w wr wx w1 g N (some ⟨b, o, none⟩) V c k s3 x HX.out I.out ha h5.out)
      have hw1 : IntKind.i64.wrap x.n = x.n := IntWalk.i64_in _ (by omega)
      have hw2 : IntKind.i64.wrap x.l = x.l := IntWalk.i64_in _ (by omega)
      clear h1 h2 h3 ht1 ht2 h5 hxr hsz hln hV
      generalize txt x.n = tn at *
      generalize txt x.l = tl at *
      go_wp2
      clear c0 c1
      have f0 : (wr.alloc (.cells #[.int .u8 x.n, .int .u16 x.l] 48)).cell? ⟨wr.heap.size, 0, none⟩ = some (.int .u8 x.n) := by simp
      have f1 : (wr.alloc (.cells #[.int .u8 x.n, .int .u16 x.l] 48)).cell? ⟨wr.heap.size, 1, none⟩ = some (.int .u16 x.l) := by simp
      have ha := Lib.hid ((Below.refl wr.heap.size wr).alloc (Nat.le_refl _) (.cells #[.int .u8 x.n, .int .u16 x.l] 48))
      generalize wr.alloc (.cells #[.int .u8 x.n, .int .u16 x.l] 48) = W at *
      have k0 := cell_regrown f0
      have k1 := cell_regrown f1
      clear f0 f1
      refine region_first_below 11 (by kernel_rfl) (by kernel_rfl) ?_
      simp only [List.take_succ_cons, List.take_zero, List.drop_succ_cons, List.drop_zero]
      repeat (go_big_quiet_step (first | (go_at_call 36; first | (with_reducible exact Calls.regrown_of ((KI.out _).mono fun _ _ ⟨he, hw⟩ => ⟨he, hw ▸ Below.refl _ _⟩)) | (with_reducible exact Calls.regrown_of ((KJ.out _).mono fun _ _ ⟨he, hw⟩ => ⟨he, hw ▸ Below.refl _ _⟩)))))
      refine wpQuiet_nil ?_
      rintro W1 ⟨p9, rfl⟩
      have hb9 := Lib.hid (ha.out.trans ((below_regrown W p9.d p9.os).mono ha.out.size))
      clear k0 k1
      generalize Go.Sort.grow (redrawn W p9.d) p9.os = W2 at *
      go_wp2_with (go_at_call 35; refine (KW.out W2 hb9.out).mono ?_; rintro e1 w1 ⟨rfl, hbu, b1⟩
                   have Q9 := Lib.hid (HK.out W2 w1 hb9.out hbu b1)
                   clear hbu b1)
      go_roundw
      case rel => exact ⟨k + 1, by omega, by go_num, Q9⟩
      case measure => simp [intOf]; omega
    · have hkk : k = V.length := by omega
      subst hkk
      have KS := Lib.hid (Tryd.Builder_String (w.heap.size + 1) (w.heap.size + 1) (shL g N V V.length) wr (.inr I.out.bu) (shL_ne _ _ _ _))
      go_wp2_with (go_at_call 38; refine KS.out.mono ?_; rintro e1 w1 ⟨rfl, b1⟩
                   have B9 := Lib.hid (I.out.bel.trans (b1.mono (by omega)))
                   clear b1)
      go_ret
      exact ⟨rfl, B9.out⟩

end Go.Proofs.YtgmjhloednmfnaaDoor
