/-
  Rows of acts as arguments; the document's acceptor; ballots: by exact answers. Condition: numbers fit their kinds.
-/
import Derived.Test.YtmhgopaekpnhoaaGar
import Derived.Test.YtmhgopaekpnhoaaGla
import Derived.Test.YtmhgopaekpnhoaaGac
import Derived.Deep.MidRow
import Derived.Laws.Bits64b
namespace Go.Proofs.Ytmhgopaekpnhoaa
set_option linter.unusedSimpArgs false
set_option linter.unusedVariables false
open Go.RowKit Go.Maps Go.Sort Go.ChangeShapes Go.WideShapes Go.Joins Go.Deep
open V (P2)

section
variable {H : Type} {enc : TypeId × Value → H} {w : World} {base : Nat} {spare : Nat → Bool} {held : Bool}
set_option maxRecDepth 100000 in
theorem open_actsG {fuel : Nat} {cs : List Value} {y : DataW H × List MemPlace} (h : DataW.trod enc Try.prog w base spare held fuel 22 cs = some y) (hw : ∀ n ∈ y.1.weights Try.prog 22, n ≤ 140737488355328) :
    ∃ (A : Option Addr) (X : List Ax) (c : Nat), cs = [.slice A X.length c] ∧ X.length ≤ c ∧ c ≤ maxLen ∧ RowsA w w.heap.size A X := by
  rcases open_slice Try.underlying22 h with ⟨rfl, h2⟩ | ⟨a, len, cap, m, n', D, Pl, rfl, hb, hl, hm, hmm, hx, hi⟩
  · exact ⟨none, [], 0, rfl, Nat.le_refl _, by unfold maxLen; omega, fun e => absurd rfl e⟩
  · have hC : Try.prog.cellsOf 40 = 8 := by kernel_rfl
    have hu := Try.underlying22
    have hlm : len ≤ m := by rw [hmm]; split <;> omega
    have each : ∀ i, ∃ q : Ax, i < len → q.In w w.heap.size ∧ ∀ j u, q.cs[j]? = some u → w.cell? ((a.add (i * 8)).add j) = some u := by
      intro i
      by_cases hin : i < len
      · obtain ⟨cs', hc, ht⟩ := hi i (by omega)
        rw [hC] at hc
        obtain ⟨q, hq, hat'⟩ := open_actG ht (fun n hn => hw n (by
          rw [hx]
          simp only [DataW.weights, hu, List.mem_cons, List.mem_append]
          exact .inr (.inl (weights_all (d := D i) (List.mem_map.2 ⟨i, List.mem_range.2 hin, rfl⟩) hn))))
        obtain ⟨_, hlen, hat⟩ := World.cells?_some hc
        refine ⟨q, fun _ => ⟨hat', fun j u hu => ?_⟩⟩
        have hj : j < 8 := (Array.getElem?_eq_some_iff.1 hu).1
        rw [hat j hj, hq, Array.getElem?_toList, hu]
      · exact ⟨⟨0, 0, ⟨0, 0⟩, none, [], 0, V0, false⟩, fun h => absurd h hin⟩
    obtain ⟨f, hf'⟩ := Classical.axiomOfChoice each
    have hlen : ((List.range len).map f).length = len := by simp
    have hget : ∀ i x, ((List.range len).map f)[i]? = some x → i < len ∧ x = f i := by
      intro i x hx
      have hi' : i < len := by
        have := (List.getElem?_eq_some_iff.1 hx).1
        simpa using this
      refine ⟨hi', ?_⟩
      simp [hi'] at hx
      exact hx.symm
    refine ⟨some a, (List.range len).map f, cap, by rw [hlen], by rw [hlen]; exact hl, hm, ?_⟩
    intro hne
    have hn : 0 < len := by
      rcases Nat.eq_zero_or_pos len with h | h
      · subst h; exact absurd rfl hne
      · exact h
    have h00 := (hf' 0 hn).2 0 _ rfl
    simp [Addr.add] at h00
    obtain ⟨b, o, rfl, hbl⟩ := cell_plain h00
    refine ⟨b, o, rfl, hbl, fun i x hx => ?_⟩
    obtain ⟨hi', rfl⟩ := hget i x hx
    refine ⟨fun j u hu => ?_, (hf' i hi').1⟩
    have hc := (hf' i hi').2 j u hu
    rwa [add_plain5, add_plain5] at hc
set_option maxRecDepth 100000 in
/-- a row of acts, as an argument. -/
theorem arg_actsG {r : Reach} {b0 : Nat} {v : Value} {d : DataW H} {p : List MemPlace} (hv : Value.okWide Try.prog w r b0 22 v) (h : DataW.Trod enc Try.prog w base spare held 22 v d p) (hw : ∀ n ∈ d.weights Try.prog 22, n ≤ 140737488355328) :
    ∃ (A : Option Addr) (X : List Ax) (c : Nat), v = .slice A X.length c ∧ X.length ≤ c ∧ c ≤ maxLen ∧ RowsA w w.heap.size A X := by
  obtain ⟨A, n, c, rfl⟩ := okWide_slice Try.underlying22 hv
  obtain ⟨fuel, hf⟩ := h
  obtain ⟨A', X, c', e, h1⟩ := open_actsG hf hw
  simp [Value.cells] at e
  obtain ⟨rfl, rfl, rfl⟩ := e
  exact ⟨A, X, c, rfl, h1⟩
set_option maxRecDepth 100000 in
theorem arg_intG {r : Reach} {b0 : Nat} {v : Value} {d : DataW H} {p : List MemPlace} {t : TypeId} {q : IntKind} (ht : Try.prog.underlying t = some (.int q)) (hv : Value.okWide Try.prog w r b0 t v) (h : DataW.Trod enc Try.prog w base spare held t v d p) :
    ∃ n : Int, v = .int q n ∧ (Lit.int q n).wf = true := by
  obtain ⟨m, rfl⟩ := okWide_int ht hv
  obtain ⟨fuel, hf⟩ := h
  obtain ⟨n, e, _, w0⟩ := DataW.trod_int ht hf
  have e' : [Value.int q m] = [Value.int q n] := e
  simp only [List.cons.injEq, Value.int.injEq, true_and, and_true] at e'
  subst e'
  exact ⟨m, rfl, w0⟩
end

/-- the document's acceptor: block b; its value: x. -/
structure DA (W : World) (B b : Nat) (d : Ad) (x : Vl) : Prop where
  blk : W.heap[b]? = some (.cells #[.int .u64 d.pr, .int .u64 d.bal, x.m, x.t, .bool d.has] 35 (0, 0))
  at_ : x.At W B
  vd : x.d = d.vd
theorem DA.below {W W' : World} {B b C : Nat} {d : Ad} {x : Vl} (h : DA W B b d x) (hb : Below C W W') (hB : B ≤ C) (hbC : b < C) : DA W' B b d x :=
  ⟨(hb.block b hbC).trans h.blk, h.at_.below hb hB (Nat.le_refl _), h.vd⟩
theorem may1 {d : Ad} (h : d.made = true) (n : Int) : d.may n = (decide (n ≠ 0) && decide (d.pr ≤ n)) := by simp [Ad.may, h]
set_option maxRecDepth 100000 in
set_option maxHeartbeats 2000000 in
theorem rprep (W : World) (B b : Nat) (d : Ad) (x : Vl) (h : DA W B b d x) (hB : B ≤ b) (hm : d.made = true) (n : Int) : Calls Try.prog 12 #[.pointer (some ⟨b, 0, none⟩), .int .u64 n] W fun e W' => e = .returned (.bool (d.may n)) ∧ DA W' B b (d.prep n) x ∧ KP (fun j => j = b) W W' := by
  have c0 := cell_of h.blk 0 (.int .u64 d.pr) rfl
  have f0 := frz_row 0 h.blk
  have hend : d.may n = true → DA (W.setCell ⟨b, 0, none⟩ (.int .u64 n)) B b (d.prep n) x ∧ KP (fun j => j = b) W (W.setCell ⟨b, 0, none⟩ (.int .u64 n)) := fun hm => by
    have kp := KP.set (S := fun j => j = b) W b 0 (.int .u64 n) rfl
    rw [Ad.prep_yes hm]
    exact ⟨⟨row_set h.blk _, h.at_.below (kp.below (base := b) (Nat.le_of_lt (heap_lt h.blk)) fun j hj => Nat.le_of_eq hj.symm) hB (Nat.le_refl _), h.vd⟩, kp⟩
  have HEND := Lib.hid hend
  have HNO : Hid (d.may n = false → DA W B b (d.prep n) x) := Lib.hid fun hm => by rw [Ad.prep_no hm]; exact h
  have HM := Lib.hid (may1 hm n)
  clear h hend hm
  by_cases h0 : n = 0
  · have HF : Hid (d.may n = false) := Lib.hid (by rw [HM.out, h0]; simp)
    subst h0
    go_enter Try.func12, Try.ntmps12
    go_wp2
    go_ret
    exact ⟨ret_bool HF.out.symm, HNO.out HF.out, KP.refl _ _⟩
  · have h0b : (n == 0) = false := by simpa using h0
    by_cases hp : d.pr ≤ n
    · have HF : Hid (d.may n = true) := Lib.hid (by rw [HM.out]; simp [h0, hp])
      have hpi : ¬ n < d.pr := by omega
      clear h0
      go_enter Try.func12, Try.ntmps12
      go_wp2
      go_ret
      exact ⟨ret_bool HF.out.symm, HEND.out HF.out⟩
    · have HF : Hid (d.may n = false) := Lib.hid (by rw [HM.out]; simp [h0, hp])
      have hpi : n < d.pr := by omega
      clear h0
      go_enter Try.func12, Try.ntmps12
      go_wp2
      go_ret
      exact ⟨ret_bool HF.out.symm, HNO.out HF.out, KP.refl _ _⟩
/-- which value is held behind it. -/
def Ad.sel (d : Ad) (n : Int) (x y : Vl) : Vl := if d.may n = true then y else x
theorem Ad.sel_no {d : Ad} {n : Int} {x y : Vl} (h : d.may n = false) : d.sel n x y = x := by simp [Ad.sel, h]
theorem Ad.sel_yes {d : Ad} {n : Int} {x y : Vl} (h : d.may n = true) : d.sel n x y = y := by simp [Ad.sel, h]
theorem Ad.acc_made {d : Ad} (h : d.made = true) (n : Int) (y : VD) : (d.acc n y).made = true := by unfold Ad.acc; split <;> exact h
theorem Ad.prep_made {d : Ad} (h : d.made = true) (n : Int) : (d.prep n).made = true := by unfold Ad.prep; split <;> exact h
set_option maxRecDepth 100000 in
set_option maxHeartbeats 2000000 in
theorem racc (W : World) (B b : Nat) (d : Ad) (x : Vl) (h : DA W B b d x) (hB : B ≤ b) (hm : d.made = true) (n : Int) (y : Vl) (hy : y.At W B) : Calls Try.prog 15 #[.pointer (some ⟨b, 0, none⟩), .int .u64 n, .agg y.cs] W fun e W' => e = .returned (.bool (d.may n)) ∧ DA W' B b (d.acc n y.d) (d.sel n x y) ∧ KP (fun j => j = b) W W' := by
  obtain ⟨k, hk⟩ : ∃ k, W.heap.size = k := ⟨_, rfl⟩
  have hkb : b < k := by rw [← hk]; exact heap_lt h.blk
  obtain ⟨w1, hw1⟩ : ∃ z, W.alloc (.cells y.cs 33) = z := ⟨_, rfl⟩
  have b1 : Below W.heap.size W w1 := by rw [← hw1]; exact (Below.refl _ _).alloc (Nat.le_refl _) _
  have r1 : w1.heap[k]? = some (.cells y.cs 33 (0, 0)) := by rw [← hw1, ← hk]; exact heap_alloc_new _ _
  have h1 := h.below b1 (by omega) (by omega)
  have HY := Lib.hid (hy.below b1 (by omega) (Nat.le_refl _))
  have KPp := Lib.hid (rprep w1 B b d x h1 hB hm n)
  have HKP : Hid (KP (fun j => j = b) W w1) := Lib.hid (KP.of_below b1)
  have R1 := Lib.hid r1
  have HW1 := Lib.hid hw1
  have HK := Lib.hid hk
  have HBB := Lib.hid hB
  obtain ⟨ym, Y, yt, L⟩ := y
  obtain ⟨A1, c1, e1, -, -, -⟩ := hy.m
  obtain ⟨A2, c2, e2, -, -, -⟩ := hy.t
  dsimp only at e1 e2
  subst e1 e2
  dsimp only [Vl.cs] at R1 HW1 ⊢
  obtain ⟨mb, hmb⟩ : ∃ z, d.may n = z := ⟨_, rfl⟩
  rw [hmb] at KPp
  have HMB := Lib.hid hmb
  obtain ⟨ny, hny⟩ : ∃ z, Y.length = z := ⟨_, rfl⟩
  obtain ⟨nl, hnl⟩ : ∃ z, L.length = z := ⟨_, rfl⟩
  rw [hny, hnl] at R1 HW1
  simp only [hny, hnl]
  have HNY := Lib.hid hny
  have HNL := Lib.hid hnl
  clear h hy b1 r1 hw1 hk hmb h1 hm hny hnl
  cases mb with
  | false =>
    go_enter Try.func15, Try.ntmps15
    go_wp2_with (first
      | (rw [HW1.out, HK.out])
      | (go_at_call 12; refine KPp.out.mono ?_; rintro e u ⟨rfl, ha, hk2⟩
         have HA2 := Lib.hid ha
         have HK2 := Lib.hid (HKP.out.trans hk2 fun _ _ h => h)
         clear ha hk2))
    go_ret
    exact ⟨ret_bool HMB.out.symm, by rw [Ad.acc_no HMB.out, Ad.sel_no HMB.out, ← Ad.prep_no HMB.out]; exact HA2.out, HK2.out⟩
  | true =>
    go_enter Try.func15, Try.ntmps15
    go_wp2_with (first
      | (rw [HW1.out, HK.out])
      | (go_at_call 12; refine KPp.out.mono ?_; rintro e u ⟨rfl, ha, hk2⟩
         have r2 := (hk2.block k (heap_lt R1.out) (by omega)).trans R1.out
         have v0 := cell_of r2 0 (.slice A1 ny c1) rfl
         have v1 := cell_of r2 1 (.slice A2 nl c2) rfl
         have q1 := cell_of ha.blk 1 (.int .u64 d.bal) (by rw [Ad.prep_yes HMB.out]; rfl)
         have f1 := frz_row 1 ha.blk
         obtain ⟨u2, hu2⟩ : ∃ z, u.setCell ⟨b, 1, none⟩ (.int .u64 n) = z := ⟨_, rfl⟩
         have hb2 := row_set (i := 1) ha.blk (.int .u64 n)
         rw [hu2] at hb2
         have r22 : u2.heap[k]? = some (.cells #[.slice A1 ny c1, .slice A2 nl c2] 33 (0, 0)) := by rw [← hu2]; exact other_set r2 (by omega) _
         have w0 := cell_of r22 0 (.slice A1 ny c1) rfl
         have w1' := cell_of r22 1 (.slice A2 nl c2) rfl
         have th : Hid (u2.there b 2 2) := Lib.hid (there_row hb2 (by show 2 + 2 ≤ 5; omega))
         obtain ⟨u3, hu3⟩ : ∃ z, u2.setCells b 2 [.slice A1 ny c1, .slice A2 nl c2] = z := ⟨_, rfl⟩
         have hb3 := row_set (i := 2 + 1) (row_set (i := 2) hb2 (.slice A1 ny c1)) (.slice A2 nl c2)
         have eu3 : (u2.setCell ⟨b, 2, none⟩ (.slice A1 ny c1)).setCell ⟨b, 2 + 1, none⟩ (.slice A2 nl c2) = u3 := hu3
         rw [eu3] at hb3
         have q4 := cell_of hb3 4 (.bool d.has) (by rw [Ad.prep_yes HMB.out]; rfl)
         have f4 := frz_row 4 hb3
         obtain ⟨u4, hu4⟩ : ∃ z, u3.setCell ⟨b, 4, none⟩ (.bool true) = z := ⟨_, rfl⟩
         have hb4 := row_set (i := 4) hb3 (.bool true)
         rw [hu4] at hb4
         have kp2 : KP (fun j => j = b) u u2 := by rw [← hu2]; exact KP.set (S := fun j => j = b) u b 1 _ rfl
         have kp3 : KP (fun j => j = b) u2 u3 := by rw [← hu3]; exact KP.setCells (S := fun j => j = b) rfl _ _ _
         have kp4 : KP (fun j => j = b) u3 u4 := by rw [← hu4]; exact KP.set (S := fun j => j = b) u3 b 4 _ rfl
         have kp : KP (fun j => j = b) w1 u4 := ((hk2.trans kp2 fun _ _ h => h).trans kp3 fun _ _ h => h).trans kp4 fun _ _ h => h
         have HKU := Lib.hid (HKP.out.trans kp fun _ _ h => h)
         have HDA : Hid (DA u4 B b (d.acc n (Vl.d ⟨.slice A1 ny c1, Y, .slice A2 nl c2, L⟩)) (d.sel n x ⟨.slice A1 ny c1, Y, .slice A2 nl c2, L⟩)) := Lib.hid (by
           rw [Ad.prep_yes HMB.out] at hb4
           rw [Ad.acc_yes HMB.out, Ad.sel_yes HMB.out]
           refine ⟨hb4, ?_, rfl⟩
           have := HY.out.below (kp.below (base := b) (by have := heap_lt R1.out; omega) fun j hj => Nat.le_of_eq hj.symm) HBB.out (Nat.le_refl _)
           rw [HNY.out, HNL.out] at this
           exact this)
         have HU2 := Lib.hid hu2
         have HU3 := Lib.hid hu3
         have HU4 := Lib.hid hu4
         clear ha hk2 r2 hu2 hb2 r22 hu3 eu3 hb3 hu4 hb4 kp2 kp3 kp4 kp)
      | (rw [HU2.out])
      | (have thx := th.out
         refine wpList_store_mid rfl 33 (.tmp 18) (.tmp 16) rfl b 2 #[.slice A1 ny c1, .slice A2 nl c2] (by rfl) (by rfl) thx (by kernel_rfl) (by simp [Value.oneCell']) ?_
         rw [HU3.out])
      | (rw [HU4.out])
      | fail)
    go_ret
    exact ⟨ret_bool HMB.out.symm, HDA.out, HKU.out⟩
theorem bits_or256 (a b : Nat) (ha : a ≤ 4294967295) (hb : b ≤ 255) : bits .or .u64 ((a : Int) * 256) (b : Int) = (a : Int) * 256 + (b : Int) := by
  have h := Nat.shiftLeft_add_eq_or_of_lt (a := a) (b := b) (i := 8) (by omega)
  have e1 : (a : Int) * 256 = ((a * 256 : Nat) : Int) := by omega
  rw [e1]
  have h0 : a <<< 8 = a * 256 := by rw [Nat.shiftLeft_eq]
  rw [h0] at h
  rw [bits_or_u64_nat (a * 256) b (by omega) (by omega), ← h]
  omega
set_option maxRecDepth 100000 in
set_option maxHeartbeats 2000000 in
theorem rballot (r n : Int) (hr : 0 ≤ r ∧ r ≤ 4294967295) (hn : 0 ≤ n ∧ n ≤ 255) (W : World) : Calls Try.prog 21 #[.int .u32 r, .int .u8 n] W fun e W' => e = .returned (.int .u64 (r * 256 + n)) ∧ W = W' := by
  have h1 : IntKind.u64.wrap r = r := by
    unfold IntKind.wrap
    simp [IntKind.signed, IntKind.bits]
    omega
  have h2 : IntKind.u64.wrap n = n := by
    unfold IntKind.wrap
    simp [IntKind.signed, IntKind.bits]
    omega
  have h3 : IntKind.u64.wrap (r * 256) = r * 256 := by
    unfold IntKind.wrap
    simp [IntKind.signed, IntKind.bits]
    omega
  have h4 : IntKind.u64.wrap (r * 256 + n) = r * 256 + n := by
    unfold IntKind.wrap
    simp [IntKind.signed, IntKind.bits]
    omega
  go_enter Try.func21, Try.ntmps21
  go_wp2
  go_ret
  exact ⟨rfl, rfl⟩
theorem ballotC (r n : Int) (hr : 0 ≤ r ∧ r ≤ 4294967295) (hn : 0 ≤ n ∧ n ≤ 255) (W : World) : Calls Try.prog 20 #[.int .u32 r, .int .u8 n] W fun e W' => e = .returned (.int .u64 (r * 256 + n)) ∧ W = W' := by
  have h1 : IntKind.u64.wrap r = r := by
    unfold IntKind.wrap
    simp [IntKind.signed, IntKind.bits]
    omega
  have h2 : IntKind.u64.wrap n = n := by
    unfold IntKind.wrap
    simp [IntKind.signed, IntKind.bits]
    omega
  have h3 : bits .or .u64 (r * 256) n = r * 256 + n := by
    obtain ⟨a, rfl⟩ : ∃ a : Nat, r = (a : Int) := ⟨r.toNat, by omega⟩
    obtain ⟨b, rfl⟩ : ∃ b : Nat, n = (b : Int) := ⟨n.toNat, by omega⟩
    exact bits_or256 a b (by omega) (by omega)
  go_enter Try.func20, Try.ntmps20
  go_wp2
  go_ret
  exact ⟨rfl, rfl⟩
theorem roundC (r n : Int) (hr : 0 ≤ r ∧ r ≤ 4294967295) (hn : 0 ≤ n ∧ n ≤ 255) (W : World) : Calls Try.prog 22 #[.int .u64 (r * 256 + n)] W fun e W' => e = .returned (.int .u32 r) ∧ W = W' := by
  have hdv : (r * 256 + n) / 256 = r := by omega
  go_enter Try.func22, Try.ntmps22
  go_wp2
  go_ret
  exact ⟨rfl, rfl⟩

end Go.Proofs.Ytmhgopaekpnhoaa
