/-
  Acts on a table of calls, and lists of these, as arguments; light. No condition.
-/
import Derived.Test.YtldbmmganicliaaAda
import Derived.Test.YtldbmmganicliaaHlp
import Derived.Deep.Slices
import Derived.Deep.Fields
import Derived.Lib.SmallJoins
import Derived.OpenShut
import Derived.Deep.Strs
namespace Go.Proofs.Ytldbmmganicliaa
set_option linter.unusedSimpArgs false
set_option linter.unusedVariables false
open Go.RowKit Go.ChangeShapes Go.WideShapes Go.Joins Go.Deep

/-- an act. -/
structure Ac where
  kd : Int
  x : I10
  code : Int
  val : ByteArray
  n : Int
def Ac.cs (a : Ac) : List Value := [.int .i64 a.kd, .int .u8 a.x.n, .int .u16 a.x.l, .int .u32 a.x.s, .int .u8 a.x.d, .int .u8 a.x.a0, .int .u8 a.x.a1, .int .u8 a.x.b0, .int .u8 a.x.b1, .int .u8 a.x.c0, .int .u8 a.x.c1, .int .u8 a.code, .string a.val, .int .u32 a.n]
def Ac.ok (a : Ac) : Prop := (-9223372036854775808 ≤ a.kd ∧ a.kd ≤ 9223372036854775807) ∧ a.x.Rng ∧ (0 ≤ a.code ∧ a.code ≤ 255) ∧ a.val.size ≤ maxLen ∧ (0 ≤ a.n ∧ a.n ≤ 4294967295)
theorem cell_plainA {W : World} {a : Addr} {u : Value} (h : W.cell? a = some u) : ∃ b o, a = ⟨b, o, none⟩ ∧ b < W.heap.size := by
  have hl := World.block_lt_of_cell? W a h
  obtain ⟨b, o, s⟩ := a
  cases s with
  | none => exact ⟨b, o, rfl, hl⟩
  | some s =>
    exfalso
    simp only [World.cell?] at h
    split at h <;> simp at h
section
variable {H : Type} {enc : TypeId × Value → H} {w : World} {base : Nat} {spare : Nat → Bool} {held : Bool}
set_option maxRecDepth 100000 in
theorem open_resA {fuel : Nat} {cs : List Value} {x : DataW H × List MemPlace} (h : DataW.trod enc Try.prog w base spare held fuel 45 cs = some x) :
    ∃ (c : Int) (v : ByteArray), cs = [.int .u8 c, .string v] ∧ (0 ≤ c ∧ c ≤ 255) ∧ v.size ≤ maxLen := by
  obtain ⟨y0, y1, n, _, hl, h0, h1⟩ := trod_struct2 Try.underlying45 h
  have hC : Try.prog.cellsOf 45 = 2 := by kernel_rfl
  have k0 : Try.prog.cellsOf 5 = 1 := by kernel_rfl
  have k1 : Try.prog.cellsOf 9 = 1 := by kernel_rfl
  match cs, hl.trans hC with
  | [x0, x1], _ =>
      simp only [k0, k1, List.drop_zero, List.take_succ_cons, List.take_zero, List.drop_succ_cons] at h0 h1
      obtain ⟨g, e0, _, w0⟩ := DataW.trod_int Try.underlying5 h0
      obtain ⟨v, e1, _, w1⟩ := DataW.trod_string Try.underlying9 h1
      simp only [List.cons.injEq, and_true] at e0 e1
      subst e0 e1
      exact ⟨g, v, rfl, bounds_u8 w0, w1⟩
set_option maxRecDepth 100000 in
theorem open_act {fuel : Nat} {cs : List Value} {x : DataW H × List MemPlace} (h : DataW.trod enc Try.prog w base spare held fuel 47 cs = some x) :
    ∃ a : Ac, cs = a.cs ∧ a.ok := by
  obtain ⟨y0, y1, y2, y3, n, _, hl, h0, h1, h2, h3⟩ := trod_struct4 Try.underlying47 h
  have hC : Try.prog.cellsOf 47 = 14 := by kernel_rfl
  have k0 : Try.prog.cellsOf 3 = 1 := by kernel_rfl
  have k1 : Try.prog.cellsOf 43 = 10 := by kernel_rfl
  have k2 : Try.prog.cellsOf 45 = 2 := by kernel_rfl
  have k3 : Try.prog.cellsOf 32 = 1 := by kernel_rfl
  match cs, hl.trans hC with
  | [x0, x1, x2, x3, x4, x5, x6, x7, x8, x9, x10, x11, x12, x13], _ =>
      simp only [k0, k1, k2, k3, List.drop_zero, List.take_succ_cons, List.take_zero, List.drop_succ_cons] at h0 h1 h2 h3
      obtain ⟨kd, e0, _, w0⟩ := DataW.trod_int Try.underlying3 h0
      obtain ⟨n', l, s, d, a0, a1, b0, b1, c0, c1, e1, r0, r1, r2, r3, r4, r5, r6, r7, r8, r9⟩ := open_cells h1
      obtain ⟨c, v, e2, r10, r11⟩ := open_resA h2
      obtain ⟨m, e3, _, w3⟩ := DataW.trod_int Try.underlying32 h3
      simp only [List.cons.injEq, and_true] at e0 e1 e2 e3
      obtain ⟨rfl, rfl, rfl, rfl, rfl, rfl, rfl, rfl, rfl, rfl⟩ := e1
      obtain ⟨rfl, rfl⟩ := e2
      subst e0 e3
      exact ⟨⟨kd, ⟨n', l, s, d, a0, a1, b0, b1, c0, c1⟩, c, v, m⟩, rfl, bounds_i64 w0, ⟨r0, r1, r2, r3, r4, r5, r6, r7, r8, r9⟩, r10, r11, bounds_u32 w3⟩
set_option maxRecDepth 100000 in
/-- an act as an argument. -/
theorem arg_act {r : Reach} {b0 : Nat} {v : Value} {d : DataW H} {p : List MemPlace} (hv : Value.okWide Try.prog w r b0 47 v) (h : DataW.Trod enc Try.prog w base spare held 47 v d p) : ∃ a : Ac, v = .agg a.cs.toArray ∧ a.ok := by
  obtain ⟨cs, rfl, _⟩ := okWide_struct Try.underlying47 hv
  obtain ⟨fuel, hf⟩ := h
  obtain ⟨x, e, hx⟩ := open_act hf
  refine ⟨x, ?_, hx⟩
  have e' : cs.toList = x.cs := e
  rw [← e']
/-- such a list in memory. -/
def arg_actsR (W : World) (A : Option Addr) (L : List Ac) : Prop :=
  ∀ i a, L[i]? = some a → (∃ b o, A = some ⟨b, o, none⟩ ∧ b < W.heap.size ∧ ∀ j u, (a.cs)[j]? = some u → W.cell? ⟨b, o + i * 14 + j, none⟩ = some u) ∧ a.ok
theorem arg_actsR.below {W W' : World} {A : Option Addr} {L : List Ac} (h : arg_actsR W A L) (hb : Below W.heap.size W W') : arg_actsR W' A L := fun i a ha => by
  obtain ⟨⟨b, o, e, hl, hc⟩, h2⟩ := h i a ha
  exact ⟨⟨b, o, e, Nat.lt_of_lt_of_le hl hb.size, fun j u hu => (hb.cell (p := ⟨b, _, none⟩) hl).trans (hc j u hu)⟩, h2⟩
set_option maxRecDepth 100000 in
/-- a list of acts as an argument. -/
theorem arg_acts {v : Value} {d : DataW H} {p : List MemPlace} {r : Reach} {b0 : Nat} (hv : Value.okWide Try.prog w r b0 22 v) (h : DataW.Trod enc Try.prog w base spare held 22 v d p) :
    ∃ (A : Option Addr) (L : List Ac) (c : Nat), v = .slice A L.length c ∧ L.length ≤ c ∧ c ≤ maxLen ∧ arg_actsR w A L := by
  obtain ⟨A, n, c, rfl⟩ := okWide_slice Try.underlying22 hv
  obtain ⟨fuel, hf⟩ := h
  rcases open_slice Try.underlying22 hf with ⟨h1, h2⟩ | ⟨a, len, cap, m, n', D, Pl, hcs, hb, hl, hm, hmm, hx, hi⟩
  · simp [Value.cells] at h1
    obtain ⟨rfl, rfl, rfl⟩ := h1
    exact ⟨none, [], 0, rfl, Nat.le_refl _, by unfold maxLen; omega, fun i a h => by simp at h⟩
  · simp [Value.cells] at hcs
    obtain ⟨rfl, rfl, rfl⟩ := hcs
    have hC : Try.prog.cellsOf 47 = 14 := by kernel_rfl
    have hlm : n ≤ m := by rw [hmm]; split <;> omega
    have each : ∀ i, ∃ q : Ac, i < n → q.ok ∧ ∀ j u, (q.cs)[j]? = some u → w.cell? ((a.add (i * 14)).add j) = some u := by
      intro i
      by_cases hin : i < n
      · obtain ⟨cs', hc, ht⟩ := hi i (by omega)
        rw [hC] at hc
        obtain ⟨q, hq, R⟩ := open_act ht
        obtain ⟨_, hlen, hat⟩ := World.cells?_some hc
        refine ⟨q, fun _ => ⟨R, fun j u hu => ?_⟩⟩
        have hj : j < 14 := by
          have := (List.getElem?_eq_some_iff.1 hu).1
          simpa [Ac.cs] using this
        rw [hat j hj, hq, hu]
      · exact ⟨⟨0, zer, 0, ByteArray.empty, 0⟩, fun h => absurd h hin⟩
    obtain ⟨f, hf'⟩ := Classical.axiomOfChoice each
    have hlen : ((List.range n).map f).length = n := by simp
    have hget : ∀ i x, ((List.range n).map f)[i]? = some x → i < n ∧ x = f i := by
      intro i x hx
      have hi' : i < n := by
        have := (List.getElem?_eq_some_iff.1 hx).1
        simpa using this
      refine ⟨hi', ?_⟩
      simp [hi'] at hx
      exact hx.symm
    refine ⟨some a, (List.range n).map f, c, by rw [hlen], by rw [hlen]; exact hl, hm, fun i x hx => ?_⟩
    obtain ⟨hi', rfl⟩ := hget i x hx
    refine ⟨?_, (hf' i hi').1⟩
    have hn : 0 < n := by omega
    have h00 := (hf' 0 hn).2 0 _ rfl
    simp [Addr.add] at h00
    obtain ⟨b, o, rfl, hbl⟩ := cell_plainA h00
    refine ⟨b, o, rfl, hbl, fun j u hu => ?_⟩
    have hc := (hf' i hi').2 j u hu
    rwa [addr_add, addr_add] at hc
end
/-- acts side by side in memory. -/
def RowsB (W : World) (b o : Nat) (L : List Ac) : Prop := b < W.heap.size ∧ ∀ i a, L[i]? = some a → (∀ j u, a.cs[j]? = some u → W.cell? ⟨b, o + i * 14 + j, none⟩ = some u) ∧ a.ok
theorem rowsB_of {W : World} {A : Option Addr} {L : List Ac} (h : arg_actsR W A L) : L = [] ∨ ∃ b o, A = some ⟨b, o, none⟩ ∧ RowsB W b o L := by
  cases L with
  | nil => exact .inl rfl
  | cons a L =>
    obtain ⟨⟨b, o, e, hl, _⟩, _⟩ := h 0 a rfl
    refine .inr ⟨b, o, e, hl, fun i c hc => ?_⟩
    obtain ⟨⟨b', o', e', _, hc'⟩, h2⟩ := h i c hc
    rw [e] at e'
    cases e'
    exact ⟨hc', h2⟩
theorem RowsB.below {W W' : World} {b o : Nat} {L : List Ac} (h : RowsB W b o L) (hb : Below W.heap.size W W') : RowsB W' b o L :=
  ⟨Nat.lt_of_lt_of_le h.1 hb.size, fun i a ha => ⟨fun j u hu => (hb.cell (p := ⟨b, _, none⟩) h.1).trans ((h.2 i a ha).1 j u hu), (h.2 i a ha).2⟩⟩
/-- the bytes that are spent. -/
def spent : List Ac → Nat
  | [] => 0
  | a :: L => min a.val.size 5000 + spent L
theorem spent_snoc (L : List Ac) (a : Ac) : spent (L ++ [a]) = spent L + min a.val.size 5000 := by
  induction L with
  | nil => simp [spent]
  | cons c L ih =>
    show min c.val.size 5000 + spent (L ++ [a]) = _
    rw [ih]
    simp only [spent]
    omega
theorem spent_le (L : List Ac) : spent L ≤ L.length * 5000 := by
  induction L with
  | nil => simp [spent]
  | cons c L ih =>
    simp only [spent, List.length_cons]
    omega
theorem spent_mem {L : List Ac} {a : Ac} (h : a ∈ L) : min a.val.size 5000 ≤ spent L := by
  induction L with
  | nil => cases h
  | cons c L ih =>
    simp only [spent]
    rcases List.mem_cons.1 h with rfl | h
    · omega
    · have := ih h
      omega
def lightB (L : List Ac) : Bool := decide (L.length ≤ 100) && decide (spent (L.take 200) ≤ 4000)
theorem lightB_each {L : List Ac} (h : lightB L = true) : L.length ≤ 100 ∧ ∀ a ∈ L, a.val.size ≤ 4000 := by
  unfold lightB at h
  simp only [Bool.and_eq_true, decide_eq_true_eq] at h
  refine ⟨h.1, fun a ha => ?_⟩
  rw [List.take_of_length_le (by omega)] at h
  have := spent_mem ha
  have := h.2
  omega

set_option maxRecDepth 100000 in
set_option maxHeartbeats 2000000 in
theorem lightIs0 (A : Option Addr) (c : Nat) (W : World) : Calls Try.prog 6 #[.slice A 0 c] W fun e W' => e = .returned (.bool true) ∧ W = W' := by
  go_enter Try.func6, Try.ntmps6
  go_wp2
  go_loop [3, 4] (fun z i => z = .int .i64 4000 ∧ i = .int .i64 0) (fun _ _ => 0)
  case atStart => exact ⟨rfl, rfl⟩
  case round =>
    obtain ⟨rfl, rfl⟩ := hrel
    go_wp2
    go_ret
    exact ⟨rfl, rfl⟩

set_option maxRecDepth 100000 in
set_option maxHeartbeats 2000000 in
theorem lightIs (b o c : Nat) (L : List Ac) (W : World) (h : RowsB W b o L) (hm : c ≤ maxLen) (hc : L.length ≤ c) : Calls Try.prog 6 #[.slice (some ⟨b, o, none⟩) L.length c] W fun e W' => e = .returned (.bool (lightB L)) ∧ W = W' := by
  have HR := Lib.hid h.2
  obtain ⟨n, hn⟩ : ∃ n, L.length = n := ⟨_, rfl⟩
  rw [hn]
  have HN := Lib.hid hn
  unfold maxLen at hm
  have hnm : n ≤ 9223372036854775807 := by omega
  clear h hn
  go_enter Try.func6, Try.ntmps6
  go_wp2
  go_loop [3, 4] (fun z i => ∃ k : Nat, k ≤ n ∧ k ≤ 200 ∧ i = .int .i64 k ∧ z = .int .i64 (4000 - (spent (L.take k) : Int))) (fun _ i => n - (intOf i).toNat)
  case atStart => exact ⟨0, by omega, by omega, rfl, rfl⟩
  case round =>
    obtain ⟨k, hk, hk2, rfl, rfl⟩ := hrel
    have hs := spent_le (L.take k)
    rw [List.length_take] at hs
    obtain ⟨s, hse⟩ : ∃ s, spent (L.take k) = s := ⟨_, rfl⟩
    rw [hse] at hs ⊢
    have hs2 : s ≤ 1000000 := by have := Nat.min_le_left k L.length; omega
    have HSE := Lib.hid hse
    clear hs hse
    by_cases hkn : k < n
    · by_cases hk200 : k < 200
      · obtain ⟨a, hx⟩ : ∃ a, L[k]? = some a := ⟨_, List.getElem?_eq_getElem (by rw [HN.out]; exact hkn)⟩
        obtain ⟨hcell, hok⟩ := HR.out k _ hx
        have hsn : spent (L.take (k + 1)) = s + min a.val.size 5000 := by
          rw [List.take_add_one, hx, ← HSE.out]
          exact spent_snoc _ _
        obtain ⟨q, hq⟩ : ∃ q, a.val.size = q := ⟨_, rfl⟩
        have c8 := hcell 12 (.string a.val) rfl
        have hqm : q ≤ 9223372036854775807 := by
          have h1 := hok.2.2.2.1
          unfold maxLen at h1
          omega
        rw [hq] at hsn
        have HSN := Lib.hid hsn
        have HKN := Lib.hid hkn
        have HK200 := Lib.hid hk200
        have h1 : (k : Int) < (n : Int) := by omega
        have h2 : (k : Int) < 200 := by omega
        have h3 : (0 : Int) ≤ (k : Int) := by omega
        clear hx hcell hok hsn
        by_cases hq6 : q ≤ 5000
        · have h4 : (q : Int) ≤ 5000 := by omega
          have HQ6 := Lib.hid hq6
          clear hq6
          go_wp2
          go_round
          case rel => exact ⟨k + 1, by have := HKN.out; omega, by have := HK200.out; omega, by go_num, by rw [HSN.out, Nat.min_eq_left HQ6.out]; congr 1; omega⟩
          case measure => have := HKN.out; simp [intOf]; omega
        · have h4 : ¬ (q : Int) ≤ 5000 := by omega
          have h5 : (5000 : Int) < (q : Int) := by omega
          have HQ6 : Hid (5000 ≤ q) := Lib.hid (by omega)
          clear hq6
          go_wp2
          go_round
          case rel => exact ⟨k + 1, by have := HKN.out; omega, by have := HK200.out; omega, by go_num, by rw [HSN.out, Nat.min_eq_right HQ6.out]; congr 1; omega⟩
          case measure => have := HKN.out; simp [intOf]; omega
      · obtain rfl : k = 200 := by omega
        have h1 : ¬ (n : Int) ≤ 100 := by omega
        have HKN := Lib.hid hkn
        go_wp2
        go_ret
        exact ⟨ret_bool (by unfold lightB; rw [HN.out]; have := HKN.out; simp; omega), rfl⟩
    · obtain rfl : n = k := by omega
      have hlb : lightB L = (decide (n ≤ 100) && decide (s ≤ 4000)) := by
        unfold lightB
        rw [HN.out, List.take_of_length_le (by rw [HN.out]; omega)]
        have h1 := HSE.out
        rw [List.take_of_length_le (by rw [HN.out]; omega)] at h1
        rw [h1]
      have HLB := Lib.hid hlb
      clear hlb
      by_cases h1 : n ≤ 100
      · have h1' : (n : Int) ≤ 100 := by omega
        by_cases h2 : s ≤ 4000
        · have h2' : (0 : Int) ≤ 4000 - (s : Int) := by omega
          have h2'' : (s : Int) ≤ 4000 := by omega
          have HB := Lib.hid (show lightB L = true by rw [HLB.out]; simp [h1, h2])
          clear h1 h2
          go_wp2
          go_ret
          exact ⟨ret_bool HB.out.symm, rfl⟩
        · have h2' : ¬ (0 : Int) ≤ 4000 - (s : Int) := by omega
          have h2'' : ¬ (s : Int) ≤ 4000 := by omega
          have HB := Lib.hid (show lightB L = false by rw [HLB.out]; simp [h2])
          clear h1 h2
          go_wp2
          go_ret
          exact ⟨ret_bool HB.out.symm, rfl⟩
      · have h1' : ¬ (n : Int) ≤ 100 := by omega
        have HB := Lib.hid (show lightB L = false by rw [HLB.out]; simp [h1])
        clear h1
        go_wp2
        go_ret
        exact ⟨ret_bool HB.out.symm, rfl⟩

end Go.Proofs.Ytldbmmganicliaa
