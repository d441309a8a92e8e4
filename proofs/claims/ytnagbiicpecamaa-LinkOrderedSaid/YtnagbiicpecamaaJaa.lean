/-
  Acts on a link, and lists of these, as arguments; a process. No condition.
-/
import Derived.Test.YtnagbiicpecamaaJar
namespace Go.Proofs.Ytnagbiicpecamaa
set_option linter.unusedSimpArgs false
set_option linter.unusedVariables false
open Go.RowKit Go.ChangeShapes Go.WideShapes Go.Joins Go.Deep

/-- an act. -/
structure Ac where
  kd : Int
  at_ : Int
  B : List UInt8
  BA : Option Addr
  bc : Nat
  p : Hp
  PA : Option Addr
  pc : Nat
def Ac.cs (a : Ac) : List Value := [.int .i64 a.kd, .int .i64 a.at_, .slice a.BA a.B.length a.bc, .int .u8 a.p.fn, .int .u16 a.p.fl, .int .u8 a.p.tn, .int .u16 a.p.tl, .int .u64 a.p.seq, .int .u64 a.p.ack, .bool a.p.has, .slice a.PA a.p.B.length a.pc]
def Ac.ok (a : Ac) : Prop := (-9223372036854775808 ≤ a.at_ ∧ a.at_ ≤ 9223372036854775807) ∧ a.p.ok
structure Ac.In (a : Ac) (W : World) : Prop where
  b : BytesAt W W.heap.size a.BA a.B
  bl : a.B.length ≤ a.bc
  bm : a.bc ≤ maxLen
  bn : a.BA = none → a.B.length = 0 ∧ a.bc = 0
  p : BytesAt W W.heap.size a.PA a.p.B
  pl : a.p.B.length ≤ a.pc
  pm : a.pc ≤ maxLen
  pn : a.PA = none → a.p.B.length = 0 ∧ a.pc = 0
theorem Ac.In.below {a : Ac} {W W' : World} (h : a.In W) (hb : Below W.heap.size W W') : a.In W' :=
  ⟨h.b.below hb (Nat.le_refl _) hb.size, h.bl, h.bm, h.bn, h.p.below hb (Nat.le_refl _) hb.size, h.pl, h.pm, h.pn⟩
section
variable {H : Type} {enc : TypeId × Value → H} {w : World} {base : Nat} {spare : Nat → Bool} {held : Bool}
set_option maxRecDepth 100000 in
theorem open_bytesB {fuel : Nat} {cs : List Value} {y : DataW H × List MemPlace} (h : DataW.trod enc Try.prog w base spare held fuel 44 cs = some y) :
    ∃ (A : Option Addr) (X : List UInt8) (c : Nat), cs = [.slice A X.length c] ∧ X.length ≤ c ∧ c ≤ maxLen ∧ BytesAt w w.heap.size A X ∧ (A = none → X.length = 0 ∧ c = 0) := by
  rcases open_slice Try.underlying44 h with ⟨rfl, h2⟩ | ⟨a, len, cap, m, n', D, Pl, rfl, hb, hl, hm, hmm, hx, hi⟩
  · exact ⟨none, [], 0, rfl, Nat.le_refl _, by unfold maxLen; omega, fun e => absurd rfl e, fun _ => ⟨rfl, rfl⟩⟩
  · have hC : Try.prog.cellsOf 5 = 1 := by kernel_rfl
    have hlm : len ≤ m := by rw [hmm]; split <;> omega
    have each : ∀ i, ∃ q : UInt8, i < len → w.cell? (a.add i) = some (.int .u8 (q.toNat : Nat)) := by
      intro i
      by_cases hin : i < len
      · obtain ⟨cs', hc, ht⟩ := hi i (by omega)
        rw [hC, Nat.mul_one] at hc
        obtain ⟨z, e0, _, w0⟩ := DataW.trod_int Try.underlying5 ht
        obtain ⟨_, hlen, hat⟩ := World.cells?_some hc
        have hz := bounds_u8 w0
        refine ⟨UInt8.ofNat z.toNat, fun _ => ?_⟩
        have := hat 0 (by omega)
        rw [e0] at this
        have ha : (a.add i).add 0 = a.add i := by simp [Addr.add]
        rw [ha] at this
        rw [this, toNat_of (by omega)]
        simp
        omega
      · exact ⟨0, fun h => absurd h hin⟩
    obtain ⟨f, hf'⟩ := Classical.axiomOfChoice each
    have hlen : ((List.range len).map f).length = len := by simp
    have hget : ∀ i x, ((List.range len).map f)[i]? = some x → i < len ∧ x = f i := by
      intro i x hx
      have hi' : i < len := by
        have := (List.getElem?_eq_some_iff.1 hx).1
        simpa using this
      refine ⟨hi', ?_⟩
      simp [hi'] at hx
      exact hx.symm
    refine ⟨some a, (List.range len).map f, cap, by rw [hlen], by rw [hlen]; exact hl, hm, ?_, fun h => by cases h⟩
    intro hne
    have hn : 0 < len := by
      rcases Nat.eq_zero_or_pos len with h | h
      · subst h; exact absurd rfl hne
      · exact h
    have h00 := hf' 0 hn
    simp [Addr.add] at h00
    obtain ⟨b, o, rfl, hbl⟩ := cell_plainB h00
    refine ⟨b, o, rfl, hbl, fun i x hx => ?_⟩
    obtain ⟨hi', rfl⟩ := hget i x hx
    have hc := hf' i hi'
    rw [addr_add] at hc
    exact hc
/-- such a list in memory. -/
def arg_actsR (W : World) (A : Option Addr) (L : List Ac) : Prop :=
  ∀ i a, L[i]? = some a → (∃ b o, A = some ⟨b, o, none⟩ ∧ b < W.heap.size ∧ ∀ j u, (a.cs)[j]? = some u → W.cell? ⟨b, o + i * 11 + j, none⟩ = some u) ∧ a.ok ∧ a.In W
theorem arg_actsR.below {W W' : World} {A : Option Addr} {L : List Ac} (h : arg_actsR W A L) (hb : Below W.heap.size W W') : arg_actsR W' A L := fun i a ha => by
  obtain ⟨⟨b, o, e, hl, hc⟩, h2⟩ := h i a ha
  exact ⟨⟨b, o, e, Nat.lt_of_lt_of_le hl hb.size, fun j u hu => (hb.cell (p := ⟨b, _, none⟩) hl).trans (hc j u hu)⟩, h2.1, h2.2.below hb⟩
end

end Go.Proofs.Ytnagbiicpecamaa
