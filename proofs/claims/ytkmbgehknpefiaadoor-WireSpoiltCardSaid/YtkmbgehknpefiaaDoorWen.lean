/-
  What the row lists, in memory: the words and the sums, cell by cell. No condition.
-/
import Derived.Test.YtkmbgehknpefiaaDoorWta
import Derived.Test.YtkmbgehknpefiaaDoorRows
import Derived.LaidHandle
import Derived.LaidMore
import Derived.MakeChecks
import Derived.Lib.LaidTab
import Derived.Stop.LaidErr
namespace Go.Proofs.YtkmbgehknpefiaaDoor
set_option linter.unusedSimpArgs false
set_option linter.unusedVariables false
open Go.RowKit

/-- a table of texts as a row lists it. -/
def strData {H : Type} (zs : List (List UInt8)) : DataW H := .agg (zs.map fun z => .lit (.string z))
theorem cells_of_strs {H : Type} {enc : TypeId × Value → H} {P : Program} {w : World} {base : Nat} {sp : Nat → Bool} {held : Bool} {fuel : Nat} {t e : TypeId} {n : Nat} {cs : List Value} {zs : List (List UInt8)} {p : List MemPlace}
    (ht : P.underlying t = some (.array n e)) (he : P.underlying e = some .string) (hce : P.cellsOf e = 1) (hct : P.cellsOf t = n)
    (h : DataW.trod enc P w base sp held fuel t cs = some (strData zs, p)) : cs = zs.map fun z => Value.string ⟨z.toArray⟩ := by
  cases fuel with
  | zero => simp [DataW.trod] at h
  | succ fuel =>
    simp only [DataW.trod, ht, hce, hct, Nat.mul_one] at h
    split at h
    · rename_i hl
      obtain ⟨xs, hm, hx⟩ := Option.map_eq_some_iff.1 h
      have hxs : xs.map (·.1) = zs.map fun z => (DataW.lit (.string z) : DataW H) := by
        have := congrArg Prod.fst hx
        simpa [strData] using this
      have hxl : xs.length = n := by simpa using Lib.mapM_length hm
      have hzl : zs.length = n := by
        have := congrArg List.length hxs
        simp at this
        omega
      apply List.ext_getElem?
      intro i
      by_cases hi : i < n
      · obtain ⟨b, hb, hf⟩ := Lib.mapM_at hm i i (by simp [hi])
        obtain ⟨z, hc, rfl, _⟩ := DataW.trod_string he hf
        have h1 : cs[i]? = some (.string z) := by
          have := congrArg (·[0]?) hc
          simpa [List.getElem?_take, List.getElem?_drop] using this
        have h2 : (xs.map (·.1))[i]? = some (DataW.lit (.string z.data.toList) : DataW H) := by simp [hb]
        rw [hxs] at h2
        simp only [List.getElem?_map, Option.map_eq_some_iff, DataW.lit.injEq, Lit.string.injEq] at h2
        obtain ⟨z', hz', rfl⟩ := h2
        simp [h1, hz']
      · rw [List.getElem?_eq_none (by omega), List.getElem?_eq_none (by simp; omega)]
    · cases h
theorem strs_of_head {P : Program} {W : World} {name : String} {zs : List (List UInt8)} {rest : List (String × DataW Unit)} {g : Nat} {t e : TypeId} {n : Nat}
    (hg : P.globalNamed name = some g) (hty : (P.globals[g]?).map (·.type) = some t) (ht : P.underlying t = some (.array n e)) (he : P.underlying e = some .string) (hce : P.cellsOf e = 1) (hct : P.cellsOf t = n)
    (h : laidMet P ((name, strData zs) :: rest) W) : ∀ i z, zs[i]? = some z → W.cell? ⟨g, i, none⟩ = some (.string ⟨z.toArray⟩) := by
  obtain ⟨ps, ⟨g', t', cs, fuel, p, q, hg', ht', hvar, hd, _, _⟩, _⟩ := h
  obtain rfl := Option.some.inj (hg.symm.trans hg')
  obtain rfl := Option.some.inj (hty.symm.trans ht')
  have hc := cells_of_strs ht he hce hct hd
  intro i z hz
  rw [World.var?_cell hg hvar i, ← Array.getElem?_toList, hc, List.getElem?_map, hz]
  rfl

/-- the words of the kinds, below a bound. -/
def WordAt (B : Nat) (W : World) : Prop := 0 < B ∧ W.cell? ⟨0, 6, none⟩ = some (.string ⟨#[65, 99, 99, 101, 112, 116]⟩)
theorem WordAt.below {B C : Nat} {W W' : World} (h : WordAt B W) (hb : Below C W W') (hC : B ≤ C) : WordAt B W' := ⟨h.1, (hb.cell (p := ⟨0, 6, none⟩) (Nat.lt_of_lt_of_le h.1 hC)).trans h.2⟩
theorem WordAt.up {B B' : Nat} {W : World} (h : WordAt B W) (hB : B ≤ B') : WordAt B' W := ⟨Nat.lt_of_lt_of_le h.1 hB, h.2⟩
theorem word_of_head {W : World} {rest : List (String × DataW Unit)} (h : laidMet Tryd.prog (("gemot/wire.words", Rows.laid_gemot_wire_words) :: rest) W) : WordAt W.heap.size W := by
  have hc := strs_of_head (zs := [[65, 115, 107], [65, 110, 115, 119, 101, 114], [82, 101, 102, 117, 115, 101], [65, 112, 112, 101, 110, 100], [65, 99, 107, 101, 100], [80, 114, 101, 112, 97, 114, 101], [65, 99, 99, 101, 112, 116], [78, 97, 99, 107], [80, 114, 111, 109, 105, 115, 101], [80, 114, 111, 112, 111, 115, 101], [73, 110, 115, 116, 97, 108, 108], [74, 111, 105, 110], [76, 101, 97, 118, 101], [83, 108, 97, 121]]) (g := 0) (t := 101) (e := 9) (n := 14) (by kernel_rfl) (by kernel_rfl) Tryd.underlying101 Tryd.underlying9 (by kernel_rfl) (by kernel_rfl) h 6 _ rfl
  exact ⟨World.block_lt_of_cell? W _ hc, hc⟩
theorem tab_is : ∀ j, j < 16 → ([0, 79764919, 159529838, 222504665, 319059676, 398814059, 445009330, 507990021, 638119352, 583659535, 797628118, 726387553, 890018660, 835552979, 1015980042, 944750013] : List Int).getD j 0 = (Crc.tab j : Int) := by decide
theorem sums_of_head {W : World} {rest : List (String × DataW Unit)} (h : laidMet Tryd.prog (("gemot/octet.sums", Rows.laid_gemot_octet_sums) :: rest) W) : TabAt W.heap.size W := by
  have hT : Lib.TabIs Tryd.prog W "gemot/octet.sums" .u32 [0, 79764919, 159529838, 222504665, 319059676, 398814059, 445009330, 507990021, 638119352, 583659535, 797628118, 726387553, 890018660, 835552979, 1015980042, 944750013] :=
    Lib.tabIs_of_head (g := 1) (t := 167) (e := 22) (n := 16) (by kernel_rfl) (by kernel_rfl) Tryd.underlying167 Tryd.underlying22 (by kernel_rfl) (by kernel_rfl) h
  have hc : ∀ j, j < 16 → W.cell? ⟨1, j, none⟩ = some (.int .u32 (Crc.tab j)) := fun j hj => by
    rw [← tab_is j hj]
    exact hT.cell (g := 1) (by kernel_rfl) j hj
  exact ⟨World.block_lt_of_cell? W _ (hc 0 (by decide)), hc⟩
theorem env2 {W : World} (h : laidMetH Tryd.prog [("gemot/octet.sums", Rows.laid_gemot_octet_sums), ("gemot/wire.words", Rows.laid_gemot_wire_words)] W) : TabAt W.heap.size W ∧ WordAt W.heap.size W := by
  rw [MakeChecks.laidMetH_plain _ _ _ (by kernel_rfl)] at h
  exact ⟨sums_of_head h, word_of_head (laidMet.tail h)⟩

set_option maxRecDepth 100000 in
set_option maxHeartbeats 1000000 in
theorem accWord (W : World) (h : WordAt W.heap.size W) : Calls Tryd.prog 13 #[.int .u8 6] W fun e W' => e = .returned (.string ⟨#[65, 99, 99, 101, 112, 116]⟩) ∧ W' = W := by
  have hc := h.2
  go_enter Tryd.func13, Tryd.ntmps13
  go_wp2
  go_ret
  exact ⟨rfl, rfl⟩

end Go.Proofs.YtkmbgehknpefiaaDoor
