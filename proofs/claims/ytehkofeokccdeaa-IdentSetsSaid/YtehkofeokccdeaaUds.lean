/-
  The program's Set.Under: the identifiers of a process, in order. Condition: the map's keys are just the identifiers of a sorted list.
-/
import Derived.Test.YtehkofeokccdeaaDel
namespace Go.Proofs.Ytehkofeokccdeaa
set_option linter.unusedSimpArgs false
set_option linter.unusedVariables false
open Go.RowKit Go.Maps Go.Sort Go.Shelf

set_option maxRecDepth 100000 in
set_option maxHeartbeats 1000000 in
theorem underSet {H : Type} (b bm nn : Nat) (D0 : DataW H) (X : List I10) (n l : Int) (hX : KeysX D0 X) (hF : ∀ x ∈ X, x.Fit) (hO : Ord X) (w : World) (hc1 : w.cell? ⟨b, 1, none⟩ = some (.map (some bm))) (hown : w.ownsMap Try.prog 48 unitElem bm nn D0) (hl : X.length * 16 ≤ 140737488355328) :
    Calls Try.prog 16 #[.pointer (some ⟨b, 0, none⟩), .agg #[.int .u8 n, .int .u16 l]] w fun e w' => ∃ v, e = .returned v ∧ OwnI w' w.heap.size v (X.filter fun x => !notOf n l x) ∧ Below w.heap.size w w' := by
  have hl0 := World.block_lt_of_cell? w _ hc1
  have hown' : (w.alloc (.cells #[.int .u8 n, .int .u16 l] 44)).ownsMap Try.prog 48 unitElem bm nn D0 := by
    have hbl := hown.lt
    obtain ⟨es, clock, hb, Ft, hs, hD⟩ := hown
    exact ⟨es, clock, (Below.heap_alloc _ _ bm hbl).trans hb, Ft, hs, hD⟩
  have AS := Lib.hid (allSet b bm nn D0 X hX hF hO _ (Go.Lib.cell?_alloc_some _ hc1) hown' hl)
  clear hX hF hO hown hown' hc1
  go_enter Try.func16, Try.ntmps16
  go_wp2_with fail
  refine AS.out.mono ?_
  rintro e w1 ⟨v, rfl, hR, hb⟩
  clear AS
  have hs1 := hb.size
  simp only [World.size_alloc] at hs1 hb hR
  have zb : Below w.heap.size w (w.alloc (.cells #[.int .u8 n, .int .u16 l] 44)) := (Below.refl _ _).alloc (Nat.le_refl _) _
  have q0 : w1.cell? ⟨w.heap.size, 0, none⟩ = some (.int .u8 n) := (hb.cell (p := ⟨w.heap.size, 0, none⟩) (by simp)).trans (by simp)
  have q1 : w1.cell? ⟨w.heap.size, 1, none⟩ = some (.int .u16 l) := (hb.cell (p := ⟨w.heap.size, 1, none⟩) (by simp)).trans (by simp)
  have hb1 := zb.trans (hb.mono (by simp))
  have Hb := Lib.hid hb1
  clear hb hb1 zb
  rcases hR with ⟨rfl, rfl⟩ | ⟨g, cap, rfl, hg0, hg, h3, h4, hf, hat⟩
  · go_wp2_with fail
    refine (delNil _ _).mono ?_
    rintro e w2 ⟨rfl, hb2⟩
    go_wp2
    go_ret
    exact ⟨_, rfl, .inl ⟨rfl, rfl⟩, Hb.out.trans (hb2.mono (by omega))⟩
  · have DU := Lib.hid (delUnder X g cap w.heap.size (w.heap.size + 1) n l w1 hg0 hs1 hg (by omega) h3 h4 hl hf hat q0 q1)
    clear hf hat q0 q1
    go_wp2_with fail
    refine DU.out.mono ?_
    rintro e w2 ⟨v, rfl, ho, hb2⟩
    have HO := Lib.hid (ho.lower (base' := w.heap.size) (by omega))
    have HB := Lib.hid (Hb.out.trans (hb2.mono (by omega)))
    clear ho hb2 DU
    go_wp2
    go_ret
    exact ⟨v, rfl, HO.out, HB.out⟩

end Go.Proofs.Ytehkofeokccdeaa
