/-
  The law WireFrames: any packet as bytes, any bytes as a packet, there and back. Conditions: those of the row alone (the table of sums and the words of the kinds lie as their text lays them: tied).
-/
import Derived.Test.YtkmbgehknpefiaaGreatDoorWfz
import Derived.Test.YtkmbgehknpefiaaGreatDoorWob
import Derived.Test.YtkmbgehknpefiaaGreatDoorTie
import Derived.Test.YtkmbgehknpefiaaGreatDoorCards
import Derived.ProofKit
import Derived.OpenShut
import Derived.ShutString
import Derived.ChangeOld
import Derived.Below
import Derived.SizedLaws
import Derived.SevenTiedAt
namespace Go.Proofs.YtkmbgehknpefiaaGreatDoor
set_option linter.unusedSimpArgs false
set_option linter.unusedVariables false
open Go.ChangeShapes Go.WideShapes Go.ChangeAt Go.RowKit

theorem wireFrames_own : ownKnob Tryz.prog.godebug = none := by kernel_rfl
theorem wireFrames_laidOut : laidOutB Tryz.prog = true := by kernel_rfl

/-- The door's own heap meets the condition. -/
theorem wireFrames_door (os : Os) (args : Array Value) : laidMetH Tryz.prog [("gemot/octet.sums", Rows.laid_gemot_octet_sums), ("gemot/wire.words", Rows.laid_gemot_wire_words)] ((World.doorLaid Tryz.prog 400 os).forCall (fun _ _ => 0) ⟨#[], args, []⟩).memory :=
  laidMetH_of_parts3 (fuel := 8) (laidMet_of_run' 8 (by kernel_rfl) (by kernel_rfl)) (by kernel_rfl) (by kernel_rfl)

set_option maxRecDepth 100000 in
theorem wireFrames_lifted (os : Os) (started : os.Started) (H : Type) (enc : TypeId × Value → H) :
    ReturnsInHanded {} Tryz.checked os 5 .any (fun w args => (Rows.wireFramesSpec.pre enc Tryz.prog Tryz.f5 [] false w args ∧ laidMetH Tryz.prog [("gemot/octet.sums", Rows.laid_gemot_octet_sums), ("gemot/wire.words", Rows.laid_gemot_wire_words)] w) ∧ sizedMet enc Tryz.prog Tryz.f5 (OpenSpec.ofChange Rows.wireFramesSpec) false w args)
      (Rows.wireFramesSpec.post enc Tryz.prog Tryz.f5 false true false false) := by
  refine returnsInHanded_of_change_and (C := Tryz.checked) (X := fun w _ => laidMetH Tryz.prog [("gemot/octet.sums", Rows.laid_gemot_octet_sums), ("gemot/wire.words", Rows.laid_gemot_wire_words)] w) (fun _ _ _ hh h => h.of_heap hh) wireFrames_own started (by kernel_rfl) Tryz.func5
    (ChangeSpec.witness_shaped (enc := enc) (C := Tryz.checked) (os := os) (X := fun w _ => laidMetH Tryz.prog [("gemot/octet.sums", Rows.laid_gemot_octet_sums), ("gemot/wire.words", Rows.laid_gemot_wire_words)] w) false (World.doorLaid Tryz.prog 400 os) #[.agg #[.int .u8 0, .int .u16 0, .int .u8 0, .int .u16 0, .int .u64 0, .int .u64 0, .bool false, .slice none 0 0], .slice none 0 0] 8 rfl (World.shaped_of_RefB (by kernel_rfl) (by kernel_rfl)) (by kernel_rfl) (by kernel_rfl) (by kernel_rfl) (wireFrames_door os _)) ?_
  intro W base args ds gs before hval0 hW _ hsz hL _
  have hval : ∀ (j : Nat) t v, Tryz.f5.params[j]? = some t → args[j]? = some v → Value.okWide Tryz.prog W .any base t v := hval0
  have hW' := hW
  obtain ⟨p, q, hA0, hV, rfl, _, _⟩ := hW
  have hA : DataW.TrodAll enc Tryz.prog W 0 (fun _ => true) true Tryz.f5.params.toList args.toList ds p := hA0
  rw [Tryz.params5] at hA hval hsz
  obtain ⟨v0, vs0, d0, ds0, p0, q0, hargs, rfl, rfl, h0, r0⟩ := trodAll_cons hA
  obtain ⟨v1, vs1, d1, ds1, p1, q1, rfl, rfl, rfl, h1, r1⟩ := trodAll_cons r0
  obtain ⟨rfl, rfl, rfl⟩ := trodAll_nil r1
  obtain rfl : args = #[v0, v1] := by cases args; simp_all
  obtain ⟨rfl, rfl⟩ := trodVars_none hV
  obtain ⟨hT, hWd⟩ := env2 hL
  have k0 := h0
  have lt0 : ∀ x ∈ p0, x.block < W.heap.size := by obtain ⟨m, hm⟩ := k0; exact DataW.trod_lt m _ _ _ hm
  obtain ⟨fn0, fl0, tn0, tl0, sq0, ak0, hs0, A0, X0, c0, rfl, ⟨u10, u20, u30, u40, u50, u60⟩, lc0, cm0, RX0, bx0, nx0⟩ := arg_packet (hval 0 73 v0 rfl rfl) h0 (fun n hn => by
    have := List.all_eq_true.1 hsz _ (DataW.weights_mem_each (j := 0) (t := 73) rfl rfl n hn)
    have e : reachBytes = 140737488351232 := by decide
    rw [e] at this
    simp at this
    omega)
  have k1 := h1
  have lt1 : ∀ x ∈ p1, x.block < W.heap.size := by obtain ⟨m, hm⟩ := k1; exact DataW.trod_lt m _ _ _ hm
  obtain ⟨A1, X1, c1, rfl, lc1, cm1, RX1, bx1, nx1⟩ := arg_bytes (hval 1 41 v1 rfl rfl) h1 (fun n hn => by
    have := List.all_eq_true.1 hsz _ (DataW.weights_mem_each (j := 1) (t := 41) rfl rfl n hn)
    have e : reachBytes = 140737488351232 := by decide
    rw [e] at this
    simp at this
    omega)
  clear hA0 hval0
  refine (walkFrames fn0 fl0 tn0 tl0 sq0 ak0 hs0 X0 A0 c0 X1 A1 c1 W nx0 RX0 (by omega) nx1 RX1 (by omega) lc1 cm1 u10 u20 u30 u40 u50 u60 hT hWd).mono fun e W' ⟨he, bel⟩ => ?_
  subst he
  exact ⟨_, rfl, _, _, _, [], _, [], hW', trodAll_mk1 (shut_bool Tryz.underlying4 _), (trodAll_cons_mk (Below.trod wireFrames_laidOut (by kernel_rfl) (of_decide_eq_true (by kernel_rfl)) k0 bel lt0) (trodAll_cons_mk (Below.trod wireFrames_laidOut (by kernel_rfl) (of_decide_eq_true (by kernel_rfl)) k1 bel lt1) trodAll_mk0)), rfl, bel.frame _, fun h => by cases h⟩

theorem wireFrames_over : Rows.WireFramesSaid :=
  OpenClaim.holds_of_wide 5 Tryz.f5 rfl rfl rfl rfl rfl rfl rfl ⟨rfl, rfl, rfl, rfl, rfl⟩ rfl rfl rfl rfl rfl (by kernel_rfl) Tryz.func5 (by kernel_rfl)
    (of_decide_eq_true (by kernel_rfl)) (by unfold Func.isWrapper; first | (rw [if_pos (by decide +kernel)]; kernel_rfl) | (rw [if_neg (by decide +kernel)]; exact ⟨rfl, rfl⟩))
    (fun os started H enc _ => wireFrames_lifted os started H enc)

/-- The statement: the tied card. -/
theorem wireFrames_card_holds : Rows.WireFramesCardSaid :=
  Claim7.holds_tied_plain_at .later [] [.data, .data] true (true, "2575ab3fe3b9f6e534ba71defbcc3283fed0699bb7c48f7901b880aabbf7c988") false
    wireFrames_over (fun _ h => by cases h) (by kernel_rfl) (fun _ h => by cases h) wireFrames_row_tie rfl ⟨rfl, rfl⟩ (by kernel_rfl) rfl
    (fun f fn hf hfn => by
      obtain rfl : f = 5 := Option.some.inj ((show Tryz.prog.funcNamed "gemot/gemotlaw07.WireFrames" = some 5 by kernel_rfl).symm.trans hf) |>.symm
      obtain rfl : fn = Tryz.f5 := (Option.some.inj (Tryz.func5.symm.trans hfn)).symm
      exact ⟨by kernel_rfl, fun j t ht => by
        rw [Tryz.params5] at ht
        have hm : t ∈ [73, 41] := by simpa using Array.mem_of_getElem? ht
        have hall : ([73, 41].all fun u => !Tryz.prog.wantsStandIn u) = true := by kernel_rfl
        exact (show Tryz.prog.wantsStandIn t = false by simpa using List.all_eq_true.1 hall t hm)⟩)
    (by kernel_rfl)
#print axioms wireFrames_card_holds
end Go.Proofs.YtkmbgehknpefiaaGreatDoor
