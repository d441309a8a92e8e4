/-
  The store's outcome at kind 1.
-/
import Derived.Test.YthmdnbgfnaokkaaDoorQout
namespace Go.Proofs.YthmdnbgfnaokkaaDoor
set_option linter.unusedSimpArgs false
set_option linter.unusedVariables false
open Go.RowKit Go.Sort


set_option maxRecDepth 100000 in
set_option maxHeartbeats 4000000 in
theorem outcomeS1 (g k m : Int) (hkk : Hid (k = 1)) (key val : ByteArray) (x : W3) (w : World) (B : Nat) (hR : rP g k m key val = true) (hk0 : 0 ≤ k) (hm : m ≤ 9223372036854775807) (hs : x.val.size ≤ 3000) (ht : Env B w) :
    Calls Tryd.prog 34 #[.agg #[.int .u8 g, .int .u8 k, .string key, .string val, .int .i64 m], .agg #[.string x.key, .string x.val, .bool x.has]] w (OutP w k m key val x) := by
  have ET := Lib.hid (fun (W : World) (hW : Below w.heap.size w W) => ht.on hW)
  clear ht
  go_enter Tryd.func34, Tryd.ntmps34
  go_wp2_with fail
  refine wp_cutO (AtO w g k m key val x) ?_ ?_
  · skip
    go_region_held3 (fun w' => w'.cell? ⟨w.heap.size + 1, 0, none⟩ = some (.string x.key) ∧ w'.cell? ⟨w.heap.size + 1, 1, none⟩ = some (.string x.val) ∧ w'.cell? ⟨w.heap.size + 1, 2, none⟩ = some (.bool x.has)) ((first | (simp; done) | (go_simp; done) | go_keep)) (fail)
    · exact ⟨rfl, _, _, rfl, atO_a w g k m key val x _ rfl⟩
    · exact ⟨rfl, _, _, rfl, atO_b w g k m key val x _ rfl⟩
  · rintro a W ⟨a6, a7, rfl, QO, QB⟩
    simp only [Act.put, List.setIfInBounds_toArray, List.set_cons_zero, List.set_cons_succ]
    have hk4 : k ≤ 4 ∧ key.size ≤ 16 ∧ val.size ≤ 64 ∧ 0 ≤ m := by
      simp only [rP, Bool.and_eq_true, decide_eq_true_eq] at hR
      exact ⟨hR.1.1.1.1.1.1.2, hR.1.1.1.1.2, hR.1.1.1.2, hR.1.2⟩
    obtain ⟨hk4, hk16, hv64, hm0⟩ := hk4
    clear hR
    have hc := QO.out.o
    obtain rfl := hkk.out
    · rcases hc with ⟨rfl, rfl⟩ | ⟨rfl, rfl⟩
      all_goals
        obtain ⟨p0, p1, p2, p3, p4, x0, x1, x2, r0, r1, t0, t1, t2, s0, s1, u0, u1, u2, fr0, fr1, ft0, ft1, ft2, fs0, fs1, fu0, fu1, fu2, hz, _⟩ := QO.out
        go_wp2_with fail
        first
          | (go_region_held3 (fun w' => w'.cell? ⟨w.heap.size + 1 + 1 + 1 + 1, 0, none⟩ = some (.int .u8 0) ∧ w'.cell? ⟨w.heap.size + 1 + 1 + 1 + 1, 1, none⟩ = some (.string ByteArray.empty) ∧ w'.cell? ⟨w.heap.size + 1 + 1 + 1 + 1 + 1, 0, none⟩ = some (.string (⟨key, val, true⟩ : W3).key) ∧ w'.cell? ⟨w.heap.size + 1 + 1 + 1 + 1 + 1, 1, none⟩ = some (.string (⟨key, val, true⟩ : W3).val) ∧ w'.cell? ⟨w.heap.size + 1 + 1 + 1 + 1 + 1, 2, none⟩ = some (.bool (⟨key, val, true⟩ : W3).has)) ((first | (simp; done) | (go_simp; done) | go_keep)) (fail))
          | (go_region_held3 (fun w' => w'.cell? ⟨w.heap.size + 1 + 1 + 1 + 1 + 1, 0, none⟩ = some (.int .u8 0) ∧ w'.cell? ⟨w.heap.size + 1 + 1 + 1 + 1 + 1, 1, none⟩ = some (.string ByteArray.empty) ∧ w'.cell? ⟨w.heap.size + 1 + 1 + 1 + 1, 0, none⟩ = some (.string (⟨key, val, true⟩ : W3).key) ∧ w'.cell? ⟨w.heap.size + 1 + 1 + 1 + 1, 1, none⟩ = some (.string (⟨key, val, true⟩ : W3).val) ∧ w'.cell? ⟨w.heap.size + 1 + 1 + 1 + 1, 2, none⟩ = some (.bool (⟨key, val, true⟩ : W3).has)) ((first | (simp; done) | (go_simp; done) | go_keep)) (fail))
        go_wp2
        have hz2 : w.heap.size + 1 + 1 < W.heap.size := by omega
        have hz3 : w.heap.size + 1 + 1 + 1 < W.heap.size := by omega
        have hz4 : w.heap.size + 1 + 1 + 1 + 1 < W.heap.size := by omega
        refine bodyPost_ret (v := .tuple #[.agg #[.int .u8 0, .string ByteArray.empty], .agg #[.string (⟨key, val, true⟩ : W3).key, .string (⟨key, val, true⟩ : W3).val, .bool (⟨key, val, true⟩ : W3).has]]) (by simp [results, Tryd.results34, go_sem]; go_simp) rfl ⟨0, ByteArray.empty, ⟨key, val, true⟩, rfl, (by first | rfl | (simp [outN, hq]; done) | (simp [outN, hq, hlt]; done)), ?_⟩
        repeat (first | (with_reducible exact QB.out) | (with_reducible refine Below.drew ?_) | (with_reducible refine Below.setCell ?_ (by first | (simp; done) | (simp; omega)) _))

end Go.Proofs.YthmdnbgfnaokkaaDoor
