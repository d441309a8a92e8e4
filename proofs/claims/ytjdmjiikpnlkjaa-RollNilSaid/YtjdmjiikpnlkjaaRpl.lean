/-
  Light of a list of entries: some answer. Condition: the list lies in memory.
-/
import Derived.Test.YtjdmjiikpnlkjaaRpa
import Derived.Test.YtjdmjiikpnlkjaaRpn
import Derived.Test.YtjdmjiikpnlkjaaElt
import Derived.Test.YtjdmjiikpnlkjaaGsm
import Derived.Deep.MidRow
import Derived.LoopN
namespace Go.Proofs.Ytjdmjiikpnlkjaa
set_option linter.unusedSimpArgs false
set_option linter.unusedVariables false
open Go.RowKit Go.Maps Go.Sort
open V (P2)

set_option maxRecDepth 100000 in
set_option maxHeartbeats 2000000 in
theorem lightL (A : Option Addr) (L : List Le) (c : Nat) (W : World) (hr : RowsE W W.heap.size A L) (hc : L.length ≤ c) (hm : c ≤ maxLen) :
    Calls Try.prog 42 #[.slice A L.length c] W fun e W' => IsB e ∧ Below W.heap.size W W' := by
  obtain ⟨n, hn⟩ : ∃ n, L.length = n := ⟨_, rfl⟩
  rw [hn] at hc ⊢
  have HN := Lib.hid hn
  have HR := Lib.hid hr
  obtain ⟨base, hbase⟩ : ∃ x, W.heap.size = x := ⟨_, rfl⟩
  have HSZ : Hid (base = W.heap.size) := Lib.hid hbase.symm
  have hn2 : n ≤ 9223372036854775807 := by unfold maxLen at hm; omega
  rw [hbase]
  clear hr hn hbase hc hm
  go_enter Try.func42, Try.ntmps42
  go_wp2_with fail
  go_loopw [3, 4] (fun l i wx => ∃ (k : Nat) (z : Int), k ≤ n ∧ i = .int .i64 k ∧ l = .int .i64 z ∧ Hid (Below base W wx)) (fun _ i _ => n - (intOf i).toNat)
  case atStart => exact ⟨0, _, by omega, rfl, rfl, Lib.hid (by rw [HSZ.out]; exact Below.refl _ _)⟩
  case round =>
    obtain ⟨k, z, hk, rfl, rfl, BB⟩ := hrel
    obtain ⟨u, hu⟩ : ∃ z : World, z = wr := ⟨_, rfl⟩
    subst hu
    by_cases hkn : k < n
    · have hk1 : (k : Int) < (n : Int) := by omega
      by_cases h200 : k < 200
      · have h201 : (k : Int) < 200 := by omega
        by_cases hz : 0 ≤ z
        · have hzi : ¬ z < 0 := by omega
          have HKN := Lib.hid hkn
          have hk0 : (0 : Int) ≤ (k : Int) := by omega
          have hkL : k < L.length := by rw [HN.out]; exact hkn
          obtain ⟨g, o, rfl⟩ := HR.out.plc hkL
          obtain ⟨e, hx⟩ : ∃ e, L[k]? = some e := ⟨_, List.getElem?_eq_getElem hkL⟩
          have hub : base ≤ u.heap.size := by rw [HSZ.out]; exact BB.out.size
          have bW : Below W.heap.size W u := by rw [← HSZ.out]; exact BB.out
          have hrr := (HR.out.below bW (Nat.le_refl _) bW.size).rng hx
          have HC : Hid (u.rangeAt g (o + k * 18) e.cs.toList) := Lib.hid hrr.1
          have hat := hrr.2
          obtain ⟨wa, hwa⟩ : ∃ z, u.alloc (.cells #[.int .u8 0, .int .u8 0, .int .u16 0, .int .u32 0, .int .u8 0, .int .u8 0, .int .u8 0, .int .u8 0, .int .u8 0, .int .u8 0, .int .u8 0, .int .u32 0, .slice none 0 0, .int .u8 0, .string ByteArray.empty, .slice none 0 0, .int .u8 0, .int .u16 0] 103) = z := ⟨_, rfl⟩
          have ra : wa.heap[u.heap.size]? = some (.cells #[.int .u8 0, .int .u8 0, .int .u16 0, .int .u32 0, .int .u8 0, .int .u8 0, .int .u8 0, .int .u8 0, .int .u8 0, .int .u8 0, .int .u8 0, .int .u32 0, .slice none 0 0, .int .u8 0, .string ByteArray.empty, .slice none 0 0, .int .u8 0, .int .u16 0] 103 (0, 0)) := by rw [← hwa]; exact heap_alloc_new _ _
          obtain ⟨wb, hwb⟩ : ∃ z, wa.setRow u.heap.size e.cs = z := ⟨_, rfl⟩
          have rb : wb.heap[u.heap.size]? = some (.cells e.cs 103 (0, 0)) := by rw [← hwb]; exact setRow_heapG _ _ _ _ _ _ ra
          have bb2 : Below u.heap.size u wb := by
            rw [← hwb, ← hwa]
            exact ((Below.refl _ _).alloc (Nat.le_refl _) _).trans ⟨rfl, rfl, rfl, by simp [World.setRow], fun k hk => setRow_other _ u.heap.size k _ (by omega)⟩
          have hatb := hat.below bb2 (Nat.le_refl _) bb2.size
          obtain ⟨x, PA, X, pc, QA, Y, qc⟩ := e
          obtain ⟨lb, hlb⟩ : ∃ z, lightB X = z := ⟨_, rfl⟩
          have KL := Lib.hid (light PA X pc wb hatb.rp hatb.hc hatb.hm)
          rw [hlb] at KL
          obtain ⟨bx, hbx⟩ : ∃ q, u.heap.size = q := ⟨_, rfl⟩
          rw [hbx] at ra hwb rb
          obtain ⟨nx, hnx⟩ : ∃ z, X.length = z := ⟨_, rfl⟩
          obtain ⟨ny, hny⟩ : ∃ z, Y.length = z := ⟨_, rfl⟩
          have hat3 : nx ≤ 9223372036854775807 ∧ ny ≤ qc ∧ qc ≤ 9223372036854775807 := by
            have h1 := hat.hc
            have h2 := hat.hm
            have h3 := hat.hd
            have h4 := hat.hn
            unfold maxLen at h2 h4
            dsimp only at h1 h2 h3 h4
            omega
          rw [hnx] at KL
          obtain ⟨cs, hcs⟩ : ∃ q, (Le.mk x PA X pc QA Y qc).cs = q := ⟨_, rfl⟩
          have e12 : wb.cell? ⟨bx, 12, none⟩ = some (.slice PA nx pc) := by rw [← hnx]; exact cell_of rb 12 (.slice PA X.length pc) rfl
          have e15 : wb.cell? ⟨bx, 15, none⟩ = some (.slice QA ny qc) := by rw [← hny]; exact cell_of rb 15 (.slice QA Y.length qc) rfl
          have E14 : Hid (wb.cell? ⟨bx, 14, none⟩ = some (.string x.rv)) := Lib.hid (cell_of rb 14 (.string x.rv) rfl)
          have E12 := Lib.hid e12
          have E15 := Lib.hid e15
          have HOB := Lib.hid (Le.oneB (Le.mk x PA X pc QA Y qc))
          rw [hcs] at HC hwb rb HOB
          have HCS : Hid (cs.size = 18) := Lib.hid (by rw [← hcs]; rfl)
          have hlen : cs.toList.length = 18 := by rw [Array.length_toList]; exact HCS.out
          have hsz2 : (Try.prog.info? 103).map (·.size) = some cs.toList.length := by rw [hlen]; kernel_rfl
          have hsz3 : (Try.prog.info? 103).map (·.size) = some cs.size := by rw [HCS.out]; kernel_rfl
          have hold : (#[.int .u8 0, .int .u8 0, .int .u16 0, .int .u32 0, .int .u8 0, .int .u8 0, .int .u8 0, .int .u8 0, .int .u8 0, .int .u8 0, .int .u8 0, .int .u32 0, .slice none 0 0, .int .u8 0, .string ByteArray.empty, .slice none 0 0, .int .u8 0, .int .u16 0] : Array Value).size = cs.size := by rw [HCS.out]; rfl
          have HSZ2 := Lib.hid hsz2
          have HSZ3 := Lib.hid hsz3
          have HOLD := Lib.hid hold
          have HY : Hid (RowsW wb wb.heap.size QA Y) := Lib.hid hatb.rw_
          have HNY := Lib.hid hny
          have HBLT : Hid (bx < wb.heap.size) := Lib.hid (heap_lt rb)
          have BB2 : Hid (Below base W wb) := Lib.hid (BB.out.trans (bb2.mono hub))
          have HUB2 : Hid (base ≤ wb.heap.size) := Lib.hid (Nat.le_trans hub bb2.size)
          have HWA := Lib.hid hwa
          have HWA2 := Lib.hid (show u.alloc (.cells #[.int .u8 0, .int .u8 0, .int .u16 0, .int .u32 0, .int .u8 0, .int .u8 0, .int .u8 0, .int .u8 0, .int .u8 0, .int .u8 0, .int .u8 0, .int .u32 0, .slice none 0 0, .int .u8 0, .string ⟨#[]⟩, .slice none 0 0, .int .u8 0, .int .u16 0] 103) = wa from hwa)
          have HBW := Lib.hid hwb
          have RA := Lib.hid ra
          have HBX := Lib.hid hbx
          obtain ⟨hnx2, hnyq, hqc⟩ := hat3
          have hnyqi : (ny : Int) ≤ (qc : Int) := by omega
          clear hx hkn hkL bW hrr hat hwa ra hwb rb bb2 hatb hub hbx hnx hny hcs hlen hsz2 hsz3 hold e12 e15 hlb
          have MAIN : Hid True := Lib.hid trivial
          cases lb with
          | false =>
            as_aux_lemma =>
            skip
            have e12 := E12.out
            go_wp2_with (first
              | (refine wpList_load_mid rfl 103 (.tmp 23) rfl g (o + k * 18) (by rfl) cs.toList _ HC.out Try.underlying103 rfl HSZ2.out ?_)
              | (rw [HWA.out, HBX.out])
              | (rw [HWA2.out, HBX.out])
              | (refine wpList_store_row rfl 103 (.tmp 5) (.tmp 24) rfl bx cs (by rfl) (by rfl) 103 #[.int .u8 0, .int .u8 0, .int .u16 0, .int .u32 0, .int .u8 0, .int .u8 0, .int .u8 0, .int .u8 0, .int .u8 0, .int .u8 0, .int .u8 0, .int .u32 0, .slice none 0 0, .int .u8 0, .string ByteArray.empty, .slice none 0 0, .int .u8 0, .int .u16 0] RA.out HSZ3.out HOLD.out HOB.out ?_; rw [HBW.out])
              | (go_at_call 63
                 refine KL.out.mono ?_
                 rintro r w2 ⟨rfl, b2⟩
                 have B2 := Lib.hid (BB2.out.trans (b2.mono HUB2.out))
                 clear b2))
            go_ret
            exact ⟨⟨_, rfl⟩, B2.out⟩
          | true =>
            by_cases h300 : ny ≤ 300
            · have h301 : ¬ (300 : Int) < (ny : Int) := by omega
              as_aux_lemma =>
              skip
              have e12 := E12.out
              go_wp2_with (first
                | (refine wpList_load_mid rfl 103 (.tmp 23) rfl g (o + k * 18) (by rfl) cs.toList _ HC.out Try.underlying103 rfl HSZ2.out ?_)
                | (rw [HWA.out, HBX.out])
                | (rw [HWA2.out, HBX.out])
                | (refine wpList_store_row rfl 103 (.tmp 5) (.tmp 24) rfl bx cs (by rfl) (by rfl) 103 #[.int .u8 0, .int .u8 0, .int .u16 0, .int .u32 0, .int .u8 0, .int .u8 0, .int .u8 0, .int .u8 0, .int .u8 0, .int .u8 0, .int .u8 0, .int .u32 0, .slice none 0 0, .int .u8 0, .string ByteArray.empty, .slice none 0 0, .int .u8 0, .int .u16 0] RA.out HSZ3.out HOLD.out HOB.out ?_; rw [HBW.out])
                | (go_at_call 63
                   refine KL.out.mono ?_
                   rintro r w2 ⟨rfl, b2⟩
                   have B2 := Lib.hid (BB2.out.trans (b2.mono HUB2.out))
                   have e12 : w2.cell? ⟨bx, 12, none⟩ = some (.slice PA nx pc) := (b2.cell (p := ⟨bx, 12, none⟩) HBLT.out).trans E12.out
                   have e14 : w2.cell? ⟨bx, 14, none⟩ = some (.string x.rv) := (b2.cell (p := ⟨bx, 14, none⟩) HBLT.out).trans E14.out
                   have e15 : w2.cell? ⟨bx, 15, none⟩ = some (.slice QA ny qc) := (b2.cell (p := ⟨bx, 15, none⟩) HBLT.out).trans E15.out
                   have HY2 : Hid (RowsW w2 w2.heap.size QA Y) := Lib.hid (HY.out.below b2 (Nat.le_refl _) b2.size)
                   have C15 := Lib.hid e15
                   clear b2))
              clear e12 e14 e15
              go_loopw [3, 6] (fun l i wx => ∃ (j : Nat) (z : Int), j ≤ ny ∧ i = .int .i64 j ∧ l = .int .i64 z ∧ Hid (Below base W wx) ∧ Hid (Below w2.heap.size w2 wx) ∧ Hid (wx.cell? ⟨bx, 15, none⟩ = some (.slice QA ny qc))) (fun _ i _ => ny - (intOf i).toNat)
              case atStart => exact ⟨0, _, by omega, rfl, rfl, B2, Lib.hid (Below.refl _ _), C15⟩
              case round =>
                obtain ⟨j, z2, hj, rfl, rfl, B3, BW3, C3⟩ := hrel
                have e15 := C3.out
                obtain ⟨u3, hu3⟩ : ∃ z : World, z = wr := ⟨_, rfl⟩
                subst hu3
                by_cases hjn : j < ny
                · have HJN := Lib.hid hjn
                  have hji : (j : Int) < (ny : Int) := by omega
                  have hj0 : (0 : Int) ≤ (j : Int) := by omega
                  have hjY : j < Y.length := by rw [HNY.out]; exact hjn
                  obtain ⟨b2, o2, rfl, hb2, C⟩ := HY2.out.at_ hjY
                  obtain ⟨c0, c1, c2⟩ := C.below BW3.out hb2
                  generalize Y[j] = y at *
                  clear C hjY hb2 hjn
                  go_wp2
                  go_region_held3 (fun w' => w'.cell? ⟨b2, o2 + j * 3, none⟩ = some (.string y.key) ∧ w'.cell? ⟨b2, o2 + j * 3 + 1, none⟩ = some (.string y.val) ∧ w'.cell? ⟨bx, 15, none⟩ = some (.slice (some ⟨b2, o2, none⟩) ny qc)) (((first | (simp; done) | (go_simp; done) | go_keep))) (fail)
                  all_goals go_wp2
                  all_goals
                    exact ⟨⟨j + 1, _, by have := HJN.out; omega, by go_num, rfl, Lib.hid (Below.drewsN B3.out), Lib.hid (Below.drewsN BW3.out), Lib.hid (by simpa using e15)⟩, by have := HJN.out; simp [intOf]; omega⟩
                · obtain rfl : ny = j := by omega
                  have hji : ¬ (ny : Int) < (ny : Int) := by omega
                  go_wp2_with fail
                  go_roundw
                  case rel => exact ⟨k + 1, _, by have := HKN.out; omega, by go_num, rfl, B3⟩
                  case measure => have := HKN.out; simp [intOf]; omega
            · have h301 : (300 : Int) < (ny : Int) := by omega
              as_aux_lemma =>
              skip
              have e12 := E12.out
              go_wp2_with (first
                | (refine wpList_load_mid rfl 103 (.tmp 23) rfl g (o + k * 18) (by rfl) cs.toList _ HC.out Try.underlying103 rfl HSZ2.out ?_)
                | (rw [HWA.out, HBX.out])
                | (rw [HWA2.out, HBX.out])
                | (refine wpList_store_row rfl 103 (.tmp 5) (.tmp 24) rfl bx cs (by rfl) (by rfl) 103 #[.int .u8 0, .int .u8 0, .int .u16 0, .int .u32 0, .int .u8 0, .int .u8 0, .int .u8 0, .int .u8 0, .int .u8 0, .int .u8 0, .int .u8 0, .int .u32 0, .slice none 0 0, .int .u8 0, .string ByteArray.empty, .slice none 0 0, .int .u8 0, .int .u16 0] RA.out HSZ3.out HOLD.out HOB.out ?_; rw [HBW.out])
                | (go_at_call 63
                   refine KL.out.mono ?_
                   rintro r w2 ⟨rfl, b2⟩
                   have B2 := Lib.hid (BB2.out.trans (b2.mono HUB2.out))
                   have e15 : w2.cell? ⟨bx, 15, none⟩ = some (.slice QA ny qc) := (b2.cell (p := ⟨bx, 15, none⟩) HBLT.out).trans E15.out
                   clear b2))
              go_ret
              exact ⟨⟨_, rfl⟩, B2.out⟩
        · have hzi : z < 0 := by omega
          by_cases hz : 0 ≤ z
          · go_wp2_with fail
            go_ret
            exact ⟨⟨_, rfl⟩, BB.out⟩
          · go_wp2_with fail
            go_ret
            exact ⟨⟨_, rfl⟩, BB.out⟩
      · have h201 : ¬ (k : Int) < 200 := by omega
        by_cases hz : 0 ≤ z
        · go_wp2_with fail
          go_ret
          exact ⟨⟨_, rfl⟩, BB.out⟩
        · go_wp2_with fail
          go_ret
          exact ⟨⟨_, rfl⟩, BB.out⟩
    · have hk1 : ¬ (k : Int) < (n : Int) := by omega
      by_cases hz : 0 ≤ z
      · go_wp2_with fail
        go_ret
        exact ⟨⟨_, rfl⟩, BB.out⟩
      · go_wp2_with fail
        go_ret
        exact ⟨⟨_, rfl⟩, BB.out⟩


/-- some answer; where it is yes the entries are few. -/
def LiQ (n : Nat) (e : Ending) : Prop := ∃ bo, e = .returned (.bool bo) ∧ (bo = true → n ≤ 20)
set_option maxRecDepth 100000 in
set_option maxHeartbeats 2000000 in
theorem lightQ (k : Nat) (a : Aq) (W : World) (hg : W.heap[k]? = some (.cells a.cs 71 (0, 0))) (ha : a.In W W.heap.size) :
    Calls Try.prog 22 #[.slice (some ⟨k, 0, none⟩) 1 1] W fun e W' => LiQ a.L.length e ∧ Below W.heap.size W W' := by
  obtain ⟨base, hbase⟩ : ∃ x, W.heap.size = x := ⟨_, rfl⟩
  have HSZ : Hid (base = W.heap.size) := Lib.hid hbase.symm
  obtain ⟨kd, fr, co, p, A, L, c⟩ := a
  have KL : Hid (∀ v, Below W.heap.size W v → Calls Try.prog 42 #[.slice A L.length c] v fun e W' => IsB e ∧ Below v.heap.size v W') := Lib.hid (fun v hv => lightL A L c v (ha.t.below hv (Nat.le_refl _) hv.size) ha.tl ha.tm)
  obtain ⟨n, hn⟩ : ∃ z, L.length = z := ⟨_, rfl⟩
  show Calls _ _ _ _ fun e W' => LiQ L.length e ∧ _
  have c4 : Hid (∀ v, Below W.heap.size W v → v.cell? ⟨k, 5, none⟩ = some (.slice A n c)) := Lib.hid (fun v hv => by
    rw [← hn]
    exact cell_of ((hv.block k (heap_lt hg)).trans hg) 5 _ rfl)
  rw [hn] at KL ⊢
  rw [hbase] at KL c4 ⊢
  clear ha hg hbase
  go_enter Try.func22, Try.ntmps22
  go_wp2_with fail
  go_loopw [3] (fun i wx => ∃ (k : Nat), k ≤ 1 ∧ i = .int .i64 k ∧ Hid (k = 1 → n ≤ 20) ∧ Hid (Below base W wx)) (fun i _ => 1 - (intOf i).toNat)
  case atStart => exact ⟨0, by omega, rfl, Lib.hid (fun h => by omega), Lib.hid (by rw [HSZ.out]; exact Below.refl _ _)⟩
  case round =>
    obtain ⟨j, hj, rfl, HF, BB⟩ := hrel
    obtain ⟨u, hu⟩ : ∃ z : World, z = wr := ⟨_, rfl⟩
    subst hu
    by_cases hj0 : j = 0
    · subst hj0
      have k4 := c4.out u BB.out
      have K1 := Lib.hid (KL.out u BB.out)
      have SU : Hid (base ≤ u.heap.size) := Lib.hid (by have := BB.out.size; have := HSZ.out; omega)
      by_cases h20 : n ≤ 20
      · have h20i : ¬ (20 : Int) < (n : Int) := by omega
        have HN := Lib.hid h20
        clear h20
        go_wp2_with fail
        refine K1.out.mono ?_
        rintro e w1 ⟨hb, b1⟩
        obtain ⟨bo, rfl⟩ := hb
        have B1 := Lib.hid (BB.out.trans (b1.mono SU.out))
        clear b1
        cases bo with
        | false =>
          go_wp2_with fail
          go_ret
          exact ⟨⟨false, rfl, fun h => by cases h⟩, B1.out⟩
        | true =>
          go_wp2_with fail
          go_roundw
          case rel => exact ⟨1, by omega, by go_num, Lib.hid fun _ => HN.out, B1⟩
          case measure => simp [intOf]
      · have h20i : (20 : Int) < (n : Int) := by omega
        go_wp2_with fail
        go_ret
        exact ⟨⟨false, rfl, fun h => by cases h⟩, BB.out⟩
    · obtain rfl : j = 1 := by omega
      go_wp2_with fail
      go_ret
      exact ⟨⟨true, rfl, fun _ => by have h := HF.out; simpa using h⟩, BB.out⟩

end Go.Proofs.Ytjdmjiikpnlkjaa
