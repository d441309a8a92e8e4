/-
  The program's order: own, cut, Log, Tail: the same entries, in rows of their own. Condition: it lies in memory.
-/
import Derived.Test.YtjdmjiikpnlkjaaRob
import Derived.Deep.MidRow
import Derived.Deep.WholeRow
import Derived.LoopN
namespace Go.Proofs.Ytjdmjiikpnlkjaa
set_option linter.unusedSimpArgs false
set_option linter.unusedVariables false
open Go.RowKit Go.Maps Go.Sort
open V (P2)

set_option maxRecDepth 100000 in
set_option maxHeartbeats 2000000 in
theorem rOwn (v : Value) (L : List Le) (W : World) (h : EnO W v L) (hl : L.length ≤ 1000) :
    Calls Try.prog 37 #[v] W fun e W' => ∃ v', e = .returned v' ∧ ∃ L', L'.map Le.v = L.map Le.v ∧ EnO W' v' L' ∧ (∀ g, v'.ownBlock = some g → W.heap.size ≤ g) ∧ Below W.heap.size W W' := by
  obtain ⟨A, c, rfl, hr, hc, hm, hA⟩ := h.rows
  have K1 := Lib.hid (cloneT A L c W hr hl hc hm hA)
  have HE := Lib.hid h.all
  obtain ⟨n, hn⟩ : ∃ n, L.length = n := ⟨_, rfl⟩
  rw [hn] at K1 hl ⊢
  have HN := Lib.hid hn
  obtain ⟨base, hbase⟩ : ∃ x, W.heap.size = x := ⟨_, rfl⟩
  have HSZ : Hid (base = W.heap.size) := Lib.hid hbase.symm
  rw [hbase] at K1 ⊢
  clear h hr hc hm hA hn hbase
  go_enter Try.func37, Try.ntmps37
  go_wp2_with fail
  refine K1.out.mono ?_
  rintro e w1 ⟨v1, rfl, o1, b1⟩
  have B1 := Lib.hid b1
  have HV : Hid (∃ A1 c1, v1 = .slice A1 n c1 ∧ n ≤ c1 ∧ c1 ≤ maxLen) := Lib.hid (by
    obtain ⟨A1, c1, e, h1, h2, _⟩ := (RowO.of_owns o1).slice
    exact ⟨A1, c1, e, h1, h2⟩)
  have O1 := Lib.hid o1
  have E1 : Hid (∀ e ∈ L, LeO e w1) := Lib.hid fun e he => (HE.out e he).keep (Keeps.of_below (by rw [← HSZ.out]; exact b1))
  clear o1 b1
  obtain ⟨A1, c1, rfl, hc1, hm1⟩ := HV.out
  have HC1 : Hid (n ≤ c1 ∧ c1 ≤ maxLen) := Lib.hid ⟨hc1, hm1⟩
  clear hc1 hm1
  go_wp2_with fail
  go_loopw [9] (fun z wx => ∃ (k : Nat) (Z : List Le), z = .int .i64 k ∧ k ≤ n ∧ Hid (Z.length = n) ∧ Hid (Z.map Le.v = L.map Le.v) ∧ Hid (RowO wx 63 18 (.slice A1 n c1) n (cellsE Z)) ∧ Hid (∀ g, (Value.slice A1 n c1).ownBlock = some g → base ≤ g ∧ A1 = some ⟨g, 0, none⟩) ∧ Hid (∀ e ∈ Z, LeO e wx) ∧ Hid (Below base W wx)) (fun z _ => n - (intOf z).toNat)
  case atStart =>
    refine ⟨0, L, rfl, by omega, HN, Lib.hid rfl, Lib.hid (RowO.of_owns O1.out), Lib.hid (fun g hg => ?_), E1, B1⟩
    rcases O1.out.2 with ⟨h0, _⟩ | ⟨g', cap, cur, h0, hb, _⟩
    · rw [h0] at hg
      simp [Value.ownBlock] at hg
    · cases h0
      simp [Value.ownBlock] at hg
      subst hg
      exact ⟨hb, rfl⟩
  case round =>
    obtain ⟨k, Z, rfl, hk, HZ, HM, HO, HG, HL, BB⟩ := hrel
    obtain ⟨u, hu⟩ : ∃ z : World, z = wr := ⟨_, rfl⟩
    subst hu
    by_cases hkn : k < n
    · as_aux_lemma =>
      skip
      have HKN := Lib.hid hkn
      have hk1 : (k : Int) < (n : Int) := by omega
      have hk0 : (0 : Int) ≤ (k : Int) := by omega
      have hkL : k < Z.length := by rw [HZ.out]; exact hkn
      have hg : ∃ g, A1 = some ⟨g, 0, none⟩ ∧ base ≤ g := by
        rcases HO.out.2 with ⟨h0, h1⟩ | ⟨g, o, cap, cur, h0, _⟩
        · omega
        · have h2 := HG.out g (by rw [h0]; rfl)
          exact ⟨g, h2.2, h2.1⟩
      obtain ⟨g, rfl, hbg⟩ := hg
      have HBG := Lib.hid hbg
      obtain ⟨e, hx⟩ : ∃ e, Z[k]? = some e := ⟨_, List.getElem?_eq_getElem hkL⟩
      have HC : Hid (u.rangeAt g (k * 18) e.cs.toList) := Lib.hid (by
        have := EnO.cells HO.out hx
        rwa [Nat.zero_add] at this)
      have hub : base ≤ u.heap.size := by rw [HSZ.out]; exact BB.out.size
      have HE2 := Lib.hid (HL.out e (List.mem_of_getElem? hx))
      obtain ⟨wa, hwa⟩ : ∃ z, u.alloc (.cells #[.int .u8 0, .int .u8 0, .int .u16 0, .int .u32 0, .int .u8 0, .int .u8 0, .int .u8 0, .int .u8 0, .int .u8 0, .int .u8 0, .int .u8 0, .int .u32 0, .slice none 0 0, .int .u8 0, .string ByteArray.empty, .slice none 0 0, .int .u8 0, .int .u16 0] 63) = z := ⟨_, rfl⟩
      have ra : wa.heap[u.heap.size]? = some (.cells #[.int .u8 0, .int .u8 0, .int .u16 0, .int .u32 0, .int .u8 0, .int .u8 0, .int .u8 0, .int .u8 0, .int .u8 0, .int .u8 0, .int .u8 0, .int .u32 0, .slice none 0 0, .int .u8 0, .string ByteArray.empty, .slice none 0 0, .int .u8 0, .int .u16 0] 63 (0, 0)) := by rw [← hwa]; exact heap_alloc_new _ _
      obtain ⟨wb, hwb⟩ : ∃ z, wa.setRow u.heap.size e.cs = z := ⟨_, rfl⟩
      have rb : wb.heap[u.heap.size]? = some (.cells e.cs 63 (0, 0)) := by
        rw [← hwb]; exact setRow_heapG _ _ _ _ _ _ ra
      have bb2 : Below u.heap.size u wb := by
        rw [← hwb, ← hwa]
        exact ((Below.refl _ _).alloc (Nat.le_refl _) _).trans ⟨rfl, rfl, rfl, by simp [World.setRow], fun k hk => setRow_other _ u.heap.size k _ (by omega)⟩
      have KC := Lib.hid (cloneL e wb ((HE2.out.keep (Keeps.of_below bb2)).at_))
      have BB2 := Lib.hid bb2
      obtain ⟨bx, hbx⟩ : ∃ q, u.heap.size = q := ⟨_, rfl⟩
      rw [hbx] at ra hwb rb
      have HWA := Lib.hid hwa
      have HWA2 := Lib.hid (show u.alloc (.cells #[.int .u8 0, .int .u8 0, .int .u16 0, .int .u32 0, .int .u8 0, .int .u8 0, .int .u8 0, .int .u8 0, .int .u8 0, .int .u8 0, .int .u8 0, .int .u32 0, .slice none 0 0, .int .u8 0, .string ⟨#[]⟩, .slice none 0 0, .int .u8 0, .int .u16 0] 63) = wa from hwa)
      have HBW := Lib.hid hwb
      have RA := Lib.hid ra
      have RB := Lib.hid rb
      have HBX := Lib.hid hbx
      have HUB := Lib.hid hub
      have HX := Lib.hid hx
      have HOB := Lib.hid (Le.oneB e)
      clear hwa ra hwb rb bb2 hbx hub hx hkn hkL hbg
      go_wp2_with (first
        | (refine wpList_load_mid rfl 63 (.tmp 12) rfl g (k * 18) (by rfl) e.cs.toList _ HC.out Try.underlying63 rfl (by kernel_rfl) ?_)
        | (rw [HWA.out, HBX.out])
        | (rw [HWA2.out, HBX.out])
        | (refine wpList_store_row rfl 63 (.tmp 4) (.tmp 13) rfl bx e.cs (by rfl) (by rfl) 63 #[.int .u8 0, .int .u8 0, .int .u16 0, .int .u32 0, .int .u8 0, .int .u8 0, .int .u8 0, .int .u8 0, .int .u8 0, .int .u8 0, .int .u8 0, .int .u32 0, .slice none 0 0, .int .u8 0, .string ByteArray.empty, .slice none 0 0, .int .u8 0, .int .u16 0] RA.out (by kernel_rfl) rfl HOB.out ?_; rw [HBW.out])
        | (refine wpList_load_row rfl 63 (.tmp 4) rfl bx (by rfl) 63 e.cs (0, 0) _ RB.out Try.underlying63 rfl (by kernel_rfl) ?_)
        | (go_at_call 40
           refine KC.out.mono ?_
           rintro r w2 ⟨e2, rfl, ve, oe, b2⟩
           have b02 : Below u.heap.size u w2 := BB2.out.trans (b2.mono BB2.out.size)
           have hse := RowO.setE (RowO.below HO.out b02) HZ.out HKN.out e2
           obtain ⟨w3, hw3⟩ : ∃ z, w2.setCells g (k * 18) e2.cs.toList = z := ⟨_, rfl⟩
           have kp : KP (fun j => j = g) w2 w3 := by rw [← hw3]; exact KP.setCells (S := fun j => j = g) rfl _ _ _
           obtain ⟨cur2, hg2⟩ := RowO.block (RowO.below HO.out b02) g rfl
           have kl : KeepL w2 w3 := KeepL.of_KP kp hg2 (by decide) (by decide)
           have B3 : Hid (Below base W w3) := Lib.hid ((BB.out.trans (b02.mono HUB.out)).trans (kp.below (Nat.le_trans HUB.out b02.size) fun j hj => by rw [hj]; exact HBG.out))
           have R3 : Hid (RowO w3 63 18 (.slice (some ⟨g, 0, none⟩) n c1) n (cellsE (Z.set k e2))) := Lib.hid (by rw [← hw3]; exact hse.1)
           have T3 := Lib.hid hse.2
           have L3 : Hid (∀ e ∈ Z.set k e2, LeO e w3) := Lib.hid fun e he => by
             rcases List.mem_or_eq_of_mem_set he with h | h
             · exact (HL.out e h).keepL ((Keeps.of_below b02).l.trans kl)
             · exact h ▸ (LeO.of_own oe).keepL kl
           have M3 : Hid ((Z.set k e2).map Le.v = L.map Le.v) := Lib.hid (by
             rw [List.map_set, ← HM.out, ve]
             refine List.ext_getElem? fun j => ?_
             rw [List.getElem?_set]
             split
             · rename_i h
               subst h
               rw [List.getElem?_map, HX.out]
               have h1 := HZ.out
               have h2 := HKN.out
               simp
               omega
             · rfl)
           have HW3 := Lib.hid hw3
           have HOB2 := Lib.hid (Le.oneB e2)
           clear hse kp kl hg2 b02 b2 oe ve hw3)
        | (refine wpList_store_mid rfl 63 (.tmp 18) (.tmp 17) rfl g (k * 18) e2.cs (by rfl) (by rfl) T3.out (by kernel_rfl) HOB2.out ?_; rw [HW3.out]))
      go_roundw
      case rel => exact ⟨k + 1, Z.set k e2, by go_num, by have := HKN.out; omega, Lib.hid (by rw [List.length_set]; exact HZ.out), M3, R3, HG, L3, B3⟩
      case measure => have := HKN.out; simp [intOf]; omega
    · obtain rfl : n = k := by omega
      have hk1 : ¬ (n : Int) < (n : Int) := by omega
      go_wp2_with fail
      go_ret
      exact ⟨_, rfl, Z, HM.out, ⟨by rw [HZ.out]; exact HO.out, HL.out⟩, fun g hg => (HG.out g hg).1, BB.out⟩

theorem cellsE_flat : ∀ L : List Le, cellsE L = flat Le.cs L
  | [] => rfl
  | e :: L => by
    show e.cs.toList ++ cellsE L = _
    rw [cellsE_flat L]
    rfl
theorem cellsE_drop (L : List Le) (i : Nat) (hi : i ≤ L.length) : (cellsE L).drop (i * 18) = cellsE (L.drop i) := by
  rw [cellsE_flat, cellsE_flat]
  exact flat_drop (f := Le.cs) (sz := 18) (fun _ => rfl) L i hi
theorem cellsE_take (L : List Le) (i : Nat) (hi : i ≤ L.length) : (cellsE L).take (i * 18) = cellsE (L.take i) := by
  rw [cellsE_flat, cellsE_flat]
  exact flat_take (f := Le.cs) (sz := 18) (fun _ => rfl) L i hi
/-- a part of a row. -/
theorem RowO.sub {W : World} {t : TypeId} {g o n c : Nat} {L : List Le} (h : RowO W t 18 (.slice (some ⟨g, o, none⟩) n c) n (cellsE L)) (hl : L.length = n) (i k c' : Nat) (hik : i + k ≤ n) (hk : k ≤ c') (hc : i + c' ≤ c) : RowO W t 18 (.slice (some ⟨g, o + i * 18, none⟩) k c') k (cellsE ((L.drop i).take k)) := by
  have hlen : ((L.drop i).take k).length = k := by simp; omega
  refine ⟨by rw [cellsE_length, hlen], ?_⟩
  rcases h.2 with ⟨h0, _⟩ | ⟨g', o', cap, cur, h1, hg, hnc, hcm, hcs, hcu⟩
  · cases h0
  · cases h1
    refine .inr ⟨g, o + i * 18, c', cur, rfl, hg, hk, by omega, by omega, fun j u hu => ?_⟩
    have hj := (List.getElem?_eq_some_iff.1 hu).1
    rw [cellsE_length, hlen] at hj
    rw [← cellsE_take _ _ (by simp; omega), ← cellsE_drop _ _ (by omega), List.getElem?_take, if_pos hj, List.getElem?_drop] at hu
    rw [Nat.add_assoc]
    exact hcu _ u hu
set_option maxRecDepth 100000 in
set_option maxHeartbeats 2000000 in
theorem rCut (W : World) (b m : Nat) (lb : Option Nat) (d : Rd) (h : RP W b m lb d) (i j : Nat) (hij : i ≤ j) (hj : j ≤ d.L.length) :
    Calls Try.prog 33 #[.pointer (some ⟨b, 0, none⟩), .int .i64 i, .int .i64 j] W fun e W' => ∃ v', e = .returned v' ∧ ∃ L', L'.map Le.v = (d.L.drop i).take (j - i) ∧ EnO W' v' L' ∧ (∀ g, v'.ownBlock = some g → W.heap.size ≤ g) ∧ Below W.heap.size W W' := by
  obtain ⟨⟨mv, lv, Lg⟩, hlb, h⟩ := h
  have hl := h.len
  obtain ⟨A, c, e, h1, h2, h3⟩ := RowO.slice h.row
  dsimp only at e hl hlb
  have few := h.few
  have HLG : Hid (Lg.map Le.v = d.L) := Lib.hid h.lgd
  have HR := Lib.hid h.row
  have HA := Lib.hid h.all
  have c5 := cell_of h.blk 5 lv rfl
  rw [e] at c5
  have HLN := Lib.hid hl
  rw [hl] at c5 h1
  have HCE := Lib.hid e
  have HC1 := Lib.hid h1
  have HJ := Lib.hid hj
  obtain ⟨n, hn⟩ : ∃ n, d.L.length = n := ⟨_, rfl⟩
  rw [hn] at c5 hj h1 few
  have HN := Lib.hid hn
  have hm : c ≤ 9223372036854775807 := by unfold maxLen at h2; omega
  rcases h3 with ⟨rfl, rfl⟩ | ⟨g, o, rfl⟩
  · obtain rfl : n = 0 := by omega
    obtain rfl : j = 0 := by omega
    obtain rfl : i = 0 := by omega
    have K := Lib.hid (rOwn (.slice none 0 0) [] W (EnO.nil W) (by simp))
    clear h hlb e hl hn h1 h2 hij hj few hm
    go_enter Try.func33, Try.ntmps33
    go_wp2_with fail
    refine K.out.mono ?_
    rintro e w1 ⟨v, rfl, L', h1, h2, h3, h4⟩
    have B := Lib.hid h4
    have H3 := Lib.hid h3
    have H2 := Lib.hid h2
    have H1 := Lib.hid h1
    clear h1 h2 h3 h4
    go_wp2_with fail
    go_ret
    refine ⟨_, rfl, L', ?_, H2.out, H3.out, B.out⟩
    rw [H1.out]
    simp
  · have K : Hid (Calls Try.prog 37 #[.slice (some ⟨g, o + i * 18, none⟩) (j - i) (j - i)] W fun e W' => ∃ v', e = .returned v' ∧ ∃ L', L'.map Le.v = (d.L.drop i).take (j - i) ∧ EnO W' v' L' ∧ (∀ g, v'.ownBlock = some g → W.heap.size ≤ g) ∧ Below W.heap.size W W') := Lib.hid (by
      have hr := HR.out
      dsimp only at hr
      rw [HCE.out, HLN.out] at hr
      have hs := RowO.sub hr HLN.out i (j - i) (j - i) (by have := HJ.out; have := HN.out; omega) (Nat.le_refl _) (by have := HC1.out; have := HJ.out; omega)
      have hlen : ((Lg.drop i).take (j - i)).length = j - i := by simp; omega
      have := rOwn (.slice (some ⟨g, o + i * 18, none⟩) (j - i) (j - i)) ((Lg.drop i).take (j - i)) W ⟨by rw [hlen]; exact hs, fun e he => HA.out e (List.mem_of_mem_drop (List.mem_of_mem_take he))⟩ (by rw [hlen]; omega)
      rw [List.map_take, List.map_drop, HLG.out] at this
      exact this)
    have K0 : Hid (Calls Try.prog 37 #[.slice (some ⟨g, o, none⟩) 0 0] W fun e W' => ∃ v', e = .returned v' ∧ ∃ L', L'.map Le.v = [] ∧ EnO W' v' L' ∧ (∀ g, v'.ownBlock = some g → W.heap.size ≤ g) ∧ Below W.heap.size W W') := Lib.hid (by
      have hr := HR.out
      dsimp only at hr
      rw [HCE.out, HLN.out] at hr
      have hs := RowO.sub hr HLN.out 0 0 0 (by omega) (Nat.le_refl _) (by omega)
      exact rOwn (.slice (some ⟨g, o, none⟩) 0 0) [] W ⟨by simpa using hs, fun e he => by cases he⟩ (by simp))
    have HLE := Lib.hid hl
    clear h hlb e hl hn h2
    by_cases hji : j = i
    · subst hji
      go_enter Try.func33, Try.ntmps33
      go_wp2_with fail
      refine K0.out.mono ?_
      rintro e w1 ⟨v, rfl, L', h1, h2, h3, h4⟩
      have B := Lib.hid h4
      have H3 := Lib.hid h3
      have H2 := Lib.hid h2
      have H1 := Lib.hid h1
      clear h1 h2 h3 h4
      go_wp2_with fail
      go_ret
      refine ⟨_, rfl, L', ?_, H2.out, H3.out, B.out⟩
      rw [H1.out]
      simp
    · go_enter Try.func33, Try.ntmps33
      go_wp2_with fail
      refine K.out.mono ?_
      rintro e w1 ⟨v, rfl, L', h1, h2, h3, h4⟩
      have B := Lib.hid h4
      have H3 := Lib.hid h3
      have H2 := Lib.hid h2
      have H1 := Lib.hid h1
      clear h1 h2 h3 h4
      go_wp2_with fail
      go_ret
      exact ⟨_, rfl, L', H1.out, H2.out, H3.out, B.out⟩
set_option maxRecDepth 100000 in
set_option maxHeartbeats 2000000 in
theorem rLog (W : World) (b m : Nat) (lb : Option Nat) (d : Rd) (h : RP W b m lb d) :
    Calls Try.prog 27 #[.pointer (some ⟨b, 0, none⟩)] W fun e W' => ∃ v', e = .returned v' ∧ ∃ L', L'.map Le.v = d.L ∧ EnO W' v' L' ∧ (∀ g, v'.ownBlock = some g → W.heap.size ≤ g) ∧ Below W.heap.size W W' := by
  have K1 := Lib.hid (rMade W b m lb d h)
  obtain ⟨w, hlb, hq⟩ := id h
  have K : Hid (Calls Try.prog 33 #[.pointer (some ⟨b, 0, none⟩), .int .i64 (0), .int .i64 d.L.length] W fun e W' => ∃ v', e = .returned v' ∧ ∃ L', L'.map Le.v = d.L ∧ EnO W' v' L' ∧ (∀ g, v'.ownBlock = some g → W.heap.size ≤ g) ∧ Below W.heap.size W W') := Lib.hid (by
    refine (rCut W b m lb d h 0 d.L.length (Nat.zero_le _) (Nat.le_refl _)).mono ?_
    rintro e w' ⟨v, h1, L', h2, h3⟩
    refine ⟨v, h1, L', h2.trans ?_, h3⟩
    try rw [List.drop_zero]
    exact List.take_of_length_le (by simp))
  obtain ⟨A, c, e, h1, h2, h3⟩ := RowO.slice hq.row
  have hl := hq.len
  rw [hl] at e h1
  have c4 := cell_of hq.blk 5 w.lv rfl
  rw [e] at c4
  have c6 := cell_of hq.blk 6 (.int .i64 d.base) rfl
  clear h hlb hq hl e
  have q : ∀ (W : World) (ty : TypeId), (Builtin.len_ #[37] ty #[.slice A d.L.length c]).run Try.prog W = .ok (.int .i64 d.L.length) W := fun W ty => by first | rfl | go_simp
  obtain ⟨n, hn⟩ : ∃ n, d.L.length = n := ⟨_, rfl⟩
  rw [hn] at K c4 q h1
  obtain ⟨bs, hbs⟩ : ∃ n, d.base = n := ⟨_, rfl⟩
  try rw [hbs] at K
  rw [hbs] at c6
  have HBS := Lib.hid hbs
  clear hbs hn
  go_enter Try.func27, Try.ntmps27
  go_wp2_with (first
    | (go_at_call 32; refine K1.out.mono ?_; rintro e w1 ⟨rfl, rfl⟩)
    | (go_at_call 33; refine K.out.mono ?_; rintro e w1 ⟨v, rfl, L', k1, k2, k3, k4⟩; have H1 := Lib.hid k1; have H2 := Lib.hid k2; have H3 := Lib.hid k3; have B := Lib.hid k4; clear k1 k2 k3 k4)
    | fail)
  go_ret
  exact ⟨_, rfl, L', H1.out, H2.out, H3.out, B.out⟩
set_option maxRecDepth 100000 in
set_option maxHeartbeats 2000000 in
theorem rTail (W : World) (b m : Nat) (lb : Option Nat) (d : Rd) (h : RP W b m lb d) :
    Calls Try.prog 12 #[.pointer (some ⟨b, 0, none⟩)] W fun e W' => ∃ v', e = .returned v' ∧ ∃ L', L'.map Le.v = (d.L.drop d.base) ∧ EnO W' v' L' ∧ (∀ g, v'.ownBlock = some g → W.heap.size ≤ g) ∧ Below W.heap.size W W' := by
  have K1 := Lib.hid (rMade W b m lb d h)
  obtain ⟨w, hlb, hq⟩ := id h
  have K : Hid (Calls Try.prog 33 #[.pointer (some ⟨b, 0, none⟩), .int .i64 (d.base), .int .i64 d.L.length] W.drew fun e W' => ∃ v', e = .returned v' ∧ ∃ L', L'.map Le.v = (d.L.drop d.base) ∧ EnO W' v' L' ∧ (∀ g, v'.ownBlock = some g → W.heap.size ≤ g) ∧ Below W.heap.size W W') := Lib.hid (by
    refine (rCut W.drew b m lb d (h.below (Below.refl _ _).drew) d.base d.L.length hq.hb (Nat.le_refl _)).mono ?_
    rintro e w' ⟨v, h1, L', h2, h3⟩
    obtain ⟨h3, h4, h5⟩ := h3
    refine ⟨v, h1, L', h2.trans ?_, h3, h4, (Below.refl _ _).drew.trans h5⟩
    try rw [List.drop_zero]
    exact List.take_of_length_le (by simp))
  obtain ⟨A, c, e, h1, h2, h3⟩ := RowO.slice hq.row
  have hl := hq.len
  rw [hl] at e h1
  have c4 := cell_of hq.blk 5 w.lv rfl
  rw [e] at c4
  have R0 : Hid (W.drew.heap[b]? = some (.cells #[.int .u8 d.g, .int .u32 d.N, w.mv, .int .u8 d.me.n, .int .u16 d.me.l, .slice A d.L.length c, .int .i64 d.base, .int .i64 d.commit, .bool d.shut, .map (some m)] 81 (0, 0))) := Lib.hid (by
    have := hq.blk
    unfold Rd.cs at this
    rw [e] at this
    exact this)
  have c6 := cell_of hq.blk 6 (.int .i64 d.base) rfl
  clear h hlb hq hl e
  have q : ∀ (W : World) (ty : TypeId), (Builtin.len_ #[37] ty #[.slice A d.L.length c]).run Try.prog W = .ok (.int .i64 d.L.length) W := fun W ty => by first | rfl | go_simp
  obtain ⟨n, hn⟩ : ∃ n, d.L.length = n := ⟨_, rfl⟩
  rw [hn] at K c4 q h1 R0
  obtain ⟨bs, hbs⟩ : ∃ n, d.base = n := ⟨_, rfl⟩
  try rw [hbs] at K
  rw [hbs] at c6 R0
  have HBS := Lib.hid hbs
  clear hbs hn
  go_enter Try.func12, Try.ntmps12
  go_wp2_with (first
    | (go_at_call 32; refine K1.out.mono ?_; rintro e w1 ⟨rfl, rfl⟩)
    | fail)
  refine region_heldT (S := fun u => u.heap[b]? = some (.cells #[.int .u8 d.g, .int .u32 d.N, w.mv, .int .u8 d.me.n, .int .u16 d.me.l, .slice A n c, .int .i64 bs, .int .i64 d.commit, .bool d.shut, .map (some m)] 81 (0, 0))) 11 (by kernel_rfl) (by decide) (fun inv => ?_)
  have HS := R0.out
  change FirstH _ _ _ _ _ _ _ _ _ _ W.drew
  refine FirstH.go (i := 0) (v := .pointer (some ⟨b, 0, none⟩)) rfl rfl 6 rfl (Op.move (Operand.tmp 0)) rfl (by kernel_rfl) (fun _ _ _ h => h) inv (fun W hS => by unfold bareO; go_simp) HS (fun inv => ?_)
  try simp only [Act.put, List.setIfInBounds_toArray, List.set_cons_zero, List.set_cons_succ]
  refine FirstH.go (i := 1) (v := .pointer (some ⟨b, 0, none⟩)) rfl rfl 7 rfl (Op.move (Operand.tmp 0)) rfl (by kernel_rfl) (fun _ _ _ h => h) inv (fun W hS => by unfold bareO; go_simp) HS (fun inv => ?_)
  try simp only [Act.put, List.setIfInBounds_toArray, List.set_cons_zero, List.set_cons_succ]
  refine FirstH.go (i := 2) (v := .pointer (some ⟨b, 0, none⟩)) rfl rfl 8 rfl (Op.nilCheck (Operand.tmp 7)) rfl (by kernel_rfl) (fun _ _ _ h => h) inv (fun W hS => by unfold bareO; go_simp) HS (fun inv => ?_)
  try simp only [Act.put, List.setIfInBounds_toArray, List.set_cons_zero, List.set_cons_succ]
  refine FirstH.go (i := 3) (v := .pointer (some ⟨b, 6, none⟩)) rfl rfl 9 rfl (Op.fieldAddr 81 (Operand.tmp 8) 3) rfl (by kernel_rfl) (fun _ _ _ h => h) inv (fun W hS => by unfold bareO; go_simp) HS (fun inv => ?_)
  try simp only [Act.put, List.setIfInBounds_toArray, List.set_cons_zero, List.set_cons_succ]
  refine FirstH.go (i := 4) (v := .int .i64 bs) rfl rfl 10 rfl (Op.load 3 (Operand.tmp 9)) rfl (by kernel_rfl) (fun _ _ _ h => h) inv (fun W hS => by have k5 := cell_of hS 5 (.slice A n c) rfl; have k6 := cell_of hS 6 (.int .i64 bs) rfl; unfold bareO; go_simp) HS (fun inv => ?_)
  try simp only [Act.put, List.setIfInBounds_toArray, List.set_cons_zero, List.set_cons_succ]
  refine FirstH.go (i := 5) (v := .pointer (some ⟨b, 0, none⟩)) rfl rfl 11 rfl (Op.move (Operand.tmp 0)) rfl (by kernel_rfl) (fun _ _ _ h => h) inv (fun W hS => by unfold bareO; go_simp) HS (fun inv => ?_)
  try simp only [Act.put, List.setIfInBounds_toArray, List.set_cons_zero, List.set_cons_succ]
  refine FirstH.go (i := 6) (v := .pointer (some ⟨b, 0, none⟩)) rfl rfl 12 rfl (Op.nilCheck (Operand.tmp 11)) rfl (by kernel_rfl) (fun _ _ _ h => h) inv (fun W hS => by unfold bareO; go_simp) HS (fun inv => ?_)
  try simp only [Act.put, List.setIfInBounds_toArray, List.set_cons_zero, List.set_cons_succ]
  refine FirstH.go (i := 7) (v := .pointer (some ⟨b, 5, none⟩)) rfl rfl 13 rfl (Op.fieldAddr 81 (Operand.tmp 12) 2) rfl (by kernel_rfl) (fun _ _ _ h => h) inv (fun W hS => by unfold bareO; go_simp) HS (fun inv => ?_)
  try simp only [Act.put, List.setIfInBounds_toArray, List.set_cons_zero, List.set_cons_succ]
  refine FirstH.go (i := 8) (v := .slice A n c) rfl rfl 14 rfl (Op.load 37 (Operand.tmp 13)) rfl (by kernel_rfl) (fun _ _ _ h => h) inv (fun W hS => by have k5 := cell_of hS 5 (.slice A n c) rfl; have k6 := cell_of hS 6 (.int .i64 bs) rfl; unfold bareO; go_simp) HS (fun inv => ?_)
  try simp only [Act.put, List.setIfInBounds_toArray, List.set_cons_zero, List.set_cons_succ]
  refine FirstH.go (i := 9) (v := .int .i64 n) rfl rfl 15 rfl (Op.call { callee := Callee.builtin Builtin.len, args := #[Operand.tmp 14], argTypes := #[37] }) rfl (by kernel_rfl) (fun _ _ _ h => h) inv (fun W hS => by have q := q W; unfold bareO; go_simp) HS (fun inv => ?_)
  try simp only [Act.put, List.setIfInBounds_toArray, List.set_cons_zero, List.set_cons_succ]
  refine FirstH.only (i := 10) (by kernel_rfl) (by decide) inv (fun inv => wpOp_call (i := 10) rfl rfl 16 rfl (Op.call { callee := Callee.value (.func 33), args := #[Operand.tmp 6, Operand.tmp 10, Operand.tmp 15], argTypes := #[36, 3, 3] }) rfl 33 #[.pointer (some ⟨b, 0, none⟩), .int .i64 bs, .int .i64 n] (by unfold bareO; go_simp) (K.out) ?_)
  rintro e w1 ⟨v, rfl, L', k1, k2, k3, k4⟩
  have H1 := Lib.hid k1
  have H2 := Lib.hid k2
  have H3 := Lib.hid k3
  have B := Lib.hid k4
  have hb2 : w1.heap[b]? = W.heap[b]? := k4.block b (heap_lt HS)
  refine ⟨_, rfl, hb2.trans HS, ?_⟩
  try simp only [Act.put, List.setIfInBounds_toArray, List.set_cons_zero, List.set_cons_succ]
  refine ⟨by kernel_rfl, ?_⟩
  simp only [List.drop_succ_cons, List.drop_zero]
  go_wp2_with fail
  go_ret
  exact ⟨_, rfl, L', H1.out.trans (by rw [HBS.out]), H2.out, H3.out, B.out⟩

end Go.Proofs.Ytjdmjiikpnlkjaa
