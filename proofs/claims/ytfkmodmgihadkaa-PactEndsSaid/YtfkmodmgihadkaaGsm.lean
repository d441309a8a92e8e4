/-
  Equal lists of processes and of entries, equal values are the same: by exact answers. Condition: they lie in memory.
-/
import Derived.Test.YtfkmodmgihadkaaGvl
import Derived.Test.YtfkmodmgihadkaaEeq
import Derived.Test.YtfkmodmgihadkaaVsam
import Derived.Deep.MidRow
import Derived.LoopN
namespace Go.Proofs.Ytfkmodmgihadkaa
set_option linter.unusedSimpArgs false
set_option linter.unusedVariables false
open Go.RowKit Go.Maps Go.Sort
open V (P2)

set_option maxRecDepth 100000 in
set_option maxHeartbeats 2000000 in
theorem equalV (A1 A2 : Option Addr) (X : List P2) (c d : Nat) (w : World) (hr : V.RowsV w w.heap.size A1 X) (hs : V.RowsV w w.heap.size A2 X) (hc : X.length ≤ c) (hm : c ≤ maxLen) (hd : X.length ≤ d) (hn : d ≤ maxLen) :
    Calls Try.prog 26 #[.slice A1 X.length c, .slice A2 X.length d] w fun e w' => e = .returned (.bool true) ∧ Below w.heap.size w w' := by
  unfold maxLen at hm hn
  have neqOP : ∀ (x : P2) (w : World), Sem.run Try.prog (binOp .neq 54 (.agg #[.int .u8 x.n, .int .u16 x.l]) (.agg #[.int .u8 x.n, .int .u16 x.l])) w = .ok (.bool false) w := fun x w => by
    have hS : Try.prog.underlying 54 = some (.struct (Try.prog.fieldsOf 54)) := by kernel_rfl
    have hp : Try.prog.stoodInHeld 54 = false := by kernel_rfl
    have u0 := Try.underlying5
    have a0 := Try.isAgg5
    have z0 := Try.sizeOf5
    have u1 := Try.underlying52
    have a1 := Try.isAgg52
    have z1 := Try.sizeOf52
    rw [run_neq_struct, show (10000 : Nat) = 9999 + 1 from rfl, run_equalIn_agg w 9999 54 _ _ hS hp]
    simp only [Program.fieldsOf, Try.underlying54]
    go_simp
  go_enter Try.func26, Try.ntmps26
  go_wp2
  go_loopw [13] (fun i wx => ∃ k : Nat, k ≤ X.length ∧ i = .int .i64 k ∧ Hid (Below w.heap.size w wx)) (fun i _ => X.length - (intOf i).toNat)
  case atStart => exact ⟨0, by omega, rfl, Lib.hid (Below.refl _ _)⟩
  case round =>
    obtain ⟨k, hk, rfl, B⟩ := hrel
    by_cases hlt : k < X.length
    · obtain ⟨b, o, rfl, hb, C⟩ := hr.at_ hlt
      obtain ⟨b2, o2, rfl, hb2, C2⟩ := hs.at_ hlt
      obtain ⟨c0, c1⟩ := C.below B.out hb
      obtain ⟨d0, d1⟩ := C2.below B.out hb2
      generalize X[k] = x at *
      clear hr hs C C2
      have hji : (k : Int) < (X.length : Int) := by omega
      have hj0 : (0 : Int) ≤ (k : Int) := by omega
      have hci : (X.length : Int) ≤ (c : Int) := by omega
      have hdi : (X.length : Int) ≤ (d : Int) := by omega
      have hne := neqOP x
      go_wp2
      go_quiet (fail)
      clear hne
      go_wp2
      go_roundw
      case rel => exact ⟨k + 1, by omega, by go_num, Lib.hid (Below.drewsN B.out)⟩
      case measure => simp [intOf]; omega
    · have hkk : k = X.length := by omega
      subst hkk
      go_wp2
      go_ret
      exact ⟨rfl, B.out⟩

theorem run_load_midO {P : Program} {a : Act} {W : World} (ty t0 : TypeId) (x : Operand) (b o : Nat) (hx : a.eval x = .pointer (some ⟨b, o, none⟩)) (cs : List Value) (d : TypeDesc) (hc : W.rangeAt b o cs)
    (hu : P.underlying ty = some d) (hd : d.isRow = true) (hi : (P.info? ty).map (·.size) = some cs.length) : (execOp a.eval (bareO (.load ty x) t0)).run P W = .ok (.value (.agg cs.toArray)) W := by
  unfold bareO execOp
  simp only [hx, Instr.loadAt, Instr.sureAddr, Sem.run_bind, Sem.run_pure, Result.andThen_ok, run_loadVar_mid W b o ty cs d hc hu hd hi]
theorem sameLL (e e2 : Le) (w : World) (h : e.At w w.heap.size) (h2 : e2.At w w.heap.size) (hv : e2.v = e.v) :
    Calls Try.prog 37 #[.agg e.cs, .agg e2.cs] w fun r w' => r = .returned (.bool true) ∧ Below w.heap.size w w' := by
  obtain ⟨x, A, X, c, B, Y, d⟩ := e
  obtain ⟨x2, A2, X2, c2, B2, Y2, d2⟩ := e2
  simp only [Le.v, Prod.mk.injEq] at hv
  obtain ⟨rfl, rfl, rfl⟩ := hv
  exact sameE x2 A B A2 B2 X2 Y2 c d c2 d2 w h.rp h.rw_ h2.rp h2.rw_ h.hc h.hm h.hd h.hn h2.hc h2.hm h2.hd h2.hn
/-- an entry of a row. -/
theorem RowsE.rng {W : World} {B b o : Nat} {L : List Le} (h : RowsE W B (some ⟨b, o, none⟩) L) {k : Nat} {e : Le} (hk : L[k]? = some e) : W.rangeAt b (o + k * 18) e.cs.toList ∧ e.At W B := by
  obtain ⟨b', o', e', _, hc⟩ := h (by rintro rfl; simp at hk)
  cases e'
  exact ⟨fun j u hj => (hc k e hk).1 j u (by rw [← Array.getElem?_toList]; exact hj), (hc k e hk).2⟩
theorem RowsE.plc {W : World} {B : Nat} {A : Option Addr} {L : List Le} (h : RowsE W B A L) {k : Nat} (hk : k < L.length) : ∃ b o, A = some ⟨b, o, none⟩ := by
  obtain ⟨b', o', e', _, _⟩ := h (by rintro rfl; simp at hk)
  exact ⟨b', o', e'⟩
theorem same_at {L M : List Le} (h : M.map Le.v = L.map Le.v) {k : Nat} {e e2 : Le} (h1 : L[k]? = some e) (h2 : M[k]? = some e2) : e2.v = e.v := by
  have := congrArg (fun l => l[k]?) h
  simpa [h1, h2] using this

set_option maxRecDepth 100000 in
set_option maxHeartbeats 2000000 in
theorem eqFuncE (A1 A2 : Option Addr) (L M : List Le) (c d : Nat) (W : World) (hr : RowsE W W.heap.size A1 L) (hs : RowsE W W.heap.size A2 M) (hv : M.map Le.v = L.map Le.v) (hc : L.length ≤ c) (hm : c ≤ maxLen) (hd : M.length ≤ d) (hn : d ≤ maxLen) :
    Calls Try.prog 36 #[.slice A1 L.length c, .slice A2 M.length d, .func (.func 37) #[] #[]] W fun e w' => e = .returned (.bool true) ∧ Below W.heap.size W w' := by
  have hlen : M.length = L.length := by
    have := congrArg List.length hv
    simpa using this
  rw [hlen] at hd ⊢
  obtain ⟨n, hn⟩ : ∃ n, L.length = n := ⟨_, rfl⟩
  rw [hn] at hlen hc hd ⊢
  have HN := Lib.hid hn
  have HM := Lib.hid hlen
  have HR := Lib.hid hr
  have HS := Lib.hid hs
  have HV := Lib.hid hv
  obtain ⟨base, hbase⟩ : ∃ x, W.heap.size = x := ⟨_, rfl⟩
  have HSZ : Hid (base = W.heap.size) := Lib.hid hbase.symm
  have hn2 : n ≤ 9223372036854775807 := by unfold maxLen at hm; omega
  have HC : Hid (n ≤ c ∧ n ≤ d ∧ c ≤ maxLen) := Lib.hid ⟨hc, hd, hm⟩
  rw [hbase]
  clear hr hs hv hn hlen hbase hc hd hm
  go_enter Try.func36, Try.ntmps36
  go_wp2_with fail
  go_loopw [17] (fun z wx => ∃ k : Nat, z = .int .i64 k ∧ k ≤ n ∧ Hid (Below base W wx)) (fun z _ => n - (intOf z).toNat)
  case atStart => exact ⟨0, rfl, by omega, Lib.hid (by rw [HSZ.out]; exact Below.refl _ _)⟩
  case round =>
    obtain ⟨k, rfl, hk, BB⟩ := hrel
    obtain ⟨u, hu⟩ : ∃ z : World, z = wr := ⟨_, rfl⟩
    subst hu
    by_cases hkn : k < n
    · as_aux_lemma =>
      skip
      have HKN := Lib.hid hkn
      have hk1 : (k : Int) < (n : Int) := by omega
      have hk0 : (0 : Int) ≤ (k : Int) := by omega
      have hkL : k < L.length := by rw [HN.out]; exact hkn
      have hkM : k < M.length := by rw [HM.out]; exact hkn
      obtain ⟨g, o, rfl⟩ := HR.out.plc hkL
      obtain ⟨g2, o2, rfl⟩ := HS.out.plc hkM
      obtain ⟨e, hx⟩ : ∃ e, L[k]? = some e := ⟨_, List.getElem?_eq_getElem hkL⟩
      obtain ⟨e2, hy⟩ : ∃ e, M[k]? = some e := ⟨_, List.getElem?_eq_getElem hkM⟩
      have hub : base ≤ u.heap.size := by rw [HSZ.out]; exact BB.out.size
      have bW : Below W.heap.size W u := by rw [← HSZ.out]; exact BB.out
      have HC1 : Hid (u.rangeAt g (o + k * 18) e.cs.toList) := Lib.hid ((HR.out.below bW (Nat.le_refl _) bW.size).rng hx).1
      have at1 := ((HR.out.below bW (Nat.le_refl _) bW.size).rng hx).2
      have hc2 := ((HS.out.below bW (Nat.le_refl _) bW.size).rng hy).1
      have at2 := ((HS.out.below bW (Nat.le_refl _) bW.size).rng hy).2
      -- the first box
      obtain ⟨wa, hwa⟩ : ∃ z, u.alloc (.cells #[.int .u8 0, .int .u8 0, .int .u16 0, .int .u32 0, .int .u8 0, .int .u8 0, .int .u8 0, .int .u8 0, .int .u8 0, .int .u8 0, .int .u8 0, .int .u32 0, .slice none 0 0, .int .u8 0, .string ByteArray.empty, .slice none 0 0, .int .u8 0, .int .u16 0] 93) = z := ⟨_, rfl⟩
      have ra : wa.heap[u.heap.size]? = some (.cells #[.int .u8 0, .int .u8 0, .int .u16 0, .int .u32 0, .int .u8 0, .int .u8 0, .int .u8 0, .int .u8 0, .int .u8 0, .int .u8 0, .int .u8 0, .int .u32 0, .slice none 0 0, .int .u8 0, .string ByteArray.empty, .slice none 0 0, .int .u8 0, .int .u16 0] 93 (0, 0)) := by rw [← hwa]; exact heap_alloc_new _ _
      obtain ⟨wb, hwb⟩ : ∃ z, wa.setRow u.heap.size e.cs = z := ⟨_, rfl⟩
      have rb : wb.heap[u.heap.size]? = some (.cells e.cs 93 (0, 0)) := by rw [← hwb]; exact setRow_heapG _ _ _ _ _ _ ra
      have bb2 : Below u.heap.size u wb := by
        rw [← hwb, ← hwa]
        exact ((Below.refl _ _).alloc (Nat.le_refl _) _).trans ⟨rfl, rfl, rfl, by simp [World.setRow], fun k hk => setRow_other _ u.heap.size k _ (by omega)⟩
      have HC2 : Hid (wb.rangeAt g2 (o2 + k * 18) e2.cs.toList) := Lib.hid fun j v hj => by
        have := hc2 j v hj
        exact (bb2.cell (p := ⟨g2, _, none⟩) (World.block_lt_of_cell? _ _ this)).trans this
      obtain ⟨bx, hbx⟩ : ∃ q, u.heap.size = q := ⟨_, rfl⟩
      have hbl : bx < wb.heap.size := (Array.getElem?_eq_some_iff.1 (hbx ▸ rb)).1
      -- the second box
      obtain ⟨wc, hwc⟩ : ∃ z, wb.alloc (.cells #[.int .u8 0, .int .u8 0, .int .u16 0, .int .u32 0, .int .u8 0, .int .u8 0, .int .u8 0, .int .u8 0, .int .u8 0, .int .u8 0, .int .u8 0, .int .u32 0, .slice none 0 0, .int .u8 0, .string ByteArray.empty, .slice none 0 0, .int .u8 0, .int .u16 0] 93) = z := ⟨_, rfl⟩
      have rc : wc.heap[wb.heap.size]? = some (.cells #[.int .u8 0, .int .u8 0, .int .u16 0, .int .u32 0, .int .u8 0, .int .u8 0, .int .u8 0, .int .u8 0, .int .u8 0, .int .u8 0, .int .u8 0, .int .u32 0, .slice none 0 0, .int .u8 0, .string ByteArray.empty, .slice none 0 0, .int .u8 0, .int .u16 0] 93 (0, 0)) := by rw [← hwc]; exact heap_alloc_new _ _
      obtain ⟨wd, hwd⟩ : ∃ z, wc.setRow wb.heap.size e2.cs = z := ⟨_, rfl⟩
      have rd : wd.heap[wb.heap.size]? = some (.cells e2.cs 93 (0, 0)) := by rw [← hwd]; exact setRow_heapG _ _ _ _ _ _ rc
      have bd : Below wb.heap.size wb wd := by
        rw [← hwd, ← hwc]
        exact ((Below.refl _ _).alloc (Nat.le_refl _) _).trans ⟨rfl, rfl, rfl, by simp [World.setRow], fun k hk => setRow_other _ wb.heap.size k _ (by omega)⟩
      have rb2 : wd.heap[bx]? = some (.cells e.cs 93 (0, 0)) := (bd.block bx hbl).trans (hbx ▸ rb)
      have bud : Below u.heap.size u wd := bb2.trans (bd.mono bb2.size)
      have KC := Lib.hid (sameLL e e2 wd (at1.below bud (Nat.le_refl _) bud.size) (at2.below bud (Nat.le_refl _) bud.size) (same_at HV.out hx hy))
      have BUD := Lib.hid bud
      obtain ⟨by_, hby⟩ : ∃ q, wb.heap.size = q := ⟨_, rfl⟩
      rw [hbx] at ra hwb
      rw [hby] at rc hwd rd
      have HWA := Lib.hid hwa
      have HWA2 := Lib.hid (show u.alloc (.cells #[.int .u8 0, .int .u8 0, .int .u16 0, .int .u32 0, .int .u8 0, .int .u8 0, .int .u8 0, .int .u8 0, .int .u8 0, .int .u8 0, .int .u8 0, .int .u32 0, .slice none 0 0, .int .u8 0, .string ⟨#[]⟩, .slice none 0 0, .int .u8 0, .int .u16 0] 93) = wa from hwa)
      have HWC := Lib.hid hwc
      have HWC2 := Lib.hid (show wb.alloc (.cells #[.int .u8 0, .int .u8 0, .int .u16 0, .int .u32 0, .int .u8 0, .int .u8 0, .int .u8 0, .int .u8 0, .int .u8 0, .int .u8 0, .int .u8 0, .int .u32 0, .slice none 0 0, .int .u8 0, .string ⟨#[]⟩, .slice none 0 0, .int .u8 0, .int .u16 0] 93) = wc from hwc)
      have HBW := Lib.hid hwb
      have HWD := Lib.hid hwd
      have RA := Lib.hid ra
      have RC := Lib.hid rc
      have RD := Lib.hid rd
      have RB2 := Lib.hid rb2
      have HBX := Lib.hid hbx
      have HBY := Lib.hid hby
      have HUB := Lib.hid hub
      have HO1 := Lib.hid (Le.oneB e)
      have HO2 := Lib.hid (Le.oneB e2)
      clear hwa ra hwb rb bb2 hbx hub hx hy hkn hkL hkM bW at1 at2 hc2 hwc rc hwd rd bd rb2 bud hby hbl
      go_wp2_with (first
        | (refine wpList_load_mid rfl 93 (.tmp 20) rfl g (o + k * 18) (by rfl) e.cs.toList _ HC1.out Try.underlying93 rfl (by kernel_rfl) ?_)
        | (refine wpList_load_mid rfl 93 (.tmp 24) rfl g2 (o2 + k * 18) (by rfl) e2.cs.toList _ HC2.out Try.underlying93 rfl (by kernel_rfl) ?_)
        | (rw [HWA.out, HBX.out])
        | (rw [HWA2.out, HBX.out])
        | (rw [HWC.out, HBY.out])
        | (rw [HWC2.out, HBY.out])
        | (refine wpList_store_row rfl 93 (.tmp 8) (.tmp 21) rfl bx e.cs (by rfl) (by rfl) 93 #[.int .u8 0, .int .u8 0, .int .u16 0, .int .u32 0, .int .u8 0, .int .u8 0, .int .u8 0, .int .u8 0, .int .u8 0, .int .u8 0, .int .u8 0, .int .u32 0, .slice none 0 0, .int .u8 0, .string ByteArray.empty, .slice none 0 0, .int .u8 0, .int .u16 0] RA.out (by kernel_rfl) rfl HO1.out ?_; rw [HBW.out])
        | (refine wpList_store_row rfl 93 (.tmp 9) (.tmp 25) rfl by_ e2.cs (by rfl) (by rfl) 93 #[.int .u8 0, .int .u8 0, .int .u16 0, .int .u32 0, .int .u8 0, .int .u8 0, .int .u8 0, .int .u8 0, .int .u8 0, .int .u8 0, .int .u8 0, .int .u32 0, .slice none 0 0, .int .u8 0, .string ByteArray.empty, .slice none 0 0, .int .u8 0, .int .u16 0] RC.out (by kernel_rfl) rfl HO2.out ?_; rw [HWD.out])
        | (refine wpList_load_row rfl 93 (.tmp 8) rfl bx (by rfl) 93 e.cs (0, 0) _ RB2.out Try.underlying93 rfl (by kernel_rfl) ?_)
        | (refine wpList_load_row rfl 93 (.tmp 9) rfl by_ (by rfl) 93 e2.cs (0, 0) _ RD.out Try.underlying93 rfl (by kernel_rfl) ?_)
        | (go_at_call 37
           refine KC.out.mono ?_
           rintro r w9 ⟨rfl, b9⟩
           have B9 := Lib.hid (BB.out.trans ((BUD.out.trans (b9.mono BUD.out.size)).mono HUB.out))
           clear b9))
      go_roundw
      case rel => exact ⟨k + 1, by go_num, by have := HKN.out; omega, B9⟩
      case measure => have := HKN.out; simp [intOf]; omega
    · obtain rfl : n = k := by omega
      have hk1 : ¬ (n : Int) < (n : Int) := by omega
      go_wp2_with fail
      go_ret
      exact ⟨rfl, BB.out⟩

theorem sameAllE (A1 A2 : Option Addr) (L M : List Le) (c d : Nat) (W : World) (hr : RowsE W W.heap.size A1 L) (hs : RowsE W W.heap.size A2 M) (hv : M.map Le.v = L.map Le.v) (hc : L.length ≤ c) (hm : c ≤ maxLen) (hd : M.length ≤ d) (hn : d ≤ maxLen) :
    Calls Try.prog 27 #[.slice A1 L.length c, .slice A2 M.length d] W fun e w' => e = .returned (.bool true) ∧ Below W.heap.size W w' := by
  have K := Lib.hid (eqFuncE A1 A2 L M c d W hr hs hv hc hm hd hn)
  obtain ⟨n, hn'⟩ : ∃ n, L.length = n := ⟨_, rfl⟩
  obtain ⟨m, hm'⟩ : ∃ n, M.length = n := ⟨_, rfl⟩
  rw [hn', hm'] at K ⊢
  clear hr hs hv hc hm hd hn
  go_enter Try.func27, Try.ntmps27
  go_wp2_with (go_at_call 36; refine K.out.mono ?_; rintro e w1 ⟨rfl, b1⟩; have B1 := Lib.hid b1)
  go_ret
  exact ⟨rfl, B1.out⟩

end Go.Proofs.Ytfkmodmgihadkaa
