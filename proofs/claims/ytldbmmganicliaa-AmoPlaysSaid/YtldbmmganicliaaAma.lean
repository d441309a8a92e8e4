/-
  The program's table of calls in memory: two maps, one has each row at its call, one has each floor at its process; look-ups in both. Condition: the table lies in memory, numbers fit their kinds.
-/
import Derived.Test.YtldbmmganicliaaAda
import Derived.Test.YtldbmmganicliaaAdf
import Derived.Test.YtldbmmganicliaaKey
import Derived.Maps.AppendAt
import Derived.Maps.Views
import Derived.Handy
namespace Go.Proofs.Ytldbmmganicliaa
set_option linter.unusedSimpArgs false
set_option linter.unusedVariables false
open Go.RowKit Go.Maps Go.Sort

/-- a map has just what a list has, each at its own key. -/
structure MapG {α : Type} (key : α → Lit) (dat : α → DataW Unit) (D : DataW Unit) (T : List α) : Prop where
  apart : T.Pairwise fun x y => key x ≠ key y
  all : ∀ kl, has D kl = true → ∃ x ∈ T, kl = key x
  has_ : ∀ x ∈ T, has D (key x) = true
  at_ : ∀ x ∈ T, ∀ z, D.atKey (key x) z = dat x
  size : Maps.size D = T.length
section
variable {α : Type} {key : α → Lit} {dat : α → DataW Unit} {D : DataW Unit} {T T' : List α}
theorem MapG.perm (h : MapG key dat D T) (hp : T'.Perm T) : MapG key dat D T' :=
  ⟨hp.symm.pairwise h.apart (fun {_ _} hne e => hne e.symm), fun kl hk => by
    obtain ⟨x, hx, e⟩ := h.all kl hk
    exact ⟨x, hp.mem_iff.2 hx, e⟩, fun x hx => h.has_ x (hp.mem_iff.1 hx), fun x hx => h.at_ x (hp.mem_iff.1 hx), by rw [h.size, hp.length_eq]⟩
theorem MapG.nil : MapG key dat (.map []) [] := ⟨List.Pairwise.nil, (fun kl h => by cases h), (fun _ h => by cases h), (fun _ h => by cases h), rfl⟩
theorem MapG.hasnt (h : MapG key dat D T) {k : Lit} (hn : ∀ y ∈ T, key y ≠ k) : has D k = false := by
  cases hh : has D k with
  | false => rfl
  | true =>
    obtain ⟨y, hy, e⟩ := h.all _ hh
    exact absurd e.symm (hn y hy)
theorem MapG.del {x : α} (h : MapG key dat D (x :: T)) (hT : Tidy D) : MapG key dat (D.del (key x)) T := by
  obtain ⟨h1, h2⟩ := List.pairwise_cons.1 h.apart
  refine ⟨h2, fun kl hk => ?_, fun y hy => ?_, fun y hy z => ?_, ?_⟩
  · by_cases e : kl = key x
    · rw [e, has_del_same] at hk
      cases hk
    · rw [has_del_other e] at hk
      obtain ⟨y, hy, ey⟩ := h.all kl hk
      rcases List.mem_cons.1 hy with rfl | hy
      · exact absurd ey e
      · exact ⟨y, hy, ey⟩
  · rw [has_del_other fun e => h1 y hy e.symm]
    exact h.has_ y (List.mem_cons_of_mem _ hy)
  · rw [atKey_del_other fun e => h1 y hy e.symm]
    exact h.at_ y (List.mem_cons_of_mem _ hy) z
  · have hs := size_del (k := key x) hT
    rw [h.has_ x (List.mem_cons_self ..), h.size] at hs
    simp at hs
    omega
theorem MapG.putNew (h : MapG key dat D T) (hT : Tidy D) (hI : IsMap D) (x : α) (hkey : WideAt.IsKeyLit (key x)) (hn : ∀ y ∈ T, key y ≠ key x) : MapG key dat (D.put (key x) (dat x)) (x :: T) := by
  refine ⟨List.pairwise_cons.2 ⟨fun y hy e => hn y hy e.symm, h.apart⟩, fun kl hkl => ?_, fun y hy => ?_, fun y hy z => ?_, ?_⟩
  · by_cases e : kl = key x
    · exact ⟨x, List.mem_cons_self .., e⟩
    · rw [has_put_other e] at hkl
      obtain ⟨y, hy, ey⟩ := h.all kl hkl
      exact ⟨y, List.mem_cons_of_mem _ hy, ey⟩
  · rcases List.mem_cons.1 hy with rfl | hm
    · exact has_put_same hI hkey _
    · rw [has_put_other (hn y hm)]
      exact h.has_ y hm
  · rcases List.mem_cons.1 hy with rfl | hm
    · exact atKey_put_same hI hkey _ _
    · rw [atKey_put_other (hn y hm)]
      exact h.at_ y hm z
  · rw [size_put hT, h.size, h.hasnt hn]
    rfl
theorem MapG.putOld {y : α} (h : MapG key dat D (y :: T)) (hT : Tidy D) (hI : IsMap D) (x : α) (hkey : WideAt.IsKeyLit (key x)) (e : key y = key x) : MapG key dat (D.put (key x) (dat x)) (x :: T) := by
  obtain ⟨h1, h2⟩ := List.pairwise_cons.1 h.apart
  have h3 : ∀ z ∈ T, key z ≠ key x := fun z hz e' => h1 z hz (e.trans e'.symm)
  refine ⟨List.pairwise_cons.2 ⟨fun z hz e' => h3 z hz e'.symm, h2⟩, fun kl hkl => ?_, fun z hz => ?_, fun z hz w => ?_, ?_⟩
  · by_cases e' : kl = key x
    · exact ⟨x, List.mem_cons_self .., e'⟩
    · rw [has_put_other e'] at hkl
      obtain ⟨z, hz, ez⟩ := h.all kl hkl
      rcases List.mem_cons.1 hz with rfl | hz
      · exact absurd (ez.trans e) e'
      · exact ⟨z, List.mem_cons_of_mem _ hz, ez⟩
  · rcases List.mem_cons.1 hz with rfl | hm
    · exact has_put_same hI hkey _
    · rw [has_put_other (h3 z hm)]
      exact h.has_ z (List.mem_cons_of_mem _ hm)
  · rcases List.mem_cons.1 hz with rfl | hm
    · exact atKey_put_same hI hkey _ _
    · rw [atKey_put_other (h3 z hm)]
      exact h.at_ z (List.mem_cons_of_mem _ hm) w
  · rw [size_put hT, h.size, show has D (key x) = true by rw [← e]; exact h.has_ y (List.mem_cons_self ..)]
    rfl
theorem MapG.key_inj (h : MapG key dat D T) {x y : α} (hx : x ∈ T) (hy : y ∈ T) (e : key x = key y) : x = y := by
  have hap := h.apart
  clear h
  induction T with
  | nil => cases hx
  | cons a T ih =>
    obtain ⟨h1, h2⟩ := List.pairwise_cons.1 hap
    rcases List.mem_cons.1 hx with rfl | hx
    · rcases List.mem_cons.1 hy with rfl | hy
      · rfl
      · exact absurd e (h1 y hy)
    · rcases List.mem_cons.1 hy with e' | hy
      · exact absurd (e' ▸ e).symm (h1 x hx)
      · exact ih hx hy h2
end

theorem prRow : (31 : TypeId) < Try.prog.types.size := of_decide_eq_true (by kernel_rfl)
theorem prWide : (match Try.prog.underlying 31 with | some (.array _ _) | some (.struct _) => true | _ => false) = true := by kernel_rfl
set_option maxRecDepth 100000 in
theorem prKeyed : Keyed Try.prog 31 := Keyed.of_law (deep_law_laid idLaidOut (m := 2) (by omega) prRow (by kernel_rfl) prWide)
/-- a process's literal, as a key. -/
def lit2 (n l : Int) : Lit := .string (keyBytes [.int .u8 n, .int .u16 l])
set_option maxRecDepth 100000 in
set_option maxHeartbeats 1000000 in
theorem prKey (n l : Int) (h0 : 0 ≤ n ∧ n ≤ 255) (h1 : 0 ≤ l ∧ l ≤ 65535) : keyOf Try.prog 31 (.agg #[.int .u8 n, .int .u16 l]) = some (lit2 n l) := by
  have hk : Try.prog.keyType 31 = true := by kernel_rfl
  obtain ⟨m, hs⟩ : ∃ m, Try.prog.types.size = m + 1 + 1 + 1 := ⟨Try.prog.types.size - 3, by kernel_rfl⟩
  have hC24 : Try.prog.cellsOf 31 = 2 := by kernel_rfl
  have hC5 : Try.prog.cellsOf 5 = 1 := by kernel_rfl
  have hC22 : Try.prog.cellsOf 29 = 1 := by kernel_rfl
  have w0 := wf_u8 h0
  have w1 := wf_u16 h1
  have k5 : ∀ (d : Nat) (v : Int), (Lit.int .u8 v).wf = true → Try.prog.keyLits (d + 1) 5 [.int .u8 v] = some [.int .u8 v] := fun d v hv => by simp [Program.keyLits, Try.underlying5, hv]
  have k22 : ∀ (d : Nat) (v : Int), (Lit.int .u16 v).wf = true → Try.prog.keyLits (d + 1) 29 [.int .u16 v] = some [.int .u16 v] := fun d v hv => by simp [Program.keyLits, Try.underlying29, hv]
  have hls : Try.prog.keyLits (m + 1 + 1 + 1 + 1) 31 [.int .u8 n, .int .u16 l] = some [.int .u8 n, .int .u16 l] := by
    unfold Program.keyLits
    rw [Try.underlying31]
    dsimp only
    rw [if_pos ⟨by rw [hC24]; rfl, by kernel_rfl⟩]
    simp [hC5, hC22, k5 _ _ w0, k22 _ _ w1]
  have hf : Value.formed Try.prog 31 (.agg #[.int .u8 n, .int .u16 l]) = true := by simp [Value.formed, Try.underlying31, hC24]
  unfold keyOf
  rw [Try.underlying31]
  simp only [hk, hs, hf, Bool.and_self, if_true, Value.cells]
  rw [hls]
  rfl
theorem lit2_inj {n l n' l' : Int} (h0 : 0 ≤ n ∧ n ≤ 255) (h1 : 0 ≤ l ∧ l ≤ 65535) (h0' : 0 ≤ n' ∧ n' ≤ 255) (h1' : 0 ≤ l' ∧ l' ≤ 65535) (h : lit2 n l = lit2 n' l') : n = n' ∧ l = l' := by
  have e := prKeyed.inj (prKey n l h0 h1) (h ▸ prKey n' l' h0' h1')
  injection e with e
  simp at e
  exact e
theorem ilit_inj {x y : I10} (hx : x.Rng) (hy : y.Rng) (h : x.lit = y.lit) : x = y := by
  have e := idKeyed.inj (idKey x hx) (h ▸ idKey y hy)
  injection e with e
  obtain ⟨n, l, s, d, a0, a1, b0, b1, c0, c1⟩ := x
  obtain ⟨n', l', s', d', x0, x1, y0, y1, z0, z1⟩ := y
  simp at e
  simp [e]
/-- how a row reads, as an element of a map. -/
def Rw.dat (x : Rw) : DataW Unit := .agg [.lit (.int .u8 x.id.n), .lit (.int .u16 x.id.l), .lit (.int .u32 x.id.s), .lit (.int .u8 x.id.d), .lit (.int .u8 x.id.a0), .lit (.int .u8 x.id.a1), .lit (.int .u8 x.id.b0), .lit (.int .u8 x.id.b1), .lit (.int .u8 x.id.c0), .lit (.int .u8 x.id.c1), .lit (.bool x.en), .lit (.int .u8 x.code), .lit (.string x.val.data.toList)]
def rwElem : Value → Option (DataW Unit × List MemPlace)
  | .agg ⟨[.int .u8 n, .int .u16 l, .int .u32 s, .int .u8 d, .int .u8 a0, .int .u8 a1, .int .u8 b0, .int .u8 b1, .int .u8 c0, .int .u8 c1, .bool en, .int .u8 code, .string val]⟩ => some (Rw.dat ⟨⟨n, l, s, d, a0, a1, b0, b1, c0, c1⟩, en, code, val⟩, [])
  | _ => none
theorem rwElem_mk (x : Rw) : rwElem (.agg x.cs) = some (x.dat, []) := rfl
theorem rdat_inj {x y : Rw} (h : x.dat = y.dat) : x = y := by
  obtain ⟨⟨n, l, s, d, a0, a1, b0, b1, c0, c1⟩, en, code, val⟩ := x
  obtain ⟨⟨n', l', s', d', x0, x1, y0, y1, z0, z1⟩, en', code', val'⟩ := y
  simp [Rw.dat] at h
  obtain ⟨q1, q2, q3, q4, q5, q6, q7, q8, q9, q10, q11, q12, q13⟩ := h
  have e : val = val' := ByteArray.ext q13
  simp [q1, q2, q3, q4, q5, q6, q7, q8, q9, q10, q11, q12, e]
theorem rwElem_inv {v : Value} {z : DataW Unit × List MemPlace} (h : rwElem v = some z) : ∃ x : Rw, v = .agg x.cs ∧ z = (x.dat, []) := by
  unfold rwElem at h
  split at h
  · rename_i n l s d a0 a1 b0 b1 c0 c1 en code val
    exact ⟨⟨⟨n, l, s, d, a0, a1, b0, b1, c0, c1⟩, en, code, val⟩, rfl, by injection h with h; exact h.symm⟩
  · cases h
def fDat (n : Int) : DataW Unit := .lit (.int .u32 n)
def fElem : Value → Option (DataW Unit × List MemPlace)
  | .int .u32 n => some (fDat n, [])
  | _ => none
theorem fElem_mk (n : Int) : fElem (.int .u32 n) = some (fDat n, []) := rfl
theorem fDat_inj {m n : Int} (h : fDat m = fDat n) : m = n := by
  unfold fDat at h
  injection h with h
  injection h
theorem fElem_inv {v : Value} {z : DataW Unit × List MemPlace} (h : fElem v = some z) : ∃ n : Int, v = .int .u32 n ∧ z = (fDat n, []) := by
  unfold fElem at h
  split at h
  · rename_i n
    exact ⟨n, rfl, by injection h with h; exact h.symm⟩
  · cases h
def Rw.key (x : Rw) : Lit := x.id.lit
def Fw.key (x : Fw) : Lit := lit2 x.n x.l
def Fw.dat (x : Fw) : DataW Unit := fDat x.f
theorem rowZero (W : World) : (zeroValue 88).run Try.prog W = .ok (.agg #[.int .u8 0, .int .u16 0, .int .u32 0, .int .u8 0, .int .u8 0, .int .u8 0, .int .u8 0, .int .u8 0, .int .u8 0, .int .u8 0, .bool false, .int .u8 0, .string ByteArray.empty]) W := by kernel_rfl
theorem floZero (W : World) : (zeroValue 32).run Try.prog W = .ok (.int .u32 0) W := by kernel_rfl
theorem mapR : Try.prog.underlying 82 = some (.map 37 88) := Try.underlying82
theorem mapF : Try.prog.underlying 83 = some (.map 31 32) := Try.underlying83
def zrow : Rw := ⟨zer, false, 0, ⟨#[]⟩⟩
/-- the row of a call, or none. -/
def Tt.row (t : Tt) (x : I10) : Rw := if isT t.L x then (t.L[fndT t.L x]?).getD zrow else zrow
theorem floorF_max {F : List Fw} (h : ∀ x ∈ F, x.f ≤ 1048576) (n l : Int) : floorF F n l ≤ 1048576 := by
  unfold floorF
  split
  · rename_i f e
    exact h f (List.mem_of_find?_eq_some e)
  · decide
/-- is a call too far ahead? -/
def Tt.far (t : Tt) (x : I10) : Bool := decide (x.d = 0) && decide (t.win < x.s - floorF t.F x.n x.l)
/-- what is right of a table. -/
structure Tt.Ok (t : Tt) : Prop where
  rng : ∀ x ∈ t.L, x.id.Rng ∧ x.id.ok = true ∧ (0 ≤ x.code ∧ x.code ≤ 255)
  rise : t.L.Pairwise fun x y => x.id.cmp y.id < 0
  run : ∀ x ∈ t.L, x.en = false → x.code = 0 ∧ x.val = ⟨#[]⟩
  frng : ∀ x ∈ t.F, x.Rng
  fmax : ∀ x ∈ t.F, x.f ≤ 1048576
  fap : t.F.Pairwise fun x y => ¬ (x.n = y.n ∧ x.l = y.l)
  win : 1 ≤ t.win ∧ t.win ≤ 16
/-- it lies in memory: its block b; its maps: blocks m, k; c bounds what was ever set in each. -/
structure PT (W : World) (b m k c : Nat) (t : Tt) : Prop where
  blk : W.heap[b]? = some (.cells #[.int .u32 t.win, .map (some m), .map (some k)] 85 (0, 0))
  rows : ∃ (nn : Nat) (D : DataW Unit), nn ≤ c ∧ W.ownsMap Try.prog 37 rwElem m nn D ∧ MapG Rw.key Rw.dat D t.L
  flo : ∃ (nn : Nat) (D : DataW Unit), nn ≤ c ∧ W.ownsMap Try.prog 31 fElem k nn D ∧ MapG Fw.key Fw.dat D t.F
  ne : m ≠ k
  ok : t.Ok
section
variable {W W' : World} {b m k c : Nat} {t : Tt}
theorem PT.bl (h : PT W b m k c t) : b < W.heap.size := bltA h.blk
theorem PT.ml (h : PT W b m k c t) : m < W.heap.size := by
  obtain ⟨nn, D, _, O, _⟩ := h.rows
  exact O.lt
theorem PT.kl (h : PT W b m k c t) : k < W.heap.size := by
  obtain ⟨nn, D, _, O, _⟩ := h.flo
  exact O.lt
theorem PT.bm (h : PT W b m k c t) : b ≠ m := by
  obtain ⟨nn, D, _, ⟨es, cl, hm, _⟩, _⟩ := h.rows
  rintro rfl
  rw [h.blk] at hm
  cases hm
theorem PT.bk (h : PT W b m k c t) : b ≠ k := by
  obtain ⟨nn, D, _, ⟨es, cl, hm, _⟩, _⟩ := h.flo
  rintro rfl
  rw [h.blk] at hm
  cases hm
theorem PT.keep (h : PT W b m k c t) (h0 : W'.heap[b]? = W.heap[b]?) (h1 : W'.heap[m]? = W.heap[m]?) (h2 : W'.heap[k]? = W.heap[k]?) : PT W' b m k c t := by
  obtain ⟨nn, D, hk, ⟨es, cl, hm, F, hs, hD⟩, M⟩ := h.rows
  obtain ⟨nn', D', hk', ⟨es', cl', hm', F', hs', hD'⟩, M'⟩ := h.flo
  exact ⟨h0.trans h.blk, ⟨nn, D, hk, ⟨es, cl, h1.trans hm, F, hs, hD⟩, M⟩, ⟨nn', D', hk', ⟨es', cl', h2.trans hm', F', hs', hD'⟩, M'⟩, h.ne, h.ok⟩
theorem PT.below (h : PT W b m k c t) (hb : Below W.heap.size W W') : PT W' b m k c t := h.keep (hb.block _ h.bl) (hb.block _ h.ml) (hb.block _ h.kl)
theorem PT.belowB {B : Nat} (h : PT W b m k c t) (hb : Below B W W') (h0 : b < B) (h1 : m < B) (h2 : k < B) : PT W' b m k c t := h.keep (hb.block _ h0) (hb.block _ h1) (hb.block _ h2)
theorem PT.keepK {S : Nat → Prop} (h : PT W b m k c t) (hk : KP S W W') (h0 : ¬ S b) (h1 : ¬ S m) (h2 : ¬ S k) : PT W' b m k c t := h.keep (hk.block _ h.bl h0) (hk.block _ h.ml h1) (hk.block _ h.kl h2)
theorem PT.mono {c' : Nat} (h : PT W b m k c t) (hc : c ≤ c') : PT W b m k c' t := by
  obtain ⟨nn, D, hk, O, M⟩ := h.rows
  obtain ⟨nn', D', hk', O', M'⟩ := h.flo
  exact ⟨h.blk, ⟨nn, D, Nat.le_trans hk hc, O, M⟩, ⟨nn', D', Nat.le_trans hk' hc, O', M'⟩, h.ne, h.ok⟩
end
theorem Tt.Ok.fit {t : Tt} (h : t.Ok) {y : Rw} (hy : y ∈ t.L) : y.id.Fit := fit_of_ok (h.rng y hy).1.d.1 (h.rng y hy).2.1
theorem cmp_self {x : I10} (hx : x.Fit) : x.cmp x = 0 := (cmp_zero hx hx).2 rfl
/-- a noted call's row stands where find says. -/
theorem Tt.Ok.at_ {t : Tt} (h : t.Ok) {y : Rw} (hy : y ∈ t.L) : t.L[fndT t.L y.id]? = some y ∧ isT t.L y.id = true := by
  obtain ⟨j, hj, e⟩ := List.getElem_of_mem hy
  have e' : t.L[j]? = some y := by rw [List.getElem?_eq_getElem hj, e]
  have hf : fndT t.L y.id = j := by
    refine fndT_eq y.id t.L j (Nat.le_of_lt hj) (fun q z hq hz => ?_) (fun z hz => ?_)
    · obtain ⟨hq', hz'⟩ := List.getElem?_eq_some_iff.1 hz
      have := List.pairwise_iff_getElem.1 h.rise q j hq' hj hq
      rw [hz', e] at this
      exact this
    · rw [e'] at hz
      injection hz with hz
      subst hz
      rw [cmp_self (h.fit hy)]
      decide
  refine ⟨by rw [hf]; exact e', ?_⟩
  unfold isT
  rw [hf, e']
  exact eqI_iff.2 rfl
theorem Tt.Ok.is_iff {t : Tt} (h : t.Ok) (x : I10) : isT t.L x = true ↔ ∃ y ∈ t.L, y.id = x := by
  constructor
  · intro hi
    obtain ⟨y, hy, _, e⟩ := isT_row hi
    exact ⟨y, List.mem_of_getElem? hy, eqI_iff.1 e⟩
  · rintro ⟨y, hy, rfl⟩
    exact (h.at_ hy).2
theorem Tt.Ok.row_in {t : Tt} (h : t.Ok) {y : Rw} (hy : y ∈ t.L) : t.row y.id = y := by
  unfold Tt.row
  rw [(h.at_ hy).2, (h.at_ hy).1]
  rfl
theorem Tt.row_no {t : Tt} {x : I10} (h : isT t.L x = false) : t.row x = zrow := by
  unfold Tt.row
  rw [h]
  rfl
theorem Tt.Ok.floor_in {t : Tt} (h : t.Ok) {y : Fw} (hy : y ∈ t.F) : floorF t.F y.n y.l = y.f := by
  obtain ⟨j, hj, e⟩ := List.getElem_of_mem hy
  have e' : t.F[j]? = some y := by rw [List.getElem?_eq_getElem hj, e]
  refine floorF_hit e' ⟨rfl, rfl⟩ fun q z hq hz => ?_
  obtain ⟨hq', hz'⟩ := List.getElem?_eq_some_iff.1 hz
  have := List.pairwise_iff_getElem.1 h.fap q j hq' hj hq
  rw [hz', e] at this
  exact this
theorem Tt.floor_no {t : Tt} {n l : Int} (h : ∀ y ∈ t.F, ¬ (y.n = n ∧ y.l = l)) : floorF t.F n l = 0 := floorF_miss fun q z hz => h z (List.mem_of_getElem? hz)
theorem zrow_cs : (Value.agg #[.int .u8 0, .int .u16 0, .int .u32 0, .int .u8 0, .int .u8 0, .int .u8 0, .int .u8 0, .int .u8 0, .int .u8 0, .int .u8 0, .bool false, .int .u8 0, .string ByteArray.empty]) = .agg zrow.cs := rfl
theorem World.ownsMap.look_one {H : Type} {P : Program} {w : World} {kt : TypeId} {R : Value → Option (DataW H × List MemPlace)} {b n : Nat} {D : DataW H} {t e : TypeId} (h : w.ownsMap P kt R b n D) (K : Keyed P kt) (ht : P.underlying t = some (.map kt e)) {z : Value} (hz : (zeroValue e).run P w = .ok z w) {zd : DataW H} {zp : List MemPlace} (hzd : R z = some (zd, zp))
    {key : Value} {kl : Lit} (hkey : keyOf P kt key = some kl) : ∃ v ps, (Instr.lookup t (.map (some b)) key false).run P w = .ok v w ∧ R v = some (D.atKey kl zd, ps) := by
  obtain ⟨es, clock, hb, F, _, rfl⟩ := h
  rcases Maps.fit_look false K ht hz hb F hkey with ⟨hrun, _, hat⟩ | ⟨e0, y, _, _, hrun, hRv, hat, _⟩
  · exact ⟨z, zp, hrun, by rw [hat zd]; exact hzd⟩
  · exact ⟨e0.val, y.2, hrun, by rw [hat zd]; exact hRv⟩
/-- look-ups, in every world where the maps are as they are. -/
theorem PT.look {W : World} {b m k c : Nat} {t : Tt} (h : PT W b m k c t) (x : I10) (rx : x.Rng) :
    ∃ es clock, W.heap[m]? = some (.map es clock) ∧ ∀ X : World, X.heap[m]? = some (.map es clock) → (Instr.lookup 82 (.map (some m)) (.agg #[.int .u8 x.n, .int .u16 x.l, .int .u32 x.s, .int .u8 x.d, .int .u8 x.a0, .int .u8 x.a1, .int .u8 x.b0, .int .u8 x.b1, .int .u8 x.c0, .int .u8 x.c1]) true).run Try.prog X = .ok (.tuple #[.agg (t.row x).cs, .bool (isT t.L x)]) X ∧ (Instr.lookup 82 (.map (some m)) (.agg #[.int .u8 x.n, .int .u16 x.l, .int .u32 x.s, .int .u8 x.d, .int .u8 x.a0, .int .u8 x.a1, .int .u8 x.b0, .int .u8 x.b1, .int .u8 x.c0, .int .u8 x.c1]) false).run Try.prog X = .ok (.agg (t.row x).cs) X := by
  obtain ⟨nn, D, hk, ⟨es, clock, hb, F, hs, hD⟩, K⟩ := h.rows
  refine ⟨es, clock, hb, fun X hX => ?_⟩
  have O : X.ownsMap Try.prog 37 rwElem m nn D := ⟨es, clock, hX, F, hs, hD⟩
  obtain ⟨v, ps, hrun, hv⟩ := O.look_ok idKeyed mapR (rowZero X) (rwElem_mk zrow) (idKey x rx)
  obtain ⟨v', ps', hrun', hv'⟩ := World.ownsMap.look_one O idKeyed mapR (rowZero X) (rwElem_mk zrow) (idKey x rx)
  have e : D.atKey x.lit zrow.dat = (t.row x).dat ∧ has D x.lit = isT t.L x := by
    cases hi : isT t.L x with
    | true =>
      obtain ⟨y, hy, rfl⟩ := (h.ok.is_iff x).1 hi
      exact ⟨by rw [h.ok.row_in hy]; exact K.at_ y hy _, K.has_ y hy⟩
    | false =>
      have hn : ∀ y ∈ t.L, y.key ≠ x.lit := fun y hy e => by
        have := ilit_inj (h.ok.rng y hy).1 rx e
        rw [(h.ok.is_iff x).2 ⟨y, hy, this⟩] at hi
        cases hi
      have hh := K.hasnt hn
      exact ⟨by rw [atKey_of_not_has hh, Tt.row_no hi], hh⟩
  rw [e.1] at hv hv'
  rw [e.2] at hrun
  obtain ⟨y, rfl, hy⟩ := rwElem_inv hv
  obtain rfl : t.row x = y := rdat_inj (congrArg Prod.fst hy)
  obtain ⟨y', rfl, hy'⟩ := rwElem_inv hv'
  obtain rfl : t.row x = y' := rdat_inj (congrArg Prod.fst hy')
  exact ⟨hrun, hrun'⟩
theorem PT.lookF {W : World} {b m k c : Nat} {t : Tt} (h : PT W b m k c t) (n l : Int) (rn : 0 ≤ n ∧ n ≤ 255) (rl : 0 ≤ l ∧ l ≤ 65535) :
    ∃ es clock, W.heap[k]? = some (.map es clock) ∧ ∀ X : World, X.heap[k]? = some (.map es clock) → (Instr.lookup 83 (.map (some k)) (.agg #[.int .u8 n, .int .u16 l]) false).run Try.prog X = .ok (.int .u32 (floorF t.F n l)) X := by
  obtain ⟨nn, D, hk, ⟨es, clock, hb, F, hs, hD⟩, K⟩ := h.flo
  refine ⟨es, clock, hb, fun X hX => ?_⟩
  have O : X.ownsMap Try.prog 31 fElem k nn D := ⟨es, clock, hX, F, hs, hD⟩
  obtain ⟨v, ps, hrun, hv⟩ := World.ownsMap.look_one O prKeyed mapF (floZero X) (fElem_mk 0) (prKey n l rn rl)
  have e : D.atKey (lit2 n l) (fDat 0) = fDat (floorF t.F n l) := by
    by_cases hx : ∃ y ∈ t.F, y.n = n ∧ y.l = l
    · obtain ⟨y, hy, rfl, rfl⟩ := hx
      rw [h.ok.floor_in hy]
      exact K.at_ y hy _
    · have hn : ∀ y ∈ t.F, ¬ (y.n = n ∧ y.l = l) := fun y hy e => hx ⟨y, hy, e⟩
      have hh : has D (lit2 n l) = false := K.hasnt fun y hy e => hn y hy (lit2_inj (h.ok.frng y hy).n (h.ok.frng y hy).l rn rl e)
      rw [atKey_of_not_has hh, Tt.floor_no hn]
  rw [e] at hv
  obtain ⟨y, rfl, hy⟩ := fElem_inv hv
  obtain rfl : floorF t.F n l = y := fDat_inj (congrArg Prod.fst hy)
  exact hrun
theorem PT.lenM {W : World} {b m k c : Nat} {t : Tt} (h : PT W b m k c t) (ty : TypeId) : (Builtin.len_ #[82] ty #[.map (some m)]).run Try.prog W = .ok (.int .i64 t.L.length) W := by
  obtain ⟨nn, D, _, O, M⟩ := h.rows
  rw [← M.size]
  exact O.len mapR ty

end Go.Proofs.Ytldbmmganicliaa
