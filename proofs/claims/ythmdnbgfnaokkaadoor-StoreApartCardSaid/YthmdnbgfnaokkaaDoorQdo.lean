/-
  The store's Do, by contract.
-/
import Derived.Test.YthmdnbgfnaokkaaDoorQou0
import Derived.Test.YthmdnbgfnaokkaaDoorQou1
import Derived.Test.YthmdnbgfnaokkaaDoorQou2
import Derived.Test.YthmdnbgfnaokkaaDoorQou3
import Derived.Test.YthmdnbgfnaokkaaDoorQou4
namespace Go.Proofs.YthmdnbgfnaokkaaDoor
set_option linter.unusedSimpArgs false
set_option linter.unusedVariables false
open Go.RowKit Go.Sort


theorem outcomeS (g k m : Int) (key val : ByteArray) (x : W3) (w : World) (B : Nat) (hR : rP g k m key val = true) (hk0 : 0 ≤ k) (hm : m ≤ 9223372036854775807) (hs : x.val.size ≤ 3000) (ht : Env B w) :
    Calls Tryd.prog 34 #[.agg #[.int .u8 g, .int .u8 k, .string key, .string val, .int .i64 m], .agg #[.string x.key, .string x.val, .bool x.has]] w (OutP w k m key val x) := by
  have hk4 : k ≤ 4 := by
    have h := hR
    simp only [rP, Bool.and_eq_true, decide_eq_true_eq] at h
    exact h.1.1.1.1.1.1.2
  rcases (show k = 0 ∨ k = 1 ∨ k = 2 ∨ k = 3 ∨ k = 4 by omega) with h | h | h | h | h
  · exact outcomeS0 g k m (Lib.hid h) key val x w B hR hk0 hm hs ht
  · exact outcomeS1 g k m (Lib.hid h) key val x w B hR hk0 hm hs ht
  · exact outcomeS2 g k m (Lib.hid h) key val x w B hR hk0 hm hs ht
  · exact outcomeS3 g k m (Lib.hid h) key val x w B hR hk0 hm hs ht
  · exact outcomeS4 g k m (Lib.hid h) key val x w B hR hk0 hm hs ht
/-- what Do answers, and what it writes. -/
def doN (g k m : Int) (key val : ByteArray) (L : List W3) : Int × ByteArray × Option W3 :=
  if rP g k m key val = false then (2, ByteArray.mk #[], none) else
  if (outN k m key val (getW L key)).1 ≠ 0 ∨ k = 0 then ((outN k m key val (getW L key)).1, (outN k m key val (getW L key)).2.1, none) else
  if (outN k m key val (getW L key)).2.2.has = true ∧ (getW L key).has = false ∧ 256 ≤ L.length then (5, ByteArray.mk #[], none) else
  ((outN k m key val (getW L key)).1, (outN k m key val (getW L key)).2.1, some (outN k m key val (getW L key)).2.2)
def doL (L : List W3) : Option W3 → List W3
  | none => L
  | some t => appW L t
def doSl : Option W3 → Value → Prop
  | none, v => v = .slice none 0 0
  | some _, v => ∃ A, v = .slice (some A) 1 1
def DoP (w : World) (b bm kk : Nat) (g k m : Int) (key val : ByteArray) (L : List W3) (e : Ending) (w' : World) : Prop :=
  ∃ sl, e = .returned (.tuple #[.agg #[.int .u8 (doN g k m key val L).1, .string (doN g k m key val L).2.1], sl]) ∧ doSl (doN g k m key val L).2.2 sl ∧ PSt b bm (kk + 1) (doL L (doN g k m key val L).2.2) w' ∧ w.grownBy w' (some bm)

structure DoSt (W : World) (n : Nat) (g k m : Int) (key val : ByteArray) : Prop where
  p0 : W.cell? ⟨n, 0, none⟩ = some (.int .u8 g)
  p1 : W.cell? ⟨n, 1, none⟩ = some (.int .u8 k)
  p2 : W.cell? ⟨n, 2, none⟩ = some (.string key)
  p3 : W.cell? ⟨n, 3, none⟩ = some (.string val)
  p4 : W.cell? ⟨n, 4, none⟩ = some (.int .i64 m)
  r0 : W.cell? ⟨n + 1, 0, none⟩ = some (.int .u8 0)
  r1 : W.cell? ⟨n + 1, 1, none⟩ = some (.string ByteArray.empty)
  fr0 : W.frozen? ⟨n + 1, 0, none⟩ = false
  fr1 : W.frozen? ⟨n + 1, 1, none⟩ = false
  z : n + 1 < W.heap.size
theorem DoSt.below {W W' : World} {n : Nat} {g k m : Int} {key val : ByteArray} (h : DoSt W n g k m key val) (hb : Below W.heap.size W W') : DoSt W' n g k m key val := by
  have hc : ∀ (b o : Nat), b < W.heap.size → W'.cell? ⟨b, o, none⟩ = W.cell? ⟨b, o, none⟩ := fun b o hl => hb.cell (p := ⟨b, o, none⟩) hl
  have hf : ∀ (b o : Nat), b < W.heap.size → W'.frozen? ⟨b, o, none⟩ = W.frozen? ⟨b, o, none⟩ := fun b o hl => hb.frozen (p := ⟨b, o, none⟩) hl
  have hs := hb.size
  obtain ⟨p0, p1, p2, p3, p4, r0, r1, fr0, fr1, z⟩ := h
  exact ⟨(hc _ _ (by omega)).trans p0, (hc _ _ (by omega)).trans p1, (hc _ _ (by omega)).trans p2, (hc _ _ (by omega)).trans p3, (hc _ _ (by omega)).trans p4, (hc _ _ (by omega)).trans r0, (hc _ _ (by omega)).trans r1, (hf _ _ (by omega)).trans fr0, (hf _ _ (by omega)).trans fr1, by omega⟩
theorem DoSt.new (w : World) (g k m : Int) (key val : ByteArray) : DoSt ((w.alloc (.cells #[.int .u8 g, .int .u8 k, .string key, .string val, .int .i64 m] 37)).alloc (.cells #[.int .u8 0, .string ByteArray.empty] 33)) w.heap.size g k m key val := by
  obtain ⟨a, _⟩ := newSt w ((w.alloc (.cells #[.int .u8 g, .int .u8 k, .string key, .string val, .int .i64 m] 37)).alloc (.cells #[.int .u8 0, .string ByteArray.empty] 33)) _ #[.int .u8 g, .int .u8 k, .string key, .string val, .int .i64 m] 37 rfl ((Below.refl _ _).alloc (by simp) _)
  obtain ⟨c, f⟩ := newSt (w.alloc (.cells #[.int .u8 g, .int .u8 k, .string key, .string val, .int .i64 m] 37)) ((w.alloc (.cells #[.int .u8 g, .int .u8 k, .string key, .string val, .int .i64 m] 37)).alloc (.cells #[.int .u8 0, .string ByteArray.empty] 33)) (w.heap.size + 1) _ 33 (by simp) (Below.refl _ _)
  exact ⟨a 0, a 1, a 2, a 3, a 4, c 0, c 1, f 0, f 1, by simp⟩

theorem outN_key {k m : Int} {key val : ByteArray} {x : W3} {c : Int} {v : ByteArray} {t : W3} (h : outN k m key val x = (c, v, t)) (h2 : k ≠ 0) (h3 : c = 0) {N : Nat} (hk : key.size ≤ N) : t.key.size ≤ N := by
  unfold outN at h
  subst h3
  repeat' split at h
  all_goals first
    | exact absurd ‹k = 0› h2
    | (injection h with e1 e2; injection e2 with e2 e3; subst e3; exact hk)
    | (injection h with e1 e2; exact absurd e1 (by decide))
theorem grown_setC (w : World) (a : Addr) (u : Value) : w.grownBy (w.setCell a u) (some a.block) :=
  ⟨rfl, rfl, rfl, by simp, fun k _ hk => Below.heap_setCell _ _ _ k (fun e => hk (by rw [e]))⟩
theorem endD {b bm kk n : Nat} {L' : List W3} {w W : World} (hn : w.heap.size ≤ n) (hb : b < n) (hbm : bm < n) (H : PSt b bm kk L' W) (hG : w.grownBy W (some bm)) (v0 v1 : Value) :
    PSt b bm kk L' ((W.setCell ⟨n, 0, none⟩ v0).setCell ⟨n, 1, none⟩ v1) ∧ w.grownBy ((W.setCell ⟨n, 0, none⟩ v0).setCell ⟨n, 1, none⟩ v1) (some bm) := by
  have g := (grown_setC W ⟨n, 0, none⟩ v0).trans (grown_setC _ ⟨n, 1, none⟩ v1)
  exact ⟨H.grown g (by simp; omega) (by simp; omega), hG.andThen g fun j e => .inl (by injection e with e; subst e; exact hn)⟩
set_option maxRecDepth 100000 in
set_option maxHeartbeats 1000000 in
theorem doS (b bm kk : Nat) (g k m : Int) (key val : ByteArray) (L : List W3) (w : World) (B : Nat) (h : PSt b bm kk L w) (hb : b ≠ bm) (hkk : kk < maxLen) (hL : ∀ x ∈ L, x.val.size ≤ 3000) (hk0 : 0 ≤ k) (hm : m ≤ 9223372036854775807) (ht : Env B w) :
    Calls Tryd.prog 10 #[.pointer (some ⟨b, 0, none⟩), .agg #[.int .u8 g, .int .u8 k, .string key, .string val, .int .i64 m]] w (DoP w b bm kk g k m key val L) := by
  have b0 : Below w.heap.size w ((w.alloc (.cells #[.int .u8 g, .int .u8 k, .string key, .string val, .int .i64 m] 37)).alloc (.cells #[.int .u8 0, .string ByteArray.empty] 33)) := ((Below.refl _ _).alloc (Nat.le_refl _) _).alloc (by simp) _
  have H0 := Lib.hid (h.below b0)
  have B0 := Lib.hid b0
  have S0 := Lib.hid (DoSt.new w g k m key val)
  have ET := Lib.hid (fun (W : World) (hW : Below w.heap.size w W) => ht.on hW)
  have hw : (getW L key).val.size ≤ 3000 ∧ (getW L key).key = key := by
    by_cases hx : ∃ x ∈ L, x.key = key
    · obtain ⟨x, hx, rfl⟩ := hx
      obtain ⟨_, nn, D, _, O, K⟩ := h
      rw [getW_at K.apart hx]
      exact ⟨hL x hx, rfl⟩
    · rw [getW_none fun y hy e => hx ⟨y, hy, e⟩]
      exact ⟨Nat.zero_le _, rfl⟩
  have cm : ∀ W, PSt b bm kk L W → W.cell? ⟨b, 0, none⟩ = some (.map (some bm)) := fun W h => h.1
  have CM := Lib.hid cm
  have HL := Lib.hid hL
  have hbl : b < w.heap.size ∧ bm < w.heap.size := ⟨World.block_lt_of_cell? w _ h.1, by obtain ⟨_, nn, D, _, O, _⟩ := h; exact O.lt⟩
  obtain ⟨hbl, hbm⟩ := hbl
  clear b0 ht h cm hL
  cases hr : rP g k m key val with
  | false =>
    have hd : doN g k m key val L = (2, ByteArray.mk #[], none) := by simp [doN, hr]
    have HD := Lib.hid hd
    clear hd
    go_enter Tryd.func10, Tryd.ntmps10
    go_wp2_with (first
      | (go_at_call 30; refine (madeS b bm _ (CM.out _ H0.out)).mono ?_; rintro e W1 ⟨rfl, b1⟩
         have B1 := Lib.hid (B0.out.trans (b1.mono B0.out.size))
         have H1 := Lib.hid (H0.out.below b1)
         have S1 := Lib.hid (S0.out.below b1)
         obtain ⟨p0, p1, p2, p3, p4, r0, r1, fr0, fr1, hz⟩ := S1.out
         clear b1)
      | (go_at_call 32; refine (rightPart g k m key val _ hk0).mono ?_; rintro e W2 ⟨rfl, b2⟩; rw [hr]
         have B2 := Lib.hid (B1.out.trans (b2.mono B1.out.size))
         have H2 := Lib.hid (H1.out.below b2)
         have S2 := Lib.hid (S1.out.below b2)
         clear p0 p1 p2 p3 p4 r0 r1 fr0 fr1 hz b2
         obtain ⟨p0, p1, p2, p3, p4, r0, r1, fr0, fr1, hz⟩ := S2.out))
    obtain ⟨e1, e2⟩ := endD (n := w.heap.size + 1) (by omega) (by omega) (by omega) (H2.out.mono (Nat.le_succ _)) (grown_of_belowW B2.out (some bm)) (.int .u8 2) (.string (ByteArray.mk #[]))
    refine bodyPost_ret (v := .tuple #[.agg #[.int .u8 2, .string (ByteArray.mk #[])], .slice none 0 0]) (by simp [results, Tryd.results10, go_sem]; go_simp) rfl ⟨.slice none 0 0, by rw [HD.out], by rw [HD.out]; rfl, by rw [HD.out]; exact e1, e2⟩
  | true =>
    have hk16 : key.size ≤ maxLen := by
      have h := hr
      simp only [rP, Bool.and_eq_true, decide_eq_true_eq] at h
      unfold maxLen
      omega
    have ed : doN g k m key val L = if (outN k m key val (getW L key)).1 ≠ 0 ∨ k = 0 then ((outN k m key val (getW L key)).1, (outN k m key val (getW L key)).2.1, none) else
      if (outN k m key val (getW L key)).2.2.has = true ∧ (getW L key).has = false ∧ 256 ≤ L.length then (5, ByteArray.mk #[], none) else
      ((outN k m key val (getW L key)).1, (outN k m key val (getW L key)).2.1, some (outN k m key val (getW L key)).2.2) := by simp [doN, hr]
    have GS := Lib.hid (fun W (h : PSt b bm kk L W) => getS b bm kk L key W h hk16)
    have OS := Lib.hid (fun W (h : Below w.heap.size w W) => outcomeS g k m key val (getW L key) W B hr hk0 hm hw.1 (ET.out W h))
    have HR := Lib.hid hr
    have hkey := hw.2
    have hwv := hw.1
    have hok : ∀ c v t, outN k m key val (getW L key) = (c, v, t) → k ≠ 0 → c = 0 → t.key.size ≤ maxLen := fun c v t h1 h2 h3 => outN_key h1 h2 h3 hk16
    have HK := Lib.hid hok
    have ED := Lib.hid ed
    clear hr hw hkey hwv hok ed
    generalize getW L key = x at *
    go_enter Tryd.func10, Tryd.ntmps10
    go_wp2_with (first
      | (go_at_call 30; refine (madeS b bm _ (CM.out _ H0.out)).mono ?_; rintro e W1 ⟨rfl, b1⟩
         have B1 := Lib.hid (B0.out.trans (b1.mono B0.out.size))
         have H1 := Lib.hid (H0.out.below b1)
         have S1 := Lib.hid (S0.out.below b1)
         obtain ⟨p0, p1, p2, p3, p4, r0, r1, fr0, fr1, hz⟩ := S1.out
         clear b1)
      | (go_at_call 32; refine (rightPart g k m key val _ hk0).mono ?_; rintro e W2 ⟨rfl, b2⟩; rw [HR.out]
         have B2 := Lib.hid (B1.out.trans (b2.mono B1.out.size))
         have H2 := Lib.hid (H1.out.below b2)
         have S2 := Lib.hid (S1.out.below b2)
         clear p0 p1 p2 p3 p4 r0 r1 fr0 fr1 hz b2
         obtain ⟨p0, p1, p2, p3, p4, r0, r1, fr0, fr1, hz⟩ := S2.out)
      | (go_at_call 33; refine (GS.out _ H2.out).mono ?_; rintro e W3x ⟨rfl, b3⟩
         have B3 := Lib.hid (B2.out.trans (b3.mono B2.out.size))
         have H3 := Lib.hid (H2.out.below b3)
         have S3 := Lib.hid (S2.out.below b3)
         clear p0 p1 p2 p3 p4 r0 r1 fr0 fr1 hz b3
         have ba : Below W3x.heap.size W3x (W3x.alloc (.cells #[.string x.key, .string x.val, .bool x.has] 75)) := (Below.refl _ _).alloc (Nat.le_refl _) _
         have B4 := Lib.hid (B3.out.trans (ba.mono B3.out.size))
         have H4 := Lib.hid (H3.out.below ba)
         have S4 := Lib.hid (S3.out.below ba)
         obtain ⟨p0, p1, p2, p3, p4, r0, r1, fr0, fr1, hz⟩ := S4.out
         have y0 : (W3x.alloc (.cells #[.string x.key, .string x.val, .bool x.has] 75)).cell? ⟨W3x.heap.size, 0, none⟩ = _ := new_cellW W3x _ _ 0 _ rfl
         have y1 : (W3x.alloc (.cells #[.string x.key, .string x.val, .bool x.has] 75)).cell? ⟨W3x.heap.size, 1, none⟩ = _ := new_cellW W3x _ _ 1 _ rfl
         have y2 : (W3x.alloc (.cells #[.string x.key, .string x.val, .bool x.has] 75)).cell? ⟨W3x.heap.size, 2, none⟩ = _ := new_cellW W3x _ _ 2 _ rfl
         clear ba))
    refine (OS.out _ B4.out).mono ?_
    rintro e W5 ⟨c, v, t, rfl, eo, b5⟩
    have B5 := Lib.hid (B4.out.trans (b5.mono B4.out.size))
    have H5 := Lib.hid (H4.out.below b5)
    have S5 := Lib.hid (S4.out.below b5)
    have hs5 := B5.out.size
    have hs5z := S5.out.z
    have hn5 : ¬ (W5.heap.size = w.heap.size + 1) := by omega
    have hn6 : ¬ (W5.heap.size = w.heap.size) := by omega
    have hn7 : ¬ (w.heap.size + 1 = W5.heap.size) := by omega
    have hn8 : ¬ (w.heap.size = W5.heap.size) := by omega
    have hn9 : ¬ (w.heap.size + 1 = W5.heap.size + 1) := by omega
    have hn10 : ¬ (W5.heap.size + 1 = w.heap.size + 1) := by omega
    have hz4 : W3x.heap.size < (W3x.alloc (.cells #[.string x.key, .string x.val, .bool x.has] 75)).heap.size := by simp
    have y0' := (b5.cell (p := ⟨W3x.heap.size, 0, none⟩) hz4).trans y0
    have y1' := (b5.cell (p := ⟨W3x.heap.size, 1, none⟩) hz4).trans y1
    have y2' := (b5.cell (p := ⟨W3x.heap.size, 2, none⟩) hz4).trans y2
    have hz5 : W3x.heap.size < W5.heap.size := Nat.lt_of_lt_of_le hz4 b5.size
    have bb : Below W5.heap.size W5 ((W5.alloc (.cells #[.int .u8 c, .string v] 33)).alloc (.cells #[.string t.key, .string t.val, .bool t.has] 75)) := ((Below.refl _ _).alloc (Nat.le_refl _) _).alloc (by simp) _
    have B6 := Lib.hid (B5.out.trans (bb.mono B5.out.size))
    have H6 := Lib.hid (H5.out.below bb)
    have S6 := Lib.hid (S5.out.below bb)
    have q0 := (bb.cell (p := ⟨W3x.heap.size, 0, none⟩) hz5).trans y0'
    have q1 := (bb.cell (p := ⟨W3x.heap.size, 1, none⟩) hz5).trans y1'
    have q2 := (bb.cell (p := ⟨W3x.heap.size, 2, none⟩) hz5).trans y2'
    obtain ⟨ca, _⟩ := newSt W5 ((W5.alloc (.cells #[.int .u8 c, .string v] 33)).alloc (.cells #[.string t.key, .string t.val, .bool t.has] 75)) _ #[.int .u8 c, .string v] 33 rfl ((Below.refl _ _).alloc (by simp) _)
    obtain ⟨cb, _⟩ := newSt (W5.alloc (.cells #[.int .u8 c, .string v] 33)) ((W5.alloc (.cells #[.int .u8 c, .string v] 33)).alloc (.cells #[.string t.key, .string t.val, .bool t.has] 75)) (W5.heap.size + 1) #[.string t.key, .string t.val, .bool t.has] 75 (by simp) (Below.refl _ _)
    have c0 := ca 0
    have c1 := ca 1
    have t0 := cb 0
    have t1 := cb 1
    have t2 := cb 2
    clear p0 p1 p2 p3 p4 r0 r1 fr0 fr1 hz y0 y1 y2 y0' y1' y2' b5 bb ca cb B0 B1 B2 B3 B4 B5 H0 H1 H2 H3 H4 H5 S0 S1 S2 S3 S4 S5 GS OS
    obtain ⟨p0, p1, p2, p3, p4, r0, r1, fr0, fr1, hz⟩ := S6.out
    have hd := ED.out
    rw [eo] at hd
    have EO := Lib.hid eo
    clear eo ED
    dsimp only at hd
    by_cases hc0 : c = 0
    · by_cases hkz : k = 0
      · rw [if_pos (.inr hkz)] at hd
        have HD := Lib.hid hd
        clear hd
        subst hc0
        subst hkz
        go_wp2_with fail
        have hd := HD.out
        obtain ⟨e1, e2⟩ := endD (n := w.heap.size + 1) (by omega) (by omega) (by omega) (H6.out.mono (Nat.le_succ _)) (grown_of_belowW B6.out (some bm)) (.int .u8 0) (.string (v))
        refine bodyPost_ret (v := .tuple #[.agg #[.int .u8 0, .string (v)], .slice none 0 0]) (by simp [results, Tryd.results10, go_sem]; go_simp) rfl ⟨.slice none 0 0, by rw [hd], by rw [hd]; rfl, by rw [hd]; exact e1, e2⟩
      · rw [if_neg (by simp [hc0, hkz])] at hd
        have htk := HK.out c v t EO.out hkz hc0
        subst hc0
        have hs6 := B6.out.size
        obtain ⟨tk, tv, th⟩ := t
        cases th with
        | false =>
          rw [if_neg (by simp)] at hd
          have HD := Lib.hid hd
          clear hd
          go_wp2_with fail
          go_region_held3 (fun w' => w'.cell? ⟨W5.heap.size, 0, none⟩ = some (.int .u8 0) ∧ w'.cell? ⟨W5.heap.size, 1, none⟩ = some (.string v) ∧ w'.cell? ⟨W5.heap.size + 1, 0, none⟩ = some (.string tk) ∧ w'.cell? ⟨W5.heap.size + 1, 1, none⟩ = some (.string tv) ∧ w'.cell? ⟨W5.heap.size + 1, 2, none⟩ = some (.bool false)) (first | (simp; done) | (go_simp; done) | go_keep)
            (first | (go_at_call 35; refine (writeS b bm kk L ⟨tk, tv, false⟩ _ (by first | exact H6.out | exact H6.out.below ((Below.refl _ _).drew)) hb htk hkk).mono ?_; rintro e W7 ⟨⟨A7, rfl⟩, P7, g7⟩
                      have G7 := Lib.hid (World.grownBy.trans (grown_of_belowW B6.out.drew (some bm)) g7)
                      have P7' := Lib.hid P7
                      have k0 := (g7.cell_far ⟨W5.heap.size, 0, none⟩ (by first | (simp [World.drew]; done) | (simp [World.drew]; omega)) (by simp; omega)).trans c0
                      have k1 := (g7.cell_far ⟨W5.heap.size, 1, none⟩ (by first | (simp [World.drew]; done) | (simp [World.drew]; omega)) (by simp; omega)).trans c1
                      have k2 := (g7.cell_far ⟨W5.heap.size + 1, 0, none⟩ (by first | (simp [World.drew]; done) | (simp [World.drew]; omega)) (by simp; omega)).trans t0
                      have k3 := (g7.cell_far ⟨W5.heap.size + 1, 1, none⟩ (by first | (simp [World.drew]; done) | (simp [World.drew]; omega)) (by simp; omega)).trans t1
                      have k4 := (g7.cell_far ⟨W5.heap.size + 1, 2, none⟩ (by first | (simp [World.drew]; done) | (simp [World.drew]; omega)) (by simp; omega)).trans t2
                      have k5 := (g7.cell_far ⟨w.heap.size + 1, 0, none⟩ (by first | (simp [World.drew]; done) | (simp [World.drew]; omega)) (by simp; omega)).trans r0
                      have k6 := (g7.cell_far ⟨w.heap.size + 1, 1, none⟩ (by first | (simp [World.drew]; done) | (simp [World.drew]; omega)) (by simp; omega)).trans r1
                      have k7 := (g7.frozen_far ⟨w.heap.size + 1, 0, none⟩ (by first | (simp [World.drew]; done) | (simp [World.drew]; omega)) (by simp; omega)).trans fr0
                      have k8 := (g7.frozen_far ⟨w.heap.size + 1, 1, none⟩ (by first | (simp [World.drew]; done) | (simp [World.drew]; omega)) (by simp; omega)).trans fr1
                      have hz7 : w.heap.size + 1 < W7.heap.size := World.block_lt_of_cell? W7 _ k5
                      clear P7 g7))
          all_goals
            go_wp2
            have hd := HD.out
            obtain ⟨e1, e2⟩ := endD (n := w.heap.size + 1) (by omega) (by omega) (by omega) P7'.out G7.out (.int .u8 0) (.string v)
            refine bodyPost_ret (v := .tuple #[.agg #[.int .u8 0, .string v], .slice (some A7) 1 1]) (by simp [results, Tryd.results10, go_sem]; go_simp) rfl ⟨.slice (some A7) 1 1, by rw [hd], by rw [hd]; exact ⟨A7, rfl⟩, by rw [hd]; exact e1, e2⟩
        | true =>
          obtain ⟨xk, xv, xh⟩ := x
          cases xh with
          | true =>
            rw [if_neg (by simp)] at hd
            have HD := Lib.hid hd
            clear hd
            go_wp2_with fail
            go_region_held3 (fun w' => w'.cell? ⟨W5.heap.size, 0, none⟩ = some (.int .u8 0) ∧ w'.cell? ⟨W5.heap.size, 1, none⟩ = some (.string v) ∧ w'.cell? ⟨W5.heap.size + 1, 0, none⟩ = some (.string tk) ∧ w'.cell? ⟨W5.heap.size + 1, 1, none⟩ = some (.string tv) ∧ w'.cell? ⟨W5.heap.size + 1, 2, none⟩ = some (.bool true)) (first | (simp; done) | (go_simp; done) | go_keep)
              (first | (go_at_call 35; refine (writeS b bm kk L ⟨tk, tv, true⟩ _ (by first | exact H6.out | exact H6.out.below ((Below.refl _ _).drew)) hb htk hkk).mono ?_; rintro e W7 ⟨⟨A7, rfl⟩, P7, g7⟩
                        have G7 := Lib.hid (World.grownBy.trans (grown_of_belowW B6.out.drew (some bm)) g7)
                        have P7' := Lib.hid P7
                        have k0 := (g7.cell_far ⟨W5.heap.size, 0, none⟩ (by first | (simp [World.drew]; done) | (simp [World.drew]; omega)) (by simp; omega)).trans c0
                        have k1 := (g7.cell_far ⟨W5.heap.size, 1, none⟩ (by first | (simp [World.drew]; done) | (simp [World.drew]; omega)) (by simp; omega)).trans c1
                        have k2 := (g7.cell_far ⟨W5.heap.size + 1, 0, none⟩ (by first | (simp [World.drew]; done) | (simp [World.drew]; omega)) (by simp; omega)).trans t0
                        have k3 := (g7.cell_far ⟨W5.heap.size + 1, 1, none⟩ (by first | (simp [World.drew]; done) | (simp [World.drew]; omega)) (by simp; omega)).trans t1
                        have k4 := (g7.cell_far ⟨W5.heap.size + 1, 2, none⟩ (by first | (simp [World.drew]; done) | (simp [World.drew]; omega)) (by simp; omega)).trans t2
                        have k5 := (g7.cell_far ⟨w.heap.size + 1, 0, none⟩ (by first | (simp [World.drew]; done) | (simp [World.drew]; omega)) (by simp; omega)).trans r0
                        have k6 := (g7.cell_far ⟨w.heap.size + 1, 1, none⟩ (by first | (simp [World.drew]; done) | (simp [World.drew]; omega)) (by simp; omega)).trans r1
                        have k7 := (g7.frozen_far ⟨w.heap.size + 1, 0, none⟩ (by first | (simp [World.drew]; done) | (simp [World.drew]; omega)) (by simp; omega)).trans fr0
                        have k8 := (g7.frozen_far ⟨w.heap.size + 1, 1, none⟩ (by first | (simp [World.drew]; done) | (simp [World.drew]; omega)) (by simp; omega)).trans fr1
                        have hz7 : w.heap.size + 1 < W7.heap.size := World.block_lt_of_cell? W7 _ k5
                        clear P7 g7))
            all_goals
              go_wp2
              have hd := HD.out
              obtain ⟨e1, e2⟩ := endD (n := w.heap.size + 1) (by omega) (by omega) (by omega) P7'.out G7.out (.int .u8 0) (.string v)
              refine bodyPost_ret (v := .tuple #[.agg #[.int .u8 0, .string v], .slice (some A7) 1 1]) (by simp [results, Tryd.results10, go_sem]; go_simp) rfl ⟨.slice (some A7) 1 1, by rw [hd], by rw [hd]; exact ⟨A7, rfl⟩, by rw [hd]; exact e1, e2⟩
          | false =>
            by_cases hl : 256 ≤ L.length
            · rw [if_pos ⟨rfl, rfl, hl⟩] at hd
              have HD := Lib.hid hd
              clear hd
              have hli : (256 : Int) ≤ (L.length : Int) := by omega
              go_wp2_with (first
                | (go_at_call 26; refine (lenS b bm kk L _ H6.out).mono ?_; rintro e W8 ⟨rfl, b8⟩
                   have B8 := Lib.hid (B6.out.trans (b8.mono B6.out.size))
                   have H8 := Lib.hid (H6.out.below b8)
                   have S8 := Lib.hid (S6.out.below b8)
                   have hs8 := b8.size
                   have c0' := (b8.cell (p := ⟨W5.heap.size, 0, none⟩) (by first | (simp; done) | (simp; omega))).trans c0
                   have c1' := (b8.cell (p := ⟨W5.heap.size, 1, none⟩) (by first | (simp; done) | (simp; omega))).trans c1
                   have t0' := (b8.cell (p := ⟨W5.heap.size + 1, 0, none⟩) (by first | (simp; done) | (simp; omega))).trans t0
                   have t1' := (b8.cell (p := ⟨W5.heap.size + 1, 1, none⟩) (by first | (simp; done) | (simp; omega))).trans t1
                   have t2' := (b8.cell (p := ⟨W5.heap.size + 1, 2, none⟩) (by first | (simp; done) | (simp; omega))).trans t2
                   have hz8 : W5.heap.size + 1 < W8.heap.size := World.block_lt_of_cell? W8 _ t0'
                   clear p0 p1 p2 p3 p4 r0 r1 fr0 fr1 hz b8 c0 c1 t0 t1 t2 q0 q1 q2 hs8
                   obtain ⟨p0, p1, p2, p3, p4, r0, r1, fr0, fr1, hz⟩ := S8.out))
              have hd := HD.out
              obtain ⟨e1, e2⟩ := endD (n := w.heap.size + 1) (by omega) (by omega) (by omega) (H8.out.mono (Nat.le_succ _)) (grown_of_belowW B8.out (some bm)) (.int .u8 5) (.string (ByteArray.mk #[]))
              refine bodyPost_ret (v := .tuple #[.agg #[.int .u8 5, .string (ByteArray.mk #[])], .slice none 0 0]) (by simp [results, Tryd.results10, go_sem]; go_simp) rfl ⟨.slice none 0 0, by rw [hd], by rw [hd]; rfl, by rw [hd]; exact e1, e2⟩
            · rw [if_neg (by simp [hl])] at hd
              have HD := Lib.hid hd
              clear hd
              have hli : (L.length : Int) < 256 := by omega
              go_wp2_with (first
                | (go_at_call 26; refine (lenS b bm kk L _ H6.out).mono ?_; rintro e W8 ⟨rfl, b8⟩
                   have B8 := Lib.hid (B6.out.trans (b8.mono B6.out.size))
                   have H8 := Lib.hid (H6.out.below b8)
                   have S8 := Lib.hid (S6.out.below b8)
                   have hs8 := b8.size
                   have c0' := (b8.cell (p := ⟨W5.heap.size, 0, none⟩) (by first | (simp; done) | (simp; omega))).trans c0
                   have c1' := (b8.cell (p := ⟨W5.heap.size, 1, none⟩) (by first | (simp; done) | (simp; omega))).trans c1
                   have t0' := (b8.cell (p := ⟨W5.heap.size + 1, 0, none⟩) (by first | (simp; done) | (simp; omega))).trans t0
                   have t1' := (b8.cell (p := ⟨W5.heap.size + 1, 1, none⟩) (by first | (simp; done) | (simp; omega))).trans t1
                   have t2' := (b8.cell (p := ⟨W5.heap.size + 1, 2, none⟩) (by first | (simp; done) | (simp; omega))).trans t2
                   have hz8 : W5.heap.size + 1 < W8.heap.size := World.block_lt_of_cell? W8 _ t0'
                   clear p0 p1 p2 p3 p4 r0 r1 fr0 fr1 hz b8 c0 c1 t0 t1 t2 q0 q1 q2 hs8
                   obtain ⟨p0, p1, p2, p3, p4, r0, r1, fr0, fr1, hz⟩ := S8.out))
              go_region_held3 (fun w' => w'.cell? ⟨W5.heap.size, 0, none⟩ = some (.int .u8 0) ∧ w'.cell? ⟨W5.heap.size, 1, none⟩ = some (.string v) ∧ w'.cell? ⟨W5.heap.size + 1, 0, none⟩ = some (.string tk) ∧ w'.cell? ⟨W5.heap.size + 1, 1, none⟩ = some (.string tv) ∧ w'.cell? ⟨W5.heap.size + 1, 2, none⟩ = some (.bool true)) (first | (simp; done) | (go_simp; done) | go_keep)
                (first | (go_at_call 35; refine (writeS b bm kk L ⟨tk, tv, true⟩ _ (by first | exact H8.out | exact H8.out.below ((Below.refl _ _).drew)) hb htk hkk).mono ?_; rintro e W7 ⟨⟨A7, rfl⟩, P7, g7⟩
                          have G7 := Lib.hid (World.grownBy.trans (grown_of_belowW B8.out.drew (some bm)) g7)
                          have P7' := Lib.hid P7
                          have k0 := (g7.cell_far ⟨W5.heap.size, 0, none⟩ (by first | exact hz8 | exact Nat.lt_of_succ_lt hz8 | exact hz) (by simp; omega)).trans c0'
                          have k1 := (g7.cell_far ⟨W5.heap.size, 1, none⟩ (by first | exact hz8 | exact Nat.lt_of_succ_lt hz8 | exact hz) (by simp; omega)).trans c1'
                          have k2 := (g7.cell_far ⟨W5.heap.size + 1, 0, none⟩ (by first | exact hz8 | exact Nat.lt_of_succ_lt hz8 | exact hz) (by simp; omega)).trans t0'
                          have k3 := (g7.cell_far ⟨W5.heap.size + 1, 1, none⟩ (by first | exact hz8 | exact Nat.lt_of_succ_lt hz8 | exact hz) (by simp; omega)).trans t1'
                          have k4 := (g7.cell_far ⟨W5.heap.size + 1, 2, none⟩ (by first | exact hz8 | exact Nat.lt_of_succ_lt hz8 | exact hz) (by simp; omega)).trans t2'
                          have k5 := (g7.cell_far ⟨w.heap.size + 1, 0, none⟩ (by first | exact hz8 | exact Nat.lt_of_succ_lt hz8 | exact hz) (by simp; omega)).trans r0
                          have k6 := (g7.cell_far ⟨w.heap.size + 1, 1, none⟩ (by first | exact hz8 | exact Nat.lt_of_succ_lt hz8 | exact hz) (by simp; omega)).trans r1
                          have k7 := (g7.frozen_far ⟨w.heap.size + 1, 0, none⟩ (by first | exact hz8 | exact Nat.lt_of_succ_lt hz8 | exact hz) (by simp; omega)).trans fr0
                          have k8 := (g7.frozen_far ⟨w.heap.size + 1, 1, none⟩ (by first | exact hz8 | exact Nat.lt_of_succ_lt hz8 | exact hz) (by simp; omega)).trans fr1
                          have hz7 : w.heap.size + 1 < W7.heap.size := World.block_lt_of_cell? W7 _ k5
                          clear P7 g7))
              all_goals
                go_wp2
                have hd := HD.out
                obtain ⟨e1, e2⟩ := endD (n := w.heap.size + 1) (by omega) (by omega) (by omega) P7'.out G7.out (.int .u8 0) (.string v)
                refine bodyPost_ret (v := .tuple #[.agg #[.int .u8 0, .string v], .slice (some A7) 1 1]) (by simp [results, Tryd.results10, go_sem]; go_simp) rfl ⟨.slice (some A7) 1 1, by rw [hd], by rw [hd]; exact ⟨A7, rfl⟩, by rw [hd]; exact e1, e2⟩
    · rw [if_pos (.inl hc0)] at hd
      have HD := Lib.hid hd
      clear hd
      go_wp2_with fail
      have hd := HD.out
      obtain ⟨e1, e2⟩ := endD (n := w.heap.size + 1) (by omega) (by omega) (by omega) (H6.out.mono (Nat.le_succ _)) (grown_of_belowW B6.out (some bm)) (.int .u8 c) (.string (v))
      refine bodyPost_ret (v := .tuple #[.agg #[.int .u8 c, .string (v)], .slice none 0 0]) (by simp [results, Tryd.results10, go_sem]; go_simp) rfl ⟨.slice none 0 0, by rw [hd], by rw [hd]; rfl, by rw [hd]; exact e1, e2⟩

end Go.Proofs.YthmdnbgfnaokkaaDoor
