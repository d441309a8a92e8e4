/-
  The program's Hear: by an exact answer. Condition: the link lies in memory.
-/
import Derived.Test.YtnagbiicpecamaaJag
namespace Go.Proofs.Ytnagbiicpecamaa
set_option linter.unusedSimpArgs false
set_option linter.unusedVariables false
open Go.RowKit Go.Maps Go.Sort

abbrev KPu := Nat × List UInt8
def Kr.p (x : Kr) : KPu := (x.seq, x.b.B)
def fP (K : List KPu) (q : Nat) : Option KPu := K.find? fun x => decide (x.1 = q)
def outP (K : List KPu) (n : Nat) : List KPu := K.filter fun y => decide (y.1 ≠ n)
def comeP : Nat → List KPu → Nat → List KPu × Nat × List KPu
  | 0, K, w => (K, w, [])
  | f + 1, K, w => match fP K w with
    | none => (K, w, [])
    | some x => ((comeP f (outP K w) (inc w)).1, (comeP f (outP K w) (inc w)).2.1, x :: (comeP f (outP K w) (inc w)).2.2)
def keepP (w : Nat) (K : List KPu) (q : Nat) (B : List UInt8) : List KPu := if q < w ∨ 8 ≤ q - w ∨ (fP K q).isSome = true then K else K ++ [(q, B)]
theorem fP_map (K : List Kr) (q : Nat) : fP (K.map Kr.p) q = (fK K q).map Kr.p := by
  unfold fP fK
  rw [List.find?_map]
  rfl
theorem outP_map (K : List Kr) (n : Nat) : outP (K.map Kr.p) n = (outN K n).map Kr.p := by
  unfold outP outN
  rw [List.filter_map]
  rfl
theorem comeP_map : ∀ (f : Nat) (K : List Kr) (w : Nat), comeP f (K.map Kr.p) w = ((comeF f K w).1.map Kr.p, (comeF f K w).2.1, (comeF f K w).2.2.map Kr.p)
  | 0, K, w => rfl
  | f + 1, K, w => by
    cases h : fK K w with
    | none => simp [comeP, comeF, fP_map, h]
    | some x => simp [comeP, comeF, fP_map, h, outP_map, comeP_map f (outN K w) (inc w)]
/-- what is heard. -/
structure Hp where
  fn : Int
  fl : Int
  tn : Int
  tl : Int
  seq : Nat
  ack : Nat
  has : Bool
  B : List UInt8
def Hp.cs (p : Hp) (XA : Option Addr) (xc : Nat) : Array Value := #[.int .u8 p.fn, .int .u16 p.fl, .int .u8 p.tn, .int .u16 p.tl, .int .u64 p.seq, .int .u64 p.ack, .bool p.has, .slice XA p.B.length xc]
/-- is it from the peer to me? -/
def Hp.mine (p : Hp) (s : Sc) : Prop := p.fn = s.pn ∧ p.fl = s.pl ∧ p.tn = s.mn ∧ p.tl = s.ml
instance (p : Hp) (s : Sc) : Decidable (p.mine s) := by unfold Hp.mine; exact inferInstance
/-- the plain answer. -/
def hearP {α : Type} (s : Sc) (L : List α) (K : List KPu) (p : Hp) : Sc × List α × List KPu × List KPu :=
  if p.mine s then
    if p.has = true then
      ({ s with owed := true, want := (comeP (keepP s.want K p.seq p.B).length (keepP s.want K p.seq p.B) s.want).2.1 }, L.drop (ackN s.next p.ack L.length), (comeP (keepP s.want K p.seq p.B).length (keepP s.want K p.seq p.B) s.want).1, (comeP (keepP s.want K p.seq p.B).length (keepP s.want K p.seq p.B) s.want).2.2)
    else (s, L.drop (ackN s.next p.ack L.length), K, [])
  else (s, L, K, [])
def HearR (base : Nat) (W : World) (b m : Nat) (v : Value) (c : Nat) (s : Sc) (L : List Ls) (K : List Kr) (p : Hp) (e : Ending) (W' : World) : Prop :=
  ∃ (dv v' : Value) (K' D : List Kr), e = .returned dv ∧ W'.ownsRow W.heap.size 44 1 dv D.length (bvs D) ∧ (∀ x ∈ D, x.b.Ok W') ∧ v'.ownBlock = v.ownBlock ∧ PL base W' b m v' (c + 1) (hearP s L (K.map Kr.p) p).1 (hearP s L (K.map Kr.p) p).2.1 K' ∧
    K'.map Kr.p = (hearP s L (K.map Kr.p) p).2.2.1 ∧ D.map Kr.p = (hearP s L (K.map Kr.p) p).2.2.2 ∧ KP (FP b m v) W W'
def KeepR (base : Nat) (W : World) (b m : Nat) (v : Value) (c : Nat) (s : Sc) (L : List Ls) (K : List Kr) (q : Nat) (X : List UInt8) (W' : World) : Prop :=
  ∃ K', PL base W' b m v (c + 1) s L K' ∧ KP (fun k => k = m) W W' ∧ K'.map Kr.p = keepP s.want (K.map Kr.p) q X ∧ K'.length ≤ K.length + 1
theorem keepW (base : Nat) (W : World) (b m : Nat) (v : Value) (c : Nat) (s : Sc) (L : List Ls) (K : List Kr) (h : PL base W b m v c s L K) (q : Nat) (hq : q ≤ 18446744073709551615) (XA : Option Addr) (X : List UInt8) (xc : Nat) (hx : BytesAt W W.heap.size XA X) (hxl : X.length ≤ 1000000) (hxc : X.length ≤ xc) (hxm : xc ≤ maxLen) (hc : c < 1000000) :
    Calls Try.prog 23 #[.pointer (some ⟨b, 0, none⟩), .int .u64 q, .slice XA X.length xc] W fun e W' => e = .returned (.tuple #[]) ∧ KeepR base W b m v c s L K q X W' := by
  have same : ∀ W', W = W' → (q < s.want ∨ 8 ≤ q - s.want ∨ (fK K q).isSome = true) → KeepR base W b m v c s L K q X W' := fun W' e hor => by
    subst e
    refine ⟨K, h.mono (Nat.le_succ _), KP.refl _ _, ?_, by omega⟩
    unfold keepP
    rw [if_pos]
    rw [fP_map]
    simpa using hor
  by_cases h1 : q < s.want
  · exact (keep_low base W b m v c s L K h q hq XA X xc h1).mono fun e W' ⟨he, hw⟩ => ⟨he, same W' hw (.inl h1)⟩
  · by_cases h2 : 8 ≤ q - s.want
    · exact (keep_high base W b m v c s L K h q hq XA X xc h1 h2).mono fun e W' ⟨he, hw⟩ => ⟨he, same W' hw (.inr (.inl h2))⟩
    · cases h3 : fK K q with
      | some x => exact (keep_there base W b m v c s L K h q hq XA X xc h1 (by omega) (by rw [h3]; rfl)).mono fun e W' ⟨he, hw⟩ => ⟨he, same W' hw (.inr (.inr (by rw [h3]; rfl)))⟩
      | none =>
        refine (keep_new base W b m v c s L K h q hq XA X xc hx hxl hxc hxm h1 (by omega) h3 hc).mono fun e W' ⟨he, x, hx1, hx2, hp, hk⟩ => ⟨he, K ++ [x], hp, hk, ?_, by simp⟩
        unfold keepP
        rw [if_neg]
        · simp [Kr.p, hx1, hx2]
        · rw [fP_map, h3]
          simp
          omega
theorem neqProc (a b c d : Int) (r : Bool) (hr : decide (a = c ∧ b = d) = r) (W : World) : (binOp .neq 43 (.agg #[.int .u8 a, .int .u16 b]) (.agg #[.int .u8 c, .int .u16 d])).run Try.prog W = .ok (.bool (!r)) W := by
  subst hr
  go_simp
  by_cases h1 : a = c <;> by_cases h2 : b = d <;> simp [h1, h2]

/-- what stands behind the first test. -/
structure HearJ (base : Nat) (W : World) (b m : Nat) (v : Value) (c : Nat) (s : Sc) (L : List Ls) (K : List Kr) (p : Hp) (XA : Option Addr) (xc : Nat) (w : World) : Prop where
  pl : PL base w b m v c s L K
  pk : w.heap[W.heap.size]? = some (.cells (p.cs XA xc) 46 (0, 0))
  x : OwnB w 0 XA p.B
  bl : Below W.heap.size W w
set_option maxRecDepth 100000 in
set_option maxHeartbeats 2000000 in
theorem hear_from (base : Nat) (W : World) (b m : Nat) (v : Value) (c : Nat) (s : Sc) (L : List Ls) (K : List Kr) (h : PL base W b m v c s L K) (p : Hp) (XA : Option Addr) (xc : Nat) (hx : OwnB W 0 XA p.B) (hxl : p.B.length ≤ 1000000) (hxc : p.B.length ≤ xc) (hxm : xc ≤ maxLen) (hq : p.seq ≤ 18446744073709551615) (hc : c < 1000000) (hK : K.length ≤ 1000) (ho : ¬ (p.fn = s.pn ∧ p.fl = s.pl)) :
    Calls Try.prog 13 #[.pointer (some ⟨b, 0, none⟩), .agg (p.cs XA xc)] W fun e W' => e = .returned (.slice none 0 0) ∧ Below W.heap.size W W' := by
  have K1 := made_yes base
  obtain ⟨W1, hW1⟩ : ∃ Y, W.alloc (.cells (p.cs XA xc) 46) = Y := ⟨_, rfl⟩
  have r1 : W1.heap[W.heap.size]? = some (.cells (p.cs XA xc) 46 (0, 0)) := by rw [← hW1]; exact heap_alloc_new _ _
  have b1 : Below W.heap.size W W1 := by rw [← hW1]; exact (Below.refl _ _).alloc (Nat.le_refl _) _
  have J1 : HearJ base W b m v c s L K p XA xc W1 := ⟨h.below b1, r1, hx.keep (fun g cur _ hg => (b1.block g (blt hg)).trans hg), b1⟩
  have J1 := Lib.hid J1
  have HXL := Lib.hid hxl
  have HXC := Lib.hid hxc
  have HXM := Lib.hid hxm
  have HQ := Lib.hid hq
  have HC := Lib.hid hc
  have HK := Lib.hid hK
  obtain ⟨mn, ml, pn, pl, ag, nx, wt, ow⟩ := s
  have lnk := J1.out.pl.lnk
  simp only [Sc.cs] at lnk
  have HW := Lib.hid hW1
  have R1 := Lib.hid r1
  obtain ⟨fn, fl, tn, tl, sq, ak, hs, xB⟩ := p
  obtain ⟨xl, hxx⟩ : ∃ xl, xB.length = xl := ⟨_, rfl⟩
  simp only [Hp.cs, hxx] at r1 HW ⊢
  have n1 := fun W => neqProc fn fl pn pl false (by simpa using ho) W
  clear ho
  have c0 := cell_of lnk 0 (.int .u8 mn) rfl
  have c1 := cell_of lnk 1 (.int .u16 ml) rfl
  have c2 := cell_of lnk 2 (.int .u8 pn) rfl
  have c3 := cell_of lnk 3 (.int .u16 pl) rfl
  have d0 := cell_of r1 0 (.int .u8 fn) rfl
  have d1 := cell_of r1 1 (.int .u16 fl) rfl
  have d2 := cell_of r1 2 (.int .u8 tn) rfl
  have d3 := cell_of r1 3 (.int .u16 tl) rfl
  have B1 := Lib.hid b1
  clear h hx hxl hxc hxm hq hc hK hW1 r1 b1 lnk hxx
  go_enter Try.func13, Try.ntmps13
  go_wp2_with (refine wpList_bx rfl 46 (.tmp 1) rfl 3 rfl #[.int .u8 fn, .int .u16 fl, .int .u8 tn, .int .u16 tl, .int .u64 sq, .int .u64 ak, .bool hs, .slice XA xl xc] rfl ?_; rw [HW.out])
  have t0 := cell_regrown c0
  have y0 := cell_regrown d0
  have t1 := cell_regrown c1
  have y1 := cell_regrown d1
  have t2 := cell_regrown c2
  have y2 := cell_regrown d2
  have t3 := cell_regrown c3
  have y3 := cell_regrown d3
  have LL : ∀ d os, Calls Try.prog 17 #[.pointer (some ⟨b, 0, none⟩)] (grow (redrawn W1 d) os) fun e w' => e = .returned (.bool true) ∧ Below (grow (redrawn W1 d) os).heap.size (grow (redrawn W1 d) os) w' := fun d os =>
    (made_yes _ _ _ _ _ _ _ _ _ (J1.out.pl.below (below_regrown W1 d os))).mono fun _ _ ⟨he, hw⟩ => ⟨he, hw ▸ Below.refl _ _⟩
  have LH := Lib.hid LL
  clear LL K1 c0 c1 c2 c3 d0 d1 d2 d3
  refine wp_region_quiet_below (by kernel_rfl) (by kernel_rfl) ?_
  repeat (go_big_quiet_step (first | (go_at_call 17; exact Calls.regrown_of (LH.out _ _)) | fail))
  refine wpQuiet_nil ?_
  rintro W3 ⟨p3, rfl⟩
  have b3 := below_regrown W1 p3.d p3.os
  generalize grow (redrawn W1 p3.d) p3.os = W3 at b3 ⊢
  clear t0 t1 t2 t3 y0 y1 y2 y3 LH
  have B3 := Lib.hid (B1.out.trans (b3.mono B1.out.size))
  clear b3
  go_wp2
  go_ret
  exact ⟨rfl, B3.out⟩
set_option maxRecDepth 100000 in
set_option maxHeartbeats 2000000 in
theorem hear_to (base : Nat) (W : World) (b m : Nat) (v : Value) (c : Nat) (s : Sc) (L : List Ls) (K : List Kr) (h : PL base W b m v c s L K) (p : Hp) (XA : Option Addr) (xc : Nat) (hx : OwnB W 0 XA p.B) (hxl : p.B.length ≤ 1000000) (hxc : p.B.length ≤ xc) (hxm : xc ≤ maxLen) (hq : p.seq ≤ 18446744073709551615) (hc : c < 1000000) (hK : K.length ≤ 1000) (ho : p.fn = s.pn ∧ p.fl = s.pl) (ho2 : ¬ (p.tn = s.mn ∧ p.tl = s.ml)) :
    Calls Try.prog 13 #[.pointer (some ⟨b, 0, none⟩), .agg (p.cs XA xc)] W fun e W' => e = .returned (.slice none 0 0) ∧ Below W.heap.size W W' := by
  have K1 := made_yes base
  obtain ⟨W1, hW1⟩ : ∃ Y, W.alloc (.cells (p.cs XA xc) 46) = Y := ⟨_, rfl⟩
  have r1 : W1.heap[W.heap.size]? = some (.cells (p.cs XA xc) 46 (0, 0)) := by rw [← hW1]; exact heap_alloc_new _ _
  have b1 : Below W.heap.size W W1 := by rw [← hW1]; exact (Below.refl _ _).alloc (Nat.le_refl _) _
  have J1 : HearJ base W b m v c s L K p XA xc W1 := ⟨h.below b1, r1, hx.keep (fun g cur _ hg => (b1.block g (blt hg)).trans hg), b1⟩
  have J1 := Lib.hid J1
  have HXL := Lib.hid hxl
  have HXC := Lib.hid hxc
  have HXM := Lib.hid hxm
  have HQ := Lib.hid hq
  have HC := Lib.hid hc
  have HK := Lib.hid hK
  obtain ⟨mn, ml, pn, pl, ag, nx, wt, ow⟩ := s
  have lnk := J1.out.pl.lnk
  simp only [Sc.cs] at lnk
  have HW := Lib.hid hW1
  have R1 := Lib.hid r1
  obtain ⟨fn, fl, tn, tl, sq, ak, hs, xB⟩ := p
  obtain ⟨xl, hxx⟩ : ∃ xl, xB.length = xl := ⟨_, rfl⟩
  simp only [Hp.cs, hxx] at r1 HW ⊢
  have n1 := fun W => neqProc fn fl pn pl true (by simpa using ho) W
  have n2 := fun W => neqProc tn tl mn ml false (by simpa using ho2) W
  clear ho ho2
  have c0 := cell_of lnk 0 (.int .u8 mn) rfl
  have c1 := cell_of lnk 1 (.int .u16 ml) rfl
  have c2 := cell_of lnk 2 (.int .u8 pn) rfl
  have c3 := cell_of lnk 3 (.int .u16 pl) rfl
  have d0 := cell_of r1 0 (.int .u8 fn) rfl
  have d1 := cell_of r1 1 (.int .u16 fl) rfl
  have d2 := cell_of r1 2 (.int .u8 tn) rfl
  have d3 := cell_of r1 3 (.int .u16 tl) rfl
  have B1 := Lib.hid b1
  clear h hx hxl hxc hxm hq hc hK hW1 r1 b1 lnk hxx
  go_enter Try.func13, Try.ntmps13
  go_wp2_with (refine wpList_bx rfl 46 (.tmp 1) rfl 3 rfl #[.int .u8 fn, .int .u16 fl, .int .u8 tn, .int .u16 tl, .int .u64 sq, .int .u64 ak, .bool hs, .slice XA xl xc] rfl ?_; rw [HW.out])
  have t0 := cell_regrown c0
  have y0 := cell_regrown d0
  have t1 := cell_regrown c1
  have y1 := cell_regrown d1
  have t2 := cell_regrown c2
  have y2 := cell_regrown d2
  have t3 := cell_regrown c3
  have y3 := cell_regrown d3
  have LL : ∀ d os, Calls Try.prog 17 #[.pointer (some ⟨b, 0, none⟩)] (grow (redrawn W1 d) os) fun e w' => e = .returned (.bool true) ∧ Below (grow (redrawn W1 d) os).heap.size (grow (redrawn W1 d) os) w' := fun d os =>
    (made_yes _ _ _ _ _ _ _ _ _ (J1.out.pl.below (below_regrown W1 d os))).mono fun _ _ ⟨he, hw⟩ => ⟨he, hw ▸ Below.refl _ _⟩
  have LH := Lib.hid LL
  clear LL K1 c0 c1 c2 c3 d0 d1 d2 d3
  refine wp_region_quiet_below (by kernel_rfl) (by kernel_rfl) ?_
  repeat (go_big_quiet_step (first | (go_at_call 17; exact Calls.regrown_of (LH.out _ _)) | fail))
  refine wpQuiet_nil ?_
  rintro W3 ⟨p3, rfl⟩
  have b3 := below_regrown W1 p3.d p3.os
  generalize grow (redrawn W1 p3.d) p3.os = W3 at b3 ⊢
  clear t0 t1 t2 t3 y0 y1 y2 y3 LH
  have B3 := Lib.hid (B1.out.trans (b3.mono B1.out.size))
  clear b3
  go_wp2
  go_ret
  exact ⟨rfl, B3.out⟩
set_option maxRecDepth 100000 in
set_option maxHeartbeats 2000000 in
theorem hear_nobody (base : Nat) (W : World) (b m : Nat) (v : Value) (c : Nat) (s : Sc) (L : List Ls) (K : List Kr) (h : PL base W b m v c s L K) (p : Hp) (XA : Option Addr) (xc : Nat) (hx : OwnB W 0 XA p.B) (hxl : p.B.length ≤ 1000000) (hxc : p.B.length ≤ xc) (hxm : xc ≤ maxLen) (hq : p.seq ≤ 18446744073709551615) (hc : c < 1000000) (hK : K.length ≤ 1000) (ho : p.mine s) (hh : p.has = false) :
    Calls Try.prog 13 #[.pointer (some ⟨b, 0, none⟩), .agg (p.cs XA xc)] W fun e W' => HearR base W b m v c s L K p e W' := by
  have K1 := made_yes base
  obtain ⟨W1, hW1⟩ : ∃ Y, W.alloc (.cells (p.cs XA xc) 46) = Y := ⟨_, rfl⟩
  have r1 : W1.heap[W.heap.size]? = some (.cells (p.cs XA xc) 46 (0, 0)) := by rw [← hW1]; exact heap_alloc_new _ _
  have b1 : Below W.heap.size W W1 := by rw [← hW1]; exact (Below.refl _ _).alloc (Nat.le_refl _) _
  have J1 : HearJ base W b m v c s L K p XA xc W1 := ⟨h.below b1, r1, hx.keep (fun g cur _ hg => (b1.block g (blt hg)).trans hg), b1⟩
  have J1 := Lib.hid J1
  have HXL := Lib.hid hxl
  have HXC := Lib.hid hxc
  have HXM := Lib.hid hxm
  have HQ := Lib.hid hq
  have HC := Lib.hid hc
  have HK := Lib.hid hK
  obtain ⟨mn, ml, pn, pl, ag, nx, wt, ow⟩ := s
  have lnk := J1.out.pl.lnk
  simp only [Sc.cs] at lnk
  have HW := Lib.hid hW1
  have R1 := Lib.hid r1
  obtain ⟨fn, fl, tn, tl, sq, ak, hs, xB⟩ := p
  obtain ⟨xl, hxx⟩ : ∃ xl, xB.length = xl := ⟨_, rfl⟩
  simp only [Hp.cs, hxx] at r1 HW ⊢
  subst hh
  have HM := Lib.hid ho
  have n1 := fun W => neqProc fn fl pn pl true (by have := ho.1; have := ho.2.1; simp at *; exact ⟨by assumption, by assumption⟩) W
  have n2 := fun W => neqProc tn tl mn ml true (by have := ho.2.2.1; have := ho.2.2.2; simp at *; exact ⟨by assumption, by assumption⟩) W
  clear ho
  have c0 := cell_of lnk 0 (.int .u8 mn) rfl
  have c1 := cell_of lnk 1 (.int .u16 ml) rfl
  have c2 := cell_of lnk 2 (.int .u8 pn) rfl
  have c3 := cell_of lnk 3 (.int .u16 pl) rfl
  have d0 := cell_of r1 0 (.int .u8 fn) rfl
  have d1 := cell_of r1 1 (.int .u16 fl) rfl
  have d2 := cell_of r1 2 (.int .u8 tn) rfl
  have d3 := cell_of r1 3 (.int .u16 tl) rfl
  have B1 := Lib.hid b1
  have HXX := Lib.hid hxx
  have J1' := Lib.hid J1.out
  clear h hx hxl hxc hxm hq hc hK hW1 r1 b1 lnk hxx
  go_enter Try.func13, Try.ntmps13
  go_wp2_with (refine wpList_bx rfl 46 (.tmp 1) rfl 3 rfl #[.int .u8 fn, .int .u16 fl, .int .u8 tn, .int .u16 tl, .int .u64 sq, .int .u64 ak, .bool false, .slice XA xl xc] rfl ?_; rw [HW.out])
  have t0 := cell_regrown c0
  have y0 := cell_regrown d0
  have t1 := cell_regrown c1
  have y1 := cell_regrown d1
  have t2 := cell_regrown c2
  have y2 := cell_regrown d2
  have t3 := cell_regrown c3
  have y3 := cell_regrown d3
  have LL : ∀ d os, Calls Try.prog 17 #[.pointer (some ⟨b, 0, none⟩)] (grow (redrawn W1 d) os) fun e w' => e = .returned (.bool true) ∧ Below (grow (redrawn W1 d) os).heap.size (grow (redrawn W1 d) os) w' := fun d os =>
    (made_yes _ _ _ _ _ _ _ _ _ (J1.out.pl.below (below_regrown W1 d os))).mono fun _ _ ⟨he, hw⟩ => ⟨he, hw ▸ Below.refl _ _⟩
  have LH := Lib.hid LL
  clear LL K1 c0 c1 c2 c3 d0 d1 d2 d3
  refine wp_region_quiet_below (by kernel_rfl) (by kernel_rfl) ?_
  repeat (go_big_quiet_step (first | (go_at_call 17; exact Calls.regrown_of (LH.out _ _)) | fail))
  refine wpQuiet_nil ?_
  rintro W3 ⟨p3, rfl⟩
  have b3 := below_regrown W1 p3.d p3.os
  generalize grow (redrawn W1 p3.d) p3.os = W3 at b3 ⊢
  clear t0 t1 t2 t3 y0 y1 y2 y3 LH n1 n2
  have P3 := J1.out.pl.below b3
  have r3 : W3.heap[W.heap.size]? = some (.cells #[.int .u8 fn, .int .u16 fl, .int .u8 tn, .int .u16 tl, .int .u64 sq, .int .u64 ak, .bool false, .slice XA xl xc] 46 (0, 0)) := (b3.block _ (blt R1.out)).trans (by have := R1.out; simp only [Hp.cs, HXX.out] at this; exact this)
  have x3 : OwnB W3 0 XA xB := J1.out.x.keep fun g cur _ hg => (b3.block g (blt hg)).trans hg
  have B3 := Lib.hid (B1.out.trans (b3.mono B1.out.size))
  have d5 := cell_of r3 5 (.int .u64 ak) rfl
  have KA := ackW base W3 b m v c ⟨mn, ml, pn, pl, ag, nx, wt, ow⟩ L K P3 ak
  have P3 := Lib.hid P3
  have R3 := Lib.hid r3
  have X3 := Lib.hid x3
  clear b3 r3 x3
  go_wp2_with fail
  refine KA.mono ?_
  rintro e w4 ⟨rfl, hr⟩
  unfold AckR at hr
  obtain ⟨v4, hv4, P4, k4⟩ := hr
  have r4 : w4.heap[W.heap.size]? = some (.cells #[.int .u8 fn, .int .u16 fl, .int .u8 tn, .int .u16 tl, .int .u64 sq, .int .u64 ak, .bool false, .slice XA xl xc] 46 (0, 0)) := (k4.block _ (blt R3.out) (fun e => by
    rcases e with e | e
    · exact apart_of R3.out P3.out.lnk (by decide) e
    · obtain ⟨c2, h2⟩ := P3.out.row.block _ e
      exact apart_of R3.out h2 (by decide) rfl)).trans R3.out
  have x4 : OwnB w4 0 XA xB := X3.out.keepK k4 fun g cur hg e => P3.out.u8 g cur hg (e.elim Or.inl fun e => Or.inr (Or.inr e))
  have d6 := cell_of r4 6 (.bool false) rfl
  have KK4 := Lib.hid ((KP.of_below B3.out).trans k4 fun _ _ h => h : KP (fun k => k = b ∨ v.ownBlock = some k) W w4)
  have HV4 := Lib.hid hv4
  have X4 := Lib.hid x4
  have R4 := Lib.hid r4
  have P4' := Lib.hid P4
  clear KA hv4 P4 k4 d5
  clear r4 x4
  go_wp2
  go_ret
  unfold HearR
  have e : hearP ⟨mn, ml, pn, pl, ag, nx, wt, ow⟩ L (K.map Kr.p) ⟨fn, fl, tn, tl, sq, ak, false, xB⟩ = (⟨mn, ml, pn, pl, ag, nx, wt, ow⟩, L.drop (ackN nx ak L.length), K.map Kr.p, []) := by
    unfold hearP
    rw [if_pos HM.out]
    rfl
  rw [e]
  exact ⟨.slice none 0 0, v4, K, [], rfl, World.ownsRow_nil _ _ _ _, fun _ hx => (by cases hx), HV4.out, P4'.out.mono (Nat.le_succ _), rfl, rfl, KK4.out.mono fun k hk => hk.elim Or.inl fun e => Or.inr (Or.inr e)⟩
set_option maxRecDepth 100000 in
set_option maxHeartbeats 2000000 in
theorem hear_body (base : Nat) (W : World) (b m : Nat) (v : Value) (c : Nat) (s : Sc) (L : List Ls) (K : List Kr) (h : PL base W b m v c s L K) (p : Hp) (XA : Option Addr) (xc : Nat) (hx : OwnB W 0 XA p.B) (hxl : p.B.length ≤ 1000000) (hxc : p.B.length ≤ xc) (hxm : xc ≤ maxLen) (hq : p.seq ≤ 18446744073709551615) (hc : c < 1000000) (hK : K.length ≤ 1000) (ho : p.mine s) (hh : p.has = true) :
    Calls Try.prog 13 #[.pointer (some ⟨b, 0, none⟩), .agg (p.cs XA xc)] W fun e W' => HearR base W b m v c s L K p e W' := by
  have K1 := made_yes base
  obtain ⟨W1, hW1⟩ : ∃ Y, W.alloc (.cells (p.cs XA xc) 46) = Y := ⟨_, rfl⟩
  have r1 : W1.heap[W.heap.size]? = some (.cells (p.cs XA xc) 46 (0, 0)) := by rw [← hW1]; exact heap_alloc_new _ _
  have b1 : Below W.heap.size W W1 := by rw [← hW1]; exact (Below.refl _ _).alloc (Nat.le_refl _) _
  have J1 : HearJ base W b m v c s L K p XA xc W1 := ⟨h.below b1, r1, hx.keep (fun g cur _ hg => (b1.block g (blt hg)).trans hg), b1⟩
  have J1 := Lib.hid J1
  have HXL := Lib.hid hxl
  have HXC := Lib.hid hxc
  have HXM := Lib.hid hxm
  have HQ := Lib.hid hq
  have HC := Lib.hid hc
  have HK := Lib.hid hK
  obtain ⟨mn, ml, pn, pl, ag, nx, wt, ow⟩ := s
  have lnk := J1.out.pl.lnk
  simp only [Sc.cs] at lnk
  have HW := Lib.hid hW1
  have R1 := Lib.hid r1
  obtain ⟨fn, fl, tn, tl, sq, ak, hs, xB⟩ := p
  obtain ⟨xl, hxx⟩ : ∃ xl, xB.length = xl := ⟨_, rfl⟩
  simp only [Hp.cs, hxx] at r1 HW ⊢
  subst hh
  have HM := Lib.hid ho
  have n1 := fun W => neqProc fn fl pn pl true (by have := ho.1; have := ho.2.1; simp at *; exact ⟨by assumption, by assumption⟩) W
  have n2 := fun W => neqProc tn tl mn ml true (by have := ho.2.2.1; have := ho.2.2.2; simp at *; exact ⟨by assumption, by assumption⟩) W
  clear ho
  have c0 := cell_of lnk 0 (.int .u8 mn) rfl
  have c1 := cell_of lnk 1 (.int .u16 ml) rfl
  have c2 := cell_of lnk 2 (.int .u8 pn) rfl
  have c3 := cell_of lnk 3 (.int .u16 pl) rfl
  have d0 := cell_of r1 0 (.int .u8 fn) rfl
  have d1 := cell_of r1 1 (.int .u16 fl) rfl
  have d2 := cell_of r1 2 (.int .u8 tn) rfl
  have d3 := cell_of r1 3 (.int .u16 tl) rfl
  have B1 := Lib.hid b1
  have HXX := Lib.hid hxx
  have J1' := Lib.hid J1.out
  clear h hx hxl hxc hxm hq hc hK hW1 r1 b1 lnk hxx
  go_enter Try.func13, Try.ntmps13
  go_wp2_with (refine wpList_bx rfl 46 (.tmp 1) rfl 3 rfl #[.int .u8 fn, .int .u16 fl, .int .u8 tn, .int .u16 tl, .int .u64 sq, .int .u64 ak, .bool true, .slice XA xl xc] rfl ?_; rw [HW.out])
  have t0 := cell_regrown c0
  have y0 := cell_regrown d0
  have t1 := cell_regrown c1
  have y1 := cell_regrown d1
  have t2 := cell_regrown c2
  have y2 := cell_regrown d2
  have t3 := cell_regrown c3
  have y3 := cell_regrown d3
  have LL : ∀ d os, Calls Try.prog 17 #[.pointer (some ⟨b, 0, none⟩)] (grow (redrawn W1 d) os) fun e w' => e = .returned (.bool true) ∧ Below (grow (redrawn W1 d) os).heap.size (grow (redrawn W1 d) os) w' := fun d os =>
    (made_yes _ _ _ _ _ _ _ _ _ (J1.out.pl.below (below_regrown W1 d os))).mono fun _ _ ⟨he, hw⟩ => ⟨he, hw ▸ Below.refl _ _⟩
  have LH := Lib.hid LL
  clear LL K1 c0 c1 c2 c3 d0 d1 d2 d3
  refine wp_region_quiet_below (by kernel_rfl) (by kernel_rfl) ?_
  repeat (go_big_quiet_step (first | (go_at_call 17; exact Calls.regrown_of (LH.out _ _)) | fail))
  refine wpQuiet_nil ?_
  rintro W3 ⟨p3, rfl⟩
  have b3 := below_regrown W1 p3.d p3.os
  generalize grow (redrawn W1 p3.d) p3.os = W3 at b3 ⊢
  clear t0 t1 t2 t3 y0 y1 y2 y3 LH n1 n2
  have P3 := J1.out.pl.below b3
  have r3 : W3.heap[W.heap.size]? = some (.cells #[.int .u8 fn, .int .u16 fl, .int .u8 tn, .int .u16 tl, .int .u64 sq, .int .u64 ak, .bool true, .slice XA xl xc] 46 (0, 0)) := (b3.block _ (blt R1.out)).trans (by have := R1.out; simp only [Hp.cs, HXX.out] at this; exact this)
  have x3 : OwnB W3 0 XA xB := J1.out.x.keep fun g cur _ hg => (b3.block g (blt hg)).trans hg
  have B3 := Lib.hid (B1.out.trans (b3.mono B1.out.size))
  have d5 := cell_of r3 5 (.int .u64 ak) rfl
  have KA := ackW base W3 b m v c ⟨mn, ml, pn, pl, ag, nx, wt, ow⟩ L K P3 ak
  have P3 := Lib.hid P3
  have R3 := Lib.hid r3
  have X3 := Lib.hid x3
  clear b3 r3 x3
  go_wp2_with fail
  refine KA.mono ?_
  rintro e w4 ⟨rfl, hr⟩
  unfold AckR at hr
  obtain ⟨v4, hv4, P4, k4⟩ := hr
  have r4 : w4.heap[W.heap.size]? = some (.cells #[.int .u8 fn, .int .u16 fl, .int .u8 tn, .int .u16 tl, .int .u64 sq, .int .u64 ak, .bool true, .slice XA xl xc] 46 (0, 0)) := (k4.block _ (blt R3.out) (fun e => by
    rcases e with e | e
    · exact apart_of R3.out P3.out.lnk (by decide) e
    · obtain ⟨c2, h2⟩ := P3.out.row.block _ e
      exact apart_of R3.out h2 (by decide) rfl)).trans R3.out
  have x4 : OwnB w4 0 XA xB := X3.out.keepK k4 fun g cur hg e => P3.out.u8 g cur hg (e.elim Or.inl fun e => Or.inr (Or.inr e))
  have d6 := cell_of r4 6 (.bool true) rfl
  have KK4 := Lib.hid ((KP.of_below B3.out).trans k4 fun _ _ h => h : KP (fun k => k = b ∨ v.ownBlock = some k) W w4)
  have HV4 := Lib.hid hv4
  have X4 := Lib.hid x4
  have R4 := Lib.hid r4
  have P4' := Lib.hid P4
  clear KA hv4 P4 k4 d5
  have lnk4 := P4'.out.lnk
  have c8 := cell_of lnk4 8 (.bool ow) rfl
  have z8 := frz_row 8 lnk4
  obtain ⟨w5, hw5⟩ : ∃ Y, w4.setCell ⟨b, 8, none⟩ (.bool true) = Y := ⟨_, rfl⟩
  have P5 := P4'.out.owe true
  rw [hw5] at P5
  have k5 : KP (fun k => k = b) w4 w5 := by rw [← hw5]; exact KP.set (S := fun k => k = b) w4 b 8 _ rfl
  have r5 := (k5.block _ (blt r4) (fun e => apart_of r4 lnk4 (by decide) e)).trans r4
  have x5 : OwnB w5 0 XA xB := x4.keepK k5 fun g cur hg e => P4'.out.u8 g cur hg (Or.inl e)
  have d4 := cell_of r5 4 (.int .u64 sq) rfl
  have d7 := cell_of r5 7 (.slice XA xl xc) rfl
  have KE := keepW base w5 b m v4 c ⟨mn, ml, pn, pl, ag, nx, wt, true⟩ (L.drop (ackN nx ak L.length)) K P5 sq HQ.out XA xB xc x5.at_ HXL.out HXC.out HXM.out HC.out
  have hxx := HXX.out
  simp only [hxx] at KE
  have HW5 := Lib.hid hw5
  have K5 := Lib.hid k5
  clear lnk4 hw5 P5 k5 r5 x5 r4 x4 hxx
  go_wp2_with (rw [HW5.out])
  refine KE.mono ?_
  rintro e w6 ⟨rfl, hr⟩
  unfold KeepR at hr
  obtain ⟨K1, P6, k6, hp6, hl6⟩ := hr
  have KC := comeW base w6 b m v4 (c + 1) ⟨mn, ml, pn, pl, ag, nx, wt, true⟩ (L.drop (ackN nx ak L.length)) K1 P6 (by have := HK.out; omega)
  have HP6 := Lib.hid hp6
  have K6 := Lib.hid k6
  clear KE P6 k6 hp6 hl6 d4 d7 c8 z8 d6
  go_wp2_with fail
  refine KC.mono ?_
  rintro e w7 hr
  unfold ComeR at hr
  obtain ⟨dv, rfl, row7, ok7, P7, k7⟩ := hr
  clear KC
  go_wp2
  go_ret
  unfold HearR
  have hp := HP6.out
  have hlen : (K1.map Kr.p).length = K1.length := List.length_map _
  have e : hearP ⟨mn, ml, pn, pl, ag, nx, wt, ow⟩ L (K.map Kr.p) ⟨fn, fl, tn, tl, sq, ak, true, xB⟩ = (⟨mn, ml, pn, pl, ag, nx, (comeF K1.length K1 wt).2.1, true⟩, L.drop (ackN nx ak L.length), (comeF K1.length K1 wt).1.map Kr.p, (comeF K1.length K1 wt).2.2.map Kr.p) := by
    unfold hearP
    rw [if_pos HM.out, if_pos rfl]
    show (_, _, (comeP (keepP wt (K.map Kr.p) sq xB).length (keepP wt (K.map Kr.p) sq xB) wt).1, (comeP (keepP wt (K.map Kr.p) sq xB).length (keepP wt (K.map Kr.p) sq xB) wt).2.2) = _
    have hp' : K1.map Kr.p = keepP wt (K.map Kr.p) sq xB := hp
    rw [← hp', hlen, comeP_map]
  rw [e]
  have kk : KP (FP b m v) W w7 := by
    have a1 : KP (FP b m v) W w4 := KK4.out.mono fun k hk => hk.elim Or.inl fun e => Or.inr (Or.inr e)
    have a2 := a1.trans K5.out fun k _ hk => Or.inl hk
    have a3 := a2.trans K6.out fun k _ hk => Or.inr (Or.inl hk)
    exact a3.trans k7 fun k _ hk => hk.elim Or.inl fun e => Or.inr (Or.inl e)
  have hs : W.heap.size ≤ w6.heap.size := Nat.le_trans KK4.out.size (Nat.le_trans K5.out.size K6.out.size)
  exact ⟨dv, v4, _, _, rfl, owns_lower row7 hs, ok7, HV4.out, P7, rfl, rfl, kk⟩
theorem hearW (base : Nat) (W : World) (b m : Nat) (v : Value) (c : Nat) (s : Sc) (L : List Ls) (K : List Kr) (h : PL base W b m v c s L K) (p : Hp) (XA : Option Addr) (xc : Nat) (hx : OwnB W 0 XA p.B) (hxl : p.B.length ≤ 1000000) (hxc : p.B.length ≤ xc) (hxm : xc ≤ maxLen) (hq : p.seq ≤ 18446744073709551615) (hc : c < 1000000) (hK : K.length ≤ 1000) :
    Calls Try.prog 13 #[.pointer (some ⟨b, 0, none⟩), .agg (p.cs XA xc)] W fun e W' => HearR base W b m v c s L K p e W' := by
  have no : ¬ p.mine s → ∀ e W', e = .returned (.slice none 0 0) ∧ Below W.heap.size W W' → HearR base W b m v c s L K p e W' := fun hn e W' ⟨he, hb⟩ => by
    have e1 : hearP s L (K.map Kr.p) p = (s, L, K.map Kr.p, []) := by
      unfold hearP
      rw [if_neg hn]
    unfold HearR
    rw [e1]
    exact ⟨.slice none 0 0, v, K, [], he, World.ownsRow_nil _ _ _ _, fun _ hx => (by cases hx), rfl, (h.below hb).mono (Nat.le_succ _), rfl, rfl, KP.of_below hb⟩
  by_cases h1 : p.fn = s.pn ∧ p.fl = s.pl
  · by_cases h2 : p.tn = s.mn ∧ p.tl = s.ml
    · cases hh : p.has with
      | true => exact hear_body base W b m v c s L K h p XA xc hx hxl hxc hxm hq hc hK ⟨h1.1, h1.2, h2.1, h2.2⟩ hh
      | false => exact hear_nobody base W b m v c s L K h p XA xc hx hxl hxc hxm hq hc hK ⟨h1.1, h1.2, h2.1, h2.2⟩ hh
    · exact (hear_to base W b m v c s L K h p XA xc hx hxl hxc hxm hq hc hK h1 h2).mono (no fun hm => h2 ⟨hm.2.2.1, hm.2.2.2⟩)
  · exact (hear_from base W b m v c s L K h p XA xc hx hxl hxc hxm hq hc hK h1).mono (no fun hm => h1 ⟨hm.1, hm.2.1⟩)

end Go.Proofs.Ytnagbiicpecamaa
