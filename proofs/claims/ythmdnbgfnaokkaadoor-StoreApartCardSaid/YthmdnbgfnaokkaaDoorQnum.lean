/-
  The store's number, plus, numbered, by contracts. Condition: the library's table and its two errors lie as their text lays them.
-/
import Derived.Test.YthmdnbgfnaokkaaDoorQmap
import Derived.Test.YthmdnbgfnaokkaaDoorShelf
import Derived.Lib.ItoaLen
import Derived.Lib.ItoaMem
import Derived.Lib.ParseIntB
import Derived.Lib.ParseIntBTie
import Derived.Lib.QuietBelow
import Derived.Deep.RegionHeld3
namespace Go.Proofs.YthmdnbgfnaokkaaDoor
set_option linter.unusedSimpArgs false
set_option linter.unusedVariables false
open Go.RowKit Go.Sort

/-- what of the library's memory the calls read: it lies there, and goes on to. -/
structure Env (B : Nat) (w : World) : Prop where
  sz : B ≤ w.heap.size
  tab : ∀ w', Below B w w' → Lib.TabIs Tryd.prog w' "internal/strconv.uint64pow10" .u64 Lib.pow10Tab
  syn : ∀ w', Below B w w' → ∃ tp p, w'.var? Tryd.prog "strconv.ErrSyntax" = some #[.iface tp p]
  ran : ∀ w', Below B w w' → ∃ tp p, w'.var? Tryd.prog "strconv.ErrRange" = some #[.iface tp p]
theorem Env.to {B : Nat} {w w1 : World} (h : Env B w) (hb : Below B w w1) : Env B w1 :=
  ⟨Nat.le_trans h.sz hb.size, fun w' h' => h.tab w' (hb.trans h'), fun w' h' => h.syn w' (hb.trans h'), fun w' h' => h.ran w' (hb.trans h')⟩
theorem Env.on {B : Nat} {w w1 : World} (h : Env B w) (hb : Below w.heap.size w w1) : Env B w1 := h.to (hb.mono h.sz)
theorem grown_belowN (w : World) (k : Nat) (os : Array Obj) : Below w.heap.size w (Go.Sort.grow (w.drewN k) os) := below_regrown w (w.drawn + k) os
/-- a number's digits. -/
def digN (n : Int) : ByteArray := ⟨(Lib.itoa n).toArray⟩
theorem fmtN (n : Int) (w : World) (B : Nat) (h0 : -9223372036854775808 ≤ n) (h1 : n ≤ 9223372036854775807) (ht : Env B w) :
    Calls Tryd.prog 85 #[.int .i64 n, .int .i64 10] w fun e w' => e = .returned (.string (digN n)) ∧ Below w.heap.size w w' :=
  (Tryd.strconv_FormatInt_10 n h0 h1 w (ht.tab w (Below.refl _ _))).mono fun e w' ⟨he, k, os, hw⟩ => ⟨he, by rw [hw]; exact grown_belowN w k os⟩
theorem digN_size (n : Int) (h0 : -9223372036854775808 ≤ n) (h1 : n ≤ 9223372036854775807) : (digN n).size ≤ 21 := by
  have := Lib.itoa_length_le n h0 h1
  simpa [digN, ByteArray.size] using this

/-- what is read of a text as a number. -/
def parN (v : ByteArray) : Int × Bool := match Lib.parseIntB 64 v.data.toList with
  | .ok n => (n, true)
  | .range => (Lib.intSat 64 v.data.toList, false)
  | _ => (0, false)
theorem parsN (s : ByteArray) (w : World) (B : Nat) (hs : s.size ≤ 281474976710656) (ht : Env B w) :
    Calls Tryd.prog 98 #[.string s, .int .i64 10, .int .i64 64] w fun e w' => ∃ er, e = .returned (.tuple #[.int .i64 (parN s).1, er]) ∧ (if (parN s).2 then er = .nilIface else ∃ t p, er = .iface t p) ∧ Below w.heap.size w w' := by
  cases h : Lib.parseIntB 64 s.data.toList with
  | ok n =>
    have e : parN s = (n, true) := by simp [parN, h]
    rw [e]
    refine (Tryd.strconv_ParseInt_10_at64_ok s (by omega) n h w).mono fun e w' ⟨he, hw⟩ => ⟨_, he, by simp, ?_⟩
    rcases hw with rfl | ⟨t, rfl⟩
    · exact Below.refl _ _
    · first | exact Lib.bytesWorld_below _ _ _ | exact below_freeze (((Below.refl _ _).drew).alloc (by simp) _) (by simp) _
  | range =>
    have e : parN s = (Lib.intSat 64 s.data.toList, false) := by simp [parN, h]
    rw [e]
    obtain ⟨tp, p, hv⟩ := ht.ran w (Below.refl _ _)
    exact (Tryd.strconv_ParseInt_10_at64_range_var s hs h tp p w hv).mono fun e w' ⟨N, he, _, _, hb⟩ => ⟨_, he, by simp, hb⟩
  | _ =>
    have e : parN s = (0, false) := by simp [parN, h]
    rw [e]
    obtain ⟨tp, p, hv⟩ := ht.syn w (Below.refl _ _)
    exact (Any.strconv_ParseInt_10_at64_syntax_var Tryd.laysC174 s hs h tp p w hv).mono fun e w' ⟨N, he, _, _, hb⟩ => ⟨_, he, by simp, hb⟩

theorem parN_bd (v : ByteArray) (h : (parN v).2 = true) : -9223372036854775808 ≤ (parN v).1 ∧ (parN v).1 ≤ 9223372036854775807 := by
  unfold parN at h ⊢
  split at h
  · rename_i n hn
    have := Lib.parseIntB_bounds hn
    simp only [Nat.reduceSub] at this
    have e : ((2 ^ 63 : Nat) : Int) = 9223372036854775808 := by decide
    rw [e] at this
    exact ⟨this.1, by have := this.2; show n ≤ _; omega⟩
  · cases h
  · cases h
/-- what a key counts. -/
def numN (x : W3) : Int × Bool := if x.has = false then (0, true) else if (parN x.val).2 = true ∧ digN (parN x.val).1 = x.val then ((parN x.val).1, true) else (0, false)
theorem numN_bd (x : W3) : -9223372036854775808 ≤ (numN x).1 ∧ (numN x).1 ≤ 9223372036854775807 := by
  unfold numN
  split
  · decide
  · split
    · rename_i h
      exact parN_bd _ h.1
    · decide

set_option maxRecDepth 100000 in
set_option maxHeartbeats 4000000 in
theorem numberS (x : W3) (w : World) (B : Nat) (hs : x.val.size ≤ 281474976710656) (ht : Env B w) :
    Calls Tryd.prog 84 #[.agg #[.string x.key, .string x.val, .bool x.has]] w fun e w' => e = .returned (.tuple #[.int .i64 (numN x).1, .bool (numN x).2]) ∧ Below w.heap.size w w' := by
  have bx : Below w.heap.size w (w.alloc (.cells #[.string x.key, .string x.val, .bool x.has] 75)) := (Below.refl _ _).alloc (Nat.le_refl _) _
  have BX := Lib.hid bx
  cases hh : x.has with
  | false =>
    have en : numN x = (0, true) := by simp [numN, hh]
    rw [en]
    go_enter Tryd.func84, Tryd.ntmps84
    go_wp2
    go_ret2
    rw [hh] at bx
    exact ⟨rfl, bx⟩
  | true =>
    rw [hh] at bx BX
    have PN := Lib.hid (fun (W : World) (hW : Below w.heap.size w W) => parsN x.val W B hs (ht.on hW))
    have FN := Lib.hid (fun (n : Int) (h0 : -9223372036854775808 ≤ n) (h1 : n ≤ 9223372036854775807) (W : World) (hW : Below w.heap.size w W) => fmtN n W B h0 h1 (ht.on hW))
    clear ht bx
    cases hp : (parN x.val).2 with
    | false =>
      have en : numN x = (0, false) := by simp [numN, hh, hp]
      rw [en]
      go_enter Tryd.func84, Tryd.ntmps84
      go_wp2_with fail
      refine (PN.out _ BX.out).mono ?_
      rintro e w1 ⟨er, rfl, hr, b1⟩
      rw [hp] at hr
      obtain ⟨t, p, rfl⟩ := hr
      have B1 := Lib.hid (BX.out.trans (b1.mono BX.out.size))
      clear b1
      go_wp2
      go_quiet (fail)
      go_wp2
      go_ret2
      exact ⟨rfl, Below.drewsN B1.out⟩
    | true =>
      have bd := parN_bd x.val hp
      go_enter Tryd.func84, Tryd.ntmps84
      go_wp2_with fail
      refine (PN.out _ BX.out).mono ?_
      rintro e w1 ⟨er, rfl, hr, b1⟩
      rw [hp] at hr
      obtain rfl : er = .nilIface := hr
      have B1 := Lib.hid ((BX.out.trans (b1.mono BX.out.size)).drew)
      have z1 : w1.cell? ⟨w.heap.size, 1, none⟩ = some (.string x.val) := (b1.cell (p := ⟨w.heap.size, 1, none⟩) (by simp)).trans (cell_of_row _ _ 1 #[.string x.key, .string x.val, .bool true] 75 (0, 0) (heap_alloc_new w _))
      have hsz : w.heap.size < w1.heap.size := by have := b1.size; simp at this; omega
      clear b1
      by_cases hd : digN (parN x.val).1 = x.val
      · have en : numN x = ((parN x.val).1, true) := by simp [numN, hh, hp, hd]
        have EN := Lib.hid en
        have hd' : ((digN (parN x.val).1).toList == x.val.toList) = true := by simp [hd]
        clear en hd
        go_wp2
        go_region_held3 (fun w' => w'.cell? ⟨w.heap.size, 1, none⟩ = some (.string x.val)) (first | exact z1 | exact z2)
          (first | (go_at_call 85; refine (FN.out _ bd.1 bd.2 _ B1.out).mono ?_; rintro e w2 ⟨rfl, b2⟩; have B2 := Lib.hid (B1.out.trans (b2.mono B1.out.size)); have z2 := (b2.cell (p := ⟨w.heap.size, 1, none⟩) (by exact hsz)).trans z1; clear b2))
        go_wp2
        go_ret2
        exact ⟨by rw [EN.out]; rfl, B2.out⟩
      · have en : numN x = (0, false) := by simp [numN, hh, hp, hd]
        have EN := Lib.hid en
        have hd' : ((digN (parN x.val).1).toList == x.val.toList) = false := by simp [toList_injW, hd]
        clear en hd
        go_wp2
        go_region_held3 (fun w' => w'.cell? ⟨w.heap.size, 1, none⟩ = some (.string x.val)) (first | exact z1 | exact z2)
          (first | (go_at_call 85; refine (FN.out _ bd.1 bd.2 _ B1.out).mono ?_; rintro e w2 ⟨rfl, b2⟩; have B2 := Lib.hid (B1.out.trans (b2.mono B1.out.size)); have z2 := (b2.cell (p := ⟨w.heap.size, 1, none⟩) (by exact hsz)).trans z1; clear b2))
        go_wp2
        go_ret2
        exact ⟨by rw [EN.out]; rfl, B2.out⟩

def plusN (x : W3) (n : Int) : Int × Bool := if (numN x).2 = true ∧ decide (wrap64 ((numN x).1 + n) < (numN x).1) = decide (n < 0) then (wrap64 ((numN x).1 + n), true) else (0, false)
set_option maxRecDepth 100000 in
set_option maxHeartbeats 2000000 in
theorem plusS (x : W3) (n : Int) (w : World) (B : Nat) (hs : x.val.size ≤ 281474976710656) (ht : Env B w) :
    Calls Tryd.prog 70 #[.agg #[.string x.key, .string x.val, .bool x.has], .int .i64 n] w fun e w' => e = .returned (.tuple #[.int .i64 (plusN x n).1, .bool (plusN x n).2]) ∧ Below w.heap.size w w' := by
  have bx : Below w.heap.size w (w.alloc (.cells #[.string x.key, .string x.val, .bool x.has] 75)) := (Below.refl _ _).alloc (Nat.le_refl _) _
  have BX := Lib.hid bx
  have NN := Lib.hid (numberS x (w.alloc (.cells #[.string x.key, .string x.val, .bool x.has] 75)) B hs (ht.on bx))
  have en : plusN x n = if (numN x).2 = true ∧ decide (wrap64 ((numN x).1 + n) < (numN x).1) = decide (n < 0) then (wrap64 ((numN x).1 + n), true) else (0, false) := rfl
  generalize numN x = q at NN en
  obtain ⟨v, ok⟩ := q
  clear bx ht
  cases ok with
  | false =>
    have e1 : plusN x n = (0, false) := by rw [en]; simp []
    rw [e1]
    clear en e1
    go_enter Tryd.func70, Tryd.ntmps70
    go_wp2_with (go_at_call 84; refine NN.out.mono ?_; rintro e w1 ⟨rfl, b1⟩; have B1 := Lib.hid (BX.out.trans (b1.mono BX.out.size)); clear b1)
    all_goals
      go_ret2
      exact ⟨rfl, B1.out⟩
  | true =>
    by_cases h1 : wrap64 (v + n) < v
    · by_cases h2 : n < 0
      · have e1 : plusN x n = (wrap64 (v + n), true) := by rw [en]; simp [h1, h2]
        rw [e1]
        clear en e1
        have d1 : decide (wrap64 (v + n) < v) = _ := decide_eq_true h1
        have d2 : decide (n < 0) = _ := decide_eq_true h2
        clear h1 h2
        go_enter Tryd.func70, Tryd.ntmps70
        go_wp2_with (go_at_call 84; refine NN.out.mono ?_; rintro e w1 ⟨rfl, b1⟩; have B1 := Lib.hid (BX.out.trans (b1.mono BX.out.size)); clear b1)
        all_goals
          go_ret2
          exact ⟨rfl, B1.out⟩
      · skip
        have e1 : plusN x n = (0, false) := by rw [en]; simp [h1, h2]
        rw [e1]
        clear en e1
        have d1 : decide (wrap64 (v + n) < v) = _ := decide_eq_true h1
        have d2 : decide (n < 0) = _ := decide_eq_false h2
        clear h1 h2
        go_enter Tryd.func70, Tryd.ntmps70
        go_wp2_with (go_at_call 84; refine NN.out.mono ?_; rintro e w1 ⟨rfl, b1⟩; have B1 := Lib.hid (BX.out.trans (b1.mono BX.out.size)); clear b1)
        all_goals
          go_ret2
          exact ⟨rfl, B1.out⟩
    · by_cases h2 : n < 0
      · skip
        have e1 : plusN x n = (0, false) := by rw [en]; simp [h1, h2]
        rw [e1]
        clear en e1
        have d1 : decide (wrap64 (v + n) < v) = _ := decide_eq_false h1
        have d2 : decide (n < 0) = _ := decide_eq_true h2
        clear h1 h2
        go_enter Tryd.func70, Tryd.ntmps70
        go_wp2_with (go_at_call 84; refine NN.out.mono ?_; rintro e w1 ⟨rfl, b1⟩; have B1 := Lib.hid (BX.out.trans (b1.mono BX.out.size)); clear b1)
        all_goals
          go_ret2
          exact ⟨rfl, B1.out⟩
      · skip
        have e1 : plusN x n = (wrap64 (v + n), true) := by rw [en]; simp [h1, h2]
        rw [e1]
        clear en e1
        have d1 : decide (wrap64 (v + n) < v) = _ := decide_eq_false h1
        have d2 : decide (n < 0) = _ := decide_eq_false h2
        clear h1 h2
        go_enter Tryd.func70, Tryd.ntmps70
        go_wp2_with (go_at_call 84; refine NN.out.mono ?_; rintro e w1 ⟨rfl, b1⟩; have B1 := Lib.hid (BX.out.trans (b1.mono BX.out.size)); clear b1)
        all_goals
          go_ret2
          exact ⟨rfl, B1.out⟩

end Go.Proofs.YthmdnbgfnaokkaaDoor
