/-
  A part as text: the program's Show and the document's, by contracts. Condition: the texts are short; the table of the powers of ten is as its text lays it.
-/
import Derived.Test.YtnkimbmnnhnanaaDoorPlst
import Derived.Test.YtnkimbmnnhnanaaDoorShelf
import Derived.Lib.ItoaMem
import Derived.Lib.ItoaLen
import Derived.Lib.QuietBelow
namespace Go.Proofs.YtnkimbmnnhnanaaDoor
set_option linter.unusedSimpArgs false
set_option linter.unusedVariables false
open Go.RowKit Go.Sort

/-- the table of the powers of ten lies there, and goes on to. -/
def Tab (B : Nat) (w : World) : Prop := ∀ w', Below B w w' → Lib.TabIs Tryd.prog w' "internal/strconv.uint64pow10" .u64 Lib.pow10Tab
theorem Tab.on {B : Nat} {w w1 : World} (h : Tab B w) (hb : Below B w w1) : Tab B w1 := fun w' h' => h w' (hb.trans h')
theorem Tab.here {B : Nat} {w : World} (h : Tab B w) : Lib.TabIs Tryd.prog w "internal/strconv.uint64pow10" .u64 Lib.pow10Tab := h w (Below.refl _ _)
theorem grown_below (w : World) (k : Nat) (os : Array Obj) : Below w.heap.size w (Go.Sort.grow (w.drewN k) os) := below_regrown w (w.drawn + k) os

/-- B is at most the heap's size, and the table lies below B. -/
def Okw (B : Nat) (w : World) : Prop := B ≤ w.heap.size ∧ Tab B w
theorem Okw.on {B : Nat} {w w' : World} (h : Okw B w) (hb : Below w.heap.size w w') : Okw B w' := ⟨Nat.le_trans h.1 hb.size, h.2.on (hb.mono h.1)⟩
theorem Okw.alloc {B : Nat} {w : World} (h : Okw B w) (o : Obj) : Okw B (w.alloc o) := h.on ((Below.refl _ _).alloc (Nat.le_refl _) _)
theorem Okw.grown {B : Nat} {w : World} (h : Okw B w) (d : Nat) (os : Array Obj) : Okw B (Go.Sort.grow (redrawn w d) os) := h.on (below_regrown w d os)

/-- a number's digits. -/
def digB (n : Int) : ByteArray := ⟨(Lib.itoa n).toArray⟩

set_option maxHeartbeats 400000 in
theorem itoa_any (n : Int) (w : World) (B : Nat) (h0 : -9223372036854775808 ≤ n) (h1 : n ≤ 9223372036854775807) (ht : Okw B w) :
    Calls Tryd.prog 57 #[.int .i64 n] w fun e w' => e = .returned (.string (digB n)) ∧ Below w.heap.size w w' :=
  (Tryd.strconv_Itoa n h0 h1 w ht.2.here).mono fun e w' ⟨he, k, os, hw⟩ => ⟨he, by rw [hw]; exact grown_below w k os⟩
theorem format_any (n : Int) (w : World) (B : Nat) (h0 : -9223372036854775808 ≤ n) (h1 : n ≤ 9223372036854775807) (ht : Okw B w) :
    Calls Tryd.prog 65 #[.int .i64 n, .int .i64 10] w fun e w' => e = .returned (.string (digB n)) ∧ Below w.heap.size w w' :=
  (Tryd.strconv_FormatInt_10 n h0 h1 w ht.2.here).mono fun e w' ⟨he, k, os, hw⟩ => ⟨he, by rw [hw]; exact grown_below w k os⟩

theorem digB_size (n : Int) (h0 : -9223372036854775808 ≤ n) (h1 : n ≤ 9223372036854775807) : (digB n).size ≤ 21 := by
  have := Lib.itoa_length_le n h0 h1
  simpa [digB, ByteArray.size] using this
theorem ret_str {a b : ByteArray} (h : a = b) : Ending.returned (.string a) = .returned (.string b) := by rw [h]
/-- what is done, as text. -/
def deedB (k n : Int) (key val : ByteArray) : ByteArray :=
  if k = 0 then { data := #[82, 101, 97, 100, 40] } ++ (key ++ { data := #[41] })
  else if k = 1 then { data := #[87, 114, 105, 116, 101, 40] } ++ (key ++ ({ data := #[61] } ++ (val ++ { data := #[41] })))
  else if k = 2 then { data := #[65, 100, 100, 40] } ++ (key ++ ({ data := #[43] } ++ (digB n ++ { data := #[41] })))
  else if k = 3 then { data := #[84, 97, 107, 101, 40] } ++ (key ++ ({ data := #[45] } ++ (digB n ++ { data := #[41] })))
  else if k = 4 then { data := #[69, 114, 97, 115, 101, 40] } ++ (key ++ { data := #[41] })
  else { data := #[63] }
/-- a part as text. -/
def showB (g k n : Int) (key val : ByteArray) : ByteArray := digB g ++ ({ data := #[58] } ++ deedB k n key val)
theorem size_mk (a : Array UInt8) : ByteArray.size { data := a } = a.size := rfl
theorem deedB_size (k n : Int) (key val : ByteArray) (h0 : -9223372036854775808 ≤ n) (h1 : n ≤ 9223372036854775807) (hs : key.size + val.size ≤ 4000) : (deedB k n key val).size ≤ 4040 := by
  have := digB_size n h0 h1
  unfold deedB
  repeat' split
  all_goals
    simp only [ByteArray.size_append, size_mk, List.size_toArray, List.length_cons, List.length_nil]
    omega

set_option maxRecDepth 100000 in
set_option maxHeartbeats 2000000 in
theorem deed_any (g k n : Int) (key val : ByteArray) (w : World) (B : Nat) (hk : 0 ≤ k) (h0 : -9223372036854775808 ≤ n) (h1 : n ≤ 9223372036854775807) (hs : key.size + val.size ≤ 4000) (ht : Okw B w) :
    Calls Tryd.prog 58 #[.agg #[.int .u8 g, .int .u8 k, .string key, .string val, .int .i64 n]] w fun e w' => e = .returned (.string (deedB k n key val)) ∧ Below w.heap.size w w' := by
  have HC := Lib.hid (fun W => format_any n W B h0 h1)
  have T := Lib.hid ht
  have hd := digB_size n h0 h1
  clear ht
  go_enter Tryd.func58, Tryd.ntmps58
  go_wp2_with (go_at_call 65; refine (HC.out _ (T.out.alloc _)).mono ?_; rintro e w' ⟨rfl, bw⟩
               have q1 := (bw.cell (p := ⟨w.heap.size, 1, none⟩) (by simp)).trans (show (w.alloc (.cells #[.int .u8 g, .int .u8 k, .string key, .string val, .int .i64 n] 56)).cell? ⟨w.heap.size, 1, none⟩ = some (.int .u8 k) by simp)
               have q2 := (bw.cell (p := ⟨w.heap.size, 2, none⟩) (by simp)).trans (show (w.alloc (.cells #[.int .u8 g, .int .u8 k, .string key, .string val, .int .i64 n] 56)).cell? ⟨w.heap.size, 2, none⟩ = some (.string key) by simp)
               have q3 := (bw.cell (p := ⟨w.heap.size, 3, none⟩) (by simp)).trans (show (w.alloc (.cells #[.int .u8 g, .int .u8 k, .string key, .string val, .int .i64 n] 56)).cell? ⟨w.heap.size, 3, none⟩ = some (.string val) by simp))
  all_goals
    go_ret
    refine ⟨ret_str ?_, (Below.refl _ _).alloc (Nat.le_refl _) _ |>.trans (bw.mono (by simp))⟩
    simp at *
    simp [deedB, *, ByteArray.append_assoc]

theorem u8_i64 (g : Int) (h0 : 0 ≤ g) (h1 : g ≤ 255) : IntKind.i64.wrap g = g := IntWalk.i64_in g (by omega)

set_option maxRecDepth 100000 in
set_option maxHeartbeats 2000000 in
theorem show_any (g k n : Int) (key val : ByteArray) (w : World) (B : Nat) (hg0 : 0 ≤ g) (hg1 : g ≤ 255) (hk : 0 ≤ k) (h0 : -9223372036854775808 ≤ n) (h1 : n ≤ 9223372036854775807) (hs : key.size + val.size ≤ 4000) (ht : Okw B w) :
    Calls Tryd.prog 47 #[.agg #[.int .u8 g, .int .u8 k, .string key, .string val, .int .i64 n]] w fun e w' => e = .returned (.string (showB g k n key val)) ∧ Below w.heap.size w w' := by
  have HC := Lib.hid (fun W => itoa_any g W B (by omega) (by omega))
  have HD := Lib.hid (fun W => deed_any g k n key val W B hk h0 h1 hs)
  have T := Lib.hid ht
  have hd := digB_size g (by omega) (by omega)
  have hd2 := deedB_size k n key val h0 h1 hs
  clear ht
  go_enter Tryd.func47, Tryd.ntmps47
  go_wp2
  have B0 : Below w.heap.size w (w.alloc (.cells #[.int .u8 g, .int .u8 k, .string key, .string val, .int .i64 n] 56)) := (Below.refl _ _).alloc (Nat.le_refl _) _
  have K0 := T.out.alloc (.cells #[.int .u8 g, .int .u8 k, .string key, .string val, .int .i64 n] 56)
  have q0 : (w.alloc (.cells #[.int .u8 g, .int .u8 k, .string key, .string val, .int .i64 n] 56)).cell? ⟨w.heap.size, 0, none⟩ = some (.int .u8 g) := by simp
  have q1 : (w.alloc (.cells #[.int .u8 g, .int .u8 k, .string key, .string val, .int .i64 n] 56)).cell? ⟨w.heap.size, 1, none⟩ = some (.int .u8 k) := by simp
  have q2 : (w.alloc (.cells #[.int .u8 g, .int .u8 k, .string key, .string val, .int .i64 n] 56)).cell? ⟨w.heap.size, 2, none⟩ = some (.string key) := by simp
  have q3 : (w.alloc (.cells #[.int .u8 g, .int .u8 k, .string key, .string val, .int .i64 n] 56)).cell? ⟨w.heap.size, 3, none⟩ = some (.string val) := by simp
  have q4 : (w.alloc (.cells #[.int .u8 g, .int .u8 k, .string key, .string val, .int .i64 n] 56)).cell? ⟨w.heap.size, 4, none⟩ = some (.int .i64 n) := by simp
  have HB := Lib.hid B0
  have HK := Lib.hid K0
  clear B0 K0
  generalize w.alloc (.cells #[.int .u8 g, .int .u8 k, .string key, .string val, .int .i64 n] 56) = w1 at *
  have k0 := cell_regrown q0
  have k1 := cell_regrown q1
  have k2 := cell_regrown q2
  have k3 := cell_regrown q3
  have k4 := cell_regrown q4
  clear q0 q1 q2 q3 q4
  refine wp_region_quiet_below (by kernel_rfl) (by kernel_rfl) ?_
  repeat (go_big_quiet_step (first | (go_at_call 57; exact Calls.regrown_of (HC.out _ (HK.out.grown _ _))) | (go_at_call 58; exact Calls.regrown_of (HD.out _ (HK.out.grown _ _)))))
  refine wpQuiet_nil ?_
  rintro W ⟨p, rfl⟩
  have y1 := below_regrown w1 p.d p.os
  generalize grow (redrawn w1 p.d) p.os = w2 at *
  clear k0 k1 k2 k3 k4
  have Y1 := Lib.hid y1
  clear y1
  go_wp2
  go_ret
  exact ⟨ret_str (by simp [showB, ByteArray.append_assoc]), HB.out.trans (Y1.out.mono HB.out.size)⟩

end Go.Proofs.YtnkimbmnnhnanaaDoor
