/-
  Which entries may be, by one plain function; identifiers, results and processes held against each other, by exact answers. No condition.
-/
import Derived.Test.YtnkimbmnnhnanaaDoorEbas
import Derived.Test.YtnkimbmnnhnanaaDoorEsam
import Derived.Test.YtnkimbmnnhnanaaDoorIRgt
namespace Go.Proofs.YtnkimbmnnhnanaaDoor
set_option linter.unusedSimpArgs false
set_option linter.unusedVariables false
open Go.RowKit Go.Sort

/-- are the two identifiers the same? -/
def eqI (x y : E18) : Bool := decide (x.n = y.n) && decide (x.l = y.l) && decide (x.s = y.s) && decide (x.d = y.d) && decide (x.a0 = y.a0 ∧ x.a1 = y.a1 ∧ x.b0 = y.b0 ∧ x.b1 = y.b1 ∧ x.c0 = y.c0 ∧ x.c1 = y.c1)
/-- the two results? -/
def eqR (x y : E18) : Bool := decide (x.rc = y.rc) && decide (x.rv = y.rv)
/-- the two victims? -/
def eqV (x y : E18) : Bool := decide (x.vn = y.vn) && decide (x.vl = y.vl)
theorem eqI_refl (x : E18) : eqI x x = true := by simp [eqI]
theorem eqR_refl (x : E18) : eqR x x = true := by simp [eqR]
theorem eqV_refl (x : E18) : eqV x x = true := by simp [eqV]
/-- may a group be asked for such a call? -/
def askB (x : E18) (X : List P5) (g : Int) : Bool :=
  I.rI x.n x.l x.s x.d x.a0 x.a1 x.b0 x.b1 x.c0 x.c1 && rAll X && decide ((X.headD kP0).g = g) && decide (x.d + X.length ≤ 4) && decide (x.fl < x.s)
where kP0 : P5 := ⟨0, 0, ByteArray.empty, ByteArray.empty, 0⟩
/-- may a write say this? -/
def wB (y : W3) : Bool := if y.has then decide (y.val.size ≤ 64) else decide (y.val.size = 0)
/-- is it one write, that may be? -/
def oneB (p : P5) : List W3 → Bool
  | [y] => decide (y.key = p.key) && wB y
  | _ => false
theorem oneB_no {p : P5} {Y : List W3} (h : ¬ Y.length = 1) : oneB p Y = false := by
  match Y with
  | [] => rfl
  | [_] => simp at h
  | _ :: _ :: _ => rfl
/-- may the first part come to this? -/
def outB (x : E18) (p : P5) (Y : List W3) : Bool :=
  rR x.rc x.rv && !decide (x.rc = 4) && !decide (x.rc = 3) &&
  (if x.rc = 0 ∧ p.k ≠ 0 then oneB p Y else decide (Y.length = 0))
/-- the group that made a call. -/
def lastB (x : E18) : Int := if x.d = 0 then -1 else if x.d = 1 then x.a0 else if x.d = 2 then x.b0 else x.c0
/-- may there be such an entry in a group's order? -/
def rE (x : E18) (X : List P5) (Y : List W3) (g : Int) : Bool :=
  if x.k = 0 then askB x X g && eqR x E0 && decide (Y.length = 0) && eqV x E0
  else if x.k = 3 then askB x X g && eqV x E0 && outB x (X.headD askB.kP0) Y
  else if x.k = 1 then I.rI x.n x.l x.s x.d x.a0 x.a1 x.b0 x.b1 x.c0 x.c1 && decide (lastB x = g) && rR x.rc x.rv && decide (x.fl = 0) && decide (X.length = 0) && decide (Y.length = 0) && eqV x E0
  else if x.k = 2 then I.rP x.vn x.vl && eqR x E0 && eqI x E0 && decide (x.fl = 0) && decide (X.length = 0) && decide (Y.length = 0)
  else false

set_option maxRecDepth 100000 in
theorem eqlIDg (x y : E18) (w : World) : Sem.run Tryd.prog (binOp .eql 44 (.agg #[.int .u8 x.n, .int .u16 x.l, .int .u32 x.s, .int .u8 x.d, .int .u8 x.a0, .int .u8 x.a1, .int .u8 x.b0, .int .u8 x.b1, .int .u8 x.c0, .int .u8 x.c1]) (.agg #[.int .u8 y.n, .int .u16 y.l, .int .u32 y.s, .int .u8 y.d, .int .u8 y.a0, .int .u8 y.a1, .int .u8 y.b0, .int .u8 y.b1, .int .u8 y.c0, .int .u8 y.c1])) w = .ok (.bool (eqI x y)) w := by
  have hE := I.eqArrID
  have hS : Tryd.prog.underlying 44 = some (.struct (Tryd.prog.fieldsOf 44)) := by kernel_rfl
  have hp : Tryd.prog.stoodInHeld 44 = false := by kernel_rfl
  rw [run_eql_struct, show (10000 : Nat) = 9999 + 1 from rfl]
  unfold eqI
  by_cases h0 : x.n = y.n
  rotate_left
  · simp [go_sem, hE, h0]
  by_cases h1 : x.l = y.l
  rotate_left
  · simp [go_sem, hE, h0, h1]
  by_cases h2 : x.s = y.s
  rotate_left
  · simp [go_sem, hE, h0, h1, h2]
  by_cases h3 : x.d = y.d
  rotate_left
  · simp [go_sem, hE, h0, h1, h2, h3]
  simp [go_sem, hE, h0, h1, h2, h3]
  by_cases k0 : x.a0 = y.a0
  rotate_left
  · simp [k0]
  by_cases k1 : x.a1 = y.a1
  rotate_left
  · simp [k0, k1]
  by_cases k2 : x.b0 = y.b0
  rotate_left
  · simp [k0, k1, k2]
  by_cases k3 : x.b1 = y.b1
  rotate_left
  · simp [k0, k1, k2, k3]
  by_cases k4 : x.c0 = y.c0
  rotate_left
  · simp [k0, k1, k2, k3, k4]
  by_cases k5 : x.c1 = y.c1
  rotate_left
  · simp [k0, k1, k2, k3, k4, k5]
  simp [k0, k1, k2, k3, k4, k5]
set_option maxRecDepth 100000 in
theorem eqlRIDg (x y : E18) (w : World) : Sem.run Tryd.prog (binOp .eql 30 (.agg #[.int .u8 x.n, .int .u16 x.l, .int .u32 x.s, .int .u8 x.d, .int .u8 x.a0, .int .u8 x.a1, .int .u8 x.b0, .int .u8 x.b1, .int .u8 x.c0, .int .u8 x.c1]) (.agg #[.int .u8 y.n, .int .u16 y.l, .int .u32 y.s, .int .u8 y.d, .int .u8 y.a0, .int .u8 y.a1, .int .u8 y.b0, .int .u8 y.b1, .int .u8 y.c0, .int .u8 y.c1])) w = .ok (.bool (eqI x y)) w := by
  have hE := I.eqArrRef
  have hS : Tryd.prog.underlying 30 = some (.struct (Tryd.prog.fieldsOf 30)) := by kernel_rfl
  have hp : Tryd.prog.stoodInHeld 30 = false := by kernel_rfl
  rw [run_eql_struct, show (10000 : Nat) = 9999 + 1 from rfl]
  unfold eqI
  by_cases h0 : x.n = y.n
  rotate_left
  · simp [go_sem, hE, h0]
  by_cases h1 : x.l = y.l
  rotate_left
  · simp [go_sem, hE, h0, h1]
  by_cases h2 : x.s = y.s
  rotate_left
  · simp [go_sem, hE, h0, h1, h2]
  by_cases h3 : x.d = y.d
  rotate_left
  · simp [go_sem, hE, h0, h1, h2, h3]
  simp [go_sem, hE, h0, h1, h2, h3]
  by_cases k0 : x.a0 = y.a0
  rotate_left
  · simp [k0]
  by_cases k1 : x.a1 = y.a1
  rotate_left
  · simp [k0, k1]
  by_cases k2 : x.b0 = y.b0
  rotate_left
  · simp [k0, k1, k2]
  by_cases k3 : x.b1 = y.b1
  rotate_left
  · simp [k0, k1, k2, k3]
  by_cases k4 : x.c0 = y.c0
  rotate_left
  · simp [k0, k1, k2, k3, k4]
  by_cases k5 : x.c1 = y.c1
  rotate_left
  · simp [k0, k1, k2, k3, k4, k5]
  simp [k0, k1, k2, k3, k4, k5]
theorem eqlResg (x y : E18) (w : World) : Sem.run Tryd.prog (binOp .eql 46 (.agg #[.int .u8 x.rc, .string x.rv]) (.agg #[.int .u8 y.rc, .string y.rv])) w = .ok (.bool (eqR x y)) w := by
  have hS : Tryd.prog.underlying 46 = some (.struct (Tryd.prog.fieldsOf 46)) := by kernel_rfl
  have hp : Tryd.prog.stoodInHeld 46 = false := by kernel_rfl
  have u0 := Tryd.underlying5
  have a0 := Tryd.isAgg5
  have z0 := Tryd.sizeOf5
  have u1 := Tryd.underlying9
  have a1 := Tryd.isAgg9
  have z1 := Tryd.sizeOf9
  rw [run_eql_struct, show (10000 : Nat) = 9999 + 1 from rfl, run_equalIn_agg w 9999 46 _ _ hS hp]
  simp only [Program.fieldsOf, Tryd.underlying46]
  go_simp
  try simp only [toList_inj]
  unfold eqR
  by_cases h0 : x.rc = y.rc <;> by_cases h1 : x.rv = y.rv <;> simp [h0, h1]
theorem eqlRResg (x y : E18) (w : World) : Sem.run Tryd.prog (binOp .eql 33 (.agg #[.int .u8 x.rc, .string x.rv]) (.agg #[.int .u8 y.rc, .string y.rv])) w = .ok (.bool (eqR x y)) w := by
  have hS : Tryd.prog.underlying 33 = some (.struct (Tryd.prog.fieldsOf 33)) := by kernel_rfl
  have hp : Tryd.prog.stoodInHeld 33 = false := by kernel_rfl
  have u0 := Tryd.underlying5
  have a0 := Tryd.isAgg5
  have z0 := Tryd.sizeOf5
  have u1 := Tryd.underlying9
  have a1 := Tryd.isAgg9
  have z1 := Tryd.sizeOf9
  rw [run_eql_struct, show (10000 : Nat) = 9999 + 1 from rfl, run_equalIn_agg w 9999 33 _ _ hS hp]
  simp only [Program.fieldsOf, Tryd.underlying33]
  go_simp
  try simp only [toList_inj]
  unfold eqR
  by_cases h0 : x.rc = y.rc <;> by_cases h1 : x.rv = y.rv <;> simp [h0, h1]
theorem eqlPrg (x y : E18) (w : World) : Sem.run Tryd.prog (binOp .eql 40 (.agg #[.int .u8 x.vn, .int .u16 x.vl]) (.agg #[.int .u8 y.vn, .int .u16 y.vl])) w = .ok (.bool (eqV x y)) w := by
  have hS : Tryd.prog.underlying 40 = some (.struct (Tryd.prog.fieldsOf 40)) := by kernel_rfl
  have hp : Tryd.prog.stoodInHeld 40 = false := by kernel_rfl
  have u0 := Tryd.underlying5
  have a0 := Tryd.isAgg5
  have z0 := Tryd.sizeOf5
  have u1 := Tryd.underlying22
  have a1 := Tryd.isAgg22
  have z1 := Tryd.sizeOf22
  rw [run_eql_struct, show (10000 : Nat) = 9999 + 1 from rfl, run_equalIn_agg w 9999 40 _ _ hS hp]
  simp only [Program.fieldsOf, Tryd.underlying40]
  go_simp
  try simp only [toList_inj]
  unfold eqV
  by_cases h0 : x.vn = y.vn <;> by_cases h1 : x.vl = y.vl <;> simp [h0, h1]
theorem eqlRPrg (x y : E18) (w : World) : Sem.run Tryd.prog (binOp .eql 24 (.agg #[.int .u8 x.vn, .int .u16 x.vl]) (.agg #[.int .u8 y.vn, .int .u16 y.vl])) w = .ok (.bool (eqV x y)) w := by
  have hS : Tryd.prog.underlying 24 = some (.struct (Tryd.prog.fieldsOf 24)) := by kernel_rfl
  have hp : Tryd.prog.stoodInHeld 24 = false := by kernel_rfl
  have u0 := Tryd.underlying5
  have a0 := Tryd.isAgg5
  have z0 := Tryd.sizeOf5
  have u1 := Tryd.underlying22
  have a1 := Tryd.isAgg22
  have z1 := Tryd.sizeOf22
  rw [run_eql_struct, show (10000 : Nat) = 9999 + 1 from rfl, run_equalIn_agg w 9999 24 _ _ hS hp]
  simp only [Program.fieldsOf, Tryd.underlying24]
  go_simp
  try simp only [toList_inj]
  unfold eqV
  by_cases h0 : x.vn = y.vn <;> by_cases h1 : x.vl = y.vl <;> simp [h0, h1]

end Go.Proofs.YtnkimbmnnhnanaaDoor
