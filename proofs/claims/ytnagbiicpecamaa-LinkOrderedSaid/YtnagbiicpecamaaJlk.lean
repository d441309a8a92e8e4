/-
  The program's link in memory: its row, what waits, what is kept. Condition: the numbers fit their kinds.
-/
import Derived.Test.YtnagbiicpecamaaJrw
namespace Go.Proofs.Ytnagbiicpecamaa
set_option linter.unusedSimpArgs false
set_option linter.unusedVariables false
open Go.RowKit Go.Maps Go.Sort

theorem owns_keepB {W W' : World} {base : Nat} {e : TypeId} {sz : Nat} {v : Value} {n : Nat} {xs : List Value} (h : W.ownsRow base e sz v n xs) (hk : ∀ g, v.ownBlock = some g → W'.heap[g]? = W.heap[g]?) : W'.ownsRow base e sz v n xs := by
  refine ⟨h.1, ?_⟩
  rcases h.2 with hn | ⟨g, cap, cur, rfl, hb, hgg, rest⟩
  · exact .inl hn
  · exact .inr ⟨g, cap, cur, rfl, hb, (hk g rfl).trans hgg, rest⟩
theorem owns_lower {W : World} {base base' : Nat} {e : TypeId} {sz : Nat} {v : Value} {n : Nat} {xs : List Value} (h : W.ownsRow base e sz v n xs) (hb : base' ≤ base) : W.ownsRow base' e sz v n xs := by
  refine ⟨h.1, ?_⟩
  rcases h.2 with hn | ⟨g, cap, cur, rfl, hg, rest⟩
  · exact .inl hn
  · exact .inr ⟨g, cap, cur, rfl, by omega, rest⟩

/-- a body, and where it lies. -/
structure Bd where
  B : List UInt8
  A : Option Addr
  c : Nat
def Bd.v (x : Bd) : Value := .slice x.A x.B.length x.c
/-- it lies in a block of its own. -/
structure Bd.Ok (x : Bd) (W : World) : Prop where
  own : W.ownsRow 0 5 1 x.v x.B.length (Lib.byteCells x.B)
  len : x.B.length ≤ 1000000
theorem Bd.Ok.keep {x : Bd} {W W' : World} (h : x.Ok W) (hk : ∀ (g : Nat) (cur : Array Value), W.heap[g]? = some (.cells cur 5 (0, 0)) → W'.heap[g]? = W.heap[g]?) : x.Ok W' :=
  ⟨owns_keepB h.own fun g hg => by
    obtain ⟨cur, hc⟩ := row_block h.own hg
    exact hk g cur hc, h.len⟩
theorem Bd.Ok.keepK {x : Bd} {W W' : World} {S : Nat → Prop} (h : x.Ok W) (k : KP S W W') (hn : ∀ (g : Nat) (cur : Array Value), W.heap[g]? = some (.cells cur 5 (0, 0)) → ¬ S g) : x.Ok W' :=
  h.keep fun g cur hc => k.block g (Array.getElem?_eq_some_iff.1 hc).1 (hn g cur hc)
theorem Bd.Ok.below {x : Bd} {W W' : World} (h : x.Ok W) (hb : Below W.heap.size W W') : x.Ok W' :=
  h.keep fun g cur hc => hb.block g (Array.getElem?_eq_some_iff.1 hc).1
theorem Bd.Ok.at_ {x : Bd} {W : World} (h : x.Ok W) : BytesAt W W.heap.size x.A x.B ∧ x.B.length ≤ x.c ∧ x.c ≤ maxLen ∧ (x.A = none → x.B.length = 0 ∧ x.c = 0) := by
  obtain ⟨A, c, e, hn, ho, hl, hm⟩ := bytes_of_own h.own
  have e' : Value.slice x.A x.B.length x.c = .slice A x.B.length c := e
  injection e' with e1 e2 e3
  subst e1 e3
  refine ⟨ho.at_, hl, hm, fun hA => ?_⟩
  rcases h.own.2 with ⟨h1, h2⟩ | ⟨g, cap, cur, h1, _⟩
  · have h1' : Value.slice x.A x.B.length x.c = .slice none 0 0 := h1
    injection h1' with _ h3 h4
    exact ⟨h3, h4⟩
  · have h1' : Value.slice x.A x.B.length x.c = .slice (some ⟨g, 0, none⟩) x.B.length cap := h1
    injection h1' with h3 _ _
    rw [hA] at h3
    cases h3
theorem Bd.of_own {W : World} {base : Nat} {v : Value} {B : List UInt8} (h : W.ownsRow base 5 1 v B.length (Lib.byteCells B)) (hl : B.length ≤ 1000000) : ∃ x : Bd, x.v = v ∧ x.B = B ∧ x.Ok W := by
  obtain ⟨A, c, rfl, _, _, _, _⟩ := bytes_of_own h
  exact ⟨⟨B, A, c⟩, rfl, rfl, owns_lower h (Nat.zero_le _), hl⟩

/-- a body that waits. -/
structure Ls where
  seq : Nat
  b : Bd
  told : Bool
  at_ : Int
def Ls.cs (x : Ls) : Array Value := #[.int .u64 x.seq, .slice x.b.A x.b.B.length x.b.c, .bool x.told, .int .i64 x.at_]
theorem Ls.sz : ∀ x : Ls, x.cs.size = 4 := fun _ => rfl
theorem Ls.one : ∀ x : Ls, ∀ u ∈ x.cs.toList, u.oneCell' = true := by
  intro x u hu
  simp only [Ls.cs, List.mem_cons, List.not_mem_nil, or_false] at hu
  rcases hu with rfl | rfl | rfl | rfl <;> rfl
/-- a body that is kept. -/
structure Kr where
  seq : Nat
  b : Bd

/-- how a body reads, as an element of a map. -/
def bdDat (A : Option Addr) (n c : Nat) : DataW Unit := match A with
  | none => .agg [.lit (.int .i64 n), .lit (.int .i64 c)]
  | some a => .agg [.lit (.int .i64 n), .lit (.int .i64 c), .lit (.int .i64 a.block), .lit (.int .i64 a.off)]
def bdElem : Value → Option (DataW Unit × List MemPlace)
  | .slice none n c => some (bdDat none n c, [])
  | .slice (some ⟨g, o, none⟩) n c => some (bdDat (some ⟨g, o, none⟩) n c, [])
  | _ => none
theorem Bd.Ok.elem {x : Bd} {W : World} (h : x.Ok W) : bdElem x.v = some (bdDat x.A x.B.length x.c, []) := by
  unfold Bd.v
  rcases h.own.2 with ⟨h1, h2⟩ | ⟨g, cap, cur, h1, _⟩
  · have h1' : Value.slice x.A x.B.length x.c = .slice none 0 0 := h1
    injection h1' with e _ _
    rw [e]
    rfl
  · have h1' : Value.slice x.A x.B.length x.c = .slice (some ⟨g, 0, none⟩) x.B.length cap := h1
    injection h1' with e _ _
    rw [e]
    rfl
theorem bdElem_inv {v : Value} {z : DataW Unit × List MemPlace} (h : bdElem v = some z) : ∃ A n c, v = .slice A n c ∧ z = (bdDat A n c, []) ∧ ∀ a, A = some a → a.spot = none := by
  unfold bdElem at h
  split at h
  · rename_i n c
    exact ⟨none, n, c, rfl, by injection h with h; exact h.symm, fun a e => by cases e⟩
  · rename_i g o n c
    exact ⟨some ⟨g, o, none⟩, n, c, rfl, by injection h with h; exact h.symm, fun a e => by cases e; rfl⟩
  · cases h
theorem bdDat_inj {A A' : Option Addr} {n c n' c' : Nat} (hA : ∀ a, A = some a → a.spot = none) (hA' : ∀ a, A' = some a → a.spot = none) (h : bdDat A n c = bdDat A' n' c') : A = A' ∧ n = n' ∧ c = c' := by
  cases A with
  | none =>
    cases A' with
    | none =>
      simp [bdDat] at h
      exact ⟨rfl, by omega, by omega⟩
    | some a => simp [bdDat] at h
  | some a =>
    cases A' with
    | none => simp [bdDat] at h
    | some a' =>
      obtain ⟨g, o, s⟩ := a
      obtain ⟨g', o', s'⟩ := a'
      obtain rfl := hA _ rfl
      obtain rfl := hA' _ rfl
      simp [bdDat] at h
      obtain ⟨h1, h2, h3, h4⟩ := h
      obtain rfl : g = g' := by omega
      obtain rfl : o = o' := by omega
      exact ⟨rfl, by omega, by omega⟩
theorem Bd.Ok.spot {x : Bd} {W : World} (h : x.Ok W) : ∀ a, x.A = some a → a.spot = none := by
  intro a ha
  rcases h.own.2 with ⟨h1, h2⟩ | ⟨g, cap, cur, h1, _⟩
  · have h1' : Value.slice x.A x.B.length x.c = .slice none 0 0 := h1
    injection h1' with e _ _
    rw [e] at ha
    cases ha
  · have h1' : Value.slice x.A x.B.length x.c = .slice (some ⟨g, 0, none⟩) x.B.length cap := h1
    injection h1' with e _ _
    rw [e] at ha
    cases ha
    rfl

theorem u64Keyed : Keyed Try.prog 22 := int_keyed (q := .u64) Try.underlying22
theorem mapU : Try.prog.underlying 62 = some (.map 22 44) := Try.underlying62
theorem u64Key {n : Nat} (h : n ≤ 18446744073709551615) : keyOf Try.prog 22 (.int .u64 n) = some (.int .u64 n) := by
  unfold keyOf mapKey
  simp [Try.underlying22, Lit.wf, IntKind.min, IntKind.max, IntKind.signed, IntKind.bits]
  try omega
theorem bdZero (W : World) : (zeroValue 44).run Try.prog W = .ok (.slice none 0 0) W := by kernel_rfl
theorem bdZeroE : bdElem (.slice none 0 0) = some (bdDat none 0 0, []) := rfl

/-- the map holds just these, each at its own number. -/
structure MapK (D : DataW Unit) (K : List Kr) : Prop where
  apart : K.Pairwise fun x y => x.seq ≠ y.seq
  rng : ∀ x ∈ K, x.seq ≤ 18446744073709551615
  all : ∀ kl, has D kl = true → ∃ x ∈ K, kl = .int .u64 (x.seq : Int)
  has_ : ∀ x ∈ K, has D (.int .u64 (x.seq : Int)) = true
  at_ : ∀ x ∈ K, ∀ z, D.atKey (.int .u64 (x.seq : Int)) z = bdDat x.b.A x.b.B.length x.b.c
theorem MapK.nil : MapK (.map []) [] := ⟨List.Pairwise.nil, (fun _ h => by cases h), (fun kl h => by cases h), (fun _ h => by cases h), (fun _ h => by cases h)⟩
/-- all but the one at a number. -/
def outN (K : List Kr) (n : Nat) : List Kr := K.filter fun y => decide (y.seq ≠ n)
theorem mem_outN {K : List Kr} {n : Nat} {y : Kr} : y ∈ outN K n ↔ y ∈ K ∧ y.seq ≠ n := by simp [outN]
theorem lit_ne {a b : Nat} (h : a ≠ b) : (Lit.int .u64 (a : Int)) ≠ .int .u64 (b : Int) := by
  intro e
  injection e with _ e
  omega
theorem MapK.hasnt {D : DataW Unit} {K : List Kr} (h : MapK D K) {n : Nat} (hn : ∀ y ∈ K, y.seq ≠ n) : has D (.int .u64 (n : Int)) = false := by
  cases hh : has D (.int .u64 (n : Int)) with
  | false => rfl
  | true =>
    obtain ⟨y, hy, e⟩ := h.all _ hh
    exact absurd e.symm (lit_ne (hn y hy))
theorem MapK.del {D : DataW Unit} {K : List Kr} (h : MapK D K) (n : Nat) : MapK (D.del (.int .u64 (n : Int))) (outN K n) := by
  refine ⟨h.apart.filter _, fun x hx => h.rng x (mem_outN.1 hx).1, fun kl hk => ?_, fun y hy => ?_, fun y hy z => ?_⟩
  · by_cases e : kl = .int .u64 (n : Int)
    · rw [e, has_del_same] at hk
      cases hk
    · rw [has_del_other e] at hk
      obtain ⟨y, hy, ey⟩ := h.all kl hk
      exact ⟨y, mem_outN.2 ⟨hy, fun e' => e (by rw [ey, e'])⟩, ey⟩
  · obtain ⟨hy, hne⟩ := mem_outN.1 hy
    rw [has_del_other (lit_ne hne)]
    exact h.has_ y hy
  · obtain ⟨hy, hne⟩ := mem_outN.1 hy
    rw [atKey_del_other (lit_ne hne)]
    exact h.at_ y hy z
theorem MapK.put {D : DataW Unit} {K : List Kr} (h : MapK D K) (hI : IsMap D) (x : Kr) (hx : x.seq ≤ 18446744073709551615) (hn : ∀ y ∈ K, y.seq ≠ x.seq) : MapK (D.put (.int .u64 (x.seq : Int)) (bdDat x.b.A x.b.B.length x.b.c)) (K ++ [x]) := by
  have hkey := u64Keyed.key (u64Key hx)
  have hm : ∀ {y}, y ∈ K ++ [x] → y ∈ K ∨ y = x := fun hy => by simpa using hy
  refine ⟨List.pairwise_append.2 ⟨h.apart, List.pairwise_singleton _ _, fun y hy z hz => ?_⟩, fun y hy => ?_, fun kl hkl => ?_, fun y hy => ?_, fun y hy z => ?_⟩
  · obtain rfl : z = x := by simpa using hz
    exact hn y hy
  · rcases hm hy with hy | rfl
    · exact h.rng y hy
    · exact hx
  · by_cases e : kl = .int .u64 (x.seq : Int)
    · exact ⟨x, by simp, e⟩
    · rw [has_put_other e] at hkl
      obtain ⟨y, hy, ey⟩ := h.all kl hkl
      exact ⟨y, List.mem_append_left _ hy, ey⟩
  · rcases hm hy with hy | rfl
    · rw [has_put_other (lit_ne (hn y hy))]
      exact h.has_ y hy
    · exact has_put_same hI hkey _
  · rcases hm hy with hy | rfl
    · rw [atKey_put_other (lit_ne (hn y hy))]
      exact h.at_ y hy z
    · exact atKey_put_same hI hkey _ _

/-- a link's numbers. -/
structure Sc where
  mn : Int
  ml : Int
  pn : Int
  pl : Int
  again : Int
  next : Nat
  want : Nat
  owed : Bool
def Sc.cs (s : Sc) (v : Value) (m : Nat) : Array Value := #[.int .u8 s.mn, .int .u16 s.ml, .int .u8 s.pn, .int .u16 s.pl, .int .i64 s.again, .int .u64 s.next, .int .u64 s.want, v, .bool s.owed, .map (some m)]
/-- the link of the program: block b; its map: block m; its row: v; c bounds what was ever kept. -/
structure PL (base : Nat) (W : World) (b m : Nat) (v : Value) (c : Nat) (s : Sc) (L : List Ls) (K : List Kr) : Prop where
  hb : base ≤ b
  hm : base ≤ m
  hv : ∀ g, v.ownBlock = some g → base ≤ g
  lnk : W.heap[b]? = some (.cells (s.cs v m) 64 (0, 0))
  row : RowO W 60 4 v L.length (flat Ls.cs L)
  okL : ∀ x ∈ L, x.b.Ok W
  map : ∃ (nn : Nat) (D : DataW Unit), nn ≤ c ∧ W.ownsMap Try.prog 22 bdElem m nn D ∧ MapK D K
  okK : ∀ x ∈ K, x.b.Ok W
  few : L.length ≤ 32
  nxt : s.next ≤ 18446744073709551615
  wnt : s.want ≤ 18446744073709551615
  agn : 1 ≤ s.again ∧ s.again ≤ 9223372036854775807
  seqs : ∀ i x, L[i]? = some x → x.seq + L.length = s.next + i
  ats : ∀ x ∈ L, -9223372036854775808 ≤ x.at_ ∧ x.at_ ≤ 9223372036854775807
theorem blt {W : World} {b : Nat} {o : Obj} (h : W.heap[b]? = some o) : b < W.heap.size := (Array.getElem?_eq_some_iff.1 h).1
theorem PL.ml {base : Nat} {W : World} {b m : Nat} {v : Value} {c : Nat} {s : Sc} {L : List Ls} {K : List Kr} (h : PL base W b m v c s L K) : ∃ es clock, W.heap[m]? = some (.map es clock) := by
  obtain ⟨nn, D, _, ⟨es, cl, hm, _⟩, _⟩ := h.map
  exact ⟨es, cl, hm⟩
theorem PL.keep {base : Nat} {W W' : World} {b m : Nat} {v : Value} {c : Nat} {s : Sc} {L : List Ls} {K : List Kr} (h : PL base W b m v c s L K)
    (k1 : W'.heap[b]? = W.heap[b]?) (k2 : W'.heap[m]? = W.heap[m]?) (k3 : ∀ g, v.ownBlock = some g → W'.heap[g]? = W.heap[g]?) (k4 : ∀ (g : Nat) (cur : Array Value), W.heap[g]? = some (.cells cur 5 (0, 0)) → W'.heap[g]? = W.heap[g]?) : PL base W' b m v c s L K := by
  obtain ⟨nn, D, hk, ⟨es, cl, hm, F, hs, hD⟩, M⟩ := h.map
  exact ⟨h.hb, h.hm, h.hv, k1.trans h.lnk, h.row.keepB k3, fun x hx => (h.okL x hx).keep k4, ⟨nn, D, hk, ⟨es, cl, k2.trans hm, F, hs, hD⟩, M⟩, fun x hx => (h.okK x hx).keep k4, h.few, h.nxt, h.wnt, h.agn, h.seqs, h.ats⟩
theorem PL.keepK {base : Nat} {W W' : World} {b m : Nat} {v : Value} {c : Nat} {s : Sc} {L : List Ls} {K : List Kr} {S : Nat → Prop} (h : PL base W b m v c s L K) (k : KP S W W')
    (k1 : ¬ S b) (k2 : ¬ S m) (k3 : ∀ g, v.ownBlock = some g → ¬ S g) (k4 : ∀ (g : Nat) (cur : Array Value), W.heap[g]? = some (.cells cur 5 (0, 0)) → ¬ S g) : PL base W' b m v c s L K := by
  obtain ⟨es, cl, hm⟩ := h.ml
  exact h.keep (k.block b (blt h.lnk) k1) (k.block m (blt hm) k2) (fun g hg => k.block g (h.row.lt g hg) (k3 g hg)) fun g cur hc => k.block g (blt hc) (k4 g cur hc)
theorem PL.below {base : Nat} {W W' : World} {b m : Nat} {v : Value} {c : Nat} {s : Sc} {L : List Ls} {K : List Kr} (h : PL base W b m v c s L K) (hb : Below W.heap.size W W') : PL base W' b m v c s L K := by
  obtain ⟨es, cl, hm⟩ := h.ml
  exact h.keep (hb.block b (blt h.lnk)) (hb.block m (blt hm)) (fun g hg => hb.block g (h.row.lt g hg)) fun g cur hc => hb.block g (blt hc)
theorem PL.mono {base : Nat} {W : World} {b m : Nat} {v : Value} {c c' : Nat} {s : Sc} {L : List Ls} {K : List Kr} (h : PL base W b m v c s L K) (hc : c ≤ c') : PL base W b m v c' s L K := by
  obtain ⟨nn, D, hk, O, M⟩ := h.map
  exact { h with map := ⟨nn, D, Nat.le_trans hk hc, O, M⟩ }
/-- what a call may change. -/
def FP (b m : Nat) (v : Value) (k : Nat) : Prop := k = b ∨ k = m ∨ v.ownBlock = some k
theorem PL.foot {base : Nat} {W : World} {b m : Nat} {v : Value} {c : Nat} {s : Sc} {L : List Ls} {K : List Kr} (h : PL base W b m v c s L K) : ∀ k, FP b m v k → base ≤ k := by
  rintro k (rfl | rfl | hk)
  · exact h.hb
  · exact h.hm
  · exact h.hv k hk
theorem PL.u8 {base : Nat} {W : World} {b m : Nat} {v : Value} {c : Nat} {s : Sc} {L : List Ls} {K : List Kr} (h : PL base W b m v c s L K) : ∀ (g : Nat) (cur : Array Value), W.heap[g]? = some (.cells cur 5 (0, 0)) → ¬ FP b m v g := by
  rintro g cur hg (rfl | rfl | hk)
  · exact apart_of hg h.lnk (by decide) rfl
  · obtain ⟨es, cl, hm⟩ := h.ml
    rw [hg] at hm
    cases hm
  · obtain ⟨c2, h2⟩ := h.row.block g hk
    exact apart_of hg h2 (by decide) rfl
theorem PL.ne_bm {base : Nat} {W : World} {b m : Nat} {v : Value} {c : Nat} {s : Sc} {L : List Ls} {K : List Kr} (h : PL base W b m v c s L K) : b ≠ m := by
  obtain ⟨es, cl, hm⟩ := h.ml
  rintro rfl
  rw [h.lnk] at hm
  cases hm
theorem PL.ne_bv {base : Nat} {W : World} {b m : Nat} {v : Value} {c : Nat} {s : Sc} {L : List Ls} {K : List Kr} (h : PL base W b m v c s L K) : ∀ g, v.ownBlock = some g → g ≠ b := by
  intro g hg
  obtain ⟨c2, h2⟩ := h.row.block g hg
  exact apart_of h2 h.lnk (by decide)
theorem PL.ne_mv {base : Nat} {W : World} {b m : Nat} {v : Value} {c : Nat} {s : Sc} {L : List Ls} {K : List Kr} (h : PL base W b m v c s L K) : ∀ g, v.ownBlock = some g → g ≠ m := by
  intro g hg
  obtain ⟨c2, h2⟩ := h.row.block g hg
  obtain ⟨es, cl, hm⟩ := h.ml
  rintro rfl
  rw [h2] at hm
  cases hm

end Go.Proofs.Ytnagbiicpecamaa
