/-
  The program's Right, Quorum, Rank, Next, as the laws' walks ask them: by exact answers. Condition: the lists lie in memory; they are short; the numbers fit their kinds.
-/
import Derived.Test.YtgmjhloednmfnaaDoorVown
import Derived.Test.YtgmjhloednmfnaaDoorVne
namespace Go.Proofs.YtgmjhloednmfnaaDoor
set_option linter.unusedSimpArgs false
set_option linter.unusedVariables false
open Go.RowKit

/-- each number of a process fits its kind. -/
def P2.Rng (p : P2) : Prop := (0 ≤ p.n ∧ p.n ≤ 255) ∧ (0 ≤ p.l ∧ p.l ≤ 65535)
theorem rightO (g N : Int) (A : Option Addr) (V : List P2) (c : Nat) (w : World) (hr : RowsV w w.heap.size A V) (hc : V.length ≤ c) (hm : c ≤ maxLen) (hg : 0 ≤ g ∧ g ≤ 255) (hN : 0 ≤ N ∧ N ≤ 4294967295) (rV : ∀ p ∈ V, p.Rng) :
    Calls Tryd.prog 14 #[.agg #[.int .u8 g, .int .u32 N, .slice A V.length c]] w fun e w' => e = .returned (.bool (vR g N V)) ∧ Below w.heap.size w w' := rightO1 g N A V c w hr hc hm
theorem quorumO (g N : Int) (A B : Option Addr) (V L : List P2) (c d : Nat) (w : World) (hr : RowsV w w.heap.size A V) (hs : RowsV w w.heap.size B L) (hc : V.length ≤ c) (hm : c ≤ maxLen) (hd : L.length ≤ d) (hn : d ≤ maxLen) (hV : V.length ≤ 40) (hL : L.length ≤ 80) (rV : ∀ p ∈ V, p.Rng) (rL : ∀ p ∈ L, p.Rng) :
    Calls Tryd.prog 15 #[.agg #[.int .u8 g, .int .u32 N, .slice A V.length c], .slice B L.length d] w fun e w' => e = .returned (.bool (quo V L)) ∧ Below w.heap.size w w' := quorumO' g N A B V L c d w hr hs hc hm hd hn (by omega) (by omega)
theorem rankO (g N : Int) (A : Option Addr) (V : List P2) (c : Nat) (p : P2) (w : World) (hr : RowsV w w.heap.size A V) (hc : V.length ≤ c) (hm : c ≤ maxLen) (hV : V.length ≤ 80) (rV : ∀ p ∈ V, p.Rng) (rp : p.Rng) :
    Calls Tryd.prog 17 #[.agg #[.int .u8 g, .int .u32 N, .slice A V.length c], .agg #[.int .u8 p.n, .int .u16 p.l]] w fun e w' => e = .returned (.int .i64 (rk V p)) ∧ Below w.heap.size w w' := rankO' g N A V c p w hr hc hm
theorem nextO (g N : Int) (A B D : Option Addr) (V drop add : List P2) (c d e : Nat) (w : World) (hr : RowsV w w.heap.size A V) (hs : RowsV w w.heap.size B drop) (ht : RowsV w w.heap.size D add) (hc : V.length ≤ c) (hm : c ≤ maxLen) (hd : drop.length ≤ d) (hn : d ≤ maxLen) (he : add.length ≤ e) (ho : e ≤ maxLen) (hV : V.length ≤ 40) (hB : drop.length ≤ 40) (hA : add.length ≤ 40) (hg : 0 ≤ g ∧ g ≤ 255) (hN : 0 ≤ N ∧ N ≤ 4294967295) (rV : ∀ p ∈ V, p.Rng) (rD : ∀ p ∈ drop, p.Rng) (rA : ∀ p ∈ add, p.Rng) :
    Calls Tryd.prog 8 #[.agg #[.int .u8 g, .int .u32 N, .slice A V.length c], .slice B drop.length d, .slice D add.length e] w fun x w' => ∃ v', x = .returned (.tuple #[.agg #[.int .u8 (nxG g N V drop add), .int .u32 (nxN g N V drop add), v'], .int .i64 (nxC g N V drop add)]) ∧ w'.ownsRow w.heap.size 48 2 v' (nxV g N V drop add).length (cellsV (nxV g N V drop add)) ∧ Below w.heap.size w w' :=
  nextO' g N A B D V drop add c d e w hr hs ht hc hm hd hn he ho (by omega) (by omega) (by omega) (by omega) (by omega)
end Go.Proofs.YtgmjhloednmfnaaDoor
