/-
  The walk of the law IdentOrders: it answers true and changes nothing that was there. Condition: each number fits its kind.
-/
import Derived.Test.YtldbmmganicliaaRcp
import Derived.Test.YtldbmmganicliaaSteps
namespace Go.Proofs.Ytldbmmganicliaa
set_option linter.unusedSimpArgs false
set_option linter.unusedVariables false
open Go.RowKit Go.Sort

theorem refCompare (n l s d a0 a1 b0 b1 c0 c1 n' l' s' d' x0 x1 y0 y1 z0 z1 : Int) (w : World) (hn : 0 ≤ n ∧ n ≤ 255) (hl : 0 ≤ l ∧ l ≤ 65535) (hs : 0 ≤ s ∧ s ≤ 4294967295) (hd : 0 ≤ d ∧ d ≤ 255) (ha0 : 0 ≤ a0 ∧ a0 ≤ 255) (ha1 : 0 ≤ a1 ∧ a1 ≤ 255) (hb0 : 0 ≤ b0 ∧ b0 ≤ 255) (hb1 : 0 ≤ b1 ∧ b1 ≤ 255) (hc0 : 0 ≤ c0 ∧ c0 ≤ 255) (hc1 : 0 ≤ c1 ∧ c1 ≤ 255) (hn' : 0 ≤ n' ∧ n' ≤ 255) (hl' : 0 ≤ l' ∧ l' ≤ 65535) (hs' : 0 ≤ s' ∧ s' ≤ 4294967295) (hd' : 0 ≤ d' ∧ d' ≤ 255) (hx0 : 0 ≤ x0 ∧ x0 ≤ 255) (hx1 : 0 ≤ x1 ∧ x1 ≤ 255) (hy0 : 0 ≤ y0 ∧ y0 ≤ 255) (hy1 : 0 ≤ y1 ∧ y1 ≤ 255) (hz0 : 0 ≤ z0 ∧ z0 ≤ 255) (hz1 : 0 ≤ z1 ∧ z1 ≤ 255) :
    Calls Try.prog 55 #[.agg #[.int .u8 n, .int .u16 l, .int .u32 s, .int .u8 d, .int .u8 a0, .int .u8 a1, .int .u8 b0, .int .u8 b1, .int .u8 c0, .int .u8 c1], .agg #[.int .u8 n', .int .u16 l', .int .u32 s', .int .u8 d', .int .u8 x0, .int .u8 x1, .int .u8 y0, .int .u8 y1, .int .u8 z0, .int .u8 z1]] w fun e w' => e = .returned (.int .i64 (ci n l s d a0 a1 b0 b1 c0 c1 n' l' s' d' x0 x1 y0 y1 z0 z1)) ∧ Below w.heap.size w w' := by
  by_cases hcp : cp n l n' l' = 0
  · by_cases e : s = s'
    · subst e
      exact refCompare_main n l s d a0 a1 b0 b1 c0 c1 n' l' d' x0 x1 y0 y1 z0 z1 w hn hl hs hd ha0 ha1 hb0 hb1 hc0 hc1 hn' hl' hd' hx0 hx1 hy0 hy1 hz0 hz1 hcp
    · exact refCompare_s n l s d a0 a1 b0 b1 c0 c1 n' l' s' d' x0 x1 y0 y1 z0 z1 w hn hl hs hd ha0 ha1 hb0 hb1 hc0 hc1 hn' hl' hs' hd' hx0 hx1 hy0 hy1 hz0 hz1 hcp e
  · exact refCompare_cp n l s d a0 a1 b0 b1 c0 c1 n' l' s' d' x0 x1 y0 y1 z0 z1 w hn hl hs hd ha0 ha1 hb0 hb1 hc0 hc1 hn' hl' hs' hd' hx0 hx1 hy0 hy1 hz0 hz1 hcp

end Go.Proofs.Ytldbmmganicliaa
