/-
  The walk of the law LinkPlays, all acts. Condition: the acts lie in memory.
-/
import Derived.Test.YtgnfclikdfllnaaJpm
import Derived.Test.YtgnfclikdfllnaaJpn
import Derived.Test.YtgnfclikdfllnaaJpe
namespace Go.Proofs.Ytgnfclikdfllnaa
set_option linter.unusedSimpArgs false
set_option linter.unusedVariables false
open Go.RowKit Go.Maps Go.Sort

theorem walkPlaysAll (mn ml pn pl2 : Nat) (first : Nat) (again : Int) (A : Option Addr) (L : List Ac) (c : Nat) (W : World) (hf : first ≤ 18446744073709551615) (ha : again ≤ 9223372036854775807) (h : arg_actsR W A L) (hl : L.length ≤ c) (hm : c ≤ maxLen) :
    Calls Try.prog 3 #[.agg #[.int .u8 mn, .int .u16 ml], .agg #[.int .u8 pn, .int .u16 pl2], .int .u64 first, .int .i64 again, .slice A L.length c] W fun e W' => e = .returned (.bool true) ∧ Below W.heap.size W W' := by
  rcases rowsB_of h with rfl | ⟨b, o, rfl, hr⟩
  · exact walkPlaysNil mn ml pn pl2 first again A c W hf ha
  · cases hb : lightB L with
    | true => exact walkPlays mn ml pn pl2 first again b o c L W hf ha hr hm hl hb
    | false => exact walkPlaysNo mn ml pn pl2 first again b o c L W hf ha hr hm hl hb

end Go.Proofs.Ytgnfclikdfllnaa
