/-
  plumblaw2.two: for every two lists it answers true.
-/
import Derived.Test.YtmbajngbiefilaaNTwoB
import Derived.Test.YtmbajngbiefilaaNTwoL
import Derived.Test.YtmbajngbiefilaaNTwoG
import Derived.Test.YtmbajngbiefilaaNTwoN
namespace Go.Proofs.Ytmbajngbiefilaa
open Go Go.RowKit Go.Proofs.Ytmbajngbiefilaa.M
set_option linter.unusedSimpArgs false
set_option linter.unusedVariables false

theorem two_any {w0 : World} {ao bo : Option Addr} {n m ca cb : Nat} {a b : Nat → Int} (ra : Row w0 ao n ca a) (rb : Row w0 bo m cb b) (hn : n ≤ 2100) (hm : m ≤ 2100) (w : World) (hb0 : Below w0.heap.size w0 w) {k : Nat} {S : Nat → Prop} (hk : Kept w0.heap.size w k S) :
    Calls Try.prog 8 #[.pointer (some ⟨k, 0, none⟩), .slice ao n ca, .slice bo m cb] w fun e w' => e = .returned (.bool true) ∧ Below w0.heap.size w0 w' ∧ ∃ S', Kept w0.heap.size w' k S' ∧ Fr w w' := by
  cases hbad : (okB a n && okB b m) with
  | false => exact two_bad ra rb hn hm w hb0 hk hbad
  | true =>
    have oa : okB a n = true := by cases h : okB a n <;> simp_all
    have ob : okB b m = true := by cases h : okB b m <;> simp_all
    by_cases hm0 : m = 0
    · subst hm0
      exact two_nil ra rb hn w hb0 hk oa ob (show (0 : Int) ≤ _ from val_nonneg (okB_out oa).2.1)
    · by_cases h : val b m ≤ val a n
      · exact two_ge ra rb hn hm w hb0 hk oa ob h (by omega)
      · exact two_less ra rb hn hm w hb0 hk oa ob (by omega) (by omega)
end Go.Proofs.Ytmbajngbiefilaa
