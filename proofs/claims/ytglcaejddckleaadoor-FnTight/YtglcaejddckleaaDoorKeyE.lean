/-
  KeyOf of the model and of the program.
-/
import Derived.Test.YtglcaejddckleaaDoorKeyD
namespace Go.Proofs.YtglcaejddckleaaDoor
open Go.RowKit
attribute [local go_sem] run_store_float run_equalIn_float

theorem fint_conv {x : Nat} (h1 : geB x = true) (h2 : ltB x = true) (w : World) :
    (convert 30 2 (.float .f64 x)).run Tryd.prog w = .ok (.int .i64 (fint x)) w := by
  obtain ⟨s, m, i, hr, hi, hi2, hm, hlo, hhi⟩ := fin_of h1 h2
  have e : fint x = Fl.sg s (Fl.whole m i) := by unfold fint; rw [hr]
  rw [e]
  exact run_convert_float_int w 30 2 .f64 .i64 x _ (by kernel_rfl) Tryd.underlying2 (Fl.toIntVal hr hi hlo hhi)

end Go.Proofs.YtglcaejddckleaaDoor
