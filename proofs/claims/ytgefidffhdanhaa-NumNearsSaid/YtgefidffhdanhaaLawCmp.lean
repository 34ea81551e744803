import Derived.Test.YtgefidffhdanhaaLawFieldB
import Derived.Test.YtgefidffhdanhaaMathC
namespace Go.Proofs.Ytgefidffhdanhaa
open Go.RowKit Go.BigFrame

theorem cmp_ok {an ad bn bd : Int} (ha : chk an ad = 0) (hb : chk bn bd = 0) (w : World) :
    Calls Try.prog 22 #[.agg #[.int .i64 an, .int .i64 ad], .agg #[.int .i64 bn, .int .i64 bd]] w fun r w' => r = .returned (.tuple #[.int .i64 (cmpM (an * bd) (bn * ad)), .int .i64 0]) ∧ Below w.heap.size w w' := by
  have := cmp_any an ad bn bd w
  unfold cmpT at this
  rw [if_pos ha, if_pos hb] at this; exact this
theorem cmp_res {an ad bn bd k : Int} (ha : chk an ad = 0) (hb : chk bn bd = 0) (h : cmpM (an * bd) (bn * ad) = k) (w : World) :
    Calls Try.prog 22 #[.agg #[.int .i64 an, .int .i64 ad], .agg #[.int .i64 bn, .int .i64 bd]] w fun r w' => r = .returned (.tuple #[.int .i64 k, .int .i64 0]) ∧ Below w.heap.size w w' := by
  have := cmp_ok ha hb w; rw [h] at this; exact this
theorem neg_res {an ad : Int} (ha : chk an ad = 0) (w : World) :
    Calls Try.prog 20 #[.agg #[.int .i64 an, .int .i64 ad]] w fun r w' => r = .returned (.tuple #[.agg #[.int .i64 (-an), .int .i64 ad], .int .i64 0]) ∧ Below w.heap.size w w' := by
  have := neg_any an ad w
  unfold negT at this
  rw [if_pos ha] at this; exact this

end Go.Proofs.Ytgefidffhdanhaa
