/- What the proof of PrfTreeOrder rests on, part 9 of 13. -/
import Derived.Deep.DeepCutAuto
import Derived.Lib.AppendZeros
import Derived.Test.YtcgedpfolloinaaGreatPPrfTreeOrder8
namespace Go.Proofs.YtcgedpfolloinaaGreat
open Go.RowKit

set_option maxHeartbeats 1000000 in
theorem compareNumbers_any (an ad bn bd : Int) (w : World) :
    Calls Tryz.prog 138 #[.agg #[.int .i64 an, .int .i64 ad], .agg #[.int .i64 bn, .int .i64 bd]] w fun e w' => e = .returned (.int .i64 (cmpT an ad bn bd).1) ∧ Below w.heap.size w w' := by
  have C := Lib.hid (fun w => cmp_any an ad bn bd w)
  generalize cmpT an ad bn bd = r at *
  go_enter Tryz.func138, Tryz.ntmps138
  go_wp2_with fail
  refine (C.out _).mono ?_
  rintro e w1 ⟨rfl, hb1⟩
  have hs1 := hb1.size
  simp at hs1
  go_wp2_with fail
  go_ret
  exact ⟨rfl, (show Below w.heap.size w ((w.alloc (.cells #[.int .i64 an, .int .i64 ad] 25)).alloc (.cells #[.int .i64 bn, .int .i64 bd] 25)) from by ((repeat' (first | exact Below.refl _ _ | assumption | refine Below.setCell ?_ ?_ _ | refine bdrewN ?_ _ | refine Below.drew ?_ | refine Below.alloc ?_ ?_ _ | refine bbehind ?_ (by assumption) ?_)); all_goals first | (simp; done) | (simp; omega) | omega)).trans (hb1.mono (by simp; omega))⟩

set_option maxRecDepth 100000 in
set_option maxHeartbeats 2000000 in
theorem aspect1_any (h i : Hd) (pa pb : Option Addr) (ca cb : Nat) (w : World) :
    Calls Tryz.prog 130 #[.agg #[.int .i64 h.k, .string ⟨h.l.toArray⟩, .slice pa h.ats.length ca, .int .i64 h.n, .int .i64 h.d, .string ⟨h.x.toArray⟩], .agg #[.int .i64 i.k, .string ⟨i.l.toArray⟩, .slice pb i.ats.length cb, .int .i64 i.n, .int .i64 i.d, .string ⟨i.x.toArray⟩]] w fun e w' => e = .returned (.int .i64 (cmpM h.k i.k)) ∧ Below w.heap.size w w' := by
  go_enter Tryz.func130, Tryz.ntmps130
  go_upto_region 1 with fail
  have k0 : ((w.alloc (.cells #[.int .i64 h.k, .string ⟨h.l.toArray⟩, .slice pa h.ats.length ca, .int .i64 h.n, .int .i64 h.d, .string ⟨h.x.toArray⟩] 27)).alloc (.cells #[.int .i64 i.k, .string ⟨i.l.toArray⟩, .slice pb i.ats.length cb, .int .i64 i.n, .int .i64 i.d, .string ⟨i.x.toArray⟩] 27)).heap[w.heap.size]? = _ := (Below.heap_alloc _ _ _ (by simp)).trans (World.alloc_heap_new w (.cells #[.int .i64 h.k, .string ⟨h.l.toArray⟩, .slice pa h.ats.length ca, .int .i64 h.n, .int .i64 h.d, .string ⟨h.x.toArray⟩] 27))
  have k1 := World.alloc_heap_new (w.alloc (.cells #[.int .i64 h.k, .string ⟨h.l.toArray⟩, .slice pa h.ats.length ca, .int .i64 h.n, .int .i64 h.d, .string ⟨h.x.toArray⟩] 27)) (.cells #[.int .i64 i.k, .string ⟨i.l.toArray⟩, .slice pb i.ats.length cb, .int .i64 i.n, .int .i64 i.d, .string ⟨i.x.toArray⟩] 27)
  rw [show (w.alloc (.cells #[.int .i64 h.k, .string ⟨h.l.toArray⟩, .slice pa h.ats.length ca, .int .i64 h.n, .int .i64 h.d, .string ⟨h.x.toArray⟩] 27)).heap.size = w.heap.size + 1 by simp] at k1
  have B0 : Below w.heap.size w ((w.alloc (.cells #[.int .i64 h.k, .string ⟨h.l.toArray⟩, .slice pa h.ats.length ca, .int .i64 h.n, .int .i64 h.d, .string ⟨h.x.toArray⟩] 27)).alloc (.cells #[.int .i64 i.k, .string ⟨i.l.toArray⟩, .slice pb i.ats.length cb, .int .i64 i.n, .int .i64 i.d, .string ⟨i.x.toArray⟩] 27)) := by ((repeat' (first | exact Below.refl _ _ | assumption | refine Below.setCell ?_ ?_ _ | refine bdrewN ?_ _ | refine Below.drew ?_ | refine Below.alloc ?_ ?_ _ | refine bbehind ?_ (by assumption) ?_)); all_goals first | (simp; done) | (simp; omega) | omega)
  have hs0 : w.heap.size + 2 ≤ ((w.alloc (.cells #[.int .i64 h.k, .string ⟨h.l.toArray⟩, .slice pa h.ats.length ca, .int .i64 h.n, .int .i64 h.d, .string ⟨h.x.toArray⟩] 27)).alloc (.cells #[.int .i64 i.k, .string ⟨i.l.toArray⟩, .slice pb i.ats.length cb, .int .i64 i.n, .int .i64 i.d, .string ⟨i.x.toArray⟩] 27)).heap.size := by simp
  generalize (w.alloc (.cells #[.int .i64 h.k, .string ⟨h.l.toArray⟩, .slice pa h.ats.length ca, .int .i64 h.n, .int .i64 h.d, .string ⟨h.x.toArray⟩] 27)).alloc (.cells #[.int .i64 i.k, .string ⟨i.l.toArray⟩, .slice pb i.ats.length cb, .int .i64 i.n, .int .i64 i.d, .string ⟨i.x.toArray⟩] 27) = W at *
  have d0 : W.cell? ⟨w.heap.size, 0, none⟩ = some (.int .i64 h.k) := cell_of_block k0 rfl
  have d1 : W.cell? ⟨w.heap.size, 1, none⟩ = some (.string ⟨h.l.toArray⟩) := cell_of_block k0 rfl
  have d2 : W.cell? ⟨w.heap.size, 2, none⟩ = some (.slice pa h.ats.length ca) := cell_of_block k0 rfl
  have d3 : W.cell? ⟨w.heap.size, 3, none⟩ = some (.int .i64 h.n) := cell_of_block k0 rfl
  have d4 : W.cell? ⟨w.heap.size, 4, none⟩ = some (.int .i64 h.d) := cell_of_block k0 rfl
  have d5 : W.cell? ⟨w.heap.size, 5, none⟩ = some (.string ⟨h.x.toArray⟩) := cell_of_block k0 rfl
  have e0 : W.cell? ⟨w.heap.size + 1, 0, none⟩ = some (.int .i64 i.k) := cell_of_block k1 rfl
  have e1 : W.cell? ⟨w.heap.size + 1, 1, none⟩ = some (.string ⟨i.l.toArray⟩) := cell_of_block k1 rfl
  have e2 : W.cell? ⟨w.heap.size + 1, 2, none⟩ = some (.slice pb i.ats.length cb) := cell_of_block k1 rfl
  have e3 : W.cell? ⟨w.heap.size + 1, 3, none⟩ = some (.int .i64 i.n) := cell_of_block k1 rfl
  have e4 : W.cell? ⟨w.heap.size + 1, 4, none⟩ = some (.int .i64 i.d) := cell_of_block k1 rfl
  have e5 : W.cell? ⟨w.heap.size + 1, 5, none⟩ = some (.string ⟨i.x.toArray⟩) := cell_of_block k1 rfl
  clear k0 k1
  go_wp2_with fail
  refine (cmpKind_any _ _ _).mono ?_
  rintro e w1 ⟨rfl, hw⟩
  obtain rfl := hw
  go_wp2_with fail
  go_ret
  exact ⟨rfl, B0⟩

set_option maxRecDepth 100000 in
set_option maxHeartbeats 2000000 in
theorem aspect2_any (h i : Hd) (pa pb : Option Addr) (ca cb : Nat) (w : World) :
    Calls Tryz.prog 132 #[.agg #[.int .i64 h.k, .string ⟨h.l.toArray⟩, .slice pa h.ats.length ca, .int .i64 h.n, .int .i64 h.d, .string ⟨h.x.toArray⟩], .agg #[.int .i64 i.k, .string ⟨i.l.toArray⟩, .slice pb i.ats.length cb, .int .i64 i.n, .int .i64 i.d, .string ⟨i.x.toArray⟩]] w fun e w' => e = .returned (.int .i64 (strL h.l i.l)) ∧ Below w.heap.size w w' := by
  go_enter Tryz.func132, Tryz.ntmps132
  go_upto_region 1 with fail
  have k0 : ((w.alloc (.cells #[.int .i64 h.k, .string ⟨h.l.toArray⟩, .slice pa h.ats.length ca, .int .i64 h.n, .int .i64 h.d, .string ⟨h.x.toArray⟩] 27)).alloc (.cells #[.int .i64 i.k, .string ⟨i.l.toArray⟩, .slice pb i.ats.length cb, .int .i64 i.n, .int .i64 i.d, .string ⟨i.x.toArray⟩] 27)).heap[w.heap.size]? = _ := (Below.heap_alloc _ _ _ (by simp)).trans (World.alloc_heap_new w (.cells #[.int .i64 h.k, .string ⟨h.l.toArray⟩, .slice pa h.ats.length ca, .int .i64 h.n, .int .i64 h.d, .string ⟨h.x.toArray⟩] 27))
  have k1 := World.alloc_heap_new (w.alloc (.cells #[.int .i64 h.k, .string ⟨h.l.toArray⟩, .slice pa h.ats.length ca, .int .i64 h.n, .int .i64 h.d, .string ⟨h.x.toArray⟩] 27)) (.cells #[.int .i64 i.k, .string ⟨i.l.toArray⟩, .slice pb i.ats.length cb, .int .i64 i.n, .int .i64 i.d, .string ⟨i.x.toArray⟩] 27)
  rw [show (w.alloc (.cells #[.int .i64 h.k, .string ⟨h.l.toArray⟩, .slice pa h.ats.length ca, .int .i64 h.n, .int .i64 h.d, .string ⟨h.x.toArray⟩] 27)).heap.size = w.heap.size + 1 by simp] at k1
  have B0 : Below w.heap.size w ((w.alloc (.cells #[.int .i64 h.k, .string ⟨h.l.toArray⟩, .slice pa h.ats.length ca, .int .i64 h.n, .int .i64 h.d, .string ⟨h.x.toArray⟩] 27)).alloc (.cells #[.int .i64 i.k, .string ⟨i.l.toArray⟩, .slice pb i.ats.length cb, .int .i64 i.n, .int .i64 i.d, .string ⟨i.x.toArray⟩] 27)) := by ((repeat' (first | exact Below.refl _ _ | assumption | refine Below.setCell ?_ ?_ _ | refine bdrewN ?_ _ | refine Below.drew ?_ | refine Below.alloc ?_ ?_ _ | refine bbehind ?_ (by assumption) ?_)); all_goals first | (simp; done) | (simp; omega) | omega)
  have hs0 : w.heap.size + 2 ≤ ((w.alloc (.cells #[.int .i64 h.k, .string ⟨h.l.toArray⟩, .slice pa h.ats.length ca, .int .i64 h.n, .int .i64 h.d, .string ⟨h.x.toArray⟩] 27)).alloc (.cells #[.int .i64 i.k, .string ⟨i.l.toArray⟩, .slice pb i.ats.length cb, .int .i64 i.n, .int .i64 i.d, .string ⟨i.x.toArray⟩] 27)).heap.size := by simp
  generalize (w.alloc (.cells #[.int .i64 h.k, .string ⟨h.l.toArray⟩, .slice pa h.ats.length ca, .int .i64 h.n, .int .i64 h.d, .string ⟨h.x.toArray⟩] 27)).alloc (.cells #[.int .i64 i.k, .string ⟨i.l.toArray⟩, .slice pb i.ats.length cb, .int .i64 i.n, .int .i64 i.d, .string ⟨i.x.toArray⟩] 27) = W at *
  have d0 : W.cell? ⟨w.heap.size, 0, none⟩ = some (.int .i64 h.k) := cell_of_block k0 rfl
  have d1 : W.cell? ⟨w.heap.size, 1, none⟩ = some (.string ⟨h.l.toArray⟩) := cell_of_block k0 rfl
  have d2 : W.cell? ⟨w.heap.size, 2, none⟩ = some (.slice pa h.ats.length ca) := cell_of_block k0 rfl
  have d3 : W.cell? ⟨w.heap.size, 3, none⟩ = some (.int .i64 h.n) := cell_of_block k0 rfl
  have d4 : W.cell? ⟨w.heap.size, 4, none⟩ = some (.int .i64 h.d) := cell_of_block k0 rfl
  have d5 : W.cell? ⟨w.heap.size, 5, none⟩ = some (.string ⟨h.x.toArray⟩) := cell_of_block k0 rfl
  have e0 : W.cell? ⟨w.heap.size + 1, 0, none⟩ = some (.int .i64 i.k) := cell_of_block k1 rfl
  have e1 : W.cell? ⟨w.heap.size + 1, 1, none⟩ = some (.string ⟨i.l.toArray⟩) := cell_of_block k1 rfl
  have e2 : W.cell? ⟨w.heap.size + 1, 2, none⟩ = some (.slice pb i.ats.length cb) := cell_of_block k1 rfl
  have e3 : W.cell? ⟨w.heap.size + 1, 3, none⟩ = some (.int .i64 i.n) := cell_of_block k1 rfl
  have e4 : W.cell? ⟨w.heap.size + 1, 4, none⟩ = some (.int .i64 i.d) := cell_of_block k1 rfl
  have e5 : W.cell? ⟨w.heap.size + 1, 5, none⟩ = some (.string ⟨i.x.toArray⟩) := cell_of_block k1 rfl
  clear k0 k1
  go_wp2_with fail
  refine (strCompare_any _ _ _).mono ?_
  rintro e w1 ⟨rfl, hw⟩
  obtain rfl := hw
  go_wp2_with fail
  go_ret
  exact ⟨rfl, B0⟩

set_option maxRecDepth 100000 in
set_option maxHeartbeats 2000000 in
theorem aspect3_any (h i : Hd) (pa pb : Option Addr) (ca cb : Nat) (w : World) (ha : AttrsLie w (.slice pa h.ats.length ca) h.ats) (hb : AttrsLie w (.slice pb i.ats.length cb) i.ats) :
    Calls Tryz.prog 134 #[.agg #[.int .i64 h.k, .string ⟨h.l.toArray⟩, .slice pa h.ats.length ca, .int .i64 h.n, .int .i64 h.d, .string ⟨h.x.toArray⟩], .agg #[.int .i64 i.k, .string ⟨i.l.toArray⟩, .slice pb i.ats.length cb, .int .i64 i.n, .int .i64 i.d, .string ⟨i.x.toArray⟩]] w fun e w' => e = .returned (.int .i64 (atsL h.ats i.ats)) ∧ Below w.heap.size w w' := by
  have HA := Lib.hid ha
  have HB := Lib.hid hb
  clear ha hb
  go_enter Tryz.func134, Tryz.ntmps134
  go_upto_region 1 with fail
  have k0 : ((w.alloc (.cells #[.int .i64 h.k, .string ⟨h.l.toArray⟩, .slice pa h.ats.length ca, .int .i64 h.n, .int .i64 h.d, .string ⟨h.x.toArray⟩] 27)).alloc (.cells #[.int .i64 i.k, .string ⟨i.l.toArray⟩, .slice pb i.ats.length cb, .int .i64 i.n, .int .i64 i.d, .string ⟨i.x.toArray⟩] 27)).heap[w.heap.size]? = _ := (Below.heap_alloc _ _ _ (by simp)).trans (World.alloc_heap_new w (.cells #[.int .i64 h.k, .string ⟨h.l.toArray⟩, .slice pa h.ats.length ca, .int .i64 h.n, .int .i64 h.d, .string ⟨h.x.toArray⟩] 27))
  have k1 := World.alloc_heap_new (w.alloc (.cells #[.int .i64 h.k, .string ⟨h.l.toArray⟩, .slice pa h.ats.length ca, .int .i64 h.n, .int .i64 h.d, .string ⟨h.x.toArray⟩] 27)) (.cells #[.int .i64 i.k, .string ⟨i.l.toArray⟩, .slice pb i.ats.length cb, .int .i64 i.n, .int .i64 i.d, .string ⟨i.x.toArray⟩] 27)
  rw [show (w.alloc (.cells #[.int .i64 h.k, .string ⟨h.l.toArray⟩, .slice pa h.ats.length ca, .int .i64 h.n, .int .i64 h.d, .string ⟨h.x.toArray⟩] 27)).heap.size = w.heap.size + 1 by simp] at k1
  have B0 : Below w.heap.size w ((w.alloc (.cells #[.int .i64 h.k, .string ⟨h.l.toArray⟩, .slice pa h.ats.length ca, .int .i64 h.n, .int .i64 h.d, .string ⟨h.x.toArray⟩] 27)).alloc (.cells #[.int .i64 i.k, .string ⟨i.l.toArray⟩, .slice pb i.ats.length cb, .int .i64 i.n, .int .i64 i.d, .string ⟨i.x.toArray⟩] 27)) := by ((repeat' (first | exact Below.refl _ _ | assumption | refine Below.setCell ?_ ?_ _ | refine bdrewN ?_ _ | refine Below.drew ?_ | refine Below.alloc ?_ ?_ _ | refine bbehind ?_ (by assumption) ?_)); all_goals first | (simp; done) | (simp; omega) | omega)
  have hs0 : w.heap.size + 2 ≤ ((w.alloc (.cells #[.int .i64 h.k, .string ⟨h.l.toArray⟩, .slice pa h.ats.length ca, .int .i64 h.n, .int .i64 h.d, .string ⟨h.x.toArray⟩] 27)).alloc (.cells #[.int .i64 i.k, .string ⟨i.l.toArray⟩, .slice pb i.ats.length cb, .int .i64 i.n, .int .i64 i.d, .string ⟨i.x.toArray⟩] 27)).heap.size := by simp
  generalize (w.alloc (.cells #[.int .i64 h.k, .string ⟨h.l.toArray⟩, .slice pa h.ats.length ca, .int .i64 h.n, .int .i64 h.d, .string ⟨h.x.toArray⟩] 27)).alloc (.cells #[.int .i64 i.k, .string ⟨i.l.toArray⟩, .slice pb i.ats.length cb, .int .i64 i.n, .int .i64 i.d, .string ⟨i.x.toArray⟩] 27) = W at *
  have LL := Lib.hid (listsAttr_any h.ats i.ats _ _ W (attrs_below HA.out B0) (attrs_below HB.out B0))
  have d0 : W.cell? ⟨w.heap.size, 0, none⟩ = some (.int .i64 h.k) := cell_of_block k0 rfl
  have d1 : W.cell? ⟨w.heap.size, 1, none⟩ = some (.string ⟨h.l.toArray⟩) := cell_of_block k0 rfl
  have d2 : W.cell? ⟨w.heap.size, 2, none⟩ = some (.slice pa h.ats.length ca) := cell_of_block k0 rfl
  have d3 : W.cell? ⟨w.heap.size, 3, none⟩ = some (.int .i64 h.n) := cell_of_block k0 rfl
  have d4 : W.cell? ⟨w.heap.size, 4, none⟩ = some (.int .i64 h.d) := cell_of_block k0 rfl
  have d5 : W.cell? ⟨w.heap.size, 5, none⟩ = some (.string ⟨h.x.toArray⟩) := cell_of_block k0 rfl
  have e0 : W.cell? ⟨w.heap.size + 1, 0, none⟩ = some (.int .i64 i.k) := cell_of_block k1 rfl
  have e1 : W.cell? ⟨w.heap.size + 1, 1, none⟩ = some (.string ⟨i.l.toArray⟩) := cell_of_block k1 rfl
  have e2 : W.cell? ⟨w.heap.size + 1, 2, none⟩ = some (.slice pb i.ats.length cb) := cell_of_block k1 rfl
  have e3 : W.cell? ⟨w.heap.size + 1, 3, none⟩ = some (.int .i64 i.n) := cell_of_block k1 rfl
  have e4 : W.cell? ⟨w.heap.size + 1, 4, none⟩ = some (.int .i64 i.d) := cell_of_block k1 rfl
  have e5 : W.cell? ⟨w.heap.size + 1, 5, none⟩ = some (.string ⟨i.x.toArray⟩) := cell_of_block k1 rfl
  clear k0 k1
  go_wp2_with fail
  refine LL.out.mono ?_
  rintro e w1 ⟨rfl, hb1⟩
  go_wp2_with fail
  go_ret
  exact ⟨rfl, B0.trans (hb1.mono (by omega))⟩

set_option maxRecDepth 100000 in
set_option maxHeartbeats 2000000 in
theorem aspect4_any (h i : Hd) (pa pb : Option Addr) (ca cb : Nat) (w : World) :
    Calls Tryz.prog 137 #[.agg #[.int .i64 h.k, .string ⟨h.l.toArray⟩, .slice pa h.ats.length ca, .int .i64 h.n, .int .i64 h.d, .string ⟨h.x.toArray⟩], .agg #[.int .i64 i.k, .string ⟨i.l.toArray⟩, .slice pb i.ats.length cb, .int .i64 i.n, .int .i64 i.d, .string ⟨i.x.toArray⟩]] w fun e w' => e = .returned (.int .i64 ((cmpT h.n h.d i.n i.d).1)) ∧ Below w.heap.size w w' := by
  go_enter Tryz.func137, Tryz.ntmps137
  go_upto_region 1 with fail
  have k0 : ((w.alloc (.cells #[.int .i64 h.k, .string ⟨h.l.toArray⟩, .slice pa h.ats.length ca, .int .i64 h.n, .int .i64 h.d, .string ⟨h.x.toArray⟩] 27)).alloc (.cells #[.int .i64 i.k, .string ⟨i.l.toArray⟩, .slice pb i.ats.length cb, .int .i64 i.n, .int .i64 i.d, .string ⟨i.x.toArray⟩] 27)).heap[w.heap.size]? = _ := (Below.heap_alloc _ _ _ (by simp)).trans (World.alloc_heap_new w (.cells #[.int .i64 h.k, .string ⟨h.l.toArray⟩, .slice pa h.ats.length ca, .int .i64 h.n, .int .i64 h.d, .string ⟨h.x.toArray⟩] 27))
  have k1 := World.alloc_heap_new (w.alloc (.cells #[.int .i64 h.k, .string ⟨h.l.toArray⟩, .slice pa h.ats.length ca, .int .i64 h.n, .int .i64 h.d, .string ⟨h.x.toArray⟩] 27)) (.cells #[.int .i64 i.k, .string ⟨i.l.toArray⟩, .slice pb i.ats.length cb, .int .i64 i.n, .int .i64 i.d, .string ⟨i.x.toArray⟩] 27)
  rw [show (w.alloc (.cells #[.int .i64 h.k, .string ⟨h.l.toArray⟩, .slice pa h.ats.length ca, .int .i64 h.n, .int .i64 h.d, .string ⟨h.x.toArray⟩] 27)).heap.size = w.heap.size + 1 by simp] at k1
  have B0 : Below w.heap.size w ((w.alloc (.cells #[.int .i64 h.k, .string ⟨h.l.toArray⟩, .slice pa h.ats.length ca, .int .i64 h.n, .int .i64 h.d, .string ⟨h.x.toArray⟩] 27)).alloc (.cells #[.int .i64 i.k, .string ⟨i.l.toArray⟩, .slice pb i.ats.length cb, .int .i64 i.n, .int .i64 i.d, .string ⟨i.x.toArray⟩] 27)) := by ((repeat' (first | exact Below.refl _ _ | assumption | refine Below.setCell ?_ ?_ _ | refine bdrewN ?_ _ | refine Below.drew ?_ | refine Below.alloc ?_ ?_ _ | refine bbehind ?_ (by assumption) ?_)); all_goals first | (simp; done) | (simp; omega) | omega)
  have hs0 : w.heap.size + 2 ≤ ((w.alloc (.cells #[.int .i64 h.k, .string ⟨h.l.toArray⟩, .slice pa h.ats.length ca, .int .i64 h.n, .int .i64 h.d, .string ⟨h.x.toArray⟩] 27)).alloc (.cells #[.int .i64 i.k, .string ⟨i.l.toArray⟩, .slice pb i.ats.length cb, .int .i64 i.n, .int .i64 i.d, .string ⟨i.x.toArray⟩] 27)).heap.size := by simp
  generalize (w.alloc (.cells #[.int .i64 h.k, .string ⟨h.l.toArray⟩, .slice pa h.ats.length ca, .int .i64 h.n, .int .i64 h.d, .string ⟨h.x.toArray⟩] 27)).alloc (.cells #[.int .i64 i.k, .string ⟨i.l.toArray⟩, .slice pb i.ats.length cb, .int .i64 i.n, .int .i64 i.d, .string ⟨i.x.toArray⟩] 27) = W at *
  have d0 : W.cell? ⟨w.heap.size, 0, none⟩ = some (.int .i64 h.k) := cell_of_block k0 rfl
  have d1 : W.cell? ⟨w.heap.size, 1, none⟩ = some (.string ⟨h.l.toArray⟩) := cell_of_block k0 rfl
  have d2 : W.cell? ⟨w.heap.size, 2, none⟩ = some (.slice pa h.ats.length ca) := cell_of_block k0 rfl
  have d3 : W.cell? ⟨w.heap.size, 3, none⟩ = some (.int .i64 h.n) := cell_of_block k0 rfl
  have d4 : W.cell? ⟨w.heap.size, 4, none⟩ = some (.int .i64 h.d) := cell_of_block k0 rfl
  have d5 : W.cell? ⟨w.heap.size, 5, none⟩ = some (.string ⟨h.x.toArray⟩) := cell_of_block k0 rfl
  have e0 : W.cell? ⟨w.heap.size + 1, 0, none⟩ = some (.int .i64 i.k) := cell_of_block k1 rfl
  have e1 : W.cell? ⟨w.heap.size + 1, 1, none⟩ = some (.string ⟨i.l.toArray⟩) := cell_of_block k1 rfl
  have e2 : W.cell? ⟨w.heap.size + 1, 2, none⟩ = some (.slice pb i.ats.length cb) := cell_of_block k1 rfl
  have e3 : W.cell? ⟨w.heap.size + 1, 3, none⟩ = some (.int .i64 i.n) := cell_of_block k1 rfl
  have e4 : W.cell? ⟨w.heap.size + 1, 4, none⟩ = some (.int .i64 i.d) := cell_of_block k1 rfl
  have e5 : W.cell? ⟨w.heap.size + 1, 5, none⟩ = some (.string ⟨i.x.toArray⟩) := cell_of_block k1 rfl
  clear k0 k1
  go_wp2_with fail
  refine (compareNumbers_any _ _ _ _ _).mono ?_
  rintro e w1 ⟨rfl, hb1⟩
  go_wp2_with fail
  go_ret
  exact ⟨rfl, B0.trans (hb1.mono (by omega))⟩

set_option maxRecDepth 100000 in
set_option maxHeartbeats 2000000 in
theorem aspect5_any (h i : Hd) (pa pb : Option Addr) (ca cb : Nat) (w : World) :
    Calls Tryz.prog 139 #[.agg #[.int .i64 h.k, .string ⟨h.l.toArray⟩, .slice pa h.ats.length ca, .int .i64 h.n, .int .i64 h.d, .string ⟨h.x.toArray⟩], .agg #[.int .i64 i.k, .string ⟨i.l.toArray⟩, .slice pb i.ats.length cb, .int .i64 i.n, .int .i64 i.d, .string ⟨i.x.toArray⟩]] w fun e w' => e = .returned (.int .i64 (strL h.x i.x)) ∧ Below w.heap.size w w' := by
  go_enter Tryz.func139, Tryz.ntmps139
  go_upto_region 1 with fail
  have k0 : ((w.alloc (.cells #[.int .i64 h.k, .string ⟨h.l.toArray⟩, .slice pa h.ats.length ca, .int .i64 h.n, .int .i64 h.d, .string ⟨h.x.toArray⟩] 27)).alloc (.cells #[.int .i64 i.k, .string ⟨i.l.toArray⟩, .slice pb i.ats.length cb, .int .i64 i.n, .int .i64 i.d, .string ⟨i.x.toArray⟩] 27)).heap[w.heap.size]? = _ := (Below.heap_alloc _ _ _ (by simp)).trans (World.alloc_heap_new w (.cells #[.int .i64 h.k, .string ⟨h.l.toArray⟩, .slice pa h.ats.length ca, .int .i64 h.n, .int .i64 h.d, .string ⟨h.x.toArray⟩] 27))
  have k1 := World.alloc_heap_new (w.alloc (.cells #[.int .i64 h.k, .string ⟨h.l.toArray⟩, .slice pa h.ats.length ca, .int .i64 h.n, .int .i64 h.d, .string ⟨h.x.toArray⟩] 27)) (.cells #[.int .i64 i.k, .string ⟨i.l.toArray⟩, .slice pb i.ats.length cb, .int .i64 i.n, .int .i64 i.d, .string ⟨i.x.toArray⟩] 27)
  rw [show (w.alloc (.cells #[.int .i64 h.k, .string ⟨h.l.toArray⟩, .slice pa h.ats.length ca, .int .i64 h.n, .int .i64 h.d, .string ⟨h.x.toArray⟩] 27)).heap.size = w.heap.size + 1 by simp] at k1
  have B0 : Below w.heap.size w ((w.alloc (.cells #[.int .i64 h.k, .string ⟨h.l.toArray⟩, .slice pa h.ats.length ca, .int .i64 h.n, .int .i64 h.d, .string ⟨h.x.toArray⟩] 27)).alloc (.cells #[.int .i64 i.k, .string ⟨i.l.toArray⟩, .slice pb i.ats.length cb, .int .i64 i.n, .int .i64 i.d, .string ⟨i.x.toArray⟩] 27)) := by ((repeat' (first | exact Below.refl _ _ | assumption | refine Below.setCell ?_ ?_ _ | refine bdrewN ?_ _ | refine Below.drew ?_ | refine Below.alloc ?_ ?_ _ | refine bbehind ?_ (by assumption) ?_)); all_goals first | (simp; done) | (simp; omega) | omega)
  have hs0 : w.heap.size + 2 ≤ ((w.alloc (.cells #[.int .i64 h.k, .string ⟨h.l.toArray⟩, .slice pa h.ats.length ca, .int .i64 h.n, .int .i64 h.d, .string ⟨h.x.toArray⟩] 27)).alloc (.cells #[.int .i64 i.k, .string ⟨i.l.toArray⟩, .slice pb i.ats.length cb, .int .i64 i.n, .int .i64 i.d, .string ⟨i.x.toArray⟩] 27)).heap.size := by simp
  generalize (w.alloc (.cells #[.int .i64 h.k, .string ⟨h.l.toArray⟩, .slice pa h.ats.length ca, .int .i64 h.n, .int .i64 h.d, .string ⟨h.x.toArray⟩] 27)).alloc (.cells #[.int .i64 i.k, .string ⟨i.l.toArray⟩, .slice pb i.ats.length cb, .int .i64 i.n, .int .i64 i.d, .string ⟨i.x.toArray⟩] 27) = W at *
  have d0 : W.cell? ⟨w.heap.size, 0, none⟩ = some (.int .i64 h.k) := cell_of_block k0 rfl
  have d1 : W.cell? ⟨w.heap.size, 1, none⟩ = some (.string ⟨h.l.toArray⟩) := cell_of_block k0 rfl
  have d2 : W.cell? ⟨w.heap.size, 2, none⟩ = some (.slice pa h.ats.length ca) := cell_of_block k0 rfl
  have d3 : W.cell? ⟨w.heap.size, 3, none⟩ = some (.int .i64 h.n) := cell_of_block k0 rfl
  have d4 : W.cell? ⟨w.heap.size, 4, none⟩ = some (.int .i64 h.d) := cell_of_block k0 rfl
  have d5 : W.cell? ⟨w.heap.size, 5, none⟩ = some (.string ⟨h.x.toArray⟩) := cell_of_block k0 rfl
  have e0 : W.cell? ⟨w.heap.size + 1, 0, none⟩ = some (.int .i64 i.k) := cell_of_block k1 rfl
  have e1 : W.cell? ⟨w.heap.size + 1, 1, none⟩ = some (.string ⟨i.l.toArray⟩) := cell_of_block k1 rfl
  have e2 : W.cell? ⟨w.heap.size + 1, 2, none⟩ = some (.slice pb i.ats.length cb) := cell_of_block k1 rfl
  have e3 : W.cell? ⟨w.heap.size + 1, 3, none⟩ = some (.int .i64 i.n) := cell_of_block k1 rfl
  have e4 : W.cell? ⟨w.heap.size + 1, 4, none⟩ = some (.int .i64 i.d) := cell_of_block k1 rfl
  have e5 : W.cell? ⟨w.heap.size + 1, 5, none⟩ = some (.string ⟨i.x.toArray⟩) := cell_of_block k1 rfl
  clear k0 k1
  go_wp2_with fail
  refine (strCompare_any _ _ _).mono ?_
  rintro e w1 ⟨rfl, hw⟩
  obtain rfl := hw
  go_wp2_with fail
  go_ret
  exact ⟨rfl, B0⟩

/-- the five aspects, in a block. -/
def AspAt (W : World) (b : Nat) : Prop :=
  W.heap[b]? = some (.cells #[.func (.func 130) #[] #[], .func (.func 132) #[] #[], .func (.func 134) #[] #[], .func (.func 137) #[] #[], .func (.func 139) #[] #[]] 141)
set_option maxRecDepth 100000 in
set_option maxHeartbeats 1000000 in
theorem aspects_any (w : World) : Calls Tryz.prog 87 #[] w fun e w' => ∃ b, e = .returned (.slice (some ⟨b, 0, none⟩) 5 5) ∧ w.heap.size ≤ b ∧ AspAt w' b ∧ Below w.heap.size w w' := by
  go_enter Tryz.func87, Tryz.ntmps87
  go_wp2_with fail
  go_ret
  exact ⟨_, rfl, Nat.le_refl _, World.alloc_heap_new _ _, by ((repeat' (first | exact Below.refl _ _ | assumption | refine Below.setCell ?_ ?_ _ | refine bdrewN ?_ _ | refine Below.drew ?_ | refine Below.alloc ?_ ?_ _ | refine bbehind ?_ (by assumption) ?_)); all_goals first | (simp; done) | (simp; omega) | omega)⟩

theorem headP_drop (h i : Hd) {k : Nat} (hk : k < 5) : firstNZ ((headP5 h i).drop k) = if (headP5 h i).getD k 0 ≠ 0 then (headP5 h i).getD k 0 else firstNZ ((headP5 h i).drop (k + 1)) := firstNZ_drop (by simpa [headP5] using hk)

set_option maxRecDepth 100000 in
set_option maxHeartbeats 8000000 in
theorem compareBy_any (h i : Hd) (pa pb : Option Addr) (ca cb b : Nat) (w : World) (ha : AttrsLie w (.slice pa h.ats.length ca) h.ats) (hb : AttrsLie w (.slice pb i.ats.length cb) i.ats) (hA : AspAt w b) :
    Calls Tryz.prog 86 #[.agg #[.int .i64 h.k, .string ⟨h.l.toArray⟩, .slice pa h.ats.length ca, .int .i64 h.n, .int .i64 h.d, .string ⟨h.x.toArray⟩], .agg #[.int .i64 i.k, .string ⟨i.l.toArray⟩, .slice pb i.ats.length cb, .int .i64 i.n, .int .i64 i.d, .string ⟨i.x.toArray⟩], .slice (some ⟨b, 0, none⟩) 5 5] w fun e w' => e = .returned (.int .i64 (headL h i)) ∧ Below w.heap.size w w' := by
  have HA := Lib.hid ha
  have HB := Lib.hid hb
  have HAS := Lib.hid hA
  have hbl : b < w.heap.size := (Array.getElem?_eq_some_iff.1 hA).1
  clear ha hb hA
  go_enter Tryz.func86, Tryz.ntmps86
  go_upto_region 1 with fail
  have k0 : ((w.alloc (.cells #[.int .i64 h.k, .string ⟨h.l.toArray⟩, .slice pa h.ats.length ca, .int .i64 h.n, .int .i64 h.d, .string ⟨h.x.toArray⟩] 27)).alloc (.cells #[.int .i64 i.k, .string ⟨i.l.toArray⟩, .slice pb i.ats.length cb, .int .i64 i.n, .int .i64 i.d, .string ⟨i.x.toArray⟩] 27)).heap[w.heap.size]? = _ := (Below.heap_alloc _ _ _ (by simp)).trans (World.alloc_heap_new w (.cells #[.int .i64 h.k, .string ⟨h.l.toArray⟩, .slice pa h.ats.length ca, .int .i64 h.n, .int .i64 h.d, .string ⟨h.x.toArray⟩] 27))
  have k1 := World.alloc_heap_new (w.alloc (.cells #[.int .i64 h.k, .string ⟨h.l.toArray⟩, .slice pa h.ats.length ca, .int .i64 h.n, .int .i64 h.d, .string ⟨h.x.toArray⟩] 27)) (.cells #[.int .i64 i.k, .string ⟨i.l.toArray⟩, .slice pb i.ats.length cb, .int .i64 i.n, .int .i64 i.d, .string ⟨i.x.toArray⟩] 27)
  rw [show (w.alloc (.cells #[.int .i64 h.k, .string ⟨h.l.toArray⟩, .slice pa h.ats.length ca, .int .i64 h.n, .int .i64 h.d, .string ⟨h.x.toArray⟩] 27)).heap.size = w.heap.size + 1 by simp] at k1
  have B0 : Below w.heap.size w ((w.alloc (.cells #[.int .i64 h.k, .string ⟨h.l.toArray⟩, .slice pa h.ats.length ca, .int .i64 h.n, .int .i64 h.d, .string ⟨h.x.toArray⟩] 27)).alloc (.cells #[.int .i64 i.k, .string ⟨i.l.toArray⟩, .slice pb i.ats.length cb, .int .i64 i.n, .int .i64 i.d, .string ⟨i.x.toArray⟩] 27)) := by ((repeat' (first | exact Below.refl _ _ | assumption | refine Below.setCell ?_ ?_ _ | refine bdrewN ?_ _ | refine Below.drew ?_ | refine Below.alloc ?_ ?_ _ | refine bbehind ?_ (by assumption) ?_)); all_goals first | (simp; done) | (simp; omega) | omega)
  have hs0 : w.heap.size + 2 ≤ ((w.alloc (.cells #[.int .i64 h.k, .string ⟨h.l.toArray⟩, .slice pa h.ats.length ca, .int .i64 h.n, .int .i64 h.d, .string ⟨h.x.toArray⟩] 27)).alloc (.cells #[.int .i64 i.k, .string ⟨i.l.toArray⟩, .slice pb i.ats.length cb, .int .i64 i.n, .int .i64 i.d, .string ⟨i.x.toArray⟩] 27)).heap.size := by simp
  generalize (w.alloc (.cells #[.int .i64 h.k, .string ⟨h.l.toArray⟩, .slice pa h.ats.length ca, .int .i64 h.n, .int .i64 h.d, .string ⟨h.x.toArray⟩] 27)).alloc (.cells #[.int .i64 i.k, .string ⟨i.l.toArray⟩, .slice pb i.ats.length cb, .int .i64 i.n, .int .i64 i.d, .string ⟨i.x.toArray⟩] 27) = W at *
  go_wp2_with fail
  go_loopw [12] (fun j wr => ∃ k : Nat, j = .int .i64 k ∧ k ≤ 5 ∧ headL h i = firstNZ ((headP5 h i).drop k) ∧ wr.heap[w.heap.size]? = some (.cells #[.int .i64 h.k, .string ⟨h.l.toArray⟩, .slice pa h.ats.length ca, .int .i64 h.n, .int .i64 h.d, .string ⟨h.x.toArray⟩] 27) ∧ wr.heap[w.heap.size + 1]? = some (.cells #[.int .i64 i.k, .string ⟨i.l.toArray⟩, .slice pb i.ats.length cb, .int .i64 i.n, .int .i64 i.d, .string ⟨i.x.toArray⟩] 27) ∧ Below w.heap.size w wr) (fun j _ => 5 - (intOf j).toNat)
  case atStart => exact ⟨0, rfl, Nat.zero_le _, rfl, k0, k1, B0⟩
  case round =>
    obtain ⟨k, rfl, hk, he, hk0, hk1, hbw⟩ := hrel
    have HE := Lib.hid he
    have BW := Lib.hid hbw
    have K0 := Lib.hid hk0
    have K1 := Lib.hid hk1
    have hsr : w.heap.size + 1 < wr.heap.size := (Array.getElem?_eq_some_iff.1 hk1).1
    have ka := (hbw.block b hbl).trans HAS.out
    have q0 : wr.cell? ⟨b, 0, none⟩ = some (.func (.func 130) #[] #[]) := cell_of_block ka rfl
    have q1 : wr.cell? ⟨b, 1, none⟩ = some (.func (.func 132) #[] #[]) := cell_of_block ka rfl
    have q2 : wr.cell? ⟨b, 2, none⟩ = some (.func (.func 134) #[] #[]) := cell_of_block ka rfl
    have q3 : wr.cell? ⟨b, 3, none⟩ = some (.func (.func 137) #[] #[]) := cell_of_block ka rfl
    have q4 : wr.cell? ⟨b, 4, none⟩ = some (.func (.func 139) #[] #[]) := cell_of_block ka rfl
    have nb : b < wr.heap.size := by omega
    clear he hbw hk0 hk1 ka
    by_cases hlt : k < 5
    rotate_left
    · have HX := Lib.hid (HE.out.trans (show firstNZ ((headP5 h i).drop k) = 0 by rw [List.drop_of_length_le (by simp [headP5]; omega)]; rfl))
      go_wp2_with fail
      go_ret
      exact ⟨ret_int' HX.out.symm, BW.out⟩
    have HS := Lib.hid (HE.out.trans (headP_drop h i hlt))
    rcases (show k = 0 ∨ k = 1 ∨ k = 2 ∨ k = 3 ∨ k = 4 by omega) with rfl | rfl | rfl | rfl | rfl
    · clear hk hlt
      go_upto_region 4 with fail
      have k0 : (wr.alloc (.cells #[.func (.func 130) #[] #[]] 141)).heap[w.heap.size]? = _ := (Below.heap_alloc _ _ _ (by omega)).trans K0.out
      have k1 : (wr.alloc (.cells #[.func (.func 130) #[] #[]] 141)).heap[w.heap.size + 1]? = _ := (Below.heap_alloc _ _ _ (by omega)).trans K1.out
      have kk := World.alloc_heap_new wr (.cells #[.func (.func 130) #[] #[]] 141)
      have B2 := Lib.hid (BW.out.alloc (by omega) (.cells #[.func (.func 130) #[] #[]] 141))
      have hs2 : (wr.alloc (.cells #[.func (.func 130) #[] #[]] 141)).heap.size = wr.heap.size + 1 := by simp
      generalize wr.alloc (.cells #[.func (.func 130) #[] #[]] 141) = W2 at *
      have g0 : W2.cell? ⟨wr.heap.size, 0, none⟩ = some (.func (.func 130) #[] #[]) := cell_of_block kk rfl
      have d0 : W2.cell? ⟨w.heap.size, 0, none⟩ = some (.int .i64 h.k) := cell_of_block k0 rfl
      have d1 : W2.cell? ⟨w.heap.size, 1, none⟩ = some (.string ⟨h.l.toArray⟩) := cell_of_block k0 rfl
      have d2 : W2.cell? ⟨w.heap.size, 2, none⟩ = some (.slice pa h.ats.length ca) := cell_of_block k0 rfl
      have d3 : W2.cell? ⟨w.heap.size, 3, none⟩ = some (.int .i64 h.n) := cell_of_block k0 rfl
      have d4 : W2.cell? ⟨w.heap.size, 4, none⟩ = some (.int .i64 h.d) := cell_of_block k0 rfl
      have d5 : W2.cell? ⟨w.heap.size, 5, none⟩ = some (.string ⟨h.x.toArray⟩) := cell_of_block k0 rfl
      have e0 : W2.cell? ⟨w.heap.size + 1, 0, none⟩ = some (.int .i64 i.k) := cell_of_block k1 rfl
      have e1 : W2.cell? ⟨w.heap.size + 1, 1, none⟩ = some (.string ⟨i.l.toArray⟩) := cell_of_block k1 rfl
      have e2 : W2.cell? ⟨w.heap.size + 1, 2, none⟩ = some (.slice pb i.ats.length cb) := cell_of_block k1 rfl
      have e3 : W2.cell? ⟨w.heap.size + 1, 3, none⟩ = some (.int .i64 i.n) := cell_of_block k1 rfl
      have e4 : W2.cell? ⟨w.heap.size + 1, 4, none⟩ = some (.int .i64 i.d) := cell_of_block k1 rfl
      have e5 : W2.cell? ⟨w.heap.size + 1, 5, none⟩ = some (.string ⟨i.x.toArray⟩) := cell_of_block k1 rfl
      have K0' := Lib.hid k0
      have K1' := Lib.hid k1
      clear k0 k1 kk q0 q1 q2 q3 q4
      go_wp2_with fail
      refine (aspect1_any h i pa pb ca cb W2).mono ?_
      rintro e w3 ⟨rfl, hb3⟩
      have B3 := Lib.hid (B2.out.trans (hb3.mono B2.out.size))
      have K03 := Lib.hid ((hb3.block _ (by omega)).trans K0'.out)
      have K13 := Lib.hid ((hb3.block _ (by omega)).trans K1'.out)
      clear hb3
      by_cases hx : cmpM h.k i.k = 0
      · have HX := Lib.hid (HS.out.trans (if_neg (show ¬ (cmpM h.k i.k ≠ 0) by simpa using hx)))
        have b0 : (cmpM h.k i.k != 0) = false := by simpa using hx
        clear hx
        go_wp2_with fail
        go_roundw
        case rel => exact ⟨1, by go_num, by omega, HX.out, K03.out, K13.out, B3.out⟩
        case measure => simp [intOf]
      · have HX := Lib.hid (HS.out.trans (if_pos (show cmpM h.k i.k ≠ 0 from hx)))
        have b0 : (cmpM h.k i.k != 0) = true := by simpa using hx
        clear hx
        go_wp2_with fail
        go_ret
        exact ⟨ret_int' HX.out.symm, B3.out⟩
    · clear hk hlt
      go_upto_region 4 with fail
      have k0 : (wr.alloc (.cells #[.func (.func 132) #[] #[]] 141)).heap[w.heap.size]? = _ := (Below.heap_alloc _ _ _ (by omega)).trans K0.out
      have k1 : (wr.alloc (.cells #[.func (.func 132) #[] #[]] 141)).heap[w.heap.size + 1]? = _ := (Below.heap_alloc _ _ _ (by omega)).trans K1.out
      have kk := World.alloc_heap_new wr (.cells #[.func (.func 132) #[] #[]] 141)
      have B2 := Lib.hid (BW.out.alloc (by omega) (.cells #[.func (.func 132) #[] #[]] 141))
      have hs2 : (wr.alloc (.cells #[.func (.func 132) #[] #[]] 141)).heap.size = wr.heap.size + 1 := by simp
      generalize wr.alloc (.cells #[.func (.func 132) #[] #[]] 141) = W2 at *
      have g0 : W2.cell? ⟨wr.heap.size, 0, none⟩ = some (.func (.func 132) #[] #[]) := cell_of_block kk rfl
      have d0 : W2.cell? ⟨w.heap.size, 0, none⟩ = some (.int .i64 h.k) := cell_of_block k0 rfl
      have d1 : W2.cell? ⟨w.heap.size, 1, none⟩ = some (.string ⟨h.l.toArray⟩) := cell_of_block k0 rfl
      have d2 : W2.cell? ⟨w.heap.size, 2, none⟩ = some (.slice pa h.ats.length ca) := cell_of_block k0 rfl
      have d3 : W2.cell? ⟨w.heap.size, 3, none⟩ = some (.int .i64 h.n) := cell_of_block k0 rfl
      have d4 : W2.cell? ⟨w.heap.size, 4, none⟩ = some (.int .i64 h.d) := cell_of_block k0 rfl
      have d5 : W2.cell? ⟨w.heap.size, 5, none⟩ = some (.string ⟨h.x.toArray⟩) := cell_of_block k0 rfl
      have e0 : W2.cell? ⟨w.heap.size + 1, 0, none⟩ = some (.int .i64 i.k) := cell_of_block k1 rfl
      have e1 : W2.cell? ⟨w.heap.size + 1, 1, none⟩ = some (.string ⟨i.l.toArray⟩) := cell_of_block k1 rfl
      have e2 : W2.cell? ⟨w.heap.size + 1, 2, none⟩ = some (.slice pb i.ats.length cb) := cell_of_block k1 rfl
      have e3 : W2.cell? ⟨w.heap.size + 1, 3, none⟩ = some (.int .i64 i.n) := cell_of_block k1 rfl
      have e4 : W2.cell? ⟨w.heap.size + 1, 4, none⟩ = some (.int .i64 i.d) := cell_of_block k1 rfl
      have e5 : W2.cell? ⟨w.heap.size + 1, 5, none⟩ = some (.string ⟨i.x.toArray⟩) := cell_of_block k1 rfl
      have K0' := Lib.hid k0
      have K1' := Lib.hid k1
      clear k0 k1 kk q0 q1 q2 q3 q4
      go_wp2_with fail
      refine (aspect2_any h i pa pb ca cb W2).mono ?_
      rintro e w3 ⟨rfl, hb3⟩
      have B3 := Lib.hid (B2.out.trans (hb3.mono B2.out.size))
      have K03 := Lib.hid ((hb3.block _ (by omega)).trans K0'.out)
      have K13 := Lib.hid ((hb3.block _ (by omega)).trans K1'.out)
      clear hb3
      by_cases hx : strL h.l i.l = 0
      · have HX := Lib.hid (HS.out.trans (if_neg (show ¬ (strL h.l i.l ≠ 0) by simpa using hx)))
        have b0 : (strL h.l i.l != 0) = false := by simpa using hx
        clear hx
        go_wp2_with fail
        go_roundw
        case rel => exact ⟨2, by go_num, by omega, HX.out, K03.out, K13.out, B3.out⟩
        case measure => simp [intOf]
      · have HX := Lib.hid (HS.out.trans (if_pos (show strL h.l i.l ≠ 0 from hx)))
        have b0 : (strL h.l i.l != 0) = true := by simpa using hx
        clear hx
        go_wp2_with fail
        go_ret
        exact ⟨ret_int' HX.out.symm, B3.out⟩
    · clear hk hlt
      go_upto_region 4 with fail
      have k0 : (wr.alloc (.cells #[.func (.func 134) #[] #[]] 141)).heap[w.heap.size]? = _ := (Below.heap_alloc _ _ _ (by omega)).trans K0.out
      have k1 : (wr.alloc (.cells #[.func (.func 134) #[] #[]] 141)).heap[w.heap.size + 1]? = _ := (Below.heap_alloc _ _ _ (by omega)).trans K1.out
      have kk := World.alloc_heap_new wr (.cells #[.func (.func 134) #[] #[]] 141)
      have B2 := Lib.hid (BW.out.alloc (by omega) (.cells #[.func (.func 134) #[] #[]] 141))
      have hs2 : (wr.alloc (.cells #[.func (.func 134) #[] #[]] 141)).heap.size = wr.heap.size + 1 := by simp
      generalize wr.alloc (.cells #[.func (.func 134) #[] #[]] 141) = W2 at *
      have g0 : W2.cell? ⟨wr.heap.size, 0, none⟩ = some (.func (.func 134) #[] #[]) := cell_of_block kk rfl
      have d0 : W2.cell? ⟨w.heap.size, 0, none⟩ = some (.int .i64 h.k) := cell_of_block k0 rfl
      have d1 : W2.cell? ⟨w.heap.size, 1, none⟩ = some (.string ⟨h.l.toArray⟩) := cell_of_block k0 rfl
      have d2 : W2.cell? ⟨w.heap.size, 2, none⟩ = some (.slice pa h.ats.length ca) := cell_of_block k0 rfl
      have d3 : W2.cell? ⟨w.heap.size, 3, none⟩ = some (.int .i64 h.n) := cell_of_block k0 rfl
      have d4 : W2.cell? ⟨w.heap.size, 4, none⟩ = some (.int .i64 h.d) := cell_of_block k0 rfl
      have d5 : W2.cell? ⟨w.heap.size, 5, none⟩ = some (.string ⟨h.x.toArray⟩) := cell_of_block k0 rfl
      have e0 : W2.cell? ⟨w.heap.size + 1, 0, none⟩ = some (.int .i64 i.k) := cell_of_block k1 rfl
      have e1 : W2.cell? ⟨w.heap.size + 1, 1, none⟩ = some (.string ⟨i.l.toArray⟩) := cell_of_block k1 rfl
      have e2 : W2.cell? ⟨w.heap.size + 1, 2, none⟩ = some (.slice pb i.ats.length cb) := cell_of_block k1 rfl
      have e3 : W2.cell? ⟨w.heap.size + 1, 3, none⟩ = some (.int .i64 i.n) := cell_of_block k1 rfl
      have e4 : W2.cell? ⟨w.heap.size + 1, 4, none⟩ = some (.int .i64 i.d) := cell_of_block k1 rfl
      have e5 : W2.cell? ⟨w.heap.size + 1, 5, none⟩ = some (.string ⟨i.x.toArray⟩) := cell_of_block k1 rfl
      have K0' := Lib.hid k0
      have K1' := Lib.hid k1
      clear k0 k1 kk q0 q1 q2 q3 q4
      go_wp2_with fail
      refine (aspect3_any h i pa pb ca cb W2 (attrs_below HA.out B2.out) (attrs_below HB.out B2.out)).mono ?_
      rintro e w3 ⟨rfl, hb3⟩
      have B3 := Lib.hid (B2.out.trans (hb3.mono B2.out.size))
      have K03 := Lib.hid ((hb3.block _ (by omega)).trans K0'.out)
      have K13 := Lib.hid ((hb3.block _ (by omega)).trans K1'.out)
      clear hb3
      by_cases hx : atsL h.ats i.ats = 0
      · have HX := Lib.hid (HS.out.trans (if_neg (show ¬ (atsL h.ats i.ats ≠ 0) by simpa using hx)))
        have b0 : (atsL h.ats i.ats != 0) = false := by simpa using hx
        clear hx
        go_wp2_with fail
        go_roundw
        case rel => exact ⟨3, by go_num, by omega, HX.out, K03.out, K13.out, B3.out⟩
        case measure => simp [intOf]
      · have HX := Lib.hid (HS.out.trans (if_pos (show atsL h.ats i.ats ≠ 0 from hx)))
        have b0 : (atsL h.ats i.ats != 0) = true := by simpa using hx
        clear hx
        go_wp2_with fail
        go_ret
        exact ⟨ret_int' HX.out.symm, B3.out⟩
    · clear hk hlt
      go_upto_region 4 with fail
      have k0 : (wr.alloc (.cells #[.func (.func 137) #[] #[]] 141)).heap[w.heap.size]? = _ := (Below.heap_alloc _ _ _ (by omega)).trans K0.out
      have k1 : (wr.alloc (.cells #[.func (.func 137) #[] #[]] 141)).heap[w.heap.size + 1]? = _ := (Below.heap_alloc _ _ _ (by omega)).trans K1.out
      have kk := World.alloc_heap_new wr (.cells #[.func (.func 137) #[] #[]] 141)
      have B2 := Lib.hid (BW.out.alloc (by omega) (.cells #[.func (.func 137) #[] #[]] 141))
      have hs2 : (wr.alloc (.cells #[.func (.func 137) #[] #[]] 141)).heap.size = wr.heap.size + 1 := by simp
      generalize wr.alloc (.cells #[.func (.func 137) #[] #[]] 141) = W2 at *
      have g0 : W2.cell? ⟨wr.heap.size, 0, none⟩ = some (.func (.func 137) #[] #[]) := cell_of_block kk rfl
      have d0 : W2.cell? ⟨w.heap.size, 0, none⟩ = some (.int .i64 h.k) := cell_of_block k0 rfl
      have d1 : W2.cell? ⟨w.heap.size, 1, none⟩ = some (.string ⟨h.l.toArray⟩) := cell_of_block k0 rfl
      have d2 : W2.cell? ⟨w.heap.size, 2, none⟩ = some (.slice pa h.ats.length ca) := cell_of_block k0 rfl
      have d3 : W2.cell? ⟨w.heap.size, 3, none⟩ = some (.int .i64 h.n) := cell_of_block k0 rfl
      have d4 : W2.cell? ⟨w.heap.size, 4, none⟩ = some (.int .i64 h.d) := cell_of_block k0 rfl
      have d5 : W2.cell? ⟨w.heap.size, 5, none⟩ = some (.string ⟨h.x.toArray⟩) := cell_of_block k0 rfl
      have e0 : W2.cell? ⟨w.heap.size + 1, 0, none⟩ = some (.int .i64 i.k) := cell_of_block k1 rfl
      have e1 : W2.cell? ⟨w.heap.size + 1, 1, none⟩ = some (.string ⟨i.l.toArray⟩) := cell_of_block k1 rfl
      have e2 : W2.cell? ⟨w.heap.size + 1, 2, none⟩ = some (.slice pb i.ats.length cb) := cell_of_block k1 rfl
      have e3 : W2.cell? ⟨w.heap.size + 1, 3, none⟩ = some (.int .i64 i.n) := cell_of_block k1 rfl
      have e4 : W2.cell? ⟨w.heap.size + 1, 4, none⟩ = some (.int .i64 i.d) := cell_of_block k1 rfl
      have e5 : W2.cell? ⟨w.heap.size + 1, 5, none⟩ = some (.string ⟨i.x.toArray⟩) := cell_of_block k1 rfl
      have K0' := Lib.hid k0
      have K1' := Lib.hid k1
      clear k0 k1 kk q0 q1 q2 q3 q4
      go_wp2_with fail
      refine (aspect4_any h i pa pb ca cb W2).mono ?_
      rintro e w3 ⟨rfl, hb3⟩
      have B3 := Lib.hid (B2.out.trans (hb3.mono B2.out.size))
      have K03 := Lib.hid ((hb3.block _ (by omega)).trans K0'.out)
      have K13 := Lib.hid ((hb3.block _ (by omega)).trans K1'.out)
      clear hb3
      by_cases hx : (cmpT h.n h.d i.n i.d).1 = 0
      · have HX := Lib.hid (HS.out.trans (if_neg (show ¬ ((cmpT h.n h.d i.n i.d).1 ≠ 0) by simpa using hx)))
        have b0 : ((cmpT h.n h.d i.n i.d).1 != 0) = false := by simpa using hx
        clear hx
        go_wp2_with fail
        go_roundw
        case rel => exact ⟨4, by go_num, by omega, HX.out, K03.out, K13.out, B3.out⟩
        case measure => simp [intOf]
      · have HX := Lib.hid (HS.out.trans (if_pos (show (cmpT h.n h.d i.n i.d).1 ≠ 0 from hx)))
        have b0 : ((cmpT h.n h.d i.n i.d).1 != 0) = true := by simpa using hx
        clear hx
        go_wp2_with fail
        go_ret
        exact ⟨ret_int' HX.out.symm, B3.out⟩
    · clear hk hlt
      go_upto_region 4 with fail
      have k0 : (wr.alloc (.cells #[.func (.func 139) #[] #[]] 141)).heap[w.heap.size]? = _ := (Below.heap_alloc _ _ _ (by omega)).trans K0.out
      have k1 : (wr.alloc (.cells #[.func (.func 139) #[] #[]] 141)).heap[w.heap.size + 1]? = _ := (Below.heap_alloc _ _ _ (by omega)).trans K1.out
      have kk := World.alloc_heap_new wr (.cells #[.func (.func 139) #[] #[]] 141)
      have B2 := Lib.hid (BW.out.alloc (by omega) (.cells #[.func (.func 139) #[] #[]] 141))
      have hs2 : (wr.alloc (.cells #[.func (.func 139) #[] #[]] 141)).heap.size = wr.heap.size + 1 := by simp
      generalize wr.alloc (.cells #[.func (.func 139) #[] #[]] 141) = W2 at *
      have g0 : W2.cell? ⟨wr.heap.size, 0, none⟩ = some (.func (.func 139) #[] #[]) := cell_of_block kk rfl
      have d0 : W2.cell? ⟨w.heap.size, 0, none⟩ = some (.int .i64 h.k) := cell_of_block k0 rfl
      have d1 : W2.cell? ⟨w.heap.size, 1, none⟩ = some (.string ⟨h.l.toArray⟩) := cell_of_block k0 rfl
      have d2 : W2.cell? ⟨w.heap.size, 2, none⟩ = some (.slice pa h.ats.length ca) := cell_of_block k0 rfl
      have d3 : W2.cell? ⟨w.heap.size, 3, none⟩ = some (.int .i64 h.n) := cell_of_block k0 rfl
      have d4 : W2.cell? ⟨w.heap.size, 4, none⟩ = some (.int .i64 h.d) := cell_of_block k0 rfl
      have d5 : W2.cell? ⟨w.heap.size, 5, none⟩ = some (.string ⟨h.x.toArray⟩) := cell_of_block k0 rfl
      have e0 : W2.cell? ⟨w.heap.size + 1, 0, none⟩ = some (.int .i64 i.k) := cell_of_block k1 rfl
      have e1 : W2.cell? ⟨w.heap.size + 1, 1, none⟩ = some (.string ⟨i.l.toArray⟩) := cell_of_block k1 rfl
      have e2 : W2.cell? ⟨w.heap.size + 1, 2, none⟩ = some (.slice pb i.ats.length cb) := cell_of_block k1 rfl
      have e3 : W2.cell? ⟨w.heap.size + 1, 3, none⟩ = some (.int .i64 i.n) := cell_of_block k1 rfl
      have e4 : W2.cell? ⟨w.heap.size + 1, 4, none⟩ = some (.int .i64 i.d) := cell_of_block k1 rfl
      have e5 : W2.cell? ⟨w.heap.size + 1, 5, none⟩ = some (.string ⟨i.x.toArray⟩) := cell_of_block k1 rfl
      have K0' := Lib.hid k0
      have K1' := Lib.hid k1
      clear k0 k1 kk q0 q1 q2 q3 q4
      go_wp2_with fail
      refine (aspect5_any h i pa pb ca cb W2).mono ?_
      rintro e w3 ⟨rfl, hb3⟩
      have B3 := Lib.hid (B2.out.trans (hb3.mono B2.out.size))
      have K03 := Lib.hid ((hb3.block _ (by omega)).trans K0'.out)
      have K13 := Lib.hid ((hb3.block _ (by omega)).trans K1'.out)
      clear hb3
      by_cases hx : strL h.x i.x = 0
      · have HX := Lib.hid (HS.out.trans (if_neg (show ¬ (strL h.x i.x ≠ 0) by simpa using hx)))
        have b0 : (strL h.x i.x != 0) = false := by simpa using hx
        clear hx
        go_wp2_with fail
        go_roundw
        case rel => exact ⟨5, by go_num, by omega, HX.out, K03.out, K13.out, B3.out⟩
        case measure => simp [intOf]
      · have HX := Lib.hid (HS.out.trans (if_pos (show strL h.x i.x ≠ 0 from hx)))
        have b0 : (strL h.x i.x != 0) = true := by simpa using hx
        clear hx
        go_wp2_with fail
        go_ret
        exact ⟨ret_int' HX.out.symm, B3.out⟩
end Go.Proofs.YtcgedpfolloinaaGreat

namespace Go.Proofs.YtcgedpfolloinaaGreat
open Go.RowKit

/-- how two forests compare. -/
def foL : Fo → Fo → Int
  | .nil, .nil => 0
  | .nil, .cons _ _ _ => -1
  | .cons _ _ _, .nil => 1
  | .cons h ks r, .cons i js s => if headL h i ≠ 0 then headL h i else if foL ks js ≠ 0 then foL ks js else foL r s
def treeL (h : Hd) (ks : Fo) (i : Hd) (js : Fo) : Int := if headL h i ≠ 0 then headL h i else foL ks js
theorem foL_drop {f g : Fo} {k : Nat} {h i : Hd} {ks js : Fo} (e : f.drop k = .cons h ks (f.drop (k + 1))) (e' : g.drop k = .cons i js (g.drop (k + 1))) :
    foL (f.drop k) (g.drop k) = if treeL h ks i js ≠ 0 then treeL h ks i js else foL (f.drop (k + 1)) (g.drop (k + 1)) := by
  rw [e, e', foL]
  unfold treeL
  by_cases h1 : headL h i = 0
  · simp [h1]
  · simp [h1]
theorem foL_end {f g : Fo} {k : Nat} (hk : k = min f.len g.len) : foL (f.drop k) (g.drop k) = cmpM f.len g.len := by
  unfold cmpM
  rcases Nat.lt_trichotomy f.len g.len with h | h | h
  · rw [if_pos (by omega), Fo.drop_ge _ _ (by omega : f.len ≤ k)]
    obtain ⟨hd, ks, e⟩ := Fo.drop_lt k g (by omega)
    rw [e]; rfl
  · rw [if_neg (by omega), if_neg (by omega), Fo.drop_ge _ _ (by omega : f.len ≤ k), Fo.drop_ge _ _ (by omega : g.len ≤ k)]
    rfl
  · rw [if_neg (by omega), if_pos (by omega), Fo.drop_ge _ _ (by omega : g.len ≤ k)]
    obtain ⟨hd, ks, e⟩ := Fo.drop_lt k f (by omega)
    rw [e]; rfl
theorem AspAt.below {w w' : World} {b : Nat} (h : AspAt w b) (k : Below w.heap.size w w') : AspAt w' b :=
  (k.block b (Array.getElem?_eq_some_iff.1 h).1).trans h

set_option maxRecDepth 100000 in
set_option maxHeartbeats 4000000 in
theorem otrees_step (h i : Hd) (ks js : Fo) (aa ab ak al : Option Addr) (ca cb ck cl b : Nat) (w : World) (ha : AttrsLie w (.slice aa h.ats.length ca) h.ats) (hb : AttrsLie w (.slice ab i.ats.length cb) i.ats) (hA : AspAt w b)
    (HF : ∀ w1, Below w.heap.size w w1 → Calls Tryz.prog 89 #[.agg #[.slice (some ⟨b, 0, none⟩) 5 5], .slice ak ks.len ck, .slice al js.len cl] w1 fun e w' => e = .returned (.int .i64 (foL ks js)) ∧ Below w1.heap.size w1 w') :
    Calls Tryz.prog 144 #[.agg #[.slice (some ⟨b, 0, none⟩) 5 5], .agg #[.int .i64 h.k, .string ⟨h.l.toArray⟩, .slice aa h.ats.length ca, .int .i64 h.n, .int .i64 h.d, .string ⟨h.x.toArray⟩, .slice ak ks.len ck], .agg #[.int .i64 i.k, .string ⟨i.l.toArray⟩, .slice ab i.ats.length cb, .int .i64 i.n, .int .i64 i.d, .string ⟨i.x.toArray⟩, .slice al js.len cl]] w fun e w' => e = .returned (.int .i64 (treeL h ks i js)) ∧ Below w.heap.size w w' := by
  have HA := Lib.hid ha
  have HB := Lib.hid hb
  have HAS := Lib.hid hA
  have HFF := Lib.hid HF
  clear ha hb hA HF
  go_enter Tryz.func144, Tryz.ntmps144
  go_upto_region 1 with fail
  have k0 : (((w.alloc (.cells #[.slice (some ⟨b, 0, none⟩) 5 5] 101)).alloc (.cells #[.int .i64 h.k, .string ⟨h.l.toArray⟩, .slice aa h.ats.length ca, .int .i64 h.n, .int .i64 h.d, .string ⟨h.x.toArray⟩, .slice ak ks.len ck] 43)).alloc (.cells #[.int .i64 i.k, .string ⟨i.l.toArray⟩, .slice ab i.ats.length cb, .int .i64 i.n, .int .i64 i.d, .string ⟨i.x.toArray⟩, .slice al js.len cl] 43)).heap[w.heap.size]? = some (.cells #[.slice (some ⟨b, 0, none⟩) 5 5] 101) := (Below.heap_alloc _ _ _ (by simp <;> omega)).trans ((Below.heap_alloc _ _ _ (by simp)).trans (World.alloc_heap_new w (.cells #[.slice (some ⟨b, 0, none⟩) 5 5] 101)))
  have k1 : (((w.alloc (.cells #[.slice (some ⟨b, 0, none⟩) 5 5] 101)).alloc (.cells #[.int .i64 h.k, .string ⟨h.l.toArray⟩, .slice aa h.ats.length ca, .int .i64 h.n, .int .i64 h.d, .string ⟨h.x.toArray⟩, .slice ak ks.len ck] 43)).alloc (.cells #[.int .i64 i.k, .string ⟨i.l.toArray⟩, .slice ab i.ats.length cb, .int .i64 i.n, .int .i64 i.d, .string ⟨i.x.toArray⟩, .slice al js.len cl] 43)).heap[w.heap.size + 1]? = some (.cells #[.int .i64 h.k, .string ⟨h.l.toArray⟩, .slice aa h.ats.length ca, .int .i64 h.n, .int .i64 h.d, .string ⟨h.x.toArray⟩, .slice ak ks.len ck] 43) := (Below.heap_alloc _ _ _ (by simp)).trans (by have := World.alloc_heap_new (w.alloc (.cells #[.slice (some ⟨b, 0, none⟩) 5 5] 101)) (.cells #[.int .i64 h.k, .string ⟨h.l.toArray⟩, .slice aa h.ats.length ca, .int .i64 h.n, .int .i64 h.d, .string ⟨h.x.toArray⟩, .slice ak ks.len ck] 43); rw [show (w.alloc (.cells #[.slice (some ⟨b, 0, none⟩) 5 5] 101)).heap.size = w.heap.size + 1 by simp] at this; exact this)
  have k2 := World.alloc_heap_new ((w.alloc (.cells #[.slice (some ⟨b, 0, none⟩) 5 5] 101)).alloc (.cells #[.int .i64 h.k, .string ⟨h.l.toArray⟩, .slice aa h.ats.length ca, .int .i64 h.n, .int .i64 h.d, .string ⟨h.x.toArray⟩, .slice ak ks.len ck] 43)) (.cells #[.int .i64 i.k, .string ⟨i.l.toArray⟩, .slice ab i.ats.length cb, .int .i64 i.n, .int .i64 i.d, .string ⟨i.x.toArray⟩, .slice al js.len cl] 43)
  rw [show ((w.alloc (.cells #[.slice (some ⟨b, 0, none⟩) 5 5] 101)).alloc (.cells #[.int .i64 h.k, .string ⟨h.l.toArray⟩, .slice aa h.ats.length ca, .int .i64 h.n, .int .i64 h.d, .string ⟨h.x.toArray⟩, .slice ak ks.len ck] 43)).heap.size = w.heap.size + 2 by simp] at k2
  have BW : Below w.heap.size w (((w.alloc (.cells #[.slice (some ⟨b, 0, none⟩) 5 5] 101)).alloc (.cells #[.int .i64 h.k, .string ⟨h.l.toArray⟩, .slice aa h.ats.length ca, .int .i64 h.n, .int .i64 h.d, .string ⟨h.x.toArray⟩, .slice ak ks.len ck] 43)).alloc (.cells #[.int .i64 i.k, .string ⟨i.l.toArray⟩, .slice ab i.ats.length cb, .int .i64 i.n, .int .i64 i.d, .string ⟨i.x.toArray⟩, .slice al js.len cl] 43)) := by ((repeat' (first | exact Below.refl _ _ | assumption | refine Below.setCell ?_ ?_ _ | refine bdrewN ?_ _ | refine Below.drew ?_ | refine Below.alloc ?_ ?_ _ | refine bbehind ?_ (by assumption) ?_)); all_goals first | (simp; done) | (simp; omega) | omega)
  have hs0 : w.heap.size + 3 ≤ (((w.alloc (.cells #[.slice (some ⟨b, 0, none⟩) 5 5] 101)).alloc (.cells #[.int .i64 h.k, .string ⟨h.l.toArray⟩, .slice aa h.ats.length ca, .int .i64 h.n, .int .i64 h.d, .string ⟨h.x.toArray⟩, .slice ak ks.len ck] 43)).alloc (.cells #[.int .i64 i.k, .string ⟨i.l.toArray⟩, .slice ab i.ats.length cb, .int .i64 i.n, .int .i64 i.d, .string ⟨i.x.toArray⟩, .slice al js.len cl] 43)).heap.size := by simp
  generalize ((w.alloc (.cells #[.slice (some ⟨b, 0, none⟩) 5 5] 101)).alloc (.cells #[.int .i64 h.k, .string ⟨h.l.toArray⟩, .slice aa h.ats.length ca, .int .i64 h.n, .int .i64 h.d, .string ⟨h.x.toArray⟩, .slice ak ks.len ck] 43)).alloc (.cells #[.int .i64 i.k, .string ⟨i.l.toArray⟩, .slice ab i.ats.length cb, .int .i64 i.n, .int .i64 i.d, .string ⟨i.x.toArray⟩, .slice al js.len cl] 43) = W at *
  have a0 : W.cell? ⟨w.heap.size, 0, none⟩ = some (.slice (some ⟨b, 0, none⟩) 5 5) := cell_of_block k0 rfl
  have d0 : W.cell? ⟨w.heap.size + 1, 0, none⟩ = some (.int .i64 h.k) := cell_of_block k1 rfl
  have d1 : W.cell? ⟨w.heap.size + 1, 1, none⟩ = some (.string ⟨h.l.toArray⟩) := cell_of_block k1 rfl
  have d2 : W.cell? ⟨w.heap.size + 1, 2, none⟩ = some (.slice aa h.ats.length ca) := cell_of_block k1 rfl
  have d3 : W.cell? ⟨w.heap.size + 1, 3, none⟩ = some (.int .i64 h.n) := cell_of_block k1 rfl
  have d4 : W.cell? ⟨w.heap.size + 1, 4, none⟩ = some (.int .i64 h.d) := cell_of_block k1 rfl
  have d5 : W.cell? ⟨w.heap.size + 1, 5, none⟩ = some (.string ⟨h.x.toArray⟩) := cell_of_block k1 rfl
  have d6 : W.cell? ⟨w.heap.size + 1, 6, none⟩ = some (.slice ak ks.len ck) := cell_of_block k1 rfl
  have e0 : W.cell? ⟨w.heap.size + 2, 0, none⟩ = some (.int .i64 i.k) := cell_of_block k2 rfl
  have e1 : W.cell? ⟨w.heap.size + 2, 1, none⟩ = some (.string ⟨i.l.toArray⟩) := cell_of_block k2 rfl
  have e2 : W.cell? ⟨w.heap.size + 2, 2, none⟩ = some (.slice ab i.ats.length cb) := cell_of_block k2 rfl
  have e3 : W.cell? ⟨w.heap.size + 2, 3, none⟩ = some (.int .i64 i.n) := cell_of_block k2 rfl
  have e4 : W.cell? ⟨w.heap.size + 2, 4, none⟩ = some (.int .i64 i.d) := cell_of_block k2 rfl
  have e5 : W.cell? ⟨w.heap.size + 2, 5, none⟩ = some (.string ⟨i.x.toArray⟩) := cell_of_block k2 rfl
  have e6 : W.cell? ⟨w.heap.size + 2, 6, none⟩ = some (.slice al js.len cl) := cell_of_block k2 rfl
  have K0 := Lib.hid k0
  have K1 := Lib.hid k1
  have K2 := Lib.hid k2
  have CB := Lib.hid (compareBy_any h i aa ab ca cb b W (attrs_below HA.out BW) (attrs_below HB.out BW) (HAS.out.below BW))
  clear k0 k1 k2
  go_wp2_with fail
  refine CB.out.mono ?_
  rintro e w1 ⟨rfl, hb1⟩
  have hs1 := hb1.size
  have B1 := Lib.hid (BW.trans (hb1.mono (by omega)))
  have q0 : w1.cell? ⟨w.heap.size, 0, none⟩ = some (.slice (some ⟨b, 0, none⟩) 5 5) := cell_of_block ((hb1.block _ (by omega)).trans K0.out) rfl
  have q1 : w1.cell? ⟨w.heap.size + 1, 6, none⟩ = some (.slice ak ks.len ck) := cell_of_block ((hb1.block _ (by omega)).trans K1.out) rfl
  have q2 : w1.cell? ⟨w.heap.size + 2, 6, none⟩ = some (.slice al js.len cl) := cell_of_block ((hb1.block _ (by omega)).trans K2.out) rfl
  clear hb1
  by_cases hx : headL h i = 0
  · have HX := Lib.hid (show treeL h ks i js = foL ks js from if_neg (by simpa using hx))
    have b0 : (headL h i != 0) = false := by simpa using hx
    clear hx
    go_wp2_with fail
    refine (HFF.out _ B1.out).mono ?_
    rintro e w2 ⟨rfl, hb2⟩
    go_wp2_with fail
    go_ret
    exact ⟨ret_int' HX.out.symm, B1.out.trans (hb2.mono B1.out.size)⟩
  · have HX := Lib.hid (show treeL h ks i js = headL h i from if_pos hx)
    have b0 : (headL h i != 0) = true := by simpa using hx
    clear hx
    go_wp2_with fail
    go_ret
    exact ⟨ret_int' HX.out.symm, B1.out⟩

end Go.Proofs.YtcgedpfolloinaaGreat

namespace Go.Proofs.YtcgedpfolloinaaGreat
open Go.RowKit

/-- a comparison that is an order, of what P says. -/
structure OrdP {α : Type} (P : α → Prop) (c : α → α → Int) : Prop where
  swap : ∀ a b, P a → P b → c b a = - c a b
  rng : ∀ a b, P a → P b → c a b = -1 ∨ c a b = 0 ∨ c a b = 1
  refl : ∀ a, P a → c a a = 0
  eq : ∀ a b, P a → P b → c a b = 0 → a = b
  tr : ∀ a b d, P a → P b → P d → c a b = -1 → c b d = -1 → c a d = -1
theorem cmpM_cases (a b : Int) : (a < b ∧ cmpM a b = -1) ∨ (a = b ∧ cmpM a b = 0) ∨ (b < a ∧ cmpM a b = 1) := by
  unfold cmpM
  rcases Int.lt_trichotomy a b with h | h | h
  · exact .inl ⟨h, if_pos h⟩
  · exact .inr (.inl ⟨h, by rw [if_neg (by omega), if_neg (by omega)]⟩)
  · exact .inr (.inr ⟨h, by rw [if_neg (by omega), if_pos h]⟩)
theorem ord_int : OrdP (fun _ => True) cmpM where
  swap a b _ _ := by have := cmpM_cases a b; have := cmpM_cases b a; omega
  rng a b _ _ := by have := cmpM_cases a b; omega
  refl a _ := cmpM_self a
  eq a b _ _ h := by have := cmpM_cases a b; omega
  tr a b d _ _ _ h k := by have := cmpM_cases a b; have := cmpM_cases b d; have := cmpM_cases a d; omega
/-- fractions, valid ones. -/
def cmpN (x y : Int × Int) : Int := cmpM (x.1 * y.2) (y.1 * x.2)
theorem ord_num : OrdP (fun x : Int × Int => chk x.1 x.2 = 0) cmpN where
  swap a b _ _ := ord_int.swap _ _ trivial trivial
  rng a b _ _ := ord_int.rng _ _ trivial trivial
  refl a _ := cmpM_self _
  eq a b ha hb h := by
    have := ord_int.eq _ _ trivial trivial h
    obtain ⟨h1, h2⟩ := same_of_cross ha hb this
    exact Prod.ext h1 h2
  tr a b d ha hb hd h k := by
    have f1 := fit_of_chk ha
    have f2 := fit_of_chk hb
    have f3 := fit_of_chk hd
    obtain ⟨-, -, p1, -⟩ := f1
    obtain ⟨-, -, p2, -⟩ := f2
    obtain ⟨-, -, p3, -⟩ := f3
    have h1 := cmpM_cases (a.1 * b.2) (b.1 * a.2)
    have h2 := cmpM_cases (b.1 * d.2) (d.1 * b.2)
    have h3 := cmpM_cases (a.1 * d.2) (d.1 * a.2)
    unfold cmpN at h k ⊢
    have := cross_trans (by omega) (by omega) (by omega) (show a.1 * b.2 < b.1 * a.2 by omega) (show b.1 * d.2 < d.1 * b.2 by omega)
    omega
/-- one after the other. -/
def lex (x y : Int) : Int := if x ≠ 0 then x else y
theorem lex_zero {y : Int} : lex 0 y = y := rfl
theorem lex_ne {x y : Int} (h : x ≠ 0) : lex x y = x := if_pos h
theorem lex_is (x y : Int) : (x ≠ 0 ∧ lex x y = x) ∨ (x = 0 ∧ lex x y = y) := by
  by_cases h : x = 0
  · exact .inr ⟨h, by rw [h]; rfl⟩
  · exact .inl ⟨h, if_pos h⟩
theorem OrdP.lex_tr {α : Type} {P : α → Prop} {c : α → α → Int} (o : OrdP P c) {a b d : α} (ha : P a) (hb : P b) (hd : P d) {x y z : Int} (h : lex (c a b) x = -1) (k : lex (c b d) y = -1) (hz : x = -1 → y = -1 → z = -1) : lex (c a d) z = -1 := by
  have r1 := o.rng a b ha hb
  have r2 := o.rng b d hb hd
  have l1 := lex_is (c a b) x
  have l2 := lex_is (c b d) y
  by_cases h1 : c a b = 0
  · have e := o.eq a b ha hb h1
    subst e
    by_cases h2 : c a d = 0
    · rw [h2, lex_zero]; exact hz (by omega) (by omega)
    · rw [lex_ne h2]; omega
  · have m1 : c a b = -1 := by omega
    by_cases h2 : c b d = 0
    · have e := o.eq b d hb hd h2
      subst e
      rw [lex_ne h1]; exact m1
    · have m2 := o.tr a b d ha hb hd m1 (by omega)
      rw [lex_ne (by omega)]; exact m2
theorem OrdP.lex_swap {α : Type} {P : α → Prop} {c : α → α → Int} (o : OrdP P c) {a b : α} (ha : P a) (hb : P b) {x y : Int} (h : y = -x) : lex (c b a) y = - lex (c a b) x := by
  rw [o.swap a b ha hb]
  have l1 := lex_is (c a b) x
  have l2 := lex_is (-c a b) y
  omega
theorem OrdP.lex_rng {α : Type} {P : α → Prop} {c : α → α → Int} (o : OrdP P c) {a b : α} (ha : P a) (hb : P b) {x : Int} (h : x = -1 ∨ x = 0 ∨ x = 1) : lex (c a b) x = -1 ∨ lex (c a b) x = 0 ∨ lex (c a b) x = 1 := by
  have r1 := o.rng a b ha hb
  have l1 := lex_is (c a b) x
  omega
theorem lex_nul {x y : Int} (h : lex x y = 0) : x = 0 ∧ y = 0 := by
  have := lex_is x y; omega
/-- pairs. -/
theorem OrdP.pair {α β : Type} {P : α → Prop} {Q : β → Prop} {c : α → α → Int} {d : β → β → Int} (o : OrdP P c) (p : OrdP Q d) : OrdP (fun x : α × β => P x.1 ∧ Q x.2) (fun x y => lex (c x.1 y.1) (d x.2 y.2)) where
  swap a b ha hb := o.lex_swap ha.1 hb.1 (p.swap _ _ ha.2 hb.2)
  rng a b ha hb := o.lex_rng ha.1 hb.1 (p.rng _ _ ha.2 hb.2)
  refl a ha := by show lex (c a.1 a.1) (d a.2 a.2) = 0; rw [o.refl _ ha.1, lex_zero]; exact p.refl _ ha.2
  eq a b ha hb h := Prod.ext (o.eq _ _ ha.1 hb.1 (lex_nul h).1) (p.eq _ _ ha.2 hb.2 (lex_nul h).2)
  tr a b d ha hb hd h k := o.lex_tr ha.1 hb.1 hd.1 h k (p.tr _ _ _ ha.2 hb.2 hd.2)
/-- lists. -/
def listL {α : Type} (c : α → α → Int) : List α → List α → Int
  | [], [] => 0
  | [], _ :: _ => -1
  | _ :: _, [] => 1
  | a :: r, b :: s => lex (c a b) (listL c r s)
theorem OrdP.list {α : Type} {P : α → Prop} {c : α → α → Int} (o : OrdP P c) : OrdP (fun l : List α => ∀ x ∈ l, P x) (listL c) where
  swap a := by
    induction a with
    | nil => intro b _ _; cases b <;> rfl
    | cons x r ih =>
      intro b ha hb
      cases b with
      | nil => rfl
      | cons y s => exact o.lex_swap (ha x (by simp)) (hb y (by simp)) (ih s (fun z hz => ha z (by simp [hz])) (fun z hz => hb z (by simp [hz])))
  rng a := by
    induction a with
    | nil => intro b _ _; cases b <;> simp [listL]
    | cons x r ih =>
      intro b ha hb
      cases b with
      | nil => simp [listL]
      | cons y s => exact o.lex_rng (ha x (by simp)) (hb y (by simp)) (ih s (fun z hz => ha z (by simp [hz])) (fun z hz => hb z (by simp [hz])))
  refl a := by
    induction a with
    | nil => intro _; rfl
    | cons x r ih =>
      intro ha
      show lex (c x x) (listL c r r) = 0
      rw [o.refl x (ha x (by simp)), lex_zero]
      exact ih (fun z hz => ha z (by simp [hz]))
  eq a := by
    induction a with
    | nil => intro b _ _ h; cases b with
      | nil => rfl
      | cons y s => simp [listL] at h
    | cons x r ih =>
      intro b ha hb h
      cases b with
      | nil => simp [listL] at h
      | cons y s =>
        have := lex_nul h
        rw [o.eq x y (ha x (by simp)) (hb y (by simp)) this.1, ih s (fun z hz => ha z (by simp [hz])) (fun z hz => hb z (by simp [hz])) this.2]
  tr a := by
    induction a with
    | nil =>
      intro b d _ _ _ h k
      cases b with
      | nil => simp [listL] at h
      | cons y s =>
        cases d with
        | nil => simp [listL] at k
        | cons z t => rfl
    | cons x r ih =>
      intro b d ha hb hd h k
      cases b with
      | nil => simp [listL] at h
      | cons y s =>
        cases d with
        | nil => simp [listL] at k
        | cons z t => exact o.lex_tr (ha x (by simp)) (hb y (by simp)) (hd z (by simp)) h k (ih s t (fun z hz => ha z (by simp [hz])) (fun z hz => hb z (by simp [hz])) (fun z hz => hd z (by simp [hz])))
theorem OrdP.weak {α : Type} {P Q : α → Prop} {c : α → α → Int} (o : OrdP P c) (h : ∀ a, Q a → P a) : OrdP Q c :=
  ⟨fun a b ha hb => o.swap a b (h a ha) (h b hb), fun a b ha hb => o.rng a b (h a ha) (h b hb), fun a ha => o.refl a (h a ha), fun a b ha hb => o.eq a b (h a ha) (h b hb), fun a b d ha hb hd => o.tr a b d (h a ha) (h b hb) (h d hd)⟩
theorem OrdP.of_eq {α : Type} {P : α → Prop} {c d : α → α → Int} (o : OrdP P c) (h : ∀ a b, d a b = c a b) : OrdP P d := by
  have : d = c := funext fun a => funext fun b => h a b
  rw [this]; exact o
/-- bytes. -/
def cmpB (a b : UInt8) : Int := cmpM a.toNat b.toNat
theorem ord_byte : OrdP (fun _ => True) cmpB where
  swap a b _ _ := ord_int.swap _ _ trivial trivial
  rng a b _ _ := ord_int.rng _ _ trivial trivial
  refl a _ := cmpM_self _
  eq a b _ _ h := by
    have := ord_int.eq _ _ trivial trivial h
    exact UInt8.toNat_inj.1 (by omega)
  tr a b d _ _ _ h k := ord_int.tr _ _ _ trivial trivial trivial h k
theorem strL_list : ∀ a b : List UInt8, strL a b = listL cmpB a b
  | [], [] => rfl
  | [], _ :: _ => rfl
  | _ :: _, [] => rfl
  | a :: r, b :: s => by
    have ih := strL_list r s
    show Lib.compareBytes (a :: r) (b :: s) = lex (cmpB a b) (listL cmpB r s)
    rw [← ih, Lib.compareBytes]
    unfold cmpB
    have hc := cmpM_cases a.toNat b.toNat
    by_cases h1 : a < b
    · rw [if_pos h1]
      rw [UInt8.lt_iff_toNat_lt] at h1
      rw [lex_ne (by omega)]; omega
    · rw [if_neg h1]
      by_cases h2 : b < a
      · rw [if_pos h2]
        rw [UInt8.lt_iff_toNat_lt] at h2
        rw [lex_ne (by omega)]; omega
      · rw [if_neg h2]
        rw [UInt8.lt_iff_toNat_lt] at h1 h2
        rw [show cmpM (a.toNat : Int) (b.toNat : Int) = 0 by omega, lex_zero]
        rfl
theorem ord_str : OrdP (fun _ => True) strL := ((ord_byte.list.weak (Q := fun _ => True) fun _ _ _ _ => trivial)).of_eq strL_list
theorem ord_attr : OrdP (fun _ => True) attrL := ((ord_str.pair ord_str).weak (Q := fun _ => True) fun _ _ => ⟨trivial, trivial⟩).of_eq fun _ _ => rfl
theorem atsL_list : ∀ a b : List (List UInt8 × List UInt8), atsL a b = listL attrL a b
  | [], [] => rfl
  | [], _ :: _ => rfl
  | _ :: _, [] => rfl
  | a :: r, b :: s => by show lex (attrL a b) (atsL r s) = lex (attrL a b) (listL attrL r s); rw [atsL_list r s]
theorem ord_ats : OrdP (fun _ => True) atsL := ((ord_attr.list.weak (Q := fun _ => True) fun _ _ _ _ => trivial)).of_eq atsL_list
end Go.Proofs.YtcgedpfolloinaaGreat

namespace Go.Proofs.YtcgedpfolloinaaGreat
open Go.RowKit

theorem OrdP.of_eqP {α : Type} {P : α → Prop} {c d : α → α → Int} (o : OrdP P c) (h : ∀ a b, P a → P b → d a b = c a b) : OrdP P d where
  swap a b ha hb := by rw [h a b ha hb, h b a hb ha]; exact o.swap a b ha hb
  rng a b ha hb := by rw [h a b ha hb]; exact o.rng a b ha hb
  refl a ha := by rw [h a a ha ha]; exact o.refl a ha
  eq a b ha hb k := by rw [h a b ha hb] at k; exact o.eq a b ha hb k
  tr a b e ha hb he k l := by rw [h a b ha hb] at k; rw [h b e hb he] at l; rw [h a e ha he]; exact o.tr a b e ha hb he k l
theorem OrdP.pull {α β : Type} {P : α → Prop} {Q : β → Prop} {c : α → α → Int} (o : OrdP P c) (m : β → α) (h : ∀ b, Q b → P (m b)) (inj : ∀ a b, Q a → Q b → m a = m b → a = b) : OrdP Q (fun a b => c (m a) (m b)) where
  swap a b ha hb := o.swap _ _ (h a ha) (h b hb)
  rng a b ha hb := o.rng _ _ (h a ha) (h b hb)
  refl a ha := o.refl _ (h a ha)
  eq a b ha hb k := inj a b ha hb (o.eq _ _ (h a ha) (h b hb) k)
  tr a b e ha hb he k l := o.tr _ _ _ (h a ha) (h b hb) (h e he) k l
/-- valid heads of one kind. -/
def OfK (K : Int) (h : Hd) : Prop := headErr h = 0 ∧ h.k = K
theorem ord_k1 : OrdP (OfK 1) headL := by
  refine ((ord_num.pull (Q := OfK 1) (fun h => (h.n, h.d)) (fun h hh => ?_) (fun a b ha hb e => ?_))).of_eqP fun a b ha hb => (headL_num ha.2 hb.2 ha.1 hb.1).1
  · exact (headL_num hh.2 hh.2 hh.1 hh.1).2.1
  · obtain ⟨e1, e2⟩ := Prod.mk.inj e
    rcases head_kinds ha.1 with g | g | g
    · have := ha.2; omega
    · rcases head_kinds hb.1 with f | f | f
      · have := hb.2; omega
      · cases a; cases b; simp_all
      · have := hb.2; omega
    · have := ha.2; omega
theorem ord_k2 : OrdP (OfK 2) headL := by
  refine ((ord_str.pull (Q := OfK 2) (fun h => h.x) (fun h hh => trivial) (fun a b ha hb e => ?_))).of_eqP fun a b ha hb => headL_text ha.2 hb.2 ha.1 hb.1
  rcases head_kinds ha.1 with g | g | g
  · have := ha.2; omega
  · have := ha.2; omega
  · rcases head_kinds hb.1 with f | f | f
    · have := hb.2; omega
    · have := hb.2; omega
    · cases a; cases b; simp_all
theorem ord_k0 : OrdP (OfK 0) headL := by
  refine (((ord_str.pair ord_ats).pull (Q := OfK 0) (fun h => (h.l, h.ats)) (fun h hh => ⟨trivial, trivial⟩) (fun a b ha hb e => ?_))).of_eqP fun a b ha hb => headL_elem ha.2 hb.2 ha.1 hb.1
  obtain ⟨e1, e2⟩ := Prod.mk.inj e
  rcases head_kinds ha.1 with g | g | g
  · rcases head_kinds hb.1 with f | f | f
    · cases a; cases b; simp_all
    · have := hb.2; omega
    · have := hb.2; omega
  · have := ha.2; omega
  · have := ha.2; omega
theorem ord_of {h : Hd} (e : headErr h = 0) : OrdP (OfK h.k) headL := by
  rcases head_kinds e with g | g | g
  · rw [g.1]; exact ord_k0
  · rw [g.1]; exact ord_k1
  · rw [g.1]; exact ord_k2
theorem ord_head : OrdP (fun h => headErr h = 0) headL where
  swap a b ha hb := by
    by_cases hk : a.k = b.k
    · exact (ord_of ha).swap a b ⟨ha, rfl⟩ ⟨hb, hk.symm⟩
    · rw [headL_kind hk, headL_kind (Ne.symm hk)]; exact ord_int.swap _ _ trivial trivial
  rng a b ha hb := by
    by_cases hk : a.k = b.k
    · exact (ord_of ha).rng a b ⟨ha, rfl⟩ ⟨hb, hk.symm⟩
    · rw [headL_kind hk]; exact ord_int.rng _ _ trivial trivial
  refl a ha := (ord_of ha).refl a ⟨ha, rfl⟩
  eq a b ha hb h := by
    by_cases hk : a.k = b.k
    · exact (ord_of ha).eq a b ⟨ha, rfl⟩ ⟨hb, hk.symm⟩ h
    · rw [headL_kind hk] at h; exact absurd (ord_int.eq _ _ trivial trivial h) hk
  tr a b d ha hb hd h k := by
    by_cases h1 : a.k = b.k
    · by_cases h2 : b.k = d.k
      · exact (ord_of ha).tr a b d ⟨ha, rfl⟩ ⟨hb, h1.symm⟩ ⟨hd, by rw [h1, h2]⟩ h k
      · rw [headL_kind h2] at k
        rw [headL_kind (by rw [h1]; exact h2), h1]; exact k
    · rw [headL_kind h1] at h
      by_cases h2 : b.k = d.k
      · rw [headL_kind (by rw [← h2]; exact h1), ← h2]; exact h
      · rw [headL_kind h2] at k
        have h3 := ord_int.tr _ _ _ trivial trivial trivial h k
        have h4 := cmpM_cases a.k d.k
        rw [headL_kind (by omega)]; exact h3
theorem foL_cons (h i : Hd) (ks r js s : Fo) : foL (.cons h ks r) (.cons i js s) = lex (headL h i) (lex (foL ks js) (foL r s)) := by rw [foL]; rfl
theorem lex_tr' {x1 x2 x3 y1 y2 y3 : Int} (z1 : x1 = 0 → x3 = x2) (z2 : x2 = 0 → x3 = x1) (t : x1 = -1 → x2 = -1 → x3 = -1) (h : lex x1 y1 = -1) (k : lex x2 y2 = -1) (hy : y1 = -1 → y2 = -1 → y3 = -1) : lex x3 y3 = -1 := by
  have l1 := lex_is x1 y1
  have l2 := lex_is x2 y2
  have l3 := lex_is x3 y3
  by_cases h1 : x1 = 0
  · by_cases h2 : x2 = 0
    · have := z1 h1
      have := hy (by omega) (by omega)
      omega
    · have := z1 h1; omega
  · by_cases h2 : x2 = 0
    · have := z2 h2; omega
    · have := t (by omega) (by omega); omega
theorem fo_rng : ∀ f g : Fo, headsErr f = 0 → headsErr g = 0 → foL f g = -1 ∨ foL f g = 0 ∨ foL f g = 1
  | .nil, .nil, _, _ => by simp [foL]
  | .nil, .cons _ _ _, _, _ => by simp [foL]
  | .cons _ _ _, .nil, _, _ => by simp [foL]
  | .cons h ks r, .cons i js s, e, k => by
    obtain ⟨eh, -, ek, er⟩ := heads_parts e
    obtain ⟨ei, -, ejs, es⟩ := heads_parts k
    rw [foL_cons]
    refine ord_head.lex_rng eh ei ?_
    have h1 := fo_rng ks js ek ejs
    have h2 := fo_rng r s er es
    have l1 := lex_is (foL ks js) (foL r s)
    omega
theorem fo_swap : ∀ f g : Fo, headsErr f = 0 → headsErr g = 0 → foL g f = - foL f g
  | .nil, .nil, _, _ => rfl
  | .nil, .cons _ _ _, _, _ => rfl
  | .cons _ _ _, .nil, _, _ => rfl
  | .cons h ks r, .cons i js s, e, k => by
    obtain ⟨eh, -, ek, er⟩ := heads_parts e
    obtain ⟨ei, -, ejs, es⟩ := heads_parts k
    rw [foL_cons, foL_cons]
    refine ord_head.lex_swap eh ei ?_
    have h1 := fo_swap ks js ek ejs
    have h2 := fo_swap r s er es
    have l1 := lex_is (foL ks js) (foL r s)
    have l2 := lex_is (foL js ks) (foL s r)
    omega
theorem fo_refl : ∀ f : Fo, headsErr f = 0 → foL f f = 0
  | .nil, _ => rfl
  | .cons h ks r, e => by
    obtain ⟨eh, -, ek, er⟩ := heads_parts e
    rw [foL_cons, ord_head.refl h eh, fo_refl ks ek, fo_refl r er]; rfl
theorem fo_eq : ∀ f g : Fo, headsErr f = 0 → headsErr g = 0 → foL f g = 0 → f = g
  | .nil, .nil, _, _, _ => rfl
  | .nil, .cons _ _ _, _, _, h => by simp [foL] at h
  | .cons _ _ _, .nil, _, _, h => by simp [foL] at h
  | .cons h ks r, .cons i js s, e, k, hz => by
    obtain ⟨eh, -, ek, er⟩ := heads_parts e
    obtain ⟨ei, -, ejs, es⟩ := heads_parts k
    rw [foL_cons] at hz
    obtain ⟨h1, h2⟩ := lex_nul hz
    obtain ⟨h3, h4⟩ := lex_nul h2
    rw [ord_head.eq h i eh ei h1, fo_eq ks js ek ejs h3, fo_eq r s er es h4]
theorem fo_tr : ∀ f g j : Fo, headsErr f = 0 → headsErr g = 0 → headsErr j = 0 → foL f g = -1 → foL g j = -1 → foL f j = -1
  | .nil, .nil, _, _, _, _, h, _ => by simp [foL] at h
  | .nil, .cons _ _ _, .nil, _, _, _, _, k => by simp [foL] at k
  | .nil, .cons _ _ _, .cons _ _ _, _, _, _, _, _ => rfl
  | .cons _ _ _, .nil, _, _, _, _, h, _ => by simp [foL] at h
  | .cons _ _ _, .cons _ _ _, .nil, _, _, _, _, k => by simp [foL] at k
  | .cons h ks r, .cons i js s, .cons i2 js2 s2, e, eg, ej, hl, hl2 => by
    obtain ⟨eh, -, ek, er⟩ := heads_parts e
    obtain ⟨ei, -, ejs, es⟩ := heads_parts eg
    obtain ⟨ei2, -, ejs2, es2⟩ := heads_parts ej
    rw [foL_cons] at hl hl2 ⊢
    refine ord_head.lex_tr eh ei ei2 hl hl2 fun hx hy => ?_
    refine lex_tr' (fun z => by rw [fo_eq ks js ek ejs z]) (fun z => by rw [fo_eq js js2 ejs ejs2 z]) (fun p q => fo_tr ks js js2 ek ejs ejs2 p q) hx hy fun p q => fo_tr r s s2 er es es2 p q
/-- of three the order goes on. -/
theorem fo_on {f g j : Fo} (ef : headsErr f = 0) (eg : headsErr g = 0) (ej : headsErr j = 0) (h : foL f g = foL g j) : foL f j = foL f g := by
  rcases fo_rng f g ef eg with c | c | c
  · rw [c]; exact fo_tr f g j ef eg ej c (by rw [← h]; exact c)
  · rw [fo_eq f g ef eg c] at h ⊢; rw [← h, fo_refl g eg]
  · have h1 := fo_swap f g ef eg
    have h2 := fo_swap g j eg ej
    have h3 := fo_swap f j ef ej
    have := fo_tr j g f ej eg ef (by omega) (by omega)
    omega
theorem fo_app : ∀ (h f g : Fo), headsErr h = 0 → foL (h.app f) (h.app g) = foL f g
  | .nil, _, _, _ => rfl
  | .cons a ks r, f, g, e => by
    obtain ⟨eh, -, ek, er⟩ := heads_parts e
    simp only [Fo.app]
    rw [foL_cons, ord_head.refl a eh, fo_refl ks ek, fo_app r f g er]; rfl
theorem fo_wrap (a : Hd) (f g : Fo) (e : headErr a = 0) : foL (.cons a f .nil) (.cons a g .nil) = foL f g := by
  rw [foL_cons, ord_head.refl a e]
  have l1 := lex_is (foL f g) 0
  show lex 0 (lex (foL f g) 0) = foL f g
  rw [lex_zero]; omega
end Go.Proofs.YtcgedpfolloinaaGreat

namespace Go.Proofs.YtcgedpfolloinaaGreat
open Go.RowKit

set_option maxRecDepth 100000 in
set_option maxHeartbeats 2000000 in
theorem grow_any (n : Nat) (w : World) (hn : n ≤ 1000000) :
    Calls Tryz.prog 149 #[.slice none 0 0, .int .i64 n] w fun e w' => ∃ a c, e = .returned (.slice a 0 c) ∧ w'.ownsRow w.heap.size 43 7 (.slice a 0 c) 0 [] ∧ Below w.heap.size w w' := by
  obtain ⟨i0, hi, hz0, hz1, hz2⟩ := info_parts info_tree
  by_cases h0 : n = 0
  · subst h0
    go_enter Tryz.func149, Tryz.ntmps149
    go_wp2_with fail
    go_ret
    exact ⟨_, _, rfl, World.ownsRow_nil _ _ _ _, Below.refl _ _⟩
  · have hpos : ((0 : Int) < (n : Int)) := by omega
    have d1 : decide ((0 : Int) < (n : Int)) = true := by simp; omega
    have d2 : decide (0 < n) = true := by simp; omega
    have hnc : n ≤ grownCap w n 0 43 := grownCap_ge w n 0 43
    have hcm : grownCap w n 0 43 ≤ maxLen := grownCap_le_maxLen w n 0 43 (by unfold maxLen; omega)
    have hrz := fun ty => Lib.run_append_nil_zeros (P := Tryz.prog) w 28 3 ty 43 i0 _ .i64 .i64 Tryz.underlying28 Tryz.underlying3 hi hz0 n (by omega) (by rw [hz1]; decide) (by omega) (by rw [hz2]; omega)
    obtain ⟨G, hG⟩ : ∃ G, grownCap w n 0 43 = G := ⟨_, rfl⟩
    rw [hG] at hnc hcm
    simp only [hG] at hrz
    have HRZ := Lib.hid hrz
    have hG63 : G ≤ 9223372036854775807 := by unfold maxLen at hcm; omega
    clear hrz hG
    go_enter Tryz.func149, Tryz.ntmps149
    go_wp2_with (at_builtin; refine Lib.wpList_append_run _ rfl _ _ _ _ rfl _ _ rfl rfl _ _ (HRZ.out _) ?_)
    go_ret
    refine ⟨_, _, rfl, ⟨rfl, .inr ⟨w.heap.size, G, _, rfl, Nat.le_refl _, World.alloc_heap_new w.drew _, Nat.zero_le _, hcm, ?_, by simp⟩⟩, (Below.refl _ _).drew.alloc (Nat.le_refl _) _⟩
    rw [Array.size_append, size_zeroCells, size_zeroCells]
    show n * 7 + (G - n) * 7 = G * 7
    omega
end Go.Proofs.YtcgedpfolloinaaGreat

namespace Go.Proofs.YtcgedpfolloinaaGreat
open Go.RowKit

/-- all trees of some forests, one behind the other. -/
def catF : List Fo → Fo
  | [] => .nil
  | g :: r => g.app (catF r)
theorem app_assoc : ∀ a b c : Fo, (a.app b).app c = a.app (b.app c)
  | .nil, _, _ => rfl
  | .cons h ks r, b, c => by simp only [Fo.app]; rw [app_assoc r b c]
theorem catF_snoc (g : Fo) : ∀ gs : List Fo, catF (gs ++ [g]) = (catF gs).app g
  | [] => by simp [catF, Fo.app, app_nil]
  | x :: r => by simp only [List.cons_append, catF]; rw [catF_snoc g r, app_assoc]
theorem app_length : ∀ f g : Fo, (f.app g).len = f.len + g.len
  | .nil, g => by simp [Fo.app, Fo.len]
  | .cons h ks r, g => by simp only [Fo.app, Fo.len]; rw [app_length r g]; omega
theorem take_getD {gs : List Fo} {k : Nat} (hk : k < gs.length) : gs.take (k + 1) = gs.take k ++ [gs.getD k .nil] := by
  rw [List.take_add_one, List.getD_eq_getElem?_getD, List.getElem?_eq_getElem hk]; rfl
theorem catF_take {gs : List Fo} {k : Nat} (hk : k < gs.length) : catF (gs.take (k + 1)) = (catF (gs.take k)).app (gs.getD k .nil) := by
  rw [take_getD hk, catF_snoc]
theorem catF_le : ∀ (gs : List Fo) (k : Nat), (catF (gs.take k)).len ≤ (catF gs).len
  | [], k => by simp
  | g :: r, 0 => by simp [catF, Fo.len]
  | g :: r, k + 1 => by
    simp only [List.take_succ_cons, catF, app_length]
    have := catF_le r k
    omega
theorem rowL_app {B : Nat} {W : World} : ∀ (f g : Fo) (cs ds : List Value), RowL B W f cs → RowL B W g ds → RowL B W (f.app g) (cs ++ ds)
  | .nil, g, cs, ds, h, k => by rw [show cs = [] from h]; exact k
  | .cons h ks r, g, cs, ds, H, k => by
    obtain ⟨aa, ca, ak, ck, rest, rfl, ha, hk, hr⟩ := H
    exact ⟨aa, ca, ak, ck, rest ++ ds, by simp, ha, hk, rowL_app r g rest ds hr k⟩
theorem rowL_keeps {B : Nat} {W W' : World} (k : Keeps B W W') : ∀ (f : Fo) (cs : List Value), RowL B W f cs → RowL B W' f cs
  | .nil, _, h => h
  | .cons h ks r, cs, H => by
    obtain ⟨aa, ca, ak, ck, rest, e, ha, hk, hr⟩ := H
    exact ⟨aa, ca, ak, ck, rest, e, attrsF_keeps ha k, liesF_keeps hk k, rowL_keeps k r rest hr⟩
theorem rowF_cells {B : Nat} {W : World} {b : Nat} : ∀ (f : Fo) (o : Nat), RowF B W f b o → ∃ cs, RowL B W f cs ∧ cs.length = f.len * 7 ∧ (∀ u ∈ cs, u.oneCell' = true) ∧ ∀ j u, cs[j]? = some u → W.cell? ⟨b, o + j, none⟩ = some u
  | .nil, o, _ => ⟨[], rfl, rfl, fun u h => (by cases h), fun j u h => (by simp at h)⟩
  | .cons h ks r, o, H => by
    obtain ⟨⟨h0, h1, ⟨va, h2, ha⟩, h3, h4, h5⟩, ⟨v, h6, hk⟩, hr⟩ := H
    obtain ⟨cs, c1, c2, c4, c3⟩ := rowF_cells r (o + 7) hr
    obtain ⟨aa, ca, rfl⟩ := attrsF_form ha
    have hkl : LiesF B W v ks := hk
    obtain ⟨ak, ck, rfl⟩ := liesF_form hkl
    refine ⟨treeCells h aa ca ak ks.len ck ++ cs, ⟨aa, ca, ak, ck, cs, rfl, ha, hkl, c1⟩, by simp [treeCells, Fo.len, c2]; omega, ?_, ?_⟩
    · intro u hu
      rcases List.mem_append.1 hu with hu | hu
      · simp [treeCells] at hu; rcases hu with rfl | rfl | rfl | rfl | rfl | rfl | rfl <;> rfl
      · exact c4 u hu
    · intro j u hj
      match j, hj with
      | 0, hj => simp [treeCells] at hj; subst hj; exact h0
      | 1, hj => simp [treeCells] at hj; subst hj; exact h1
      | 2, hj => simp [treeCells] at hj; subst hj; exact h2
      | 3, hj => simp [treeCells] at hj; subst hj; exact h3
      | 4, hj => simp [treeCells] at hj; subst hj; exact h4
      | 5, hj => simp [treeCells] at hj; subst hj; exact h5
      | 6, hj => simp [treeCells] at hj; subst hj; exact h6
      | j + 7, hj =>
        rw [List.getElem?_append_right (by simp [treeCells])] at hj
        have := c3 j u (by simpa [treeCells] using hj)
        rw [show o + (j + 7) = o + 7 + j by omega]
        exact this
theorem append_none {P : Program} {w : World} (t ty e : TypeId) (i : TypeInfo) (size : Nat) (ht : P.underlying t = some (.slice e)) (hi : P.info? e = some i) {base : Nat}
    (v : Value) (n c : Nat) (xs : List Value) (hown : w.ownsRow base e size v n xs) :
    (Builtin.append_ #[t, t] ty #[v, .slice none 0 c]).run P w = .ok v w := by
  rcases hown.2 with ⟨rfl, rfl⟩ | ⟨g, cap, cur, rfl, _, _, hnc, _⟩
  · simp [Builtin.append_, run_underlying ht, sizeOf, typeInfo, hi, Builtin.lenOf, Builtin.firstCells]
  · simp [Builtin.append_, run_underlying ht, sizeOf, typeInfo, hi, Builtin.lenOf, Builtin.firstCells, hnc, storeCells]

/-- some slices of trees, in a block. -/
def SlicesAt (B : Nat) (w : World) (b : Nat) (gs : List Fo) : Prop :=
  b < w.heap.size ∧ ∀ k, k < gs.length → ∃ a cap, w.cell? ⟨b, k, none⟩ = some (.slice a (gs.getD k .nil).len cap) ∧ LiesF B w (.slice a (gs.getD k .nil).len cap) (gs.getD k .nil)

set_option maxRecDepth 100000 in
set_option maxHeartbeats 8000000 in
theorem concatT_any (gs : List Fo) (b B : Nat) (w : World) (hB : B ≤ w.heap.size) (hs : SlicesAt B w b gs) (hn : gs.length ≤ 100) (hT : (catF gs).len ≤ 1000000) :
    Calls Tryz.prog 110 #[.slice (some ⟨b, 0, none⟩) gs.length gs.length] w fun e w' => ∃ a cap, e = .returned (.slice a (catF gs).len cap) ∧ LiesF B w' (.slice a (catF gs).len cap) (catF gs) ∧ Below w.heap.size w w' := by
  obtain ⟨i0, hi, hz0, hz1, hz2⟩ := info_parts info_tree
  have HS := Lib.hid hs.2
  have hb := hs.1
  have HSUC := Lib.hid (fun k (hk : k < gs.length) => (congrArg Fo.len (catF_take hk)).trans (app_length _ _))
  have HLE := Lib.hid (fun k => catF_le gs k)
  have HCAT := Lib.hid (fun k (hk : k < gs.length) => catF_take hk)
  have HALL := Lib.hid (show catF (gs.take gs.length) = catF gs by rw [List.take_length])
  have HGR := Lib.hid (fun n (h : n ≤ 1000000) => grow_any n w h)
  clear hs
  go_enter Tryz.func110, Tryz.ntmps110
  go_wp2_with fail
  go_loop [3, 11] (fun s i => ∃ k : Nat, i = .int .i64 k ∧ k ≤ gs.length ∧ s = .int .i64 (catF (gs.take k)).len) (fun _ i => gs.length - (intOf i).toNat)
  case atStart => exact ⟨0, rfl, Nat.zero_le _, rfl⟩
  case round =>
    obtain ⟨k, rfl, hk, rfl⟩ := hrel
    by_cases hlt : k < gs.length
    · obtain ⟨a, cap, hc, -⟩ := HS.out k hlt
      have e1 := HSUC.out k hlt
      have e2 := HLE.out (k + 1)
      have hlen : (gs.getD k .nil).len ≤ 1000000 := by omega
      have hlk : (catF (gs.take k)).len ≤ 1000000 := by omega
      have HE := Lib.hid e1
      generalize (gs.getD k .nil).len = m at *
      clear e1 e2
      go_wp2_with fail
      go_round
      case rel => exact ⟨k + 1, by go_num, by omega, by rw [HE.out]; simp⟩
      case measure => simp [intOf]; omega
    · obtain rfl : k = gs.length := by omega
      rw [HALL.out]
      go_wp2_with fail
      refine (HGR.out _ hT).mono ?_
      rintro e w1 ⟨a0, c0, rfl, hown0, hb1⟩
      have HOWN0 := Lib.hid hown0
      have hs1 := hb1.size
      have HB1 := Lib.hid hb1
      clear hown0 hb1
      go_wp2_with fail
      go_loopw [6, 27] (fun v i wr => ∃ (k : Nat) (a : Option Addr) (c : Nat) (cs : List Value), i = .int .i64 k ∧ k ≤ gs.length ∧ v = .slice a (catF (gs.take k)).len c ∧ wr.ownsRow w.heap.size 43 7 (.slice a (catF (gs.take k)).len c) (catF (gs.take k)).len cs ∧ RowL B w (catF (gs.take k)) cs ∧ Below w.heap.size w wr) (fun _ i _ => gs.length - (intOf i).toNat)
      case atStart => exact ⟨0, a0, c0, [], rfl, Nat.zero_le _, rfl, HOWN0.out, rfl, HB1.out⟩
      case round =>
        obtain ⟨k, a, c, cs, rfl, hk, rfl, hown, hrow, hbw⟩ := hrel
        have OWN := Lib.hid hown
        have ROW := Lib.hid hrow
        have BW := Lib.hid hbw
        have hsr := hbw.size
        clear hown hrow
        by_cases hlt : k < gs.length
        · obtain ⟨ax, cx, hc, hx⟩ := HS.out k hlt
          have HE := Lib.hid (HSUC.out k hlt)
          have HC := Lib.hid (HCAT.out k hlt)
          have e2 := HLE.out (k + 1)
          have hle2 : (catF (gs.take k)).len + (gs.getD k .nil).len ≤ 1000000 := by rw [← HE.out]; omega
          have hcr := (hbw.cell (p := ⟨b, k, none⟩) hb).trans hc
          have hbr : b < wr.heap.size := by omega
          clear hc hbw e2
          generalize catF (gs.take k) = F at *
          generalize gs.getD k .nil = g at *
          rcases hx with ⟨ay, cy, hv, rfl⟩ | ⟨bx, ox, cpx, hv, h1, h2, h3, h4, hrf⟩
          · simp only [Value.slice.injEq] at hv
            obtain ⟨rfl, -, rfl⟩ := hv
            have HE2 := Lib.hid (show (catF (gs.take (k + 1))).len = F.len by rw [HE.out]; simp [Fo.len])
            have HC2 := Lib.hid (show catF (gs.take (k + 1)) = F by rw [HC.out, app_nil])
            cases ax with
            | none =>
              go_wp2_with (at_builtin; refine Lib.wpList_append_run _ rfl _ _ _ _ rfl _ _ rfl rfl _ _ (append_none 28 _ 43 i0 7 Tryz.underlying28 hi _ _ _ _ OWN.out) ?_)
              go_roundw
              case rel => exact ⟨k + 1, a, c, cs, by go_num, by omega, by rw [HE2.out], by rw [HE2.out]; exact OWN.out, by rw [HC2.out]; exact ROW.out, BW.out⟩
              case measure => simp [intOf]; omega
            | some ad =>
              go_wp2_with (at_builtin; refine wpList_append_own _ rfl _ _ 28 rfl w.heap.size 43 i0 _ 7 104 Tryz.underlying28 hi hz0 hz1 hz2 rfl (by decide) (.slice a F.len c) F.len cs rfl OWN.out ad 0 cx [] rfl rfl ?c1 ?c2 ?c3 ?c4 ?c5 ?stop)
              case c1 => intro j u hj; simp at hj
              case c2 => intro u hu; cases hu
              case c3 => unfold maxLen; omega
              case c4 => omega
              case c5 => omega
              case stop =>
                intro v' w5 hown' hgrow _
                have hform : ∃ a' c', v' = .slice a' F.len c' := by
                  rcases hown'.2 with ⟨e, h0⟩ | ⟨g', c', cur, e, _⟩
                  · exact ⟨none, 0, by rw [e, show F.len = 0 by omega]⟩
                  · exact ⟨_, _, e⟩
                obtain ⟨a', c', rfl⟩ := hform
                have B5 := Lib.hid (BW.out.grown hgrow (by omega) (fun j hj => (OWN.out.lt j hj).1))
                have O5 := Lib.hid (show w5.ownsRow w.heap.size 43 7 (.slice a' F.len c') F.len cs by simpa using hown')
                clear hown' hgrow
                go_wp2_with fail
                go_roundw
                case rel => exact ⟨k + 1, a', c', cs, by go_num, by omega, by rw [HE2.out], by rw [HE2.out]; exact O5.out, by rw [HC2.out]; exact ROW.out, B5.out⟩
                case measure => simp [intOf]; omega
          · simp only [Value.slice.injEq] at hv
            obtain ⟨rfl, -, rfl⟩ := hv
            obtain ⟨ds, hd1, hd2, hd4, hd3⟩ := rowF_cells g ox hrf
            have HD := Lib.hid (show ∀ j u, ds[j]? = some u → wr.cell? ((⟨bx, ox, none⟩ : Addr).add j) = some u from fun j u hj => by
              rw [Go.WideShapes.add_plain]
              exact (BW.out.cell (p := ⟨bx, ox + j, none⟩) h4).trans (hd3 j u hj))
            have HR2 := Lib.hid (rowL_app F g cs ds ROW.out hd1)
            clear hd3 hrf
            go_wp2_with (at_builtin; refine wpList_append_own _ rfl _ _ 28 rfl w.heap.size 43 i0 _ 7 104 Tryz.underlying28 hi hz0 hz1 hz2 rfl (by decide) (.slice a F.len c) F.len cs rfl OWN.out ⟨bx, ox, none⟩ g.len cx ds rfl hd2 ?c1 ?c2 ?c3 ?c4 ?c5 ?stop)
            case c1 => exact HD.out
            case c2 => exact hd4
            case c3 => unfold maxLen; omega
            case c4 => omega
            case c5 => omega
            case stop =>
              intro v' w5 hown' hgrow _
              have hform : ∃ a' c', v' = .slice a' (F.len + g.len) c' := by
                rcases hown'.2 with ⟨e, h0⟩ | ⟨g', c', cur, e, _⟩
                · exact ⟨none, 0, by rw [e, h0]⟩
                · exact ⟨_, _, e⟩
              obtain ⟨a', c', rfl⟩ := hform
              have B5 := Lib.hid (BW.out.grown hgrow (by omega) (fun j hj => (OWN.out.lt j hj).1))
              have O5 := Lib.hid hown'
              clear hown' hgrow
              go_wp2_with fail
              go_roundw
              case rel => exact ⟨k + 1, a', c', cs ++ ds, by go_num, by omega, by rw [HE.out], by rw [HE.out]; exact O5.out, by rw [HC.out]; exact HR2.out, B5.out⟩
              case measure => simp [intOf]; omega
        · obtain rfl : k = gs.length := by omega
          have HF := Lib.hid (show LiesF B wr (.slice a (catF gs).len c) (catF gs) by
            have hr := rowL_keeps (Keeps.of_below BW.out : Keeps B w wr) _ _ ROW.out
            have ho := OWN.out
            rw [HALL.out] at hr ho
            rcases ho.2 with ⟨e, h0⟩ | ⟨g', c', cur, e, hb', hg', hn', hc', _, _⟩
            · cases hcf : catF gs with
              | nil => exact .inl ⟨_, _, rfl, rfl⟩
              | cons h ks r => rw [hcf] at h0; simp [Fo.len] at h0
            · simp only [Value.slice.injEq] at e
              obtain ⟨rfl, -, rfl⟩ := e
              refine .inr ⟨g', 0, c, rfl, hn', by omega, by omega, (Array.getElem?_eq_some_iff.1 hg').1, rowL_row _ _ 0 hr fun j u hj => ?_⟩
              have := ho.cells (g := g') rfl j u hj
              rw [Go.WideShapes.add_plain] at this
              simpa using this)
          clear hbw
          rw [HALL.out]
          go_wp2_with fail
          go_ret
          exact ⟨_, _, rfl, HF.out, BW.out⟩
end Go.Proofs.YtcgedpfolloinaaGreat

namespace Go.Proofs.YtcgedpfolloinaaGreat
open Go.RowKit

set_option maxRecDepth 100000 in
set_option maxHeartbeats 2000000 in
theorem within_any (f : Fo) (a : Option Addr) (cap : Nat) (w : World) (hl : Lies w (.slice a f.len cap) f) (hs : f.size ≤ 1000000) :
    Calls Tryz.prog 109 #[.slice a f.len cap] w fun e w' => e = .returned (.tuple #[if bndErr f = 0 then .slice a f.len cap else .slice none 0 0, .int .i64 (bndErr f)]) ∧ Below w.heap.size w w' := by
  have C := Lib.hid (checkBounds_any f _ w hl hs)
  clear hl hs
  by_cases h0 : bndErr f = 0
  · rw [if_pos h0]
    rw [h0] at C ⊢
    clear h0
    go_enter Tryz.func109, Tryz.ntmps109
    go_wp2_with fail
    refine C.out.mono ?_
    rintro e w1 ⟨rfl, hb1⟩
    go_wp2_with fail
    go_ret2
    exact ⟨rfl, hb1⟩
  · rw [if_neg h0]
    generalize bndErr f = ef at *
    have b0 : (ef != 0) = true := by simpa using h0
    clear h0
    go_enter Tryz.func109, Tryz.ntmps109
    go_wp2_with fail
    refine C.out.mono ?_
    rintro e w1 ⟨rfl, hb1⟩
    go_wp2_with fail
    go_ret2
    exact ⟨rfl, hb1⟩

/-- a forest, if it is in the bounds. -/
def inBnd (f : Fo) : Fo × Int := if bndErr f = 0 then (f, 0) else (.nil, bndErr f)
/-- what gives a forest and an error. -/
def FoE (w : World) (r : Fo × Int) (e : Ending) (w' : World) : Prop :=
  ∃ v, e = .returned (.tuple #[v, .int .i64 r.2]) ∧ LiesF w.heap.size w' v r.1 ∧ Below w.heap.size w w'
def concatV (f g : Fo) : Fo × Int := if firstNZ [foErr f, foErr g] = 0 then inBnd (f.app g) else (.nil, firstNZ [foErr f, foErr g])
theorem len_size : ∀ f : Fo, f.len ≤ f.size
  | .nil => Nat.le_refl _
  | .cons h ks r => by have := len_size r; simp only [Fo.len, Fo.size]; omega
theorem size_app2 (f g : Fo) : (f.app g).size = f.size + g.size := Fo.size_app f g

set_option maxRecDepth 100000 in
set_option maxHeartbeats 4000000 in
theorem tconcat_any (f g : Fo) (v u : Value) (w : World) (hl : Lies w v f) (hg : Lies w u g) (hs : Small f) (hs' : Small g) :
    Calls Tryz.prog 50 #[v, u] w (FoE w (concatV f g)) := by
  have CF := Lib.hid (fun w1 (hw : Below w.heap.size w w1) => tcheck_any f v w1 (lies_below hl hw) hs)
  have CG := Lib.hid (fun w1 (hw : Below w.heap.size w w1) => tcheck_any g u w1 (lies_below hg hw) hs')
  have KF := Lib.hid (fun w1 (hw : Below w.heap.size w w1) => clone_any f.size f (Nat.le_refl _) v w1 (lies_below hl hw))
  have KG := Lib.hid (fun w1 (hw : Below w.heap.size w w1) => clone_any g.size g (Nat.le_refl _) u w1 (lies_below hg hw))
  obtain ⟨R, hR⟩ : ∃ R, concatV f g = R := ⟨_, rfl⟩
  rw [hR]
  have HR := Lib.hid hR.symm
  have hsz : (f.app g).size ≤ 1000000 := by rw [size_app2]; have := hs.1; have := hs'.1; omega
  obtain ⟨a, cap, rfl⟩ := lies_form hl
  obtain ⟨a', cap', rfl⟩ := lies_form hg
  clear hl hg hs hs' hR
  unfold concatV at HR
  generalize foErr f = e1 at *
  generalize foErr g = e2 at *
  go_enter Tryz.func50, Tryz.ntmps50
  go_wp2_with fail
  refine (CF.out w (Below.refl _ _)).mono ?_
  rintro e w1 ⟨rfl, hb1⟩
  go_wp2_with fail
  refine (CG.out w1 hb1).mono ?_
  rintro e w2 ⟨rfl, hb2⟩
  have B2 := hb1.trans (hb2.mono hb1.size)
  clear hb1 hb2
  go_wp2_with fail
  have B3 : Below w.heap.size w (w2.alloc (.cells #[.int .i64 e1, .int .i64 e2] 32)) := B2.alloc B2.size _
  have hi3 := ints_pair (World.alloc_heap_new w2 (.cells #[.int .i64 e1, .int .i64 e2] 32)) (by simp)
  generalize w2.alloc (.cells #[.int .i64 e1, .int .i64 e2] 32) = w3 at *
  refine (terr_any _ _ _ hi3 (by simp)).mono ?_
  rintro e w4 ⟨rfl, hw⟩
  obtain rfl := hw
  generalize firstNZ [e1, e2] = ee at *
  clear hi3 B2
  by_cases h0 : ee = 0
  · have HX := Lib.hid (HR.out.trans (if_pos h0))
    have b0 : (ee != 0) = false := by simpa using h0
    clear h0 HR
    go_wp2_with fail
    refine (KF.out w3 B3).mono ?_
    rintro e w4 ⟨a1, c1, rfl, hf4, hb4⟩
    have B4 := B3.trans (hb4.mono B3.size)
    have HF4 := Lib.hid (liesF_mono B3.size hf4)
    clear hf4 hb4
    go_wp2_with fail
    refine (KG.out w4 B4).mono ?_
    rintro e w5 ⟨a2, c2, rfl, hg5, hb5⟩
    have B5 := B4.trans (hb5.mono B4.size)
    have HF5 := Lib.hid (liesF_keeps HF4.out (Keeps.of_below hb5 : Keeps w.heap.size w4 w5))
    have HG5 := Lib.hid (liesF_mono B4.size hg5)
    clear hg5 hb5 HF4
    go_wp2_with fail
    have kk := World.alloc_heap_new w5 (.cells #[.slice a1 f.len c1, .slice a2 g.len c2] 28)
    have B6 : Below w.heap.size w (w5.alloc (.cells #[.slice a1 f.len c1, .slice a2 g.len c2] 28)) := B5.alloc B5.size _
    have hk6 : Keeps w.heap.size w5 (w5.alloc (.cells #[.slice a1 f.len c1, .slice a2 g.len c2] 28)) := Keeps.of_below ((Below.refl _ _).alloc (Nat.le_refl _) _)
    have hs6 : w5.heap.size < (w5.alloc (.cells #[.slice a1 f.len c1, .slice a2 g.len c2] 28)).heap.size := by simp
    have HS := Lib.hid (show SlicesAt w.heap.size (w5.alloc (.cells #[.slice a1 f.len c1, .slice a2 g.len c2] 28)) w5.heap.size [f, g] from
      ⟨hs6, fun k hk => by
        match k, hk with
        | 0, _ => exact ⟨a1, c1, cell_of_block kk rfl, liesF_keeps HF5.out hk6⟩
        | 1, _ => exact ⟨a2, c2, cell_of_block kk rfl, liesF_keeps HG5.out hk6⟩⟩)
    clear kk hk6
    generalize w5.alloc (.cells #[.slice a1 f.len c1, .slice a2 g.len c2] 28) = w6 at *
    have hcat : catF [f, g] = f.app g := by simp [catF, app_nil]
    have CT := Lib.hid (concatT_any [f, g] w5.heap.size w.heap.size w6 B6.size HS.out (by simp) (by rw [hcat]; have := len_size (f.app g); omega))
    rw [hcat] at CT
    refine CT.out.mono ?_
    rintro e w7 ⟨a7, c7, rfl, hl7, hb7⟩
    have B7 := B6.trans (hb7.mono B6.size)
    have HL7 := Lib.hid hl7
    have WI := Lib.hid (within_any (f.app g) a7 c7 w7 (liesF_lies hl7) hsz)
    clear hl7 hb7
    by_cases hb : bndErr (f.app g) = 0
    · have HY := HX.out.trans (if_pos hb)
      subst HY
      rw [hb, if_pos rfl] at WI
      clear hb
      go_wp2_with fail
      refine WI.out.mono ?_
      rintro e w8 ⟨rfl, hb8⟩
      have HL8 := Lib.hid (liesF_keeps HL7.out (Keeps.of_below hb8 : Keeps w.heap.size w7 w8))
      have B8 := Lib.hid (B7.trans (hb8.mono B7.size))
      clear hb8
      go_wp2_with fail
      go_ret2
      exact ⟨_, rfl, HL8.out, B8.out⟩
    · have HY := HX.out.trans (if_neg hb)
      subst HY
      rw [if_neg hb] at WI
      clear hb
      go_wp2_with fail
      refine WI.out.mono ?_
      rintro e w8 ⟨rfl, hb8⟩
      have B8 := Lib.hid (B7.trans (hb8.mono B7.size))
      clear hb8
      go_wp2_with fail
      go_ret2
      exact ⟨.slice none 0 0, rfl, .inl ⟨_, _, rfl, rfl⟩, B8.out⟩
  · have HX := HR.out.trans (if_neg h0)
    subst HX
    have b0 : (ee != 0) = true := by simpa using h0
    clear h0
    go_wp2_with fail
    go_ret2
    exact ⟨.slice none 0 0, rfl, .inl ⟨_, _, rfl, rfl⟩, B3⟩
end Go.Proofs.YtcgedpfolloinaaGreat

namespace Go.Proofs.YtcgedpfolloinaaGreat
open Go.RowKit

def cmpL : List Int → List Int → Int
  | [], [] => 0
  | [], _ :: _ => -1
  | _ :: _, [] => 1
  | a :: s, b :: t => if cmpM a b ≠ 0 then cmpM a b else cmpL s t
theorem cmpL_step {l m : List Int} {k : Nat} (hl : k < l.length) (hm : k < m.length) : cmpL (l.drop k) (m.drop k) = if cmpM (l.getD k 0) (m.getD k 0) ≠ 0 then cmpM (l.getD k 0) (m.getD k 0) else cmpL (l.drop (k + 1)) (m.drop (k + 1)) := by
  rw [List.drop_eq_getElem_cons hl, List.drop_eq_getElem_cons hm, cmpL]
  simp only [List.getD_eq_getElem?_getD, List.getElem?_eq_getElem hl, List.getElem?_eq_getElem hm, Option.getD_some]
theorem cmpL_one {l m : List Int} {k : Nat} (hl : k < l.length) (hm : m.length ≤ k) : cmpL (l.drop k) (m.drop k) = 1 := by
  rw [List.drop_eq_getElem_cons hl, List.drop_of_length_le hm, cmpL]
theorem cmpL_neg {l m : List Int} {k : Nat} (hl : l.length ≤ k) (hm : k < m.length) : cmpL (l.drop k) (m.drop k) = -1 := by
  rw [List.drop_eq_getElem_cons hm, List.drop_of_length_le hl, cmpL]
theorem cmpL_nil {l m : List Int} {k : Nat} (hl : l.length ≤ k) (hm : m.length ≤ k) : cmpL (l.drop k) (m.drop k) = 0 := by
  rw [List.drop_of_length_le hm, List.drop_of_length_le hl, cmpL]

set_option maxRecDepth 100000 in
set_option maxHeartbeats 2000000 in
theorem compareInts_any (l m : List Int) (v u : Value) (w : World) (h1 : IntsLie w v l) (h2 : IntsLie w u m) (hl : l.length ≤ 1000000) (hm : m.length ≤ 1000000) :
    Calls Tryz.prog 101 #[v, u] w fun e w' => e = .returned (.int .i64 (cmpL l m)) ∧ w = w' := by
  obtain ⟨a1, c1, rfl⟩ := ints_form h1
  obtain ⟨a2, c2, rfl⟩ := ints_form h2
  have H1 := Lib.hid h1
  have H2 := Lib.hid h2
  clear h1 h2
  go_enter Tryz.func101, Tryz.ntmps101
  go_wp2_with fail
  go_loop [11] (fun i => ∃ k : Nat, i = .int .i64 k ∧ k ≤ l.length ∧ k ≤ m.length ∧ cmpL l m = cmpL (l.drop k) (m.drop k)) (fun i => l.length - (intOf i).toNat)
  case atStart => exact ⟨0, rfl, Nat.zero_le _, Nat.zero_le _, rfl⟩
  case round =>
    obtain ⟨k, rfl, hk, hk2, he⟩ := hrel
    have HE := Lib.hid he
    clear he
    by_cases hlt : k < l.length
    · by_cases hlt2 : k < m.length
      · have d2 : decide (m.length ≤ k) = false := decide_eq_false (by omega)
        obtain ⟨b, off, cap', hs, hcap, hb, hc⟩ := ints_cells H1.out (by intro e; subst e; simp at hlt)
        simp only [Value.slice.injEq] at hs
        obtain ⟨rfl, -, rfl⟩ := hs
        obtain ⟨b', off', cap'', hs, hcap', hb', hc'⟩ := ints_cells H2.out (by intro e; subst e; simp at hlt2)
        simp only [Value.slice.injEq] at hs
        obtain ⟨rfl, -, rfl⟩ := hs
        have q1 := hc k hlt
        have q2 := hc' k hlt2
        have HS := Lib.hid (HE.out.trans (cmpL_step hlt hlt2))
        clear hc hc'
        generalize l.getD k 0 = x at *
        generalize m.getD k 0 = y at *
        have CM := Lib.hid (compare_any x y w)
        generalize cmpM x y = c at *
        by_cases hx : c = 0
        · have HX := Lib.hid (HS.out.trans (if_neg (by simpa using hx)))
          have b0 : (c != 0) = false := by simpa using hx
          clear hx
          go_wp2_with fail
          refine CM.out.mono ?_; rintro e w' ⟨rfl, rfl⟩
          go_wp2_with fail
          go_round
          case rel => exact ⟨k + 1, by go_num, by omega, by omega, HX.out⟩
          case measure => simp [intOf]; omega
        · have HX := Lib.hid (HS.out.trans (if_pos (by simpa using hx)))
          have b0 : (c != 0) = true := by simpa using hx
          clear hx
          go_wp2_with fail
          refine CM.out.mono ?_; rintro e w' ⟨rfl, rfl⟩
          go_wp2_with fail
          go_ret
          exact ⟨ret_int' HX.out.symm, rfl⟩
      · have d2 : decide (m.length ≤ k) = true := decide_eq_true (by omega)
        have HX := Lib.hid (HE.out.trans (cmpL_one hlt (by omega)))
        obtain ⟨b, off, cap', hs, hcap, hb, hc⟩ := ints_cells H1.out (by intro e; subst e; simp at hlt)
        simp only [Value.slice.injEq] at hs
        obtain ⟨rfl, -, rfl⟩ := hs
        have q1 := hc k hlt
        clear hc
        go_wp2_with fail
        go_ret
        exact ⟨ret_int' HX.out.symm, rfl⟩
    · by_cases hlt2 : k < m.length
      · have HX := Lib.hid (HE.out.trans (cmpL_neg (by omega) hlt2))
        have d2 : decide (l.length < m.length) = true := decide_eq_true (by omega)
        go_wp2_with fail
        go_ret
        exact ⟨ret_int' HX.out.symm, rfl⟩
      · have HX := Lib.hid (HE.out.trans (cmpL_nil (by omega) (by omega)))
        have d2 : decide (l.length < m.length) = false := decide_eq_false (by omega)
        go_wp2_with fail
        go_ret
        exact ⟨ret_int' HX.out.symm, rfl⟩

theorem info_int2 : (Tryz.prog.info? 3).map (fun i => (i.zero, i.size, i.bytes)) = some (some (.int .i64 0), 1, 8) := by kernel_rfl
/-- ints in no block below B. -/
def IntsF (B : Nat) (w : World) (v : Value) (l : List Int) : Prop :=
  (∃ a cap, v = .slice a 0 cap ∧ l = []) ∨ ∃ b off cap, v = .slice (some ⟨b, off, none⟩) l.length cap ∧ l.length ≤ cap ∧ B ≤ b ∧ b < w.heap.size ∧ ∀ k, k < l.length → w.cell? ⟨b, off + k, none⟩ = some (.int .i64 (l.getD k 0))
theorem intsF_lies {B : Nat} {w : World} {v : Value} {l : List Int} (h : IntsF B w v l) : IntsLie w v l := by
  rcases h with h | ⟨b, off, cap, h1, h2, h3, h4, h5⟩
  · exact .inl h
  · exact .inr ⟨b, off, cap, h1, h2, h4, h5⟩
theorem intsF_keeps {B : Nat} {w w' : World} {v : Value} {l : List Int} (h : IntsF B w v l) (k : Keeps B w w') : IntsF B w' v l := by
  rcases h with h | ⟨b, off, cap, h1, h2, h3, h4, h5⟩
  · exact .inl h
  · exact .inr ⟨b, off, cap, h1, h2, h3, Nat.lt_of_lt_of_le h4 k.1, fun i hi => (k.2 _ _ h3 h4).trans (h5 i hi)⟩
theorem intsF_form {B : Nat} {w : World} {v : Value} {l : List Int} (h : IntsF B w v l) : ∃ a cap, v = .slice a l.length cap := ints_form (intsF_lies h)
theorem intsF_owned {W : World} {base : Nat} {v : Value} {l : List Int} (h : W.ownsRow base 3 1 v l.length (l.map (Value.int .i64))) : IntsF base W v l := by
  rcases h.2 with ⟨rfl, h0⟩ | ⟨g, cap, cur, rfl, hb, hg, hn, hcap, hs, ht⟩
  · exact .inl ⟨_, _, rfl, List.eq_nil_of_length_eq_zero h0⟩
  · refine .inr ⟨g, 0, cap, rfl, hn, hb, (Array.getElem?_eq_some_iff.1 hg).1, fun k hk => ?_⟩
    have e1 : (l.map (Value.int .i64))[k]? = some (.int .i64 (l.getD k 0)) := by
      rw [List.getElem?_map, List.getD_eq_getElem?_getD, List.getElem?_eq_getElem hk]; rfl
    rw [← ht, List.getElem?_take, if_pos (by omega), Array.getElem?_toList] at e1
    rw [Nat.zero_add]
    exact cell_of_block hg e1

set_option maxRecDepth 100000 in
set_option maxHeartbeats 1000000 in
theorem cloneInts_any (v : Value) (l : List Int) (w : World) (h : IntsLie w v l) (hl : l.length ≤ 1000000) :
    Calls Tryz.prog 102 #[v] w fun e w' => ∃ v', e = .returned v' ∧ IntsF w.heap.size w' v' l ∧ Below w.heap.size w w' := by
  obtain ⟨i0, hi, hz0, hz1, hz2⟩ := info_parts info_int2
  obtain ⟨a, cap, rfl⟩ := ints_form h
  have H := Lib.hid h
  clear h
  cases a with
  | none =>
    have hl0 : l = [] := by
      rcases H.out with ⟨_, _, h1, h2⟩ | ⟨b, off, cap', h1, _⟩
      · exact h2
      · simp at h1
    subst hl0
    have hnil := fun (w : World) => Lib.run_eql_slice_nil (P := Tryz.prog) w 41 3 none 0 cap 0 0 Tryz.underlying41
    simp only [List.length_nil]
    go_enter Tryz.func102, Tryz.ntmps102
    go_wp2_with fail
    go_ret
    exact ⟨_, rfl, .inl ⟨_, _, rfl, rfl⟩, by ((repeat' (first | exact Below.refl _ _ | assumption | refine Below.setCell ?_ ?_ _ | refine bdrewN ?_ _ | refine Below.drew ?_ | refine Below.alloc ?_ ?_ _ | refine bbehind ?_ (by assumption) ?_)); all_goals first | (simp; done) | (simp; omega) | omega)⟩
  | some ad =>
    have hnil := fun (w : World) => Lib.run_eql_slice_nil (P := Tryz.prog) w 41 3 (some ad) l.length cap 0 0 Tryz.underlying41
    have hnews : ∀ j u, (l.map (Value.int .i64))[j]? = some u → (w.alloc (.cells #[] 3)).cell? (ad.add j) = some u := by
      intro j u hj
      have hjl : j < l.length := by have := (List.getElem?_eq_some_iff.1 hj).1; simpa using this
      obtain ⟨b, off, cap', hs, _, hb, hc⟩ := ints_cells H.out (by intro e; subst e; simp at hjl)
      simp only [Value.slice.injEq, Option.some.injEq] at hs
      obtain ⟨rfl, -, -⟩ := hs
      rw [World.cell?_of_block (w := w) (Below.heap_alloc _ _ _ (by rw [Go.WideShapes.add_plain]; exact hb)), Go.WideShapes.add_plain, hc j hjl, ← hj]
      rw [List.getElem?_map, List.getD_eq_getElem?_getD, List.getElem?_eq_getElem hjl]; rfl
    have hown0 : (w.alloc (.cells #[] 3)).ownsRow w.heap.size 3 1 (.slice (some ⟨w.heap.size, 0, none⟩) 0 0) 0 [] := World.ownsRow_lit w #[] 0 (Nat.le_refl _) (by decide) rfl
    have HN := Lib.hid hnews
    clear hnews
    go_enter Tryz.func102, Tryz.ntmps102
    go_wp2_with (at_builtin; refine wpList_append_own _ rfl _ _ 41 rfl w.heap.size 3 i0 (.int .i64 0) 1 8 Tryz.underlying41 hi hz0 hz1 hz2 rfl (by decide) _ _ _ rfl hown0 ad l.length cap (l.map (Value.int .i64)) rfl (by simp) HN.out ?c1 ?c2 ?c3 ?c4 ?stop)
    case c1 =>
      intro u hu
      obtain ⟨q, _, rfl⟩ := List.mem_map.1 hu
      rfl
    case c2 => unfold maxLen; omega
    case c3 => omega
    case c4 => simp
    case stop =>
      intro v' w2 hown hgrow _
      have HO := Lib.hid hown
      have HB := Lib.hid ((((Below.refl w.heap.size w).alloc (Nat.le_refl _) _)).grown hgrow (by simp) (fun k hk => by simp [Value.ownBlock] at hk; omega))
      clear hown hgrow
      go_wp2_with fail
      go_ret
      exact ⟨v', rfl, intsF_owned (by simpa using HO.out), HB.out⟩
end Go.Proofs.YtcgedpfolloinaaGreat
