/- What the proof of PrfTreeOrders rests on, part 10 of 11. -/
import Derived.Deep.DeepCutAuto
import Derived.Test.YtcgedpfolloinaaGreatPPrfTreeOrders9
namespace Go.Proofs.YtcgedpfolloinaaGreat
open Go.RowKit

set_option maxHeartbeats 1000000 in
theorem compareNumbers_any (an ad bn bd : Int) (w : World) :
    Calls Tryz.prog 138 #[.agg #[.int .i64 an, .int .i64 ad], .agg #[.int .i64 bn, .int .i64 bd]] w fun e w' => e = .returned (.int .i64 (cmpT an ad bn bd).1) ∧ Below w.heap.size w w' := by
  have C := Lib.hid (fun w => cmp_any an ad bn bd w)
  generalize cmpT an ad bn bd = r at *
  go_enter Tryz.func138, Tryz.ntmps138
  go_wp2_with fail
  refine (C.out _).mono ?_
  rintro e w1 ⟨rfl, hb1⟩
  have hs1 := hb1.size
  simp at hs1
  go_wp2_with fail
  go_ret
  exact ⟨rfl, (show Below w.heap.size w ((w.alloc (.cells #[.int .i64 an, .int .i64 ad] 25)).alloc (.cells #[.int .i64 bn, .int .i64 bd] 25)) from by ((repeat' (first | exact Below.refl _ _ | assumption | refine Below.setCell ?_ ?_ _ | refine bdrewN ?_ _ | refine Below.drew ?_ | refine Below.alloc ?_ ?_ _ | refine bbehind ?_ (by assumption) ?_)); all_goals first | (simp; done) | (simp; omega) | omega)).trans (hb1.mono (by simp; omega))⟩

set_option maxRecDepth 100000 in
set_option maxHeartbeats 2000000 in
theorem aspect1_any (h i : Hd) (pa pb : Option Addr) (ca cb : Nat) (w : World) :
    Calls Tryz.prog 130 #[.agg #[.int .i64 h.k, .string ⟨h.l.toArray⟩, .slice pa h.ats.length ca, .int .i64 h.n, .int .i64 h.d, .string ⟨h.x.toArray⟩], .agg #[.int .i64 i.k, .string ⟨i.l.toArray⟩, .slice pb i.ats.length cb, .int .i64 i.n, .int .i64 i.d, .string ⟨i.x.toArray⟩]] w fun e w' => e = .returned (.int .i64 (cmpM h.k i.k)) ∧ Below w.heap.size w w' := by
  go_enter Tryz.func130, Tryz.ntmps130
  go_upto_region 1 with fail
  have k0 : ((w.alloc (.cells #[.int .i64 h.k, .string ⟨h.l.toArray⟩, .slice pa h.ats.length ca, .int .i64 h.n, .int .i64 h.d, .string ⟨h.x.toArray⟩] 27)).alloc (.cells #[.int .i64 i.k, .string ⟨i.l.toArray⟩, .slice pb i.ats.length cb, .int .i64 i.n, .int .i64 i.d, .string ⟨i.x.toArray⟩] 27)).heap[w.heap.size]? = _ := (Below.heap_alloc _ _ _ (by simp)).trans (World.alloc_heap_new w (.cells #[.int .i64 h.k, .string ⟨h.l.toArray⟩, .slice pa h.ats.length ca, .int .i64 h.n, .int .i64 h.d, .string ⟨h.x.toArray⟩] 27))
  have k1 := World.alloc_heap_new (w.alloc (.cells #[.int .i64 h.k, .string ⟨h.l.toArray⟩, .slice pa h.ats.length ca, .int .i64 h.n, .int .i64 h.d, .string ⟨h.x.toArray⟩] 27)) (.cells #[.int .i64 i.k, .string ⟨i.l.toArray⟩, .slice pb i.ats.length cb, .int .i64 i.n, .int .i64 i.d, .string ⟨i.x.toArray⟩] 27)
  rw [show (w.alloc (.cells #[.int .i64 h.k, .string ⟨h.l.toArray⟩, .slice pa h.ats.length ca, .int .i64 h.n, .int .i64 h.d, .string ⟨h.x.toArray⟩] 27)).heap.size = w.heap.size + 1 by simp] at k1
  have B0 : Below w.heap.size w ((w.alloc (.cells #[.int .i64 h.k, .string ⟨h.l.toArray⟩, .slice pa h.ats.length ca, .int .i64 h.n, .int .i64 h.d, .string ⟨h.x.toArray⟩] 27)).alloc (.cells #[.int .i64 i.k, .string ⟨i.l.toArray⟩, .slice pb i.ats.length cb, .int .i64 i.n, .int .i64 i.d, .string ⟨i.x.toArray⟩] 27)) := by ((repeat' (first | exact Below.refl _ _ | assumption | refine Below.setCell ?_ ?_ _ | refine bdrewN ?_ _ | refine Below.drew ?_ | refine Below.alloc ?_ ?_ _ | refine bbehind ?_ (by assumption) ?_)); all_goals first | (simp; done) | (simp; omega) | omega)
  have hs0 : w.heap.size + 2 ≤ ((w.alloc (.cells #[.int .i64 h.k, .string ⟨h.l.toArray⟩, .slice pa h.ats.length ca, .int .i64 h.n, .int .i64 h.d, .string ⟨h.x.toArray⟩] 27)).alloc (.cells #[.int .i64 i.k, .string ⟨i.l.toArray⟩, .slice pb i.ats.length cb, .int .i64 i.n, .int .i64 i.d, .string ⟨i.x.toArray⟩] 27)).heap.size := by simp
  generalize (w.alloc (.cells #[.int .i64 h.k, .string ⟨h.l.toArray⟩, .slice pa h.ats.length ca, .int .i64 h.n, .int .i64 h.d, .string ⟨h.x.toArray⟩] 27)).alloc (.cells #[.int .i64 i.k, .string ⟨i.l.toArray⟩, .slice pb i.ats.length cb, .int .i64 i.n, .int .i64 i.d, .string ⟨i.x.toArray⟩] 27) = W at *
  have d0 : W.cell? ⟨w.heap.size, 0, none⟩ = some (.int .i64 h.k) := cell_of_block k0 rfl
  have d1 : W.cell? ⟨w.heap.size, 1, none⟩ = some (.string ⟨h.l.toArray⟩) := cell_of_block k0 rfl
  have d2 : W.cell? ⟨w.heap.size, 2, none⟩ = some (.slice pa h.ats.length ca) := cell_of_block k0 rfl
  have d3 : W.cell? ⟨w.heap.size, 3, none⟩ = some (.int .i64 h.n) := cell_of_block k0 rfl
  have d4 : W.cell? ⟨w.heap.size, 4, none⟩ = some (.int .i64 h.d) := cell_of_block k0 rfl
  have d5 : W.cell? ⟨w.heap.size, 5, none⟩ = some (.string ⟨h.x.toArray⟩) := cell_of_block k0 rfl
  have e0 : W.cell? ⟨w.heap.size + 1, 0, none⟩ = some (.int .i64 i.k) := cell_of_block k1 rfl
  have e1 : W.cell? ⟨w.heap.size + 1, 1, none⟩ = some (.string ⟨i.l.toArray⟩) := cell_of_block k1 rfl
  have e2 : W.cell? ⟨w.heap.size + 1, 2, none⟩ = some (.slice pb i.ats.length cb) := cell_of_block k1 rfl
  have e3 : W.cell? ⟨w.heap.size + 1, 3, none⟩ = some (.int .i64 i.n) := cell_of_block k1 rfl
  have e4 : W.cell? ⟨w.heap.size + 1, 4, none⟩ = some (.int .i64 i.d) := cell_of_block k1 rfl
  have e5 : W.cell? ⟨w.heap.size + 1, 5, none⟩ = some (.string ⟨i.x.toArray⟩) := cell_of_block k1 rfl
  clear k0 k1
  go_wp2_with fail
  refine (cmpKind_any _ _ _).mono ?_
  rintro e w1 ⟨rfl, hw⟩
  obtain rfl := hw
  go_wp2_with fail
  go_ret
  exact ⟨rfl, B0⟩

set_option maxRecDepth 100000 in
set_option maxHeartbeats 2000000 in
theorem aspect2_any (h i : Hd) (pa pb : Option Addr) (ca cb : Nat) (w : World) :
    Calls Tryz.prog 132 #[.agg #[.int .i64 h.k, .string ⟨h.l.toArray⟩, .slice pa h.ats.length ca, .int .i64 h.n, .int .i64 h.d, .string ⟨h.x.toArray⟩], .agg #[.int .i64 i.k, .string ⟨i.l.toArray⟩, .slice pb i.ats.length cb, .int .i64 i.n, .int .i64 i.d, .string ⟨i.x.toArray⟩]] w fun e w' => e = .returned (.int .i64 (strL h.l i.l)) ∧ Below w.heap.size w w' := by
  go_enter Tryz.func132, Tryz.ntmps132
  go_upto_region 1 with fail
  have k0 : ((w.alloc (.cells #[.int .i64 h.k, .string ⟨h.l.toArray⟩, .slice pa h.ats.length ca, .int .i64 h.n, .int .i64 h.d, .string ⟨h.x.toArray⟩] 27)).alloc (.cells #[.int .i64 i.k, .string ⟨i.l.toArray⟩, .slice pb i.ats.length cb, .int .i64 i.n, .int .i64 i.d, .string ⟨i.x.toArray⟩] 27)).heap[w.heap.size]? = _ := (Below.heap_alloc _ _ _ (by simp)).trans (World.alloc_heap_new w (.cells #[.int .i64 h.k, .string ⟨h.l.toArray⟩, .slice pa h.ats.length ca, .int .i64 h.n, .int .i64 h.d, .string ⟨h.x.toArray⟩] 27))
  have k1 := World.alloc_heap_new (w.alloc (.cells #[.int .i64 h.k, .string ⟨h.l.toArray⟩, .slice pa h.ats.length ca, .int .i64 h.n, .int .i64 h.d, .string ⟨h.x.toArray⟩] 27)) (.cells #[.int .i64 i.k, .string ⟨i.l.toArray⟩, .slice pb i.ats.length cb, .int .i64 i.n, .int .i64 i.d, .string ⟨i.x.toArray⟩] 27)
  rw [show (w.alloc (.cells #[.int .i64 h.k, .string ⟨h.l.toArray⟩, .slice pa h.ats.length ca, .int .i64 h.n, .int .i64 h.d, .string ⟨h.x.toArray⟩] 27)).heap.size = w.heap.size + 1 by simp] at k1
  have B0 : Below w.heap.size w ((w.alloc (.cells #[.int .i64 h.k, .string ⟨h.l.toArray⟩, .slice pa h.ats.length ca, .int .i64 h.n, .int .i64 h.d, .string ⟨h.x.toArray⟩] 27)).alloc (.cells #[.int .i64 i.k, .string ⟨i.l.toArray⟩, .slice pb i.ats.length cb, .int .i64 i.n, .int .i64 i.d, .string ⟨i.x.toArray⟩] 27)) := by ((repeat' (first | exact Below.refl _ _ | assumption | refine Below.setCell ?_ ?_ _ | refine bdrewN ?_ _ | refine Below.drew ?_ | refine Below.alloc ?_ ?_ _ | refine bbehind ?_ (by assumption) ?_)); all_goals first | (simp; done) | (simp; omega) | omega)
  have hs0 : w.heap.size + 2 ≤ ((w.alloc (.cells #[.int .i64 h.k, .string ⟨h.l.toArray⟩, .slice pa h.ats.length ca, .int .i64 h.n, .int .i64 h.d, .string ⟨h.x.toArray⟩] 27)).alloc (.cells #[.int .i64 i.k, .string ⟨i.l.toArray⟩, .slice pb i.ats.length cb, .int .i64 i.n, .int .i64 i.d, .string ⟨i.x.toArray⟩] 27)).heap.size := by simp
  generalize (w.alloc (.cells #[.int .i64 h.k, .string ⟨h.l.toArray⟩, .slice pa h.ats.length ca, .int .i64 h.n, .int .i64 h.d, .string ⟨h.x.toArray⟩] 27)).alloc (.cells #[.int .i64 i.k, .string ⟨i.l.toArray⟩, .slice pb i.ats.length cb, .int .i64 i.n, .int .i64 i.d, .string ⟨i.x.toArray⟩] 27) = W at *
  have d0 : W.cell? ⟨w.heap.size, 0, none⟩ = some (.int .i64 h.k) := cell_of_block k0 rfl
  have d1 : W.cell? ⟨w.heap.size, 1, none⟩ = some (.string ⟨h.l.toArray⟩) := cell_of_block k0 rfl
  have d2 : W.cell? ⟨w.heap.size, 2, none⟩ = some (.slice pa h.ats.length ca) := cell_of_block k0 rfl
  have d3 : W.cell? ⟨w.heap.size, 3, none⟩ = some (.int .i64 h.n) := cell_of_block k0 rfl
  have d4 : W.cell? ⟨w.heap.size, 4, none⟩ = some (.int .i64 h.d) := cell_of_block k0 rfl
  have d5 : W.cell? ⟨w.heap.size, 5, none⟩ = some (.string ⟨h.x.toArray⟩) := cell_of_block k0 rfl
  have e0 : W.cell? ⟨w.heap.size + 1, 0, none⟩ = some (.int .i64 i.k) := cell_of_block k1 rfl
  have e1 : W.cell? ⟨w.heap.size + 1, 1, none⟩ = some (.string ⟨i.l.toArray⟩) := cell_of_block k1 rfl
  have e2 : W.cell? ⟨w.heap.size + 1, 2, none⟩ = some (.slice pb i.ats.length cb) := cell_of_block k1 rfl
  have e3 : W.cell? ⟨w.heap.size + 1, 3, none⟩ = some (.int .i64 i.n) := cell_of_block k1 rfl
  have e4 : W.cell? ⟨w.heap.size + 1, 4, none⟩ = some (.int .i64 i.d) := cell_of_block k1 rfl
  have e5 : W.cell? ⟨w.heap.size + 1, 5, none⟩ = some (.string ⟨i.x.toArray⟩) := cell_of_block k1 rfl
  clear k0 k1
  go_wp2_with fail
  refine (strCompare_any _ _ _).mono ?_
  rintro e w1 ⟨rfl, hw⟩
  obtain rfl := hw
  go_wp2_with fail
  go_ret
  exact ⟨rfl, B0⟩

set_option maxRecDepth 100000 in
set_option maxHeartbeats 2000000 in
theorem aspect3_any (h i : Hd) (pa pb : Option Addr) (ca cb : Nat) (w : World) (ha : AttrsLie w (.slice pa h.ats.length ca) h.ats) (hb : AttrsLie w (.slice pb i.ats.length cb) i.ats) :
    Calls Tryz.prog 134 #[.agg #[.int .i64 h.k, .string ⟨h.l.toArray⟩, .slice pa h.ats.length ca, .int .i64 h.n, .int .i64 h.d, .string ⟨h.x.toArray⟩], .agg #[.int .i64 i.k, .string ⟨i.l.toArray⟩, .slice pb i.ats.length cb, .int .i64 i.n, .int .i64 i.d, .string ⟨i.x.toArray⟩]] w fun e w' => e = .returned (.int .i64 (atsL h.ats i.ats)) ∧ Below w.heap.size w w' := by
  have HA := Lib.hid ha
  have HB := Lib.hid hb
  clear ha hb
  go_enter Tryz.func134, Tryz.ntmps134
  go_upto_region 1 with fail
  have k0 : ((w.alloc (.cells #[.int .i64 h.k, .string ⟨h.l.toArray⟩, .slice pa h.ats.length ca, .int .i64 h.n, .int .i64 h.d, .string ⟨h.x.toArray⟩] 27)).alloc (.cells #[.int .i64 i.k, .string ⟨i.l.toArray⟩, .slice pb i.ats.length cb, .int .i64 i.n, .int .i64 i.d, .string ⟨i.x.toArray⟩] 27)).heap[w.heap.size]? = _ := (Below.heap_alloc _ _ _ (by simp)).trans (World.alloc_heap_new w (.cells #[.int .i64 h.k, .string ⟨h.l.toArray⟩, .slice pa h.ats.length ca, .int .i64 h.n, .int .i64 h.d, .string ⟨h.x.toArray⟩] 27))
  have k1 := World.alloc_heap_new (w.alloc (.cells #[.int .i64 h.k, .string ⟨h.l.toArray⟩, .slice pa h.ats.length ca, .int .i64 h.n, .int .i64 h.d, .string ⟨h.x.toArray⟩] 27)) (.cells #[.int .i64 i.k, .string ⟨i.l.toArray⟩, .slice pb i.ats.length cb, .int .i64 i.n, .int .i64 i.d, .string ⟨i.x.toArray⟩] 27)
  rw [show (w.alloc (.cells #[.int .i64 h.k, .string ⟨h.l.toArray⟩, .slice pa h.ats.length ca, .int .i64 h.n, .int .i64 h.d, .string ⟨h.x.toArray⟩] 27)).heap.size = w.heap.size + 1 by simp] at k1
  have B0 : Below w.heap.size w ((w.alloc (.cells #[.int .i64 h.k, .string ⟨h.l.toArray⟩, .slice pa h.ats.length ca, .int .i64 h.n, .int .i64 h.d, .string ⟨h.x.toArray⟩] 27)).alloc (.cells #[.int .i64 i.k, .string ⟨i.l.toArray⟩, .slice pb i.ats.length cb, .int .i64 i.n, .int .i64 i.d, .string ⟨i.x.toArray⟩] 27)) := by ((repeat' (first | exact Below.refl _ _ | assumption | refine Below.setCell ?_ ?_ _ | refine bdrewN ?_ _ | refine Below.drew ?_ | refine Below.alloc ?_ ?_ _ | refine bbehind ?_ (by assumption) ?_)); all_goals first | (simp; done) | (simp; omega) | omega)
  have hs0 : w.heap.size + 2 ≤ ((w.alloc (.cells #[.int .i64 h.k, .string ⟨h.l.toArray⟩, .slice pa h.ats.length ca, .int .i64 h.n, .int .i64 h.d, .string ⟨h.x.toArray⟩] 27)).alloc (.cells #[.int .i64 i.k, .string ⟨i.l.toArray⟩, .slice pb i.ats.length cb, .int .i64 i.n, .int .i64 i.d, .string ⟨i.x.toArray⟩] 27)).heap.size := by simp
  generalize (w.alloc (.cells #[.int .i64 h.k, .string ⟨h.l.toArray⟩, .slice pa h.ats.length ca, .int .i64 h.n, .int .i64 h.d, .string ⟨h.x.toArray⟩] 27)).alloc (.cells #[.int .i64 i.k, .string ⟨i.l.toArray⟩, .slice pb i.ats.length cb, .int .i64 i.n, .int .i64 i.d, .string ⟨i.x.toArray⟩] 27) = W at *
  have LL := Lib.hid (listsAttr_any h.ats i.ats _ _ W (attrs_below HA.out B0) (attrs_below HB.out B0))
  have d0 : W.cell? ⟨w.heap.size, 0, none⟩ = some (.int .i64 h.k) := cell_of_block k0 rfl
  have d1 : W.cell? ⟨w.heap.size, 1, none⟩ = some (.string ⟨h.l.toArray⟩) := cell_of_block k0 rfl
  have d2 : W.cell? ⟨w.heap.size, 2, none⟩ = some (.slice pa h.ats.length ca) := cell_of_block k0 rfl
  have d3 : W.cell? ⟨w.heap.size, 3, none⟩ = some (.int .i64 h.n) := cell_of_block k0 rfl
  have d4 : W.cell? ⟨w.heap.size, 4, none⟩ = some (.int .i64 h.d) := cell_of_block k0 rfl
  have d5 : W.cell? ⟨w.heap.size, 5, none⟩ = some (.string ⟨h.x.toArray⟩) := cell_of_block k0 rfl
  have e0 : W.cell? ⟨w.heap.size + 1, 0, none⟩ = some (.int .i64 i.k) := cell_of_block k1 rfl
  have e1 : W.cell? ⟨w.heap.size + 1, 1, none⟩ = some (.string ⟨i.l.toArray⟩) := cell_of_block k1 rfl
  have e2 : W.cell? ⟨w.heap.size + 1, 2, none⟩ = some (.slice pb i.ats.length cb) := cell_of_block k1 rfl
  have e3 : W.cell? ⟨w.heap.size + 1, 3, none⟩ = some (.int .i64 i.n) := cell_of_block k1 rfl
  have e4 : W.cell? ⟨w.heap.size + 1, 4, none⟩ = some (.int .i64 i.d) := cell_of_block k1 rfl
  have e5 : W.cell? ⟨w.heap.size + 1, 5, none⟩ = some (.string ⟨i.x.toArray⟩) := cell_of_block k1 rfl
  clear k0 k1
  go_wp2_with fail
  refine LL.out.mono ?_
  rintro e w1 ⟨rfl, hb1⟩
  go_wp2_with fail
  go_ret
  exact ⟨rfl, B0.trans (hb1.mono (by omega))⟩

set_option maxRecDepth 100000 in
set_option maxHeartbeats 2000000 in
theorem aspect4_any (h i : Hd) (pa pb : Option Addr) (ca cb : Nat) (w : World) :
    Calls Tryz.prog 137 #[.agg #[.int .i64 h.k, .string ⟨h.l.toArray⟩, .slice pa h.ats.length ca, .int .i64 h.n, .int .i64 h.d, .string ⟨h.x.toArray⟩], .agg #[.int .i64 i.k, .string ⟨i.l.toArray⟩, .slice pb i.ats.length cb, .int .i64 i.n, .int .i64 i.d, .string ⟨i.x.toArray⟩]] w fun e w' => e = .returned (.int .i64 ((cmpT h.n h.d i.n i.d).1)) ∧ Below w.heap.size w w' := by
  go_enter Tryz.func137, Tryz.ntmps137
  go_upto_region 1 with fail
  have k0 : ((w.alloc (.cells #[.int .i64 h.k, .string ⟨h.l.toArray⟩, .slice pa h.ats.length ca, .int .i64 h.n, .int .i64 h.d, .string ⟨h.x.toArray⟩] 27)).alloc (.cells #[.int .i64 i.k, .string ⟨i.l.toArray⟩, .slice pb i.ats.length cb, .int .i64 i.n, .int .i64 i.d, .string ⟨i.x.toArray⟩] 27)).heap[w.heap.size]? = _ := (Below.heap_alloc _ _ _ (by simp)).trans (World.alloc_heap_new w (.cells #[.int .i64 h.k, .string ⟨h.l.toArray⟩, .slice pa h.ats.length ca, .int .i64 h.n, .int .i64 h.d, .string ⟨h.x.toArray⟩] 27))
  have k1 := World.alloc_heap_new (w.alloc (.cells #[.int .i64 h.k, .string ⟨h.l.toArray⟩, .slice pa h.ats.length ca, .int .i64 h.n, .int .i64 h.d, .string ⟨h.x.toArray⟩] 27)) (.cells #[.int .i64 i.k, .string ⟨i.l.toArray⟩, .slice pb i.ats.length cb, .int .i64 i.n, .int .i64 i.d, .string ⟨i.x.toArray⟩] 27)
  rw [show (w.alloc (.cells #[.int .i64 h.k, .string ⟨h.l.toArray⟩, .slice pa h.ats.length ca, .int .i64 h.n, .int .i64 h.d, .string ⟨h.x.toArray⟩] 27)).heap.size = w.heap.size + 1 by simp] at k1
  have B0 : Below w.heap.size w ((w.alloc (.cells #[.int .i64 h.k, .string ⟨h.l.toArray⟩, .slice pa h.ats.length ca, .int .i64 h.n, .int .i64 h.d, .string ⟨h.x.toArray⟩] 27)).alloc (.cells #[.int .i64 i.k, .string ⟨i.l.toArray⟩, .slice pb i.ats.length cb, .int .i64 i.n, .int .i64 i.d, .string ⟨i.x.toArray⟩] 27)) := by ((repeat' (first | exact Below.refl _ _ | assumption | refine Below.setCell ?_ ?_ _ | refine bdrewN ?_ _ | refine Below.drew ?_ | refine Below.alloc ?_ ?_ _ | refine bbehind ?_ (by assumption) ?_)); all_goals first | (simp; done) | (simp; omega) | omega)
  have hs0 : w.heap.size + 2 ≤ ((w.alloc (.cells #[.int .i64 h.k, .string ⟨h.l.toArray⟩, .slice pa h.ats.length ca, .int .i64 h.n, .int .i64 h.d, .string ⟨h.x.toArray⟩] 27)).alloc (.cells #[.int .i64 i.k, .string ⟨i.l.toArray⟩, .slice pb i.ats.length cb, .int .i64 i.n, .int .i64 i.d, .string ⟨i.x.toArray⟩] 27)).heap.size := by simp
  generalize (w.alloc (.cells #[.int .i64 h.k, .string ⟨h.l.toArray⟩, .slice pa h.ats.length ca, .int .i64 h.n, .int .i64 h.d, .string ⟨h.x.toArray⟩] 27)).alloc (.cells #[.int .i64 i.k, .string ⟨i.l.toArray⟩, .slice pb i.ats.length cb, .int .i64 i.n, .int .i64 i.d, .string ⟨i.x.toArray⟩] 27) = W at *
  have d0 : W.cell? ⟨w.heap.size, 0, none⟩ = some (.int .i64 h.k) := cell_of_block k0 rfl
  have d1 : W.cell? ⟨w.heap.size, 1, none⟩ = some (.string ⟨h.l.toArray⟩) := cell_of_block k0 rfl
  have d2 : W.cell? ⟨w.heap.size, 2, none⟩ = some (.slice pa h.ats.length ca) := cell_of_block k0 rfl
  have d3 : W.cell? ⟨w.heap.size, 3, none⟩ = some (.int .i64 h.n) := cell_of_block k0 rfl
  have d4 : W.cell? ⟨w.heap.size, 4, none⟩ = some (.int .i64 h.d) := cell_of_block k0 rfl
  have d5 : W.cell? ⟨w.heap.size, 5, none⟩ = some (.string ⟨h.x.toArray⟩) := cell_of_block k0 rfl
  have e0 : W.cell? ⟨w.heap.size + 1, 0, none⟩ = some (.int .i64 i.k) := cell_of_block k1 rfl
  have e1 : W.cell? ⟨w.heap.size + 1, 1, none⟩ = some (.string ⟨i.l.toArray⟩) := cell_of_block k1 rfl
  have e2 : W.cell? ⟨w.heap.size + 1, 2, none⟩ = some (.slice pb i.ats.length cb) := cell_of_block k1 rfl
  have e3 : W.cell? ⟨w.heap.size + 1, 3, none⟩ = some (.int .i64 i.n) := cell_of_block k1 rfl
  have e4 : W.cell? ⟨w.heap.size + 1, 4, none⟩ = some (.int .i64 i.d) := cell_of_block k1 rfl
  have e5 : W.cell? ⟨w.heap.size + 1, 5, none⟩ = some (.string ⟨i.x.toArray⟩) := cell_of_block k1 rfl
  clear k0 k1
  go_wp2_with fail
  refine (compareNumbers_any _ _ _ _ _).mono ?_
  rintro e w1 ⟨rfl, hb1⟩
  go_wp2_with fail
  go_ret
  exact ⟨rfl, B0.trans (hb1.mono (by omega))⟩

set_option maxRecDepth 100000 in
set_option maxHeartbeats 2000000 in
theorem aspect5_any (h i : Hd) (pa pb : Option Addr) (ca cb : Nat) (w : World) :
    Calls Tryz.prog 139 #[.agg #[.int .i64 h.k, .string ⟨h.l.toArray⟩, .slice pa h.ats.length ca, .int .i64 h.n, .int .i64 h.d, .string ⟨h.x.toArray⟩], .agg #[.int .i64 i.k, .string ⟨i.l.toArray⟩, .slice pb i.ats.length cb, .int .i64 i.n, .int .i64 i.d, .string ⟨i.x.toArray⟩]] w fun e w' => e = .returned (.int .i64 (strL h.x i.x)) ∧ Below w.heap.size w w' := by
  go_enter Tryz.func139, Tryz.ntmps139
  go_upto_region 1 with fail
  have k0 : ((w.alloc (.cells #[.int .i64 h.k, .string ⟨h.l.toArray⟩, .slice pa h.ats.length ca, .int .i64 h.n, .int .i64 h.d, .string ⟨h.x.toArray⟩] 27)).alloc (.cells #[.int .i64 i.k, .string ⟨i.l.toArray⟩, .slice pb i.ats.length cb, .int .i64 i.n, .int .i64 i.d, .string ⟨i.x.toArray⟩] 27)).heap[w.heap.size]? = _ := (Below.heap_alloc _ _ _ (by simp)).trans (World.alloc_heap_new w (.cells #[.int .i64 h.k, .string ⟨h.l.toArray⟩, .slice pa h.ats.length ca, .int .i64 h.n, .int .i64 h.d, .string ⟨h.x.toArray⟩] 27))
  have k1 := World.alloc_heap_new (w.alloc (.cells #[.int .i64 h.k, .string ⟨h.l.toArray⟩, .slice pa h.ats.length ca, .int .i64 h.n, .int .i64 h.d, .string ⟨h.x.toArray⟩] 27)) (.cells #[.int .i64 i.k, .string ⟨i.l.toArray⟩, .slice pb i.ats.length cb, .int .i64 i.n, .int .i64 i.d, .string ⟨i.x.toArray⟩] 27)
  rw [show (w.alloc (.cells #[.int .i64 h.k, .string ⟨h.l.toArray⟩, .slice pa h.ats.length ca, .int .i64 h.n, .int .i64 h.d, .string ⟨h.x.toArray⟩] 27)).heap.size = w.heap.size + 1 by simp] at k1
  have B0 : Below w.heap.size w ((w.alloc (.cells #[.int .i64 h.k, .string ⟨h.l.toArray⟩, .slice pa h.ats.length ca, .int .i64 h.n, .int .i64 h.d, .string ⟨h.x.toArray⟩] 27)).alloc (.cells #[.int .i64 i.k, .string ⟨i.l.toArray⟩, .slice pb i.ats.length cb, .int .i64 i.n, .int .i64 i.d, .string ⟨i.x.toArray⟩] 27)) := by ((repeat' (first | exact Below.refl _ _ | assumption | refine Below.setCell ?_ ?_ _ | refine bdrewN ?_ _ | refine Below.drew ?_ | refine Below.alloc ?_ ?_ _ | refine bbehind ?_ (by assumption) ?_)); all_goals first | (simp; done) | (simp; omega) | omega)
  have hs0 : w.heap.size + 2 ≤ ((w.alloc (.cells #[.int .i64 h.k, .string ⟨h.l.toArray⟩, .slice pa h.ats.length ca, .int .i64 h.n, .int .i64 h.d, .string ⟨h.x.toArray⟩] 27)).alloc (.cells #[.int .i64 i.k, .string ⟨i.l.toArray⟩, .slice pb i.ats.length cb, .int .i64 i.n, .int .i64 i.d, .string ⟨i.x.toArray⟩] 27)).heap.size := by simp
  generalize (w.alloc (.cells #[.int .i64 h.k, .string ⟨h.l.toArray⟩, .slice pa h.ats.length ca, .int .i64 h.n, .int .i64 h.d, .string ⟨h.x.toArray⟩] 27)).alloc (.cells #[.int .i64 i.k, .string ⟨i.l.toArray⟩, .slice pb i.ats.length cb, .int .i64 i.n, .int .i64 i.d, .string ⟨i.x.toArray⟩] 27) = W at *
  have d0 : W.cell? ⟨w.heap.size, 0, none⟩ = some (.int .i64 h.k) := cell_of_block k0 rfl
  have d1 : W.cell? ⟨w.heap.size, 1, none⟩ = some (.string ⟨h.l.toArray⟩) := cell_of_block k0 rfl
  have d2 : W.cell? ⟨w.heap.size, 2, none⟩ = some (.slice pa h.ats.length ca) := cell_of_block k0 rfl
  have d3 : W.cell? ⟨w.heap.size, 3, none⟩ = some (.int .i64 h.n) := cell_of_block k0 rfl
  have d4 : W.cell? ⟨w.heap.size, 4, none⟩ = some (.int .i64 h.d) := cell_of_block k0 rfl
  have d5 : W.cell? ⟨w.heap.size, 5, none⟩ = some (.string ⟨h.x.toArray⟩) := cell_of_block k0 rfl
  have e0 : W.cell? ⟨w.heap.size + 1, 0, none⟩ = some (.int .i64 i.k) := cell_of_block k1 rfl
  have e1 : W.cell? ⟨w.heap.size + 1, 1, none⟩ = some (.string ⟨i.l.toArray⟩) := cell_of_block k1 rfl
  have e2 : W.cell? ⟨w.heap.size + 1, 2, none⟩ = some (.slice pb i.ats.length cb) := cell_of_block k1 rfl
  have e3 : W.cell? ⟨w.heap.size + 1, 3, none⟩ = some (.int .i64 i.n) := cell_of_block k1 rfl
  have e4 : W.cell? ⟨w.heap.size + 1, 4, none⟩ = some (.int .i64 i.d) := cell_of_block k1 rfl
  have e5 : W.cell? ⟨w.heap.size + 1, 5, none⟩ = some (.string ⟨i.x.toArray⟩) := cell_of_block k1 rfl
  clear k0 k1
  go_wp2_with fail
  refine (strCompare_any _ _ _).mono ?_
  rintro e w1 ⟨rfl, hw⟩
  obtain rfl := hw
  go_wp2_with fail
  go_ret
  exact ⟨rfl, B0⟩

/-- the five aspects, in a block. -/
def AspAt (W : World) (b : Nat) : Prop :=
  W.heap[b]? = some (.cells #[.func (.func 130) #[] #[], .func (.func 132) #[] #[], .func (.func 134) #[] #[], .func (.func 137) #[] #[], .func (.func 139) #[] #[]] 141)
set_option maxRecDepth 100000 in
set_option maxHeartbeats 1000000 in
theorem aspects_any (w : World) : Calls Tryz.prog 87 #[] w fun e w' => ∃ b, e = .returned (.slice (some ⟨b, 0, none⟩) 5 5) ∧ w.heap.size ≤ b ∧ AspAt w' b ∧ Below w.heap.size w w' := by
  go_enter Tryz.func87, Tryz.ntmps87
  go_wp2_with fail
  go_ret
  exact ⟨_, rfl, Nat.le_refl _, World.alloc_heap_new _ _, by ((repeat' (first | exact Below.refl _ _ | assumption | refine Below.setCell ?_ ?_ _ | refine bdrewN ?_ _ | refine Below.drew ?_ | refine Below.alloc ?_ ?_ _ | refine bbehind ?_ (by assumption) ?_)); all_goals first | (simp; done) | (simp; omega) | omega)⟩

theorem headP_drop (h i : Hd) {k : Nat} (hk : k < 5) : firstNZ ((headP5 h i).drop k) = if (headP5 h i).getD k 0 ≠ 0 then (headP5 h i).getD k 0 else firstNZ ((headP5 h i).drop (k + 1)) := firstNZ_drop (by simpa [headP5] using hk)

set_option maxRecDepth 100000 in
set_option maxHeartbeats 8000000 in
theorem compareBy_any (h i : Hd) (pa pb : Option Addr) (ca cb b : Nat) (w : World) (ha : AttrsLie w (.slice pa h.ats.length ca) h.ats) (hb : AttrsLie w (.slice pb i.ats.length cb) i.ats) (hA : AspAt w b) :
    Calls Tryz.prog 86 #[.agg #[.int .i64 h.k, .string ⟨h.l.toArray⟩, .slice pa h.ats.length ca, .int .i64 h.n, .int .i64 h.d, .string ⟨h.x.toArray⟩], .agg #[.int .i64 i.k, .string ⟨i.l.toArray⟩, .slice pb i.ats.length cb, .int .i64 i.n, .int .i64 i.d, .string ⟨i.x.toArray⟩], .slice (some ⟨b, 0, none⟩) 5 5] w fun e w' => e = .returned (.int .i64 (headL h i)) ∧ Below w.heap.size w w' := by
  have HA := Lib.hid ha
  have HB := Lib.hid hb
  have HAS := Lib.hid hA
  have hbl : b < w.heap.size := (Array.getElem?_eq_some_iff.1 hA).1
  clear ha hb hA
  go_enter Tryz.func86, Tryz.ntmps86
  go_upto_region 1 with fail
  have k0 : ((w.alloc (.cells #[.int .i64 h.k, .string ⟨h.l.toArray⟩, .slice pa h.ats.length ca, .int .i64 h.n, .int .i64 h.d, .string ⟨h.x.toArray⟩] 27)).alloc (.cells #[.int .i64 i.k, .string ⟨i.l.toArray⟩, .slice pb i.ats.length cb, .int .i64 i.n, .int .i64 i.d, .string ⟨i.x.toArray⟩] 27)).heap[w.heap.size]? = _ := (Below.heap_alloc _ _ _ (by simp)).trans (World.alloc_heap_new w (.cells #[.int .i64 h.k, .string ⟨h.l.toArray⟩, .slice pa h.ats.length ca, .int .i64 h.n, .int .i64 h.d, .string ⟨h.x.toArray⟩] 27))
  have k1 := World.alloc_heap_new (w.alloc (.cells #[.int .i64 h.k, .string ⟨h.l.toArray⟩, .slice pa h.ats.length ca, .int .i64 h.n, .int .i64 h.d, .string ⟨h.x.toArray⟩] 27)) (.cells #[.int .i64 i.k, .string ⟨i.l.toArray⟩, .slice pb i.ats.length cb, .int .i64 i.n, .int .i64 i.d, .string ⟨i.x.toArray⟩] 27)
  rw [show (w.alloc (.cells #[.int .i64 h.k, .string ⟨h.l.toArray⟩, .slice pa h.ats.length ca, .int .i64 h.n, .int .i64 h.d, .string ⟨h.x.toArray⟩] 27)).heap.size = w.heap.size + 1 by simp] at k1
  have B0 : Below w.heap.size w ((w.alloc (.cells #[.int .i64 h.k, .string ⟨h.l.toArray⟩, .slice pa h.ats.length ca, .int .i64 h.n, .int .i64 h.d, .string ⟨h.x.toArray⟩] 27)).alloc (.cells #[.int .i64 i.k, .string ⟨i.l.toArray⟩, .slice pb i.ats.length cb, .int .i64 i.n, .int .i64 i.d, .string ⟨i.x.toArray⟩] 27)) := by ((repeat' (first | exact Below.refl _ _ | assumption | refine Below.setCell ?_ ?_ _ | refine bdrewN ?_ _ | refine Below.drew ?_ | refine Below.alloc ?_ ?_ _ | refine bbehind ?_ (by assumption) ?_)); all_goals first | (simp; done) | (simp; omega) | omega)
  have hs0 : w.heap.size + 2 ≤ ((w.alloc (.cells #[.int .i64 h.k, .string ⟨h.l.toArray⟩, .slice pa h.ats.length ca, .int .i64 h.n, .int .i64 h.d, .string ⟨h.x.toArray⟩] 27)).alloc (.cells #[.int .i64 i.k, .string ⟨i.l.toArray⟩, .slice pb i.ats.length cb, .int .i64 i.n, .int .i64 i.d, .string ⟨i.x.toArray⟩] 27)).heap.size := by simp
  generalize (w.alloc (.cells #[.int .i64 h.k, .string ⟨h.l.toArray⟩, .slice pa h.ats.length ca, .int .i64 h.n, .int .i64 h.d, .string ⟨h.x.toArray⟩] 27)).alloc (.cells #[.int .i64 i.k, .string ⟨i.l.toArray⟩, .slice pb i.ats.length cb, .int .i64 i.n, .int .i64 i.d, .string ⟨i.x.toArray⟩] 27) = W at *
  go_wp2_with fail
  go_loopw [12] (fun j wr => ∃ k : Nat, j = .int .i64 k ∧ k ≤ 5 ∧ headL h i = firstNZ ((headP5 h i).drop k) ∧ wr.heap[w.heap.size]? = some (.cells #[.int .i64 h.k, .string ⟨h.l.toArray⟩, .slice pa h.ats.length ca, .int .i64 h.n, .int .i64 h.d, .string ⟨h.x.toArray⟩] 27) ∧ wr.heap[w.heap.size + 1]? = some (.cells #[.int .i64 i.k, .string ⟨i.l.toArray⟩, .slice pb i.ats.length cb, .int .i64 i.n, .int .i64 i.d, .string ⟨i.x.toArray⟩] 27) ∧ Below w.heap.size w wr) (fun j _ => 5 - (intOf j).toNat)
  case atStart => exact ⟨0, rfl, Nat.zero_le _, rfl, k0, k1, B0⟩
  case round =>
    obtain ⟨k, rfl, hk, he, hk0, hk1, hbw⟩ := hrel
    have HE := Lib.hid he
    have BW := Lib.hid hbw
    have K0 := Lib.hid hk0
    have K1 := Lib.hid hk1
    have hsr : w.heap.size + 1 < wr.heap.size := (Array.getElem?_eq_some_iff.1 hk1).1
    have ka := (hbw.block b hbl).trans HAS.out
    have q0 : wr.cell? ⟨b, 0, none⟩ = some (.func (.func 130) #[] #[]) := cell_of_block ka rfl
    have q1 : wr.cell? ⟨b, 1, none⟩ = some (.func (.func 132) #[] #[]) := cell_of_block ka rfl
    have q2 : wr.cell? ⟨b, 2, none⟩ = some (.func (.func 134) #[] #[]) := cell_of_block ka rfl
    have q3 : wr.cell? ⟨b, 3, none⟩ = some (.func (.func 137) #[] #[]) := cell_of_block ka rfl
    have q4 : wr.cell? ⟨b, 4, none⟩ = some (.func (.func 139) #[] #[]) := cell_of_block ka rfl
    have nb : b < wr.heap.size := by omega
    clear he hbw hk0 hk1 ka
    by_cases hlt : k < 5
    rotate_left
    · have HX := Lib.hid (HE.out.trans (show firstNZ ((headP5 h i).drop k) = 0 by rw [List.drop_of_length_le (by simp [headP5]; omega)]; rfl))
      go_wp2_with fail
      go_ret
      exact ⟨ret_int' HX.out.symm, BW.out⟩
    have HS := Lib.hid (HE.out.trans (headP_drop h i hlt))
    rcases (show k = 0 ∨ k = 1 ∨ k = 2 ∨ k = 3 ∨ k = 4 by omega) with rfl | rfl | rfl | rfl | rfl
    · clear hk hlt
      go_upto_region 4 with fail
      have k0 : (wr.alloc (.cells #[.func (.func 130) #[] #[]] 141)).heap[w.heap.size]? = _ := (Below.heap_alloc _ _ _ (by omega)).trans K0.out
      have k1 : (wr.alloc (.cells #[.func (.func 130) #[] #[]] 141)).heap[w.heap.size + 1]? = _ := (Below.heap_alloc _ _ _ (by omega)).trans K1.out
      have kk := World.alloc_heap_new wr (.cells #[.func (.func 130) #[] #[]] 141)
      have B2 := Lib.hid (BW.out.alloc (by omega) (.cells #[.func (.func 130) #[] #[]] 141))
      have hs2 : (wr.alloc (.cells #[.func (.func 130) #[] #[]] 141)).heap.size = wr.heap.size + 1 := by simp
      generalize wr.alloc (.cells #[.func (.func 130) #[] #[]] 141) = W2 at *
      have g0 : W2.cell? ⟨wr.heap.size, 0, none⟩ = some (.func (.func 130) #[] #[]) := cell_of_block kk rfl
      have d0 : W2.cell? ⟨w.heap.size, 0, none⟩ = some (.int .i64 h.k) := cell_of_block k0 rfl
      have d1 : W2.cell? ⟨w.heap.size, 1, none⟩ = some (.string ⟨h.l.toArray⟩) := cell_of_block k0 rfl
      have d2 : W2.cell? ⟨w.heap.size, 2, none⟩ = some (.slice pa h.ats.length ca) := cell_of_block k0 rfl
      have d3 : W2.cell? ⟨w.heap.size, 3, none⟩ = some (.int .i64 h.n) := cell_of_block k0 rfl
      have d4 : W2.cell? ⟨w.heap.size, 4, none⟩ = some (.int .i64 h.d) := cell_of_block k0 rfl
      have d5 : W2.cell? ⟨w.heap.size, 5, none⟩ = some (.string ⟨h.x.toArray⟩) := cell_of_block k0 rfl
      have e0 : W2.cell? ⟨w.heap.size + 1, 0, none⟩ = some (.int .i64 i.k) := cell_of_block k1 rfl
      have e1 : W2.cell? ⟨w.heap.size + 1, 1, none⟩ = some (.string ⟨i.l.toArray⟩) := cell_of_block k1 rfl
      have e2 : W2.cell? ⟨w.heap.size + 1, 2, none⟩ = some (.slice pb i.ats.length cb) := cell_of_block k1 rfl
      have e3 : W2.cell? ⟨w.heap.size + 1, 3, none⟩ = some (.int .i64 i.n) := cell_of_block k1 rfl
      have e4 : W2.cell? ⟨w.heap.size + 1, 4, none⟩ = some (.int .i64 i.d) := cell_of_block k1 rfl
      have e5 : W2.cell? ⟨w.heap.size + 1, 5, none⟩ = some (.string ⟨i.x.toArray⟩) := cell_of_block k1 rfl
      have K0' := Lib.hid k0
      have K1' := Lib.hid k1
      clear k0 k1 kk q0 q1 q2 q3 q4
      go_wp2_with fail
      refine (aspect1_any h i pa pb ca cb W2).mono ?_
      rintro e w3 ⟨rfl, hb3⟩
      have B3 := Lib.hid (B2.out.trans (hb3.mono B2.out.size))
      have K03 := Lib.hid ((hb3.block _ (by omega)).trans K0'.out)
      have K13 := Lib.hid ((hb3.block _ (by omega)).trans K1'.out)
      clear hb3
      by_cases hx : cmpM h.k i.k = 0
      · have HX := Lib.hid (HS.out.trans (if_neg (show ¬ (cmpM h.k i.k ≠ 0) by simpa using hx)))
        have b0 : (cmpM h.k i.k != 0) = false := by simpa using hx
        clear hx
        go_wp2_with fail
        go_roundw
        case rel => exact ⟨1, by go_num, by omega, HX.out, K03.out, K13.out, B3.out⟩
        case measure => simp [intOf]
      · have HX := Lib.hid (HS.out.trans (if_pos (show cmpM h.k i.k ≠ 0 from hx)))
        have b0 : (cmpM h.k i.k != 0) = true := by simpa using hx
        clear hx
        go_wp2_with fail
        go_ret
        exact ⟨ret_int' HX.out.symm, B3.out⟩
    · clear hk hlt
      go_upto_region 4 with fail
      have k0 : (wr.alloc (.cells #[.func (.func 132) #[] #[]] 141)).heap[w.heap.size]? = _ := (Below.heap_alloc _ _ _ (by omega)).trans K0.out
      have k1 : (wr.alloc (.cells #[.func (.func 132) #[] #[]] 141)).heap[w.heap.size + 1]? = _ := (Below.heap_alloc _ _ _ (by omega)).trans K1.out
      have kk := World.alloc_heap_new wr (.cells #[.func (.func 132) #[] #[]] 141)
      have B2 := Lib.hid (BW.out.alloc (by omega) (.cells #[.func (.func 132) #[] #[]] 141))
      have hs2 : (wr.alloc (.cells #[.func (.func 132) #[] #[]] 141)).heap.size = wr.heap.size + 1 := by simp
      generalize wr.alloc (.cells #[.func (.func 132) #[] #[]] 141) = W2 at *
      have g0 : W2.cell? ⟨wr.heap.size, 0, none⟩ = some (.func (.func 132) #[] #[]) := cell_of_block kk rfl
      have d0 : W2.cell? ⟨w.heap.size, 0, none⟩ = some (.int .i64 h.k) := cell_of_block k0 rfl
      have d1 : W2.cell? ⟨w.heap.size, 1, none⟩ = some (.string ⟨h.l.toArray⟩) := cell_of_block k0 rfl
      have d2 : W2.cell? ⟨w.heap.size, 2, none⟩ = some (.slice pa h.ats.length ca) := cell_of_block k0 rfl
      have d3 : W2.cell? ⟨w.heap.size, 3, none⟩ = some (.int .i64 h.n) := cell_of_block k0 rfl
      have d4 : W2.cell? ⟨w.heap.size, 4, none⟩ = some (.int .i64 h.d) := cell_of_block k0 rfl
      have d5 : W2.cell? ⟨w.heap.size, 5, none⟩ = some (.string ⟨h.x.toArray⟩) := cell_of_block k0 rfl
      have e0 : W2.cell? ⟨w.heap.size + 1, 0, none⟩ = some (.int .i64 i.k) := cell_of_block k1 rfl
      have e1 : W2.cell? ⟨w.heap.size + 1, 1, none⟩ = some (.string ⟨i.l.toArray⟩) := cell_of_block k1 rfl
      have e2 : W2.cell? ⟨w.heap.size + 1, 2, none⟩ = some (.slice pb i.ats.length cb) := cell_of_block k1 rfl
      have e3 : W2.cell? ⟨w.heap.size + 1, 3, none⟩ = some (.int .i64 i.n) := cell_of_block k1 rfl
      have e4 : W2.cell? ⟨w.heap.size + 1, 4, none⟩ = some (.int .i64 i.d) := cell_of_block k1 rfl
      have e5 : W2.cell? ⟨w.heap.size + 1, 5, none⟩ = some (.string ⟨i.x.toArray⟩) := cell_of_block k1 rfl
      have K0' := Lib.hid k0
      have K1' := Lib.hid k1
      clear k0 k1 kk q0 q1 q2 q3 q4
      go_wp2_with fail
      refine (aspect2_any h i pa pb ca cb W2).mono ?_
      rintro e w3 ⟨rfl, hb3⟩
      have B3 := Lib.hid (B2.out.trans (hb3.mono B2.out.size))
      have K03 := Lib.hid ((hb3.block _ (by omega)).trans K0'.out)
      have K13 := Lib.hid ((hb3.block _ (by omega)).trans K1'.out)
      clear hb3
      by_cases hx : strL h.l i.l = 0
      · have HX := Lib.hid (HS.out.trans (if_neg (show ¬ (strL h.l i.l ≠ 0) by simpa using hx)))
        have b0 : (strL h.l i.l != 0) = false := by simpa using hx
        clear hx
        go_wp2_with fail
        go_roundw
        case rel => exact ⟨2, by go_num, by omega, HX.out, K03.out, K13.out, B3.out⟩
        case measure => simp [intOf]
      · have HX := Lib.hid (HS.out.trans (if_pos (show strL h.l i.l ≠ 0 from hx)))
        have b0 : (strL h.l i.l != 0) = true := by simpa using hx
        clear hx
        go_wp2_with fail
        go_ret
        exact ⟨ret_int' HX.out.symm, B3.out⟩
    · clear hk hlt
      go_upto_region 4 with fail
      have k0 : (wr.alloc (.cells #[.func (.func 134) #[] #[]] 141)).heap[w.heap.size]? = _ := (Below.heap_alloc _ _ _ (by omega)).trans K0.out
      have k1 : (wr.alloc (.cells #[.func (.func 134) #[] #[]] 141)).heap[w.heap.size + 1]? = _ := (Below.heap_alloc _ _ _ (by omega)).trans K1.out
      have kk := World.alloc_heap_new wr (.cells #[.func (.func 134) #[] #[]] 141)
      have B2 := Lib.hid (BW.out.alloc (by omega) (.cells #[.func (.func 134) #[] #[]] 141))
      have hs2 : (wr.alloc (.cells #[.func (.func 134) #[] #[]] 141)).heap.size = wr.heap.size + 1 := by simp
      generalize wr.alloc (.cells #[.func (.func 134) #[] #[]] 141) = W2 at *
      have g0 : W2.cell? ⟨wr.heap.size, 0, none⟩ = some (.func (.func 134) #[] #[]) := cell_of_block kk rfl
      have d0 : W2.cell? ⟨w.heap.size, 0, none⟩ = some (.int .i64 h.k) := cell_of_block k0 rfl
      have d1 : W2.cell? ⟨w.heap.size, 1, none⟩ = some (.string ⟨h.l.toArray⟩) := cell_of_block k0 rfl
      have d2 : W2.cell? ⟨w.heap.size, 2, none⟩ = some (.slice pa h.ats.length ca) := cell_of_block k0 rfl
      have d3 : W2.cell? ⟨w.heap.size, 3, none⟩ = some (.int .i64 h.n) := cell_of_block k0 rfl
      have d4 : W2.cell? ⟨w.heap.size, 4, none⟩ = some (.int .i64 h.d) := cell_of_block k0 rfl
      have d5 : W2.cell? ⟨w.heap.size, 5, none⟩ = some (.string ⟨h.x.toArray⟩) := cell_of_block k0 rfl
      have e0 : W2.cell? ⟨w.heap.size + 1, 0, none⟩ = some (.int .i64 i.k) := cell_of_block k1 rfl
      have e1 : W2.cell? ⟨w.heap.size + 1, 1, none⟩ = some (.string ⟨i.l.toArray⟩) := cell_of_block k1 rfl
      have e2 : W2.cell? ⟨w.heap.size + 1, 2, none⟩ = some (.slice pb i.ats.length cb) := cell_of_block k1 rfl
      have e3 : W2.cell? ⟨w.heap.size + 1, 3, none⟩ = some (.int .i64 i.n) := cell_of_block k1 rfl
      have e4 : W2.cell? ⟨w.heap.size + 1, 4, none⟩ = some (.int .i64 i.d) := cell_of_block k1 rfl
      have e5 : W2.cell? ⟨w.heap.size + 1, 5, none⟩ = some (.string ⟨i.x.toArray⟩) := cell_of_block k1 rfl
      have K0' := Lib.hid k0
      have K1' := Lib.hid k1
      clear k0 k1 kk q0 q1 q2 q3 q4
      go_wp2_with fail
      refine (aspect3_any h i pa pb ca cb W2 (attrs_below HA.out B2.out) (attrs_below HB.out B2.out)).mono ?_
      rintro e w3 ⟨rfl, hb3⟩
      have B3 := Lib.hid (B2.out.trans (hb3.mono B2.out.size))
      have K03 := Lib.hid ((hb3.block _ (by omega)).trans K0'.out)
      have K13 := Lib.hid ((hb3.block _ (by omega)).trans K1'.out)
      clear hb3
      by_cases hx : atsL h.ats i.ats = 0
      · have HX := Lib.hid (HS.out.trans (if_neg (show ¬ (atsL h.ats i.ats ≠ 0) by simpa using hx)))
        have b0 : (atsL h.ats i.ats != 0) = false := by simpa using hx
        clear hx
        go_wp2_with fail
        go_roundw
        case rel => exact ⟨3, by go_num, by omega, HX.out, K03.out, K13.out, B3.out⟩
        case measure => simp [intOf]
      · have HX := Lib.hid (HS.out.trans (if_pos (show atsL h.ats i.ats ≠ 0 from hx)))
        have b0 : (atsL h.ats i.ats != 0) = true := by simpa using hx
        clear hx
        go_wp2_with fail
        go_ret
        exact ⟨ret_int' HX.out.symm, B3.out⟩
    · clear hk hlt
      go_upto_region 4 with fail
      have k0 : (wr.alloc (.cells #[.func (.func 137) #[] #[]] 141)).heap[w.heap.size]? = _ := (Below.heap_alloc _ _ _ (by omega)).trans K0.out
      have k1 : (wr.alloc (.cells #[.func (.func 137) #[] #[]] 141)).heap[w.heap.size + 1]? = _ := (Below.heap_alloc _ _ _ (by omega)).trans K1.out
      have kk := World.alloc_heap_new wr (.cells #[.func (.func 137) #[] #[]] 141)
      have B2 := Lib.hid (BW.out.alloc (by omega) (.cells #[.func (.func 137) #[] #[]] 141))
      have hs2 : (wr.alloc (.cells #[.func (.func 137) #[] #[]] 141)).heap.size = wr.heap.size + 1 := by simp
      generalize wr.alloc (.cells #[.func (.func 137) #[] #[]] 141) = W2 at *
      have g0 : W2.cell? ⟨wr.heap.size, 0, none⟩ = some (.func (.func 137) #[] #[]) := cell_of_block kk rfl
      have d0 : W2.cell? ⟨w.heap.size, 0, none⟩ = some (.int .i64 h.k) := cell_of_block k0 rfl
      have d1 : W2.cell? ⟨w.heap.size, 1, none⟩ = some (.string ⟨h.l.toArray⟩) := cell_of_block k0 rfl
      have d2 : W2.cell? ⟨w.heap.size, 2, none⟩ = some (.slice pa h.ats.length ca) := cell_of_block k0 rfl
      have d3 : W2.cell? ⟨w.heap.size, 3, none⟩ = some (.int .i64 h.n) := cell_of_block k0 rfl
      have d4 : W2.cell? ⟨w.heap.size, 4, none⟩ = some (.int .i64 h.d) := cell_of_block k0 rfl
      have d5 : W2.cell? ⟨w.heap.size, 5, none⟩ = some (.string ⟨h.x.toArray⟩) := cell_of_block k0 rfl
      have e0 : W2.cell? ⟨w.heap.size + 1, 0, none⟩ = some (.int .i64 i.k) := cell_of_block k1 rfl
      have e1 : W2.cell? ⟨w.heap.size + 1, 1, none⟩ = some (.string ⟨i.l.toArray⟩) := cell_of_block k1 rfl
      have e2 : W2.cell? ⟨w.heap.size + 1, 2, none⟩ = some (.slice pb i.ats.length cb) := cell_of_block k1 rfl
      have e3 : W2.cell? ⟨w.heap.size + 1, 3, none⟩ = some (.int .i64 i.n) := cell_of_block k1 rfl
      have e4 : W2.cell? ⟨w.heap.size + 1, 4, none⟩ = some (.int .i64 i.d) := cell_of_block k1 rfl
      have e5 : W2.cell? ⟨w.heap.size + 1, 5, none⟩ = some (.string ⟨i.x.toArray⟩) := cell_of_block k1 rfl
      have K0' := Lib.hid k0
      have K1' := Lib.hid k1
      clear k0 k1 kk q0 q1 q2 q3 q4
      go_wp2_with fail
      refine (aspect4_any h i pa pb ca cb W2).mono ?_
      rintro e w3 ⟨rfl, hb3⟩
      have B3 := Lib.hid (B2.out.trans (hb3.mono B2.out.size))
      have K03 := Lib.hid ((hb3.block _ (by omega)).trans K0'.out)
      have K13 := Lib.hid ((hb3.block _ (by omega)).trans K1'.out)
      clear hb3
      by_cases hx : (cmpT h.n h.d i.n i.d).1 = 0
      · have HX := Lib.hid (HS.out.trans (if_neg (show ¬ ((cmpT h.n h.d i.n i.d).1 ≠ 0) by simpa using hx)))
        have b0 : ((cmpT h.n h.d i.n i.d).1 != 0) = false := by simpa using hx
        clear hx
        go_wp2_with fail
        go_roundw
        case rel => exact ⟨4, by go_num, by omega, HX.out, K03.out, K13.out, B3.out⟩
        case measure => simp [intOf]
      · have HX := Lib.hid (HS.out.trans (if_pos (show (cmpT h.n h.d i.n i.d).1 ≠ 0 from hx)))
        have b0 : ((cmpT h.n h.d i.n i.d).1 != 0) = true := by simpa using hx
        clear hx
        go_wp2_with fail
        go_ret
        exact ⟨ret_int' HX.out.symm, B3.out⟩
    · clear hk hlt
      go_upto_region 4 with fail
      have k0 : (wr.alloc (.cells #[.func (.func 139) #[] #[]] 141)).heap[w.heap.size]? = _ := (Below.heap_alloc _ _ _ (by omega)).trans K0.out
      have k1 : (wr.alloc (.cells #[.func (.func 139) #[] #[]] 141)).heap[w.heap.size + 1]? = _ := (Below.heap_alloc _ _ _ (by omega)).trans K1.out
      have kk := World.alloc_heap_new wr (.cells #[.func (.func 139) #[] #[]] 141)
      have B2 := Lib.hid (BW.out.alloc (by omega) (.cells #[.func (.func 139) #[] #[]] 141))
      have hs2 : (wr.alloc (.cells #[.func (.func 139) #[] #[]] 141)).heap.size = wr.heap.size + 1 := by simp
      generalize wr.alloc (.cells #[.func (.func 139) #[] #[]] 141) = W2 at *
      have g0 : W2.cell? ⟨wr.heap.size, 0, none⟩ = some (.func (.func 139) #[] #[]) := cell_of_block kk rfl
      have d0 : W2.cell? ⟨w.heap.size, 0, none⟩ = some (.int .i64 h.k) := cell_of_block k0 rfl
      have d1 : W2.cell? ⟨w.heap.size, 1, none⟩ = some (.string ⟨h.l.toArray⟩) := cell_of_block k0 rfl
      have d2 : W2.cell? ⟨w.heap.size, 2, none⟩ = some (.slice pa h.ats.length ca) := cell_of_block k0 rfl
      have d3 : W2.cell? ⟨w.heap.size, 3, none⟩ = some (.int .i64 h.n) := cell_of_block k0 rfl
      have d4 : W2.cell? ⟨w.heap.size, 4, none⟩ = some (.int .i64 h.d) := cell_of_block k0 rfl
      have d5 : W2.cell? ⟨w.heap.size, 5, none⟩ = some (.string ⟨h.x.toArray⟩) := cell_of_block k0 rfl
      have e0 : W2.cell? ⟨w.heap.size + 1, 0, none⟩ = some (.int .i64 i.k) := cell_of_block k1 rfl
      have e1 : W2.cell? ⟨w.heap.size + 1, 1, none⟩ = some (.string ⟨i.l.toArray⟩) := cell_of_block k1 rfl
      have e2 : W2.cell? ⟨w.heap.size + 1, 2, none⟩ = some (.slice pb i.ats.length cb) := cell_of_block k1 rfl
      have e3 : W2.cell? ⟨w.heap.size + 1, 3, none⟩ = some (.int .i64 i.n) := cell_of_block k1 rfl
      have e4 : W2.cell? ⟨w.heap.size + 1, 4, none⟩ = some (.int .i64 i.d) := cell_of_block k1 rfl
      have e5 : W2.cell? ⟨w.heap.size + 1, 5, none⟩ = some (.string ⟨i.x.toArray⟩) := cell_of_block k1 rfl
      have K0' := Lib.hid k0
      have K1' := Lib.hid k1
      clear k0 k1 kk q0 q1 q2 q3 q4
      go_wp2_with fail
      refine (aspect5_any h i pa pb ca cb W2).mono ?_
      rintro e w3 ⟨rfl, hb3⟩
      have B3 := Lib.hid (B2.out.trans (hb3.mono B2.out.size))
      have K03 := Lib.hid ((hb3.block _ (by omega)).trans K0'.out)
      have K13 := Lib.hid ((hb3.block _ (by omega)).trans K1'.out)
      clear hb3
      by_cases hx : strL h.x i.x = 0
      · have HX := Lib.hid (HS.out.trans (if_neg (show ¬ (strL h.x i.x ≠ 0) by simpa using hx)))
        have b0 : (strL h.x i.x != 0) = false := by simpa using hx
        clear hx
        go_wp2_with fail
        go_roundw
        case rel => exact ⟨5, by go_num, by omega, HX.out, K03.out, K13.out, B3.out⟩
        case measure => simp [intOf]
      · have HX := Lib.hid (HS.out.trans (if_pos (show strL h.x i.x ≠ 0 from hx)))
        have b0 : (strL h.x i.x != 0) = true := by simpa using hx
        clear hx
        go_wp2_with fail
        go_ret
        exact ⟨ret_int' HX.out.symm, B3.out⟩
end Go.Proofs.YtcgedpfolloinaaGreat

namespace Go.Proofs.YtcgedpfolloinaaGreat
open Go.RowKit

/-- how two forests compare. -/
def foL : Fo → Fo → Int
  | .nil, .nil => 0
  | .nil, .cons _ _ _ => -1
  | .cons _ _ _, .nil => 1
  | .cons h ks r, .cons i js s => if headL h i ≠ 0 then headL h i else if foL ks js ≠ 0 then foL ks js else foL r s
def treeL (h : Hd) (ks : Fo) (i : Hd) (js : Fo) : Int := if headL h i ≠ 0 then headL h i else foL ks js
theorem foL_drop {f g : Fo} {k : Nat} {h i : Hd} {ks js : Fo} (e : f.drop k = .cons h ks (f.drop (k + 1))) (e' : g.drop k = .cons i js (g.drop (k + 1))) :
    foL (f.drop k) (g.drop k) = if treeL h ks i js ≠ 0 then treeL h ks i js else foL (f.drop (k + 1)) (g.drop (k + 1)) := by
  rw [e, e', foL]
  unfold treeL
  by_cases h1 : headL h i = 0
  · simp [h1]
  · simp [h1]
theorem foL_end {f g : Fo} {k : Nat} (hk : k = min f.len g.len) : foL (f.drop k) (g.drop k) = cmpM f.len g.len := by
  unfold cmpM
  rcases Nat.lt_trichotomy f.len g.len with h | h | h
  · rw [if_pos (by omega), Fo.drop_ge _ _ (by omega : f.len ≤ k)]
    obtain ⟨hd, ks, e⟩ := Fo.drop_lt k g (by omega)
    rw [e]; rfl
  · rw [if_neg (by omega), if_neg (by omega), Fo.drop_ge _ _ (by omega : f.len ≤ k), Fo.drop_ge _ _ (by omega : g.len ≤ k)]
    rfl
  · rw [if_neg (by omega), if_pos (by omega), Fo.drop_ge _ _ (by omega : g.len ≤ k)]
    obtain ⟨hd, ks, e⟩ := Fo.drop_lt k f (by omega)
    rw [e]; rfl
theorem AspAt.below {w w' : World} {b : Nat} (h : AspAt w b) (k : Below w.heap.size w w') : AspAt w' b :=
  (k.block b (Array.getElem?_eq_some_iff.1 h).1).trans h

set_option maxRecDepth 100000 in
set_option maxHeartbeats 4000000 in
theorem otrees_step (h i : Hd) (ks js : Fo) (aa ab ak al : Option Addr) (ca cb ck cl b : Nat) (w : World) (ha : AttrsLie w (.slice aa h.ats.length ca) h.ats) (hb : AttrsLie w (.slice ab i.ats.length cb) i.ats) (hA : AspAt w b)
    (HF : ∀ w1, Below w.heap.size w w1 → Calls Tryz.prog 89 #[.agg #[.slice (some ⟨b, 0, none⟩) 5 5], .slice ak ks.len ck, .slice al js.len cl] w1 fun e w' => e = .returned (.int .i64 (foL ks js)) ∧ Below w1.heap.size w1 w') :
    Calls Tryz.prog 144 #[.agg #[.slice (some ⟨b, 0, none⟩) 5 5], .agg #[.int .i64 h.k, .string ⟨h.l.toArray⟩, .slice aa h.ats.length ca, .int .i64 h.n, .int .i64 h.d, .string ⟨h.x.toArray⟩, .slice ak ks.len ck], .agg #[.int .i64 i.k, .string ⟨i.l.toArray⟩, .slice ab i.ats.length cb, .int .i64 i.n, .int .i64 i.d, .string ⟨i.x.toArray⟩, .slice al js.len cl]] w fun e w' => e = .returned (.int .i64 (treeL h ks i js)) ∧ Below w.heap.size w w' := by
  have HA := Lib.hid ha
  have HB := Lib.hid hb
  have HAS := Lib.hid hA
  have HFF := Lib.hid HF
  clear ha hb hA HF
  go_enter Tryz.func144, Tryz.ntmps144
  go_upto_region 1 with fail
  have k0 : (((w.alloc (.cells #[.slice (some ⟨b, 0, none⟩) 5 5] 101)).alloc (.cells #[.int .i64 h.k, .string ⟨h.l.toArray⟩, .slice aa h.ats.length ca, .int .i64 h.n, .int .i64 h.d, .string ⟨h.x.toArray⟩, .slice ak ks.len ck] 43)).alloc (.cells #[.int .i64 i.k, .string ⟨i.l.toArray⟩, .slice ab i.ats.length cb, .int .i64 i.n, .int .i64 i.d, .string ⟨i.x.toArray⟩, .slice al js.len cl] 43)).heap[w.heap.size]? = some (.cells #[.slice (some ⟨b, 0, none⟩) 5 5] 101) := (Below.heap_alloc _ _ _ (by simp <;> omega)).trans ((Below.heap_alloc _ _ _ (by simp)).trans (World.alloc_heap_new w (.cells #[.slice (some ⟨b, 0, none⟩) 5 5] 101)))
  have k1 : (((w.alloc (.cells #[.slice (some ⟨b, 0, none⟩) 5 5] 101)).alloc (.cells #[.int .i64 h.k, .string ⟨h.l.toArray⟩, .slice aa h.ats.length ca, .int .i64 h.n, .int .i64 h.d, .string ⟨h.x.toArray⟩, .slice ak ks.len ck] 43)).alloc (.cells #[.int .i64 i.k, .string ⟨i.l.toArray⟩, .slice ab i.ats.length cb, .int .i64 i.n, .int .i64 i.d, .string ⟨i.x.toArray⟩, .slice al js.len cl] 43)).heap[w.heap.size + 1]? = some (.cells #[.int .i64 h.k, .string ⟨h.l.toArray⟩, .slice aa h.ats.length ca, .int .i64 h.n, .int .i64 h.d, .string ⟨h.x.toArray⟩, .slice ak ks.len ck] 43) := (Below.heap_alloc _ _ _ (by simp)).trans (by have := World.alloc_heap_new (w.alloc (.cells #[.slice (some ⟨b, 0, none⟩) 5 5] 101)) (.cells #[.int .i64 h.k, .string ⟨h.l.toArray⟩, .slice aa h.ats.length ca, .int .i64 h.n, .int .i64 h.d, .string ⟨h.x.toArray⟩, .slice ak ks.len ck] 43); rw [show (w.alloc (.cells #[.slice (some ⟨b, 0, none⟩) 5 5] 101)).heap.size = w.heap.size + 1 by simp] at this; exact this)
  have k2 := World.alloc_heap_new ((w.alloc (.cells #[.slice (some ⟨b, 0, none⟩) 5 5] 101)).alloc (.cells #[.int .i64 h.k, .string ⟨h.l.toArray⟩, .slice aa h.ats.length ca, .int .i64 h.n, .int .i64 h.d, .string ⟨h.x.toArray⟩, .slice ak ks.len ck] 43)) (.cells #[.int .i64 i.k, .string ⟨i.l.toArray⟩, .slice ab i.ats.length cb, .int .i64 i.n, .int .i64 i.d, .string ⟨i.x.toArray⟩, .slice al js.len cl] 43)
  rw [show ((w.alloc (.cells #[.slice (some ⟨b, 0, none⟩) 5 5] 101)).alloc (.cells #[.int .i64 h.k, .string ⟨h.l.toArray⟩, .slice aa h.ats.length ca, .int .i64 h.n, .int .i64 h.d, .string ⟨h.x.toArray⟩, .slice ak ks.len ck] 43)).heap.size = w.heap.size + 2 by simp] at k2
  have BW : Below w.heap.size w (((w.alloc (.cells #[.slice (some ⟨b, 0, none⟩) 5 5] 101)).alloc (.cells #[.int .i64 h.k, .string ⟨h.l.toArray⟩, .slice aa h.ats.length ca, .int .i64 h.n, .int .i64 h.d, .string ⟨h.x.toArray⟩, .slice ak ks.len ck] 43)).alloc (.cells #[.int .i64 i.k, .string ⟨i.l.toArray⟩, .slice ab i.ats.length cb, .int .i64 i.n, .int .i64 i.d, .string ⟨i.x.toArray⟩, .slice al js.len cl] 43)) := by ((repeat' (first | exact Below.refl _ _ | assumption | refine Below.setCell ?_ ?_ _ | refine bdrewN ?_ _ | refine Below.drew ?_ | refine Below.alloc ?_ ?_ _ | refine bbehind ?_ (by assumption) ?_)); all_goals first | (simp; done) | (simp; omega) | omega)
  have hs0 : w.heap.size + 3 ≤ (((w.alloc (.cells #[.slice (some ⟨b, 0, none⟩) 5 5] 101)).alloc (.cells #[.int .i64 h.k, .string ⟨h.l.toArray⟩, .slice aa h.ats.length ca, .int .i64 h.n, .int .i64 h.d, .string ⟨h.x.toArray⟩, .slice ak ks.len ck] 43)).alloc (.cells #[.int .i64 i.k, .string ⟨i.l.toArray⟩, .slice ab i.ats.length cb, .int .i64 i.n, .int .i64 i.d, .string ⟨i.x.toArray⟩, .slice al js.len cl] 43)).heap.size := by simp
  generalize ((w.alloc (.cells #[.slice (some ⟨b, 0, none⟩) 5 5] 101)).alloc (.cells #[.int .i64 h.k, .string ⟨h.l.toArray⟩, .slice aa h.ats.length ca, .int .i64 h.n, .int .i64 h.d, .string ⟨h.x.toArray⟩, .slice ak ks.len ck] 43)).alloc (.cells #[.int .i64 i.k, .string ⟨i.l.toArray⟩, .slice ab i.ats.length cb, .int .i64 i.n, .int .i64 i.d, .string ⟨i.x.toArray⟩, .slice al js.len cl] 43) = W at *
  have a0 : W.cell? ⟨w.heap.size, 0, none⟩ = some (.slice (some ⟨b, 0, none⟩) 5 5) := cell_of_block k0 rfl
  have d0 : W.cell? ⟨w.heap.size + 1, 0, none⟩ = some (.int .i64 h.k) := cell_of_block k1 rfl
  have d1 : W.cell? ⟨w.heap.size + 1, 1, none⟩ = some (.string ⟨h.l.toArray⟩) := cell_of_block k1 rfl
  have d2 : W.cell? ⟨w.heap.size + 1, 2, none⟩ = some (.slice aa h.ats.length ca) := cell_of_block k1 rfl
  have d3 : W.cell? ⟨w.heap.size + 1, 3, none⟩ = some (.int .i64 h.n) := cell_of_block k1 rfl
  have d4 : W.cell? ⟨w.heap.size + 1, 4, none⟩ = some (.int .i64 h.d) := cell_of_block k1 rfl
  have d5 : W.cell? ⟨w.heap.size + 1, 5, none⟩ = some (.string ⟨h.x.toArray⟩) := cell_of_block k1 rfl
  have d6 : W.cell? ⟨w.heap.size + 1, 6, none⟩ = some (.slice ak ks.len ck) := cell_of_block k1 rfl
  have e0 : W.cell? ⟨w.heap.size + 2, 0, none⟩ = some (.int .i64 i.k) := cell_of_block k2 rfl
  have e1 : W.cell? ⟨w.heap.size + 2, 1, none⟩ = some (.string ⟨i.l.toArray⟩) := cell_of_block k2 rfl
  have e2 : W.cell? ⟨w.heap.size + 2, 2, none⟩ = some (.slice ab i.ats.length cb) := cell_of_block k2 rfl
  have e3 : W.cell? ⟨w.heap.size + 2, 3, none⟩ = some (.int .i64 i.n) := cell_of_block k2 rfl
  have e4 : W.cell? ⟨w.heap.size + 2, 4, none⟩ = some (.int .i64 i.d) := cell_of_block k2 rfl
  have e5 : W.cell? ⟨w.heap.size + 2, 5, none⟩ = some (.string ⟨i.x.toArray⟩) := cell_of_block k2 rfl
  have e6 : W.cell? ⟨w.heap.size + 2, 6, none⟩ = some (.slice al js.len cl) := cell_of_block k2 rfl
  have K0 := Lib.hid k0
  have K1 := Lib.hid k1
  have K2 := Lib.hid k2
  have CB := Lib.hid (compareBy_any h i aa ab ca cb b W (attrs_below HA.out BW) (attrs_below HB.out BW) (HAS.out.below BW))
  clear k0 k1 k2
  go_wp2_with fail
  refine CB.out.mono ?_
  rintro e w1 ⟨rfl, hb1⟩
  have hs1 := hb1.size
  have B1 := Lib.hid (BW.trans (hb1.mono (by omega)))
  have q0 : w1.cell? ⟨w.heap.size, 0, none⟩ = some (.slice (some ⟨b, 0, none⟩) 5 5) := cell_of_block ((hb1.block _ (by omega)).trans K0.out) rfl
  have q1 : w1.cell? ⟨w.heap.size + 1, 6, none⟩ = some (.slice ak ks.len ck) := cell_of_block ((hb1.block _ (by omega)).trans K1.out) rfl
  have q2 : w1.cell? ⟨w.heap.size + 2, 6, none⟩ = some (.slice al js.len cl) := cell_of_block ((hb1.block _ (by omega)).trans K2.out) rfl
  clear hb1
  by_cases hx : headL h i = 0
  · have HX := Lib.hid (show treeL h ks i js = foL ks js from if_neg (by simpa using hx))
    have b0 : (headL h i != 0) = false := by simpa using hx
    clear hx
    go_wp2_with fail
    refine (HFF.out _ B1.out).mono ?_
    rintro e w2 ⟨rfl, hb2⟩
    go_wp2_with fail
    go_ret
    exact ⟨ret_int' HX.out.symm, B1.out.trans (hb2.mono B1.out.size)⟩
  · have HX := Lib.hid (show treeL h ks i js = headL h i from if_pos hx)
    have b0 : (headL h i != 0) = true := by simpa using hx
    clear hx
    go_wp2_with fail
    go_ret
    exact ⟨ret_int' HX.out.symm, B1.out⟩

end Go.Proofs.YtcgedpfolloinaaGreat

namespace Go.Proofs.YtcgedpfolloinaaGreat
open Go.RowKit

set_option maxRecDepth 100000 in
set_option maxHeartbeats 8000000 in
theorem lists_step (f g : Fo) (v u : Value) (b : Nat) (w : World) (hl : Lies w v f) (hg : Lies w u g)
    (HT : ∀ k h ks i js aa ab ak al ca cb ck cl w1, k < f.len → f.drop k = .cons h ks (f.drop (k + 1)) → Below w.heap.size w w1 → AttrsLie w1 (.slice aa h.ats.length ca) h.ats → AttrsLie w1 (.slice ab i.ats.length cb) i.ats →
      Lies w1 (.slice ak ks.len ck) ks → Lies w1 (.slice al js.len cl) js → Calls Tryz.prog 144 #[.agg #[.slice (some ⟨b, 0, none⟩) 5 5], .agg #[.int .i64 h.k, .string ⟨h.l.toArray⟩, .slice aa h.ats.length ca, .int .i64 h.n, .int .i64 h.d, .string ⟨h.x.toArray⟩, .slice ak ks.len ck], .agg #[.int .i64 i.k, .string ⟨i.l.toArray⟩, .slice ab i.ats.length cb, .int .i64 i.n, .int .i64 i.d, .string ⟨i.x.toArray⟩, .slice al js.len cl]] w1 fun e w' => e = .returned (.int .i64 (treeL h ks i js)) ∧ Below w1.heap.size w1 w') :
    Calls Tryz.prog 143 #[v, u, .func (.func 144) #[.agg #[.slice (some ⟨b, 0, none⟩) 5 5]] #[]] w fun e w' => e = .returned (.int .i64 (foL f g)) ∧ Below w.heap.size w w' := by
  have HL := Lib.hid hl
  have HG := Lib.hid hg
  have HTT := Lib.hid HT
  have hfl := lies_len hl
  have hgl := lies_len hg
  obtain ⟨a, cap, rfl⟩ := lies_form hl
  obtain ⟨a', cap', rfl⟩ := lies_form hg
  obtain ⟨n, hn⟩ : ∃ n, min f.len g.len = n := ⟨_, rfl⟩
  clear hl hg HT
  by_cases hab : g.len < f.len
  · have hab' : decide (g.len < f.len) = true := by simpa using hab
    go_enter Tryz.func143, Tryz.ntmps143
    go_wp2_with fail
    go_loopw [14] (fun i wr => ∃ k : Nat, i = .int .i64 k ∧ k ≤ n ∧ foL f g = foL (f.drop k) (g.drop k) ∧ Below w.heap.size w wr) (fun i _ => n - (intOf i).toNat)
    case atStart => exact ⟨0, rfl, Nat.zero_le _, by cases f <;> cases g <;> rfl, Below.refl _ _⟩
    case round =>
      obtain ⟨k, rfl, hk, he, hbw⟩ := hrel
      have HE := Lib.hid he
      have BW := Lib.hid hbw
      have hsr := hbw.size
      clear he
      by_cases hlt : k < n
      · have hka : k < f.len := by omega
        have hkb : k < g.len := by omega
        obtain ⟨bf, of, cp, hs, -, -, hbf, hrow⟩ := lies_row HL.out (by omega)
        simp only [Value.slice.injEq] at hs
        obtain ⟨rfl, -, rfl⟩ := hs
        obtain ⟨bg, og, cp', hs, -, -, hbg, hrow'⟩ := lies_row HG.out (by omega)
        simp only [Value.slice.injEq] at hs
        obtain ⟨rfl, -, rfl⟩ := hs
        obtain ⟨h, ks, e, ⟨qa0, qa1, ⟨va, qa2, ha⟩, qa3, qa4, qa5⟩, vk, qa6, hlk⟩ := row_get hrow hka
        obtain ⟨i, js, e', ⟨qb0, qb1, ⟨vb, qb2, hb⟩, qb3, qb4, qb5⟩, vl, qb6, hlk'⟩ := row_get hrow' hkb
        obtain ⟨aa, ca, rfl⟩ := attrs_form ha
        obtain ⟨ab, cb, rfl⟩ := attrs_form hb
        obtain ⟨ak, ck, rfl⟩ := lies_form hlk
        obtain ⟨al, cl, rfl⟩ := lies_form hlk'
        have ra0 := (hbw.cell (p := ⟨bf, of + k * 7, none⟩) hbf).trans qa0
        have ra1 := (hbw.cell (p := ⟨bf, of + k * 7 + 1, none⟩) hbf).trans qa1
        have ra2 := (hbw.cell (p := ⟨bf, of + k * 7 + 2, none⟩) hbf).trans qa2
        have ra3 := (hbw.cell (p := ⟨bf, of + k * 7 + 3, none⟩) hbf).trans qa3
        have ra4 := (hbw.cell (p := ⟨bf, of + k * 7 + 4, none⟩) hbf).trans qa4
        have ra5 := (hbw.cell (p := ⟨bf, of + k * 7 + 5, none⟩) hbf).trans qa5
        have ra6 := (hbw.cell (p := ⟨bf, of + k * 7 + 6, none⟩) hbf).trans qa6
        have rb0 := (hbw.cell (p := ⟨bg, og + k * 7, none⟩) hbg).trans qb0
        have rb1 := (hbw.cell (p := ⟨bg, og + k * 7 + 1, none⟩) hbg).trans qb1
        have rb2 := (hbw.cell (p := ⟨bg, og + k * 7 + 2, none⟩) hbg).trans qb2
        have rb3 := (hbw.cell (p := ⟨bg, og + k * 7 + 3, none⟩) hbg).trans qb3
        have rb4 := (hbw.cell (p := ⟨bg, og + k * 7 + 4, none⟩) hbg).trans qb4
        have rb5 := (hbw.cell (p := ⟨bg, og + k * 7 + 5, none⟩) hbg).trans qb5
        have rb6 := (hbw.cell (p := ⟨bg, og + k * 7 + 6, none⟩) hbg).trans qb6
        have k1 : bf < wr.heap.size := by omega
        have k2 : bg < wr.heap.size := by omega
        have HS := Lib.hid (HE.out.trans (foL_drop e e'))
        have HC := Lib.hid (fun w1 (hw : Below w.heap.size w w1) => HTT.out k h ks i js aa ab ak al ca cb ck cl w1 hka e hw (attrs_below ha hw) (attrs_below hb hw) (lies_below hlk hw) (lies_below hlk' hw))
        clear e e' ha hb hlk hlk' hrow hrow' qa0 qa1 qa2 qa3 qa4 qa5 qa6 qb0 qb1 qb2 qb3 qb4 qb5 qb6 hbw
        go_wp2_with fail
        refine wp_region_quiet_tail (fun w' => ∃ x : Lower _, w' = x.val) 9 (by kernel_rfl) (by kernel_rfl) ⟨⟨_, (Below.refl _ _).drew⟩, rfl⟩ ?_
        simp only [List.take_succ_cons, List.take_zero, List.drop_succ_cons, List.drop_zero]
        repeat (go_big_quiet_step (fail))
        refine wpQuiet_nil ?_
        intro w1 hx1
        obtain ⟨x1, hx1⟩ := hx1
        have hb1 := x1.prop
        rw [← hx1] at hb1
        clear hx1 x1
        obtain ⟨hc1, hf1⟩ := bcell hb1
        have hs1 := hb1.size
        try simp at hs1
        try have hz10 : w.heap.size < w1.heap.size := by omega
        try have hz11 : w.heap.size + 1 < w1.heap.size := by omega
        try have hz12 : w.heap.size + 1 + 1 < w1.heap.size := by omega
        try have hz13 : w.heap.size + 1 + 1 + 1 < w1.heap.size := by omega
        try have hz14 : w.heap.size + 1 + 1 + 1 + 1 < w1.heap.size := by omega
        try have hz15 : w.heap.size + 1 + 1 + 1 + 1 + 1 < w1.heap.size := by omega
        clear hc1 hf1
        have B1 := Lib.hid (BW.out.trans (hb1.mono hsr))
        clear hb1
        go_wp2_with fail
        refine (HC.out _ B1.out).mono ?_
        rintro e w2 ⟨rfl, hb2⟩
        have B2 := Lib.hid (B1.out.trans (hb2.mono B1.out.size))
        clear hb2
        generalize treeL h ks i js = c at *
        by_cases hx : c = 0
        · have HX := Lib.hid (HS.out.trans (if_neg (by simpa using hx)))
          have b0 : (c != 0) = false := by simpa using hx
          clear hx
          go_wp2_with fail
          go_roundw
          case rel => exact ⟨k + 1, by go_num, by omega, HX.out, B2.out⟩
          case measure => simp [intOf]; omega
        · have HX := Lib.hid (HS.out.trans (if_pos (by simpa using hx)))
          have b0 : (c != 0) = true := by simpa using hx
          clear hx
          go_wp2_with fail
          go_ret
          exact ⟨ret_int' HX.out.symm, B2.out⟩
      · have HX := Lib.hid (HE.out.trans (foL_end (show k = min f.len g.len by omega)))
        try have d1 : decide (k < f.len) = false := by simp; omega
        try have d2 : decide (k < g.len) = false := by simp; omega
        clear hbw
        go_wp2_with fail
        refine (compare_any _ _ _).mono ?_
        rintro e w2 ⟨rfl, hw⟩
        obtain rfl := hw
        go_wp2_with fail
        go_ret
        exact ⟨ret_int' HX.out.symm, BW.out⟩
  · have hab' : decide (g.len < f.len) = false := by simpa using hab
    go_enter Tryz.func143, Tryz.ntmps143
    go_wp2_with fail
    go_loopw [14] (fun i wr => ∃ k : Nat, i = .int .i64 k ∧ k ≤ n ∧ foL f g = foL (f.drop k) (g.drop k) ∧ Below w.heap.size w wr) (fun i _ => n - (intOf i).toNat)
    case atStart => exact ⟨0, rfl, Nat.zero_le _, by cases f <;> cases g <;> rfl, Below.refl _ _⟩
    case round =>
      obtain ⟨k, rfl, hk, he, hbw⟩ := hrel
      have HE := Lib.hid he
      have BW := Lib.hid hbw
      have hsr := hbw.size
      clear he
      by_cases hlt : k < n
      · have hka : k < f.len := by omega
        have hkb : k < g.len := by omega
        obtain ⟨bf, of, cp, hs, -, -, hbf, hrow⟩ := lies_row HL.out (by omega)
        simp only [Value.slice.injEq] at hs
        obtain ⟨rfl, -, rfl⟩ := hs
        obtain ⟨bg, og, cp', hs, -, -, hbg, hrow'⟩ := lies_row HG.out (by omega)
        simp only [Value.slice.injEq] at hs
        obtain ⟨rfl, -, rfl⟩ := hs
        obtain ⟨h, ks, e, ⟨qa0, qa1, ⟨va, qa2, ha⟩, qa3, qa4, qa5⟩, vk, qa6, hlk⟩ := row_get hrow hka
        obtain ⟨i, js, e', ⟨qb0, qb1, ⟨vb, qb2, hb⟩, qb3, qb4, qb5⟩, vl, qb6, hlk'⟩ := row_get hrow' hkb
        obtain ⟨aa, ca, rfl⟩ := attrs_form ha
        obtain ⟨ab, cb, rfl⟩ := attrs_form hb
        obtain ⟨ak, ck, rfl⟩ := lies_form hlk
        obtain ⟨al, cl, rfl⟩ := lies_form hlk'
        have ra0 := (hbw.cell (p := ⟨bf, of + k * 7, none⟩) hbf).trans qa0
        have ra1 := (hbw.cell (p := ⟨bf, of + k * 7 + 1, none⟩) hbf).trans qa1
        have ra2 := (hbw.cell (p := ⟨bf, of + k * 7 + 2, none⟩) hbf).trans qa2
        have ra3 := (hbw.cell (p := ⟨bf, of + k * 7 + 3, none⟩) hbf).trans qa3
        have ra4 := (hbw.cell (p := ⟨bf, of + k * 7 + 4, none⟩) hbf).trans qa4
        have ra5 := (hbw.cell (p := ⟨bf, of + k * 7 + 5, none⟩) hbf).trans qa5
        have ra6 := (hbw.cell (p := ⟨bf, of + k * 7 + 6, none⟩) hbf).trans qa6
        have rb0 := (hbw.cell (p := ⟨bg, og + k * 7, none⟩) hbg).trans qb0
        have rb1 := (hbw.cell (p := ⟨bg, og + k * 7 + 1, none⟩) hbg).trans qb1
        have rb2 := (hbw.cell (p := ⟨bg, og + k * 7 + 2, none⟩) hbg).trans qb2
        have rb3 := (hbw.cell (p := ⟨bg, og + k * 7 + 3, none⟩) hbg).trans qb3
        have rb4 := (hbw.cell (p := ⟨bg, og + k * 7 + 4, none⟩) hbg).trans qb4
        have rb5 := (hbw.cell (p := ⟨bg, og + k * 7 + 5, none⟩) hbg).trans qb5
        have rb6 := (hbw.cell (p := ⟨bg, og + k * 7 + 6, none⟩) hbg).trans qb6
        have k1 : bf < wr.heap.size := by omega
        have k2 : bg < wr.heap.size := by omega
        have HS := Lib.hid (HE.out.trans (foL_drop e e'))
        have HC := Lib.hid (fun w1 (hw : Below w.heap.size w w1) => HTT.out k h ks i js aa ab ak al ca cb ck cl w1 hka e hw (attrs_below ha hw) (attrs_below hb hw) (lies_below hlk hw) (lies_below hlk' hw))
        clear e e' ha hb hlk hlk' hrow hrow' qa0 qa1 qa2 qa3 qa4 qa5 qa6 qb0 qb1 qb2 qb3 qb4 qb5 qb6 hbw
        go_wp2_with fail
        refine wp_region_quiet_tail (fun w' => ∃ x : Lower _, w' = x.val) 9 (by kernel_rfl) (by kernel_rfl) ⟨⟨_, (Below.refl _ _).drew⟩, rfl⟩ ?_
        simp only [List.take_succ_cons, List.take_zero, List.drop_succ_cons, List.drop_zero]
        repeat (go_big_quiet_step (fail))
        refine wpQuiet_nil ?_
        intro w1 hx1
        obtain ⟨x1, hx1⟩ := hx1
        have hb1 := x1.prop
        rw [← hx1] at hb1
        clear hx1 x1
        obtain ⟨hc1, hf1⟩ := bcell hb1
        have hs1 := hb1.size
        try simp at hs1
        try have hz10 : w.heap.size < w1.heap.size := by omega
        try have hz11 : w.heap.size + 1 < w1.heap.size := by omega
        try have hz12 : w.heap.size + 1 + 1 < w1.heap.size := by omega
        try have hz13 : w.heap.size + 1 + 1 + 1 < w1.heap.size := by omega
        try have hz14 : w.heap.size + 1 + 1 + 1 + 1 < w1.heap.size := by omega
        try have hz15 : w.heap.size + 1 + 1 + 1 + 1 + 1 < w1.heap.size := by omega
        clear hc1 hf1
        have B1 := Lib.hid (BW.out.trans (hb1.mono hsr))
        clear hb1
        go_wp2_with fail
        refine (HC.out _ B1.out).mono ?_
        rintro e w2 ⟨rfl, hb2⟩
        have B2 := Lib.hid (B1.out.trans (hb2.mono B1.out.size))
        clear hb2
        generalize treeL h ks i js = c at *
        by_cases hx : c = 0
        · have HX := Lib.hid (HS.out.trans (if_neg (by simpa using hx)))
          have b0 : (c != 0) = false := by simpa using hx
          clear hx
          go_wp2_with fail
          go_roundw
          case rel => exact ⟨k + 1, by go_num, by omega, HX.out, B2.out⟩
          case measure => simp [intOf]; omega
        · have HX := Lib.hid (HS.out.trans (if_pos (by simpa using hx)))
          have b0 : (c != 0) = true := by simpa using hx
          clear hx
          go_wp2_with fail
          go_ret
          exact ⟨ret_int' HX.out.symm, B2.out⟩
      · have HX := Lib.hid (HE.out.trans (foL_end (show k = min f.len g.len by omega)))
        try have d1 : decide (k < f.len) = false := by simp; omega
        try have d2 : decide (k < g.len) = false := by simp; omega
        clear hbw
        go_wp2_with fail
        refine (compare_any _ _ _).mono ?_
        rintro e w2 ⟨rfl, hw⟩
        obtain rfl := hw
        go_wp2_with fail
        go_ret
        exact ⟨ret_int' HX.out.symm, BW.out⟩

end Go.Proofs.YtcgedpfolloinaaGreat

namespace Go.Proofs.YtcgedpfolloinaaGreat
open Go.RowKit

set_option maxRecDepth 100000 in
set_option maxHeartbeats 4000000 in
theorem forests_step (f g : Fo) (v u : Value) (b : Nat) (w : World)
    (HC : ∀ w1, Below w.heap.size w w1 → Calls Tryz.prog 143 #[v, u, .func (.func 144) #[.agg #[.slice (some ⟨b, 0, none⟩) 5 5]] #[]] w1 fun e w' => e = .returned (.int .i64 (foL f g)) ∧ Below w1.heap.size w1 w') :
    Calls Tryz.prog 89 #[.agg #[.slice (some ⟨b, 0, none⟩) 5 5], v, u] w fun e w' => e = .returned (.int .i64 (foL f g)) ∧ Below w.heap.size w w' := by
  have HCC := Lib.hid HC
  clear HC
  have hmf : ∀ (fn : Fn) (first cap : Array Value) (w : World), (Instr.makeFunc fn first cap).run Tryz.prog w = .ok (.func fn first cap) w := fun _ _ _ _ => rfl
  go_enter Tryz.func89, Tryz.ntmps89
  go_wp2_with fail
  have B0 : Below w.heap.size w (w.alloc (.cells #[.slice (some ⟨b, 0, none⟩) 5 5] 101)) := by ((repeat' (first | exact Below.refl _ _ | assumption | refine Below.setCell ?_ ?_ _ | refine bdrewN ?_ _ | refine Below.drew ?_ | refine Below.alloc ?_ ?_ _ | refine bbehind ?_ (by assumption) ?_)); all_goals first | (simp; done) | (simp; omega) | omega)
  refine (HCC.out _ B0).mono ?_
  rintro e w2 ⟨rfl, hb2⟩
  go_wp2_with fail
  go_ret
  exact ⟨rfl, B0.trans (hb2.mono B0.size)⟩
theorem forests_any (b : Nat) : ∀ (N : Nat) (f g : Fo) (v u : Value) (w : World), f.size ≤ N → Lies w v f → Lies w u g → AspAt w b →
    Calls Tryz.prog 89 #[.agg #[.slice (some ⟨b, 0, none⟩) 5 5], v, u] w fun e w' => e = .returned (.int .i64 (foL f g)) ∧ Below w.heap.size w w' := by
  intro N
  induction N with
  | zero =>
    intro f g v u w hN hl hg hA
    refine forests_step f g v u b w fun w1 hw => lists_step f g v u b w1 (lies_below hl hw) (lies_below hg hw) fun k h ks i js aa ab ak al ca cb ck cl w2 hk e => ?_
    have := kid_size e
    omega
  | succ N ih =>
    intro f g v u w hN hl hg hA
    refine forests_step f g v u b w fun w1 hw => lists_step f g v u b w1 (lies_below hl hw) (lies_below hg hw) fun k h ks i js aa ab ak al ca cb ck cl w2 hk e hw2 ha hb hlk hll => ?_
    have := kid_size e
    have hA2 := (hA.below hw).below hw2
    exact otrees_step h i ks js aa ab ak al ca cb ck cl b w2 ha hb hA2 fun w3 hw3 => ih ks js _ _ w3 (by omega) (lies_below hlk hw3) (lies_below hll hw3) (hA2.below hw3)

end Go.Proofs.YtcgedpfolloinaaGreat

namespace Go.Proofs.YtcgedpfolloinaaGreat
open Go.RowKit

/-- what Compare gives. -/
def cmpF (f g : Fo) : Int × Int := if firstNZ [foErr f, foErr g] = 0 then (foL f g, 0) else (0, firstNZ [foErr f, foErr g])
set_option maxRecDepth 100000 in
set_option maxHeartbeats 4000000 in
theorem tcompare_any (f g : Fo) (v u : Value) (w : World) (hl : Lies w v f) (hg : Lies w u g) (hs : Small f) (hs' : Small g) :
    Calls Tryz.prog 29 #[v, u] w fun e w' => e = .returned (.tuple #[.int .i64 (cmpF f g).1, .int .i64 (cmpF f g).2]) ∧ Below w.heap.size w w' := by
  have CF := Lib.hid (fun w1 (hw : Below w.heap.size w w1) => tcheck_any f v w1 (lies_below hl hw) hs)
  have CG := Lib.hid (fun w1 (hw : Below w.heap.size w w1) => tcheck_any g u w1 (lies_below hg hw) hs')
  have OF := Lib.hid (fun b w1 (hw : Below w.heap.size w w1) hA => forests_any b f.size f g v u w1 (Nat.le_refl _) (lies_below hl hw) (lies_below hg hw) hA)
  obtain ⟨R, hR⟩ : ∃ R, cmpF f g = R := ⟨_, rfl⟩
  rw [hR]
  have HR := Lib.hid hR.symm
  obtain ⟨a, cap, rfl⟩ := lies_form hl
  obtain ⟨a', cap', rfl⟩ := lies_form hg
  clear hl hg hs hs' hR
  unfold cmpF at HR
  generalize foErr f = e1 at *
  generalize foErr g = e2 at *
  generalize foL f g = c at *
  go_enter Tryz.func29, Tryz.ntmps29
  go_wp2_with fail
  refine (CF.out w (Below.refl _ _)).mono ?_
  rintro e w1 ⟨rfl, hb1⟩
  go_wp2_with fail
  refine (CG.out w1 hb1).mono ?_
  rintro e w2 ⟨rfl, hb2⟩
  have B2 := hb1.trans (hb2.mono hb1.size)
  clear hb1 hb2
  go_wp2_with fail
  have B3 : Below w.heap.size w (w2.alloc (.cells #[.int .i64 e1, .int .i64 e2] 32)) := B2.alloc B2.size _
  have hi3 := ints_pair (World.alloc_heap_new w2 (.cells #[.int .i64 e1, .int .i64 e2] 32)) (by simp)
  generalize w2.alloc (.cells #[.int .i64 e1, .int .i64 e2] 32) = w3 at *
  refine (terr_any _ _ _ hi3 (by simp)).mono ?_
  rintro e w4 ⟨rfl, hw⟩
  obtain rfl := hw
  generalize firstNZ [e1, e2] = ee at *
  by_cases h0 : ee = 0
  · have HX := HR.out.trans (if_pos h0)
    subst HX
    have b0 : (ee != 0) = false := by simpa using h0
    clear h0
    go_wp2_with fail
    refine (aspects_any _).mono ?_
    rintro e w5 ⟨b, rfl, hbb, hA, hb5⟩
    have B5 := B3.trans (hb5.mono B3.size)
    have OO := Lib.hid (OF.out b w5 B5 hA)
    clear hA hb5 hbb
    go_wp2_with fail
    refine OO.out.mono ?_
    rintro e w6 ⟨rfl, hb6⟩
    go_wp2_with fail
    go_ret2
    exact ⟨rfl, B5.trans (hb6.mono B5.size)⟩
  · have HX := HR.out.trans (if_neg h0)
    subst HX
    have b0 : (ee != 0) = true := by simpa using h0
    clear h0
    go_wp2_with fail
    go_ret2
    exact ⟨rfl, B3⟩

end Go.Proofs.YtcgedpfolloinaaGreat

namespace Go.Proofs.YtcgedpfolloinaaGreat
open Go.RowKit

def cmpH (h i : Hd) : Int × Int := if firstNZ [headErr h, headErr i] = 0 then (headL h i, 0) else (0, firstNZ [headErr h, headErr i])
set_option linter.unusedSimpArgs false in
set_option maxRecDepth 100000 in
set_option maxHeartbeats 8000000 in
theorem tcmpHeads_any (h i : Hd) (aa ab : Option Addr) (ca cb : Nat) (w : World) (ha : AttrsLie w (.slice aa h.ats.length ca) h.ats) (hb : AttrsLie w (.slice ab i.ats.length cb) i.ats) (hf : HdFit h) (hf' : HdFit i) :
    Calls Tryz.prog 27 #[.agg #[.int .i64 h.k, .string ⟨h.l.toArray⟩, .slice aa h.ats.length ca, .int .i64 h.n, .int .i64 h.d, .string ⟨h.x.toArray⟩], .agg #[.int .i64 i.k, .string ⟨i.l.toArray⟩, .slice ab i.ats.length cb, .int .i64 i.n, .int .i64 i.d, .string ⟨i.x.toArray⟩]] w fun e w' => e = .returned (.tuple #[.int .i64 (cmpH h i).1, .int .i64 (cmpH h i).2]) ∧ Below w.heap.size w w' := by
  have OF := Lib.hid (fun b w1 (hw : Below w.heap.size w w1) hA => compareBy_any h i aa ab ca cb b w1 (attrs_below ha hw) (attrs_below hb hw) hA)
  obtain ⟨R, hR⟩ : ∃ R, cmpH h i = R := ⟨_, rfl⟩
  rw [hR]
  have HR := Lib.hid hR.symm
  have PF := Lib.hid (show AttrsLie w (.slice aa h.ats.length ca) h.ats ∧ HdFit h from ⟨ha, hf⟩)
  have PG := Lib.hid (show AttrsLie w (.slice ab i.ats.length cb) i.ats ∧ HdFit i from ⟨hb, hf'⟩)
  clear ha hb hf hf' hR
  unfold cmpH at HR
  go_enter Tryz.func27, Tryz.ntmps27
  go_upto_region 1 with fail
  have k0 : ((w.alloc (.cells #[.int .i64 h.k, .string ⟨h.l.toArray⟩, .slice aa h.ats.length ca, .int .i64 h.n, .int .i64 h.d, .string ⟨h.x.toArray⟩] 27)).alloc (.cells #[.int .i64 i.k, .string ⟨i.l.toArray⟩, .slice ab i.ats.length cb, .int .i64 i.n, .int .i64 i.d, .string ⟨i.x.toArray⟩] 27)).heap[w.heap.size]? = some (.cells #[.int .i64 h.k, .string ⟨h.l.toArray⟩, .slice aa h.ats.length ca, .int .i64 h.n, .int .i64 h.d, .string ⟨h.x.toArray⟩] 27) := (Below.heap_alloc _ _ _ (by simp)).trans (World.alloc_heap_new w (.cells #[.int .i64 h.k, .string ⟨h.l.toArray⟩, .slice aa h.ats.length ca, .int .i64 h.n, .int .i64 h.d, .string ⟨h.x.toArray⟩] 27))
  have k1 : ((w.alloc (.cells #[.int .i64 h.k, .string ⟨h.l.toArray⟩, .slice aa h.ats.length ca, .int .i64 h.n, .int .i64 h.d, .string ⟨h.x.toArray⟩] 27)).alloc (.cells #[.int .i64 i.k, .string ⟨i.l.toArray⟩, .slice ab i.ats.length cb, .int .i64 i.n, .int .i64 i.d, .string ⟨i.x.toArray⟩] 27)).heap[w.heap.size + 1]? = some (.cells #[.int .i64 i.k, .string ⟨i.l.toArray⟩, .slice ab i.ats.length cb, .int .i64 i.n, .int .i64 i.d, .string ⟨i.x.toArray⟩] 27) := by
    have := World.alloc_heap_new (w.alloc (.cells #[.int .i64 h.k, .string ⟨h.l.toArray⟩, .slice aa h.ats.length ca, .int .i64 h.n, .int .i64 h.d, .string ⟨h.x.toArray⟩] 27)) (.cells #[.int .i64 i.k, .string ⟨i.l.toArray⟩, .slice ab i.ats.length cb, .int .i64 i.n, .int .i64 i.d, .string ⟨i.x.toArray⟩] 27)
    rw [show (w.alloc (.cells #[.int .i64 h.k, .string ⟨h.l.toArray⟩, .slice aa h.ats.length ca, .int .i64 h.n, .int .i64 h.d, .string ⟨h.x.toArray⟩] 27)).heap.size = w.heap.size + 1 by simp] at this
    exact this
  have BW : Below w.heap.size w ((w.alloc (.cells #[.int .i64 h.k, .string ⟨h.l.toArray⟩, .slice aa h.ats.length ca, .int .i64 h.n, .int .i64 h.d, .string ⟨h.x.toArray⟩] 27)).alloc (.cells #[.int .i64 i.k, .string ⟨i.l.toArray⟩, .slice ab i.ats.length cb, .int .i64 i.n, .int .i64 i.d, .string ⟨i.x.toArray⟩] 27)) := by ((repeat' (first | exact Below.refl _ _ | assumption | refine Below.setCell ?_ ?_ _ | refine bdrewN ?_ _ | refine Below.drew ?_ | refine Below.alloc ?_ ?_ _ | refine bbehind ?_ (by assumption) ?_)); all_goals first | (simp; done) | (simp; omega) | omega)
  have hs0 : w.heap.size + 2 ≤ ((w.alloc (.cells #[.int .i64 h.k, .string ⟨h.l.toArray⟩, .slice aa h.ats.length ca, .int .i64 h.n, .int .i64 h.d, .string ⟨h.x.toArray⟩] 27)).alloc (.cells #[.int .i64 i.k, .string ⟨i.l.toArray⟩, .slice ab i.ats.length cb, .int .i64 i.n, .int .i64 i.d, .string ⟨i.x.toArray⟩] 27)).heap.size := by simp
  generalize (w.alloc (.cells #[.int .i64 h.k, .string ⟨h.l.toArray⟩, .slice aa h.ats.length ca, .int .i64 h.n, .int .i64 h.d, .string ⟨h.x.toArray⟩] 27)).alloc (.cells #[.int .i64 i.k, .string ⟨i.l.toArray⟩, .slice ab i.ats.length cb, .int .i64 i.n, .int .i64 i.d, .string ⟨i.x.toArray⟩] 27) = W at *
  have d0 : W.cell? ⟨w.heap.size, 0, none⟩ = some (.int .i64 h.k) := cell_of_block k0 rfl
  have d1 : W.cell? ⟨w.heap.size, 1, none⟩ = some (.string ⟨h.l.toArray⟩) := cell_of_block k0 rfl
  have d2 : W.cell? ⟨w.heap.size, 2, none⟩ = some (.slice aa h.ats.length ca) := cell_of_block k0 rfl
  have d3 : W.cell? ⟨w.heap.size, 3, none⟩ = some (.int .i64 h.n) := cell_of_block k0 rfl
  have d4 : W.cell? ⟨w.heap.size, 4, none⟩ = some (.int .i64 h.d) := cell_of_block k0 rfl
  have d5 : W.cell? ⟨w.heap.size, 5, none⟩ = some (.string ⟨h.x.toArray⟩) := cell_of_block k0 rfl
  have f0 : W.cell? ⟨w.heap.size + 1, 0, none⟩ = some (.int .i64 i.k) := cell_of_block k1 rfl
  have f1 : W.cell? ⟨w.heap.size + 1, 1, none⟩ = some (.string ⟨i.l.toArray⟩) := cell_of_block k1 rfl
  have f2 : W.cell? ⟨w.heap.size + 1, 2, none⟩ = some (.slice ab i.ats.length cb) := cell_of_block k1 rfl
  have f3 : W.cell? ⟨w.heap.size + 1, 3, none⟩ = some (.int .i64 i.n) := cell_of_block k1 rfl
  have f4 : W.cell? ⟨w.heap.size + 1, 4, none⟩ = some (.int .i64 i.d) := cell_of_block k1 rfl
  have f5 : W.cell? ⟨w.heap.size + 1, 5, none⟩ = some (.string ⟨i.x.toArray⟩) := cell_of_block k1 rfl
  have n0 : w.heap.size < W.heap.size := by omega
  have n1 : w.heap.size + 1 < W.heap.size := by omega
  have K0 := Lib.hid k0
  have K1 := Lib.hid k1
  have XH := Lib.hid (fun (x : Lower W) (hd : Hd) (a : Option Addr) (c : Nat) (hp : AttrsLie w (.slice a hd.ats.length c) hd.ats ∧ HdFit hd) => thead_any hd (.slice a hd.ats.length c) x.val (attrs_below hp.1 (BW.trans (x.prop.mono BW.size))) hp.2)
  clear k0 k1
  refine wp_region_quiet_tail (fun w' => ∃ x : Lower W, w' = x.val) 4 (by kernel_rfl) (by kernel_rfl) ⟨⟨_, (Below.refl _ _).drew⟩, rfl⟩ ?_
  simp only [List.take_succ_cons, List.take_zero, List.drop_succ_cons, List.drop_zero]
  repeat (go_big_quiet_step ((go_at_call 17; exact calls_lower _ (XH.out _ _ _ _ (by first | exact PF.out | exact PG.out)))))
  refine wpQuiet_nil ?_
  intro w2 hx1
  obtain ⟨x1, hx1⟩ := hx1
  have hb1 := x1.prop
  rw [← hx1] at hb1
  clear hx1 x1 d0 d1 d2 d3 d4 d5 f0 f1 f2 f3 f4 f5 XH PF PG
  generalize headErr h = e1 at *
  generalize headErr i = e2 at *
  generalize headL h i = c at *
  have hs1 := hb1.size
  have B2 := BW.trans (hb1.mono (by omega))
  have K02 := Lib.hid ((hb1.block _ (by omega)).trans K0.out)
  have K12 := Lib.hid ((hb1.block _ (by omega)).trans K1.out)
  clear hb1
  go_wp2_with fail
  have B3 : Below w.heap.size w (w2.alloc (.cells #[.int .i64 e1, .int .i64 e2] 32)) := B2.alloc B2.size _
  have hi3 := ints_pair (World.alloc_heap_new w2 (.cells #[.int .i64 e1, .int .i64 e2] 32)) (by simp)
  have k03 : (w2.alloc (.cells #[.int .i64 e1, .int .i64 e2] 32)).heap[w.heap.size]? = _ := (Below.heap_alloc _ _ _ (by omega)).trans K02.out
  have k13 : (w2.alloc (.cells #[.int .i64 e1, .int .i64 e2] 32)).heap[w.heap.size + 1]? = _ := (Below.heap_alloc _ _ _ (by omega)).trans K12.out
  have hs3 : (w2.alloc (.cells #[.int .i64 e1, .int .i64 e2] 32)).heap.size = w2.heap.size + 1 := by simp
  generalize w2.alloc (.cells #[.int .i64 e1, .int .i64 e2] 32) = w3 at *
  refine (terr_any _ _ _ hi3 (by simp)).mono ?_
  rintro e w4 ⟨rfl, hw⟩
  obtain rfl := hw
  generalize firstNZ [e1, e2] = ee at *
  have K03 := Lib.hid k03
  have K13 := Lib.hid k13
  clear hi3 k03 k13
  by_cases h0 : ee = 0
  · have HX := HR.out.trans (if_pos h0)
    subst HX
    have b0 : (ee != 0) = false := by simpa using h0
    clear h0
    go_wp2_with fail
    refine wp_region_any (by kernel_rfl) ?_
    change wpAny _ _ _ _ _ _ _ (World.drew _)
    have B4 := B3.drew
    have K04 := Lib.hid (show (World.drew w3).heap[w.heap.size]? = _ from K03.out)
    have K14 := Lib.hid (show (World.drew w3).heap[w.heap.size + 1]? = _ from K13.out)
    have hs4 : (World.drew w3).heap.size = w2.heap.size + 1 := hs3
    generalize World.drew w3 = X at *
    have d0 : X.cell? ⟨w.heap.size, 0, none⟩ = some (.int .i64 h.k) := cell_of_block K04.out rfl
    have d1 : X.cell? ⟨w.heap.size, 1, none⟩ = some (.string ⟨h.l.toArray⟩) := cell_of_block K04.out rfl
    have d2 : X.cell? ⟨w.heap.size, 2, none⟩ = some (.slice aa h.ats.length ca) := cell_of_block K04.out rfl
    have d3 : X.cell? ⟨w.heap.size, 3, none⟩ = some (.int .i64 h.n) := cell_of_block K04.out rfl
    have d4 : X.cell? ⟨w.heap.size, 4, none⟩ = some (.int .i64 h.d) := cell_of_block K04.out rfl
    have d5 : X.cell? ⟨w.heap.size, 5, none⟩ = some (.string ⟨h.x.toArray⟩) := cell_of_block K04.out rfl
    have f0 : X.cell? ⟨w.heap.size + 1, 0, none⟩ = some (.int .i64 i.k) := cell_of_block K14.out rfl
    have f1 : X.cell? ⟨w.heap.size + 1, 1, none⟩ = some (.string ⟨i.l.toArray⟩) := cell_of_block K14.out rfl
    have f2 : X.cell? ⟨w.heap.size + 1, 2, none⟩ = some (.slice ab i.ats.length cb) := cell_of_block K14.out rfl
    have f3 : X.cell? ⟨w.heap.size + 1, 3, none⟩ = some (.int .i64 i.n) := cell_of_block K14.out rfl
    have f4 : X.cell? ⟨w.heap.size + 1, 4, none⟩ = some (.int .i64 i.d) := cell_of_block K14.out rfl
    have f5 : X.cell? ⟨w.heap.size + 1, 5, none⟩ = some (.string ⟨i.x.toArray⟩) := cell_of_block K14.out rfl
    refine wpAny_ready (rs := [0, 1, 2]) (by decide +kernel) (by simp) ?_
    refine AllReady.cons rfl (fun K hK => ?_) (AllReady.cons rfl (fun K hK => ?_) (AllReady.cons rfl (fun K hK => ?_) AllReady.nil))
    · go_simp
      refine hK _ _ ?_; clear hK K
      refine wpAny_ready (rs := [1, 2]) (by decide +kernel) (by simp) ?_
      refine AllReady.cons rfl (fun K hK => ?_) (AllReady.cons rfl (fun K hK => ?_) AllReady.nil)
      · go_simp
        refine hK _ _ ?_; clear hK K
        refine wpAny_ready (rs := [2]) (by decide +kernel) (by simp) ?_
        refine AllReady.cons rfl (fun K hK => ?_) AllReady.nil
        go_simp
        go_wp2_with (go_at_call 87; refine (aspects_any _).mono ?_; rintro e w5 ⟨b5, rfl, hbb5, hA5, hb5⟩; have B5 := B4.trans (hb5.mono B4.size); have K05 := (hb5.block w.heap.size (by omega)).trans K04.out; have K15 := (hb5.block (w.heap.size + 1) (by omega)).trans K14.out)
        have g0 : w5.cell? ⟨w.heap.size, 0, none⟩ = some (.int .i64 h.k) := cell_of_block K05 rfl
        have g1 : w5.cell? ⟨w.heap.size, 1, none⟩ = some (.string ⟨h.l.toArray⟩) := cell_of_block K05 rfl
        have g2 : w5.cell? ⟨w.heap.size, 2, none⟩ = some (.slice aa h.ats.length ca) := cell_of_block K05 rfl
        have g3 : w5.cell? ⟨w.heap.size, 3, none⟩ = some (.int .i64 h.n) := cell_of_block K05 rfl
        have g4 : w5.cell? ⟨w.heap.size, 4, none⟩ = some (.int .i64 h.d) := cell_of_block K05 rfl
        have g5 : w5.cell? ⟨w.heap.size, 5, none⟩ = some (.string ⟨h.x.toArray⟩) := cell_of_block K05 rfl
        have m0 : w5.cell? ⟨w.heap.size + 1, 0, none⟩ = some (.int .i64 i.k) := cell_of_block K15 rfl
        have m1 : w5.cell? ⟨w.heap.size + 1, 1, none⟩ = some (.string ⟨i.l.toArray⟩) := cell_of_block K15 rfl
        have m2 : w5.cell? ⟨w.heap.size + 1, 2, none⟩ = some (.slice ab i.ats.length cb) := cell_of_block K15 rfl
        have m3 : w5.cell? ⟨w.heap.size + 1, 3, none⟩ = some (.int .i64 i.n) := cell_of_block K15 rfl
        have m4 : w5.cell? ⟨w.heap.size + 1, 4, none⟩ = some (.int .i64 i.d) := cell_of_block K15 rfl
        have m5 : w5.cell? ⟨w.heap.size + 1, 5, none⟩ = some (.string ⟨i.x.toArray⟩) := cell_of_block K15 rfl
        clear K05 K15
        refine wpAny_ready (rs := [3]) (by decide +kernel) (by simp) ?_
        refine AllReady.cons rfl (fun K hK => ?_) AllReady.nil
        go_simp
        go_wp2_with (go_at_call 86; refine (OF.out b5 w5 B5 hA5).mono ?_; rintro e w6 ⟨rfl, hb6⟩)
        have B6 := B5.trans (hb6.mono B5.size)
        refine wpAny_ready (rs := [4]) (by decide +kernel) (by simp) ?_
        refine AllReady.cons rfl (fun K hK => ?_) AllReady.nil
        go_simp
        refine hK _ _ ?_; clear hK K
        refine wpAny_ready (rs := [5]) (by decide +kernel) (by simp) ?_
        refine AllReady.cons rfl (fun K hK => ?_) AllReady.nil
        go_simp
        refine hK _ _ ?_; clear hK K
        refine wpAny_done (by decide +kernel) ?_ _
        go_wp2_with fail
        go_ret2
        exact ⟨rfl, B6⟩
      · go_simp
        go_wp2_with (go_at_call 87; refine (aspects_any _).mono ?_; rintro e w5 ⟨b5, rfl, hbb5, hA5, hb5⟩; have B5 := B4.trans (hb5.mono B4.size); have K05 := (hb5.block w.heap.size (by omega)).trans K04.out; have K15 := (hb5.block (w.heap.size + 1) (by omega)).trans K14.out)
        have g0 : w5.cell? ⟨w.heap.size, 0, none⟩ = some (.int .i64 h.k) := cell_of_block K05 rfl
        have g1 : w5.cell? ⟨w.heap.size, 1, none⟩ = some (.string ⟨h.l.toArray⟩) := cell_of_block K05 rfl
        have g2 : w5.cell? ⟨w.heap.size, 2, none⟩ = some (.slice aa h.ats.length ca) := cell_of_block K05 rfl
        have g3 : w5.cell? ⟨w.heap.size, 3, none⟩ = some (.int .i64 h.n) := cell_of_block K05 rfl
        have g4 : w5.cell? ⟨w.heap.size, 4, none⟩ = some (.int .i64 h.d) := cell_of_block K05 rfl
        have g5 : w5.cell? ⟨w.heap.size, 5, none⟩ = some (.string ⟨h.x.toArray⟩) := cell_of_block K05 rfl
        have m0 : w5.cell? ⟨w.heap.size + 1, 0, none⟩ = some (.int .i64 i.k) := cell_of_block K15 rfl
        have m1 : w5.cell? ⟨w.heap.size + 1, 1, none⟩ = some (.string ⟨i.l.toArray⟩) := cell_of_block K15 rfl
        have m2 : w5.cell? ⟨w.heap.size + 1, 2, none⟩ = some (.slice ab i.ats.length cb) := cell_of_block K15 rfl
        have m3 : w5.cell? ⟨w.heap.size + 1, 3, none⟩ = some (.int .i64 i.n) := cell_of_block K15 rfl
        have m4 : w5.cell? ⟨w.heap.size + 1, 4, none⟩ = some (.int .i64 i.d) := cell_of_block K15 rfl
        have m5 : w5.cell? ⟨w.heap.size + 1, 5, none⟩ = some (.string ⟨i.x.toArray⟩) := cell_of_block K15 rfl
        clear K05 K15
        refine wpAny_ready (rs := [1]) (by decide +kernel) (by simp) ?_
        refine AllReady.cons rfl (fun K hK => ?_) AllReady.nil
        go_simp
        refine hK _ _ ?_; clear hK K
        refine wpAny_ready (rs := [3]) (by decide +kernel) (by simp) ?_
        refine AllReady.cons rfl (fun K hK => ?_) AllReady.nil
        go_simp
        go_wp2_with (go_at_call 86; refine (OF.out b5 w5 B5 hA5).mono ?_; rintro e w6 ⟨rfl, hb6⟩)
        have B6 := B5.trans (hb6.mono B5.size)
        refine wpAny_ready (rs := [4]) (by decide +kernel) (by simp) ?_
        refine AllReady.cons rfl (fun K hK => ?_) AllReady.nil
        go_simp
        refine hK _ _ ?_; clear hK K
        refine wpAny_ready (rs := [5]) (by decide +kernel) (by simp) ?_
        refine AllReady.cons rfl (fun K hK => ?_) AllReady.nil
        go_simp
        refine hK _ _ ?_; clear hK K
        refine wpAny_done (by decide +kernel) ?_ _
        go_wp2_with fail
        go_ret2
        exact ⟨rfl, B6⟩
    · go_simp
      refine hK _ _ ?_; clear hK K
      refine wpAny_ready (rs := [0, 2]) (by decide +kernel) (by simp) ?_
      refine AllReady.cons rfl (fun K hK => ?_) (AllReady.cons rfl (fun K hK => ?_) AllReady.nil)
      · go_simp
        refine hK _ _ ?_; clear hK K
        refine wpAny_ready (rs := [2]) (by decide +kernel) (by simp) ?_
        refine AllReady.cons rfl (fun K hK => ?_) AllReady.nil
        go_simp
        go_wp2_with (go_at_call 87; refine (aspects_any _).mono ?_; rintro e w5 ⟨b5, rfl, hbb5, hA5, hb5⟩; have B5 := B4.trans (hb5.mono B4.size); have K05 := (hb5.block w.heap.size (by omega)).trans K04.out; have K15 := (hb5.block (w.heap.size + 1) (by omega)).trans K14.out)
        have g0 : w5.cell? ⟨w.heap.size, 0, none⟩ = some (.int .i64 h.k) := cell_of_block K05 rfl
        have g1 : w5.cell? ⟨w.heap.size, 1, none⟩ = some (.string ⟨h.l.toArray⟩) := cell_of_block K05 rfl
        have g2 : w5.cell? ⟨w.heap.size, 2, none⟩ = some (.slice aa h.ats.length ca) := cell_of_block K05 rfl
        have g3 : w5.cell? ⟨w.heap.size, 3, none⟩ = some (.int .i64 h.n) := cell_of_block K05 rfl
        have g4 : w5.cell? ⟨w.heap.size, 4, none⟩ = some (.int .i64 h.d) := cell_of_block K05 rfl
        have g5 : w5.cell? ⟨w.heap.size, 5, none⟩ = some (.string ⟨h.x.toArray⟩) := cell_of_block K05 rfl
        have m0 : w5.cell? ⟨w.heap.size + 1, 0, none⟩ = some (.int .i64 i.k) := cell_of_block K15 rfl
        have m1 : w5.cell? ⟨w.heap.size + 1, 1, none⟩ = some (.string ⟨i.l.toArray⟩) := cell_of_block K15 rfl
        have m2 : w5.cell? ⟨w.heap.size + 1, 2, none⟩ = some (.slice ab i.ats.length cb) := cell_of_block K15 rfl
        have m3 : w5.cell? ⟨w.heap.size + 1, 3, none⟩ = some (.int .i64 i.n) := cell_of_block K15 rfl
        have m4 : w5.cell? ⟨w.heap.size + 1, 4, none⟩ = some (.int .i64 i.d) := cell_of_block K15 rfl
        have m5 : w5.cell? ⟨w.heap.size + 1, 5, none⟩ = some (.string ⟨i.x.toArray⟩) := cell_of_block K15 rfl
        clear K05 K15
        refine wpAny_ready (rs := [3]) (by decide +kernel) (by simp) ?_
        refine AllReady.cons rfl (fun K hK => ?_) AllReady.nil
        go_simp
        go_wp2_with (go_at_call 86; refine (OF.out b5 w5 B5 hA5).mono ?_; rintro e w6 ⟨rfl, hb6⟩)
        have B6 := B5.trans (hb6.mono B5.size)
        refine wpAny_ready (rs := [4]) (by decide +kernel) (by simp) ?_
        refine AllReady.cons rfl (fun K hK => ?_) AllReady.nil
        go_simp
        refine hK _ _ ?_; clear hK K
        refine wpAny_ready (rs := [5]) (by decide +kernel) (by simp) ?_
        refine AllReady.cons rfl (fun K hK => ?_) AllReady.nil
        go_simp
        refine hK _ _ ?_; clear hK K
        refine wpAny_done (by decide +kernel) ?_ _
        go_wp2_with fail
        go_ret2
        exact ⟨rfl, B6⟩
      · go_simp
        go_wp2_with (go_at_call 87; refine (aspects_any _).mono ?_; rintro e w5 ⟨b5, rfl, hbb5, hA5, hb5⟩; have B5 := B4.trans (hb5.mono B4.size); have K05 := (hb5.block w.heap.size (by omega)).trans K04.out; have K15 := (hb5.block (w.heap.size + 1) (by omega)).trans K14.out)
        have g0 : w5.cell? ⟨w.heap.size, 0, none⟩ = some (.int .i64 h.k) := cell_of_block K05 rfl
        have g1 : w5.cell? ⟨w.heap.size, 1, none⟩ = some (.string ⟨h.l.toArray⟩) := cell_of_block K05 rfl
        have g2 : w5.cell? ⟨w.heap.size, 2, none⟩ = some (.slice aa h.ats.length ca) := cell_of_block K05 rfl
        have g3 : w5.cell? ⟨w.heap.size, 3, none⟩ = some (.int .i64 h.n) := cell_of_block K05 rfl
        have g4 : w5.cell? ⟨w.heap.size, 4, none⟩ = some (.int .i64 h.d) := cell_of_block K05 rfl
        have g5 : w5.cell? ⟨w.heap.size, 5, none⟩ = some (.string ⟨h.x.toArray⟩) := cell_of_block K05 rfl
        have m0 : w5.cell? ⟨w.heap.size + 1, 0, none⟩ = some (.int .i64 i.k) := cell_of_block K15 rfl
        have m1 : w5.cell? ⟨w.heap.size + 1, 1, none⟩ = some (.string ⟨i.l.toArray⟩) := cell_of_block K15 rfl
        have m2 : w5.cell? ⟨w.heap.size + 1, 2, none⟩ = some (.slice ab i.ats.length cb) := cell_of_block K15 rfl
        have m3 : w5.cell? ⟨w.heap.size + 1, 3, none⟩ = some (.int .i64 i.n) := cell_of_block K15 rfl
        have m4 : w5.cell? ⟨w.heap.size + 1, 4, none⟩ = some (.int .i64 i.d) := cell_of_block K15 rfl
        have m5 : w5.cell? ⟨w.heap.size + 1, 5, none⟩ = some (.string ⟨i.x.toArray⟩) := cell_of_block K15 rfl
        clear K05 K15
        refine wpAny_ready (rs := [0]) (by decide +kernel) (by simp) ?_
        refine AllReady.cons rfl (fun K hK => ?_) AllReady.nil
        go_simp
        refine hK _ _ ?_; clear hK K
        refine wpAny_ready (rs := [3]) (by decide +kernel) (by simp) ?_
        refine AllReady.cons rfl (fun K hK => ?_) AllReady.nil
        go_simp
        go_wp2_with (go_at_call 86; refine (OF.out b5 w5 B5 hA5).mono ?_; rintro e w6 ⟨rfl, hb6⟩)
        have B6 := B5.trans (hb6.mono B5.size)
        refine wpAny_ready (rs := [4]) (by decide +kernel) (by simp) ?_
        refine AllReady.cons rfl (fun K hK => ?_) AllReady.nil
        go_simp
        refine hK _ _ ?_; clear hK K
        refine wpAny_ready (rs := [5]) (by decide +kernel) (by simp) ?_
        refine AllReady.cons rfl (fun K hK => ?_) AllReady.nil
        go_simp
        refine hK _ _ ?_; clear hK K
        refine wpAny_done (by decide +kernel) ?_ _
        go_wp2_with fail
        go_ret2
        exact ⟨rfl, B6⟩
    · go_simp
      go_wp2_with (go_at_call 87; refine (aspects_any _).mono ?_; rintro e w5 ⟨b5, rfl, hbb5, hA5, hb5⟩; have B5 := B4.trans (hb5.mono B4.size); have K05 := (hb5.block w.heap.size (by omega)).trans K04.out; have K15 := (hb5.block (w.heap.size + 1) (by omega)).trans K14.out)
      have g0 : w5.cell? ⟨w.heap.size, 0, none⟩ = some (.int .i64 h.k) := cell_of_block K05 rfl
      have g1 : w5.cell? ⟨w.heap.size, 1, none⟩ = some (.string ⟨h.l.toArray⟩) := cell_of_block K05 rfl
      have g2 : w5.cell? ⟨w.heap.size, 2, none⟩ = some (.slice aa h.ats.length ca) := cell_of_block K05 rfl
      have g3 : w5.cell? ⟨w.heap.size, 3, none⟩ = some (.int .i64 h.n) := cell_of_block K05 rfl
      have g4 : w5.cell? ⟨w.heap.size, 4, none⟩ = some (.int .i64 h.d) := cell_of_block K05 rfl
      have g5 : w5.cell? ⟨w.heap.size, 5, none⟩ = some (.string ⟨h.x.toArray⟩) := cell_of_block K05 rfl
      have m0 : w5.cell? ⟨w.heap.size + 1, 0, none⟩ = some (.int .i64 i.k) := cell_of_block K15 rfl
      have m1 : w5.cell? ⟨w.heap.size + 1, 1, none⟩ = some (.string ⟨i.l.toArray⟩) := cell_of_block K15 rfl
      have m2 : w5.cell? ⟨w.heap.size + 1, 2, none⟩ = some (.slice ab i.ats.length cb) := cell_of_block K15 rfl
      have m3 : w5.cell? ⟨w.heap.size + 1, 3, none⟩ = some (.int .i64 i.n) := cell_of_block K15 rfl
      have m4 : w5.cell? ⟨w.heap.size + 1, 4, none⟩ = some (.int .i64 i.d) := cell_of_block K15 rfl
      have m5 : w5.cell? ⟨w.heap.size + 1, 5, none⟩ = some (.string ⟨i.x.toArray⟩) := cell_of_block K15 rfl
      clear K05 K15
      refine wpAny_ready (rs := [0, 1]) (by decide +kernel) (by simp) ?_
      refine AllReady.cons rfl (fun K hK => ?_) (AllReady.cons rfl (fun K hK => ?_) AllReady.nil)
      · go_simp
        refine hK _ _ ?_; clear hK K
        refine wpAny_ready (rs := [1]) (by decide +kernel) (by simp) ?_
        refine AllReady.cons rfl (fun K hK => ?_) AllReady.nil
        go_simp
        refine hK _ _ ?_; clear hK K
        refine wpAny_ready (rs := [3]) (by decide +kernel) (by simp) ?_
        refine AllReady.cons rfl (fun K hK => ?_) AllReady.nil
        go_simp
        go_wp2_with (go_at_call 86; refine (OF.out b5 w5 B5 hA5).mono ?_; rintro e w6 ⟨rfl, hb6⟩)
        have B6 := B5.trans (hb6.mono B5.size)
        refine wpAny_ready (rs := [4]) (by decide +kernel) (by simp) ?_
        refine AllReady.cons rfl (fun K hK => ?_) AllReady.nil
        go_simp
        refine hK _ _ ?_; clear hK K
        refine wpAny_ready (rs := [5]) (by decide +kernel) (by simp) ?_
        refine AllReady.cons rfl (fun K hK => ?_) AllReady.nil
        go_simp
        refine hK _ _ ?_; clear hK K
        refine wpAny_done (by decide +kernel) ?_ _
        go_wp2_with fail
        go_ret2
        exact ⟨rfl, B6⟩
      · go_simp
        refine hK _ _ ?_; clear hK K
        refine wpAny_ready (rs := [0]) (by decide +kernel) (by simp) ?_
        refine AllReady.cons rfl (fun K hK => ?_) AllReady.nil
        go_simp
        refine hK _ _ ?_; clear hK K
        refine wpAny_ready (rs := [3]) (by decide +kernel) (by simp) ?_
        refine AllReady.cons rfl (fun K hK => ?_) AllReady.nil
        go_simp
        go_wp2_with (go_at_call 86; refine (OF.out b5 w5 B5 hA5).mono ?_; rintro e w6 ⟨rfl, hb6⟩)
        have B6 := B5.trans (hb6.mono B5.size)
        refine wpAny_ready (rs := [4]) (by decide +kernel) (by simp) ?_
        refine AllReady.cons rfl (fun K hK => ?_) AllReady.nil
        go_simp
        refine hK _ _ ?_; clear hK K
        refine wpAny_ready (rs := [5]) (by decide +kernel) (by simp) ?_
        refine AllReady.cons rfl (fun K hK => ?_) AllReady.nil
        go_simp
        refine hK _ _ ?_; clear hK K
        refine wpAny_done (by decide +kernel) ?_ _
        go_wp2_with fail
        go_ret2
        exact ⟨rfl, B6⟩
  · have HX := HR.out.trans (if_neg h0)
    subst HX
    have b0 : (ee != 0) = true := by simpa using h0
    clear h0
    go_wp2_with fail
    go_ret2
    exact ⟨rfl, B3⟩
end Go.Proofs.YtcgedpfolloinaaGreat
