/- What the proof of PrfTreeOrders rests on, part 4 of 4. -/
import Derived.Test.YtefongoinlcgaaaGreatMPrfTreeOrders3
/- the walk of the law TreeOrders. -/
namespace Go.Proofs.YtefongoinlcgaaaGreat
open Go.RowKit

set_option maxRecDepth 100000 in
set_option maxHeartbeats 16000000 in
theorem orders_any (h : Hd) (va : Value) (i : Hd) (vb : Value) (f : Fo) (v : Value) (g : Fo) (u : Value) (w : World) (ha : AttrsLie w va h.ats) (hb : AttrsLie w vb i.ats) (hl : Lies w v f) (hg : Lies w u g) :
    Calls Tryz.prog 4 #[hdA h va, hdA i vb, v, u] w fun e w' => e = .returned (.bool true) ∧ Below w.heap.size w w' := by
  unfold hdA
  have GR := Lib.hid (fun w => grown_any w)
  have HG := Lib.hid (fun w1 (hw : Below w.heap.size w w1) => greatHead_any h va w1 (attrs_below ha hw))
  have IG := Lib.hid (fun w1 (hw : Below w.heap.size w w1) => greatHead_any i vb w1 (attrs_below hb hw))
  have FG := Lib.hid (fun w1 (hw : Below w.heap.size w w1) => great_any f.size f v w1 (Nat.le_refl _) (lies_below hl hw))
  have GG := Lib.hid (fun w1 (hw : Below w.heap.size w w1) => great_any g.size g u w1 (Nat.le_refl _) (lies_below hg hw))
  obtain ⟨aa, ca, rfl⟩ := attrs_form ha
  obtain ⟨ab, cb, rfl⟩ := attrs_form hb
  obtain ⟨a, cap, rfl⟩ := lies_form hl
  obtain ⟨a', cap', rfl⟩ := lies_form hg
  cases h1 : greatHead h with
  | true =>
    rw [h1] at HG
    clear ha hb hl hg h1
    go_enter Tryz.func4, Tryz.ntmps4
    go_upto_region 1 with fail

    have k0 : ((w.alloc (.cells #[.int .i64 h.k, .string ⟨h.l.toArray⟩, .slice aa h.ats.length ca, .int .i64 h.n, .int .i64 h.d, .string ⟨h.x.toArray⟩] 27)).alloc (.cells #[.int .i64 i.k, .string ⟨i.l.toArray⟩, .slice ab i.ats.length cb, .int .i64 i.n, .int .i64 i.d, .string ⟨i.x.toArray⟩] 27)).heap[w.heap.size]? = some (.cells #[.int .i64 h.k, .string ⟨h.l.toArray⟩, .slice aa h.ats.length ca, .int .i64 h.n, .int .i64 h.d, .string ⟨h.x.toArray⟩] 27) := (Below.heap_alloc _ _ _ (by simp)).trans (World.alloc_heap_new w (.cells #[.int .i64 h.k, .string ⟨h.l.toArray⟩, .slice aa h.ats.length ca, .int .i64 h.n, .int .i64 h.d, .string ⟨h.x.toArray⟩] 27))
    have k1 : ((w.alloc (.cells #[.int .i64 h.k, .string ⟨h.l.toArray⟩, .slice aa h.ats.length ca, .int .i64 h.n, .int .i64 h.d, .string ⟨h.x.toArray⟩] 27)).alloc (.cells #[.int .i64 i.k, .string ⟨i.l.toArray⟩, .slice ab i.ats.length cb, .int .i64 i.n, .int .i64 i.d, .string ⟨i.x.toArray⟩] 27)).heap[w.heap.size + 1]? = some (.cells #[.int .i64 i.k, .string ⟨i.l.toArray⟩, .slice ab i.ats.length cb, .int .i64 i.n, .int .i64 i.d, .string ⟨i.x.toArray⟩] 27) := by
      have := World.alloc_heap_new (w.alloc (.cells #[.int .i64 h.k, .string ⟨h.l.toArray⟩, .slice aa h.ats.length ca, .int .i64 h.n, .int .i64 h.d, .string ⟨h.x.toArray⟩] 27)) (.cells #[.int .i64 i.k, .string ⟨i.l.toArray⟩, .slice ab i.ats.length cb, .int .i64 i.n, .int .i64 i.d, .string ⟨i.x.toArray⟩] 27)
      rw [show (w.alloc (.cells #[.int .i64 h.k, .string ⟨h.l.toArray⟩, .slice aa h.ats.length ca, .int .i64 h.n, .int .i64 h.d, .string ⟨h.x.toArray⟩] 27)).heap.size = w.heap.size + 1 by simp] at this
      exact this
    have BX0 : Below w.heap.size w ((w.alloc (.cells #[.int .i64 h.k, .string ⟨h.l.toArray⟩, .slice aa h.ats.length ca, .int .i64 h.n, .int .i64 h.d, .string ⟨h.x.toArray⟩] 27)).alloc (.cells #[.int .i64 i.k, .string ⟨i.l.toArray⟩, .slice ab i.ats.length cb, .int .i64 i.n, .int .i64 i.d, .string ⟨i.x.toArray⟩] 27)) := by ((repeat' (first | exact Below.refl _ _ | assumption | refine Below.setCell ?_ ?_ _ | refine bdrewN ?_ _ | refine Below.drew ?_ | refine Below.alloc ?_ ?_ _ | refine bbehind ?_ (by assumption) ?_)); all_goals first | (simp; done) | (simp; omega) | omega)
    have hs0 : w.heap.size + 2 ≤ ((w.alloc (.cells #[.int .i64 h.k, .string ⟨h.l.toArray⟩, .slice aa h.ats.length ca, .int .i64 h.n, .int .i64 h.d, .string ⟨h.x.toArray⟩] 27)).alloc (.cells #[.int .i64 i.k, .string ⟨i.l.toArray⟩, .slice ab i.ats.length cb, .int .i64 i.n, .int .i64 i.d, .string ⟨i.x.toArray⟩] 27)).heap.size := by simp
    generalize (w.alloc (.cells #[.int .i64 h.k, .string ⟨h.l.toArray⟩, .slice aa h.ats.length ca, .int .i64 h.n, .int .i64 h.d, .string ⟨h.x.toArray⟩] 27)).alloc (.cells #[.int .i64 i.k, .string ⟨i.l.toArray⟩, .slice ab i.ats.length cb, .int .i64 i.n, .int .i64 i.d, .string ⟨i.x.toArray⟩] 27) = X0 at *
    have KA0 := Lib.hid k0
    have KB0 := Lib.hid k1
    clear k0 k1
    have d00 : X0.cell? ⟨w.heap.size, 0, none⟩ = some (.int .i64 h.k) := cell_of_block KA0.out rfl
    have d01 : X0.cell? ⟨w.heap.size, 1, none⟩ = some (.string ⟨h.l.toArray⟩) := cell_of_block KA0.out rfl
    have d02 : X0.cell? ⟨w.heap.size, 2, none⟩ = some (.slice aa h.ats.length ca) := cell_of_block KA0.out rfl
    have d03 : X0.cell? ⟨w.heap.size, 3, none⟩ = some (.int .i64 h.n) := cell_of_block KA0.out rfl
    have d04 : X0.cell? ⟨w.heap.size, 4, none⟩ = some (.int .i64 h.d) := cell_of_block KA0.out rfl
    have d05 : X0.cell? ⟨w.heap.size, 5, none⟩ = some (.string ⟨h.x.toArray⟩) := cell_of_block KA0.out rfl
    have f00 : X0.cell? ⟨w.heap.size + 1, 0, none⟩ = some (.int .i64 i.k) := cell_of_block KB0.out rfl
    have f01 : X0.cell? ⟨w.heap.size + 1, 1, none⟩ = some (.string ⟨i.l.toArray⟩) := cell_of_block KB0.out rfl
    have f02 : X0.cell? ⟨w.heap.size + 1, 2, none⟩ = some (.slice ab i.ats.length cb) := cell_of_block KB0.out rfl
    have f03 : X0.cell? ⟨w.heap.size + 1, 3, none⟩ = some (.int .i64 i.n) := cell_of_block KB0.out rfl
    have f04 : X0.cell? ⟨w.heap.size + 1, 4, none⟩ = some (.int .i64 i.d) := cell_of_block KB0.out rfl
    have f05 : X0.cell? ⟨w.heap.size + 1, 5, none⟩ = some (.string ⟨i.x.toArray⟩) := cell_of_block KB0.out rfl
    go_wp2_with fail
    refine (HG.out X0 BX0).mono ?_
    rintro e X1 ⟨rfl, hb1⟩
    have BX1 : Below w.heap.size w X1 := BX0.trans (hb1.mono BX0.size)
    have hs1 : w.heap.size + 2 ≤ X1.heap.size := Nat.le_trans hs0 hb1.size
    have KA1 := Lib.hid ((hb1.block _ (by omega)).trans KA0.out)
    have KB1 := Lib.hid ((hb1.block _ (by omega)).trans KB0.out)
    clear hb1
    clear d00 d01 d02 d03 d04 d05 f00 f01 f02 f03 f04 f05
    have d10 : X1.cell? ⟨w.heap.size, 0, none⟩ = some (.int .i64 h.k) := cell_of_block KA1.out rfl
    have d11 : X1.cell? ⟨w.heap.size, 1, none⟩ = some (.string ⟨h.l.toArray⟩) := cell_of_block KA1.out rfl
    have d12 : X1.cell? ⟨w.heap.size, 2, none⟩ = some (.slice aa h.ats.length ca) := cell_of_block KA1.out rfl
    have d13 : X1.cell? ⟨w.heap.size, 3, none⟩ = some (.int .i64 h.n) := cell_of_block KA1.out rfl
    have d14 : X1.cell? ⟨w.heap.size, 4, none⟩ = some (.int .i64 h.d) := cell_of_block KA1.out rfl
    have d15 : X1.cell? ⟨w.heap.size, 5, none⟩ = some (.string ⟨h.x.toArray⟩) := cell_of_block KA1.out rfl
    have f10 : X1.cell? ⟨w.heap.size + 1, 0, none⟩ = some (.int .i64 i.k) := cell_of_block KB1.out rfl
    have f11 : X1.cell? ⟨w.heap.size + 1, 1, none⟩ = some (.string ⟨i.l.toArray⟩) := cell_of_block KB1.out rfl
    have f12 : X1.cell? ⟨w.heap.size + 1, 2, none⟩ = some (.slice ab i.ats.length cb) := cell_of_block KB1.out rfl
    have f13 : X1.cell? ⟨w.heap.size + 1, 3, none⟩ = some (.int .i64 i.n) := cell_of_block KB1.out rfl
    have f14 : X1.cell? ⟨w.heap.size + 1, 4, none⟩ = some (.int .i64 i.d) := cell_of_block KB1.out rfl
    have f15 : X1.cell? ⟨w.heap.size + 1, 5, none⟩ = some (.string ⟨i.x.toArray⟩) := cell_of_block KB1.out rfl
    go_wp2_with fail
    refine (GR.out _).mono ?_
    rintro e X2 ⟨rfl, hb2⟩
    have BX2 : Below w.heap.size w X2 := BX1.trans (hb2.mono BX1.size)
    have hs2 : w.heap.size + 2 ≤ X2.heap.size := Nat.le_trans hs1 hb2.size
    have KA2 := Lib.hid ((hb2.block _ (by omega)).trans KA1.out)
    have KB2 := Lib.hid ((hb2.block _ (by omega)).trans KB1.out)
    clear hb2
    clear d10 d11 d12 d13 d14 d15 f10 f11 f12 f13 f14 f15
    go_wp2_with fail
    go_ret
    exact ⟨rfl, BX2⟩
  | false =>
    rw [h1] at HG
    cases h2 : greatHead i with
    | true =>
      rw [h2] at IG
      clear ha hb hl hg h1 h2
      go_enter Tryz.func4, Tryz.ntmps4
      go_upto_region 1 with fail

      have k0 : ((w.alloc (.cells #[.int .i64 h.k, .string ⟨h.l.toArray⟩, .slice aa h.ats.length ca, .int .i64 h.n, .int .i64 h.d, .string ⟨h.x.toArray⟩] 27)).alloc (.cells #[.int .i64 i.k, .string ⟨i.l.toArray⟩, .slice ab i.ats.length cb, .int .i64 i.n, .int .i64 i.d, .string ⟨i.x.toArray⟩] 27)).heap[w.heap.size]? = some (.cells #[.int .i64 h.k, .string ⟨h.l.toArray⟩, .slice aa h.ats.length ca, .int .i64 h.n, .int .i64 h.d, .string ⟨h.x.toArray⟩] 27) := (Below.heap_alloc _ _ _ (by simp)).trans (World.alloc_heap_new w (.cells #[.int .i64 h.k, .string ⟨h.l.toArray⟩, .slice aa h.ats.length ca, .int .i64 h.n, .int .i64 h.d, .string ⟨h.x.toArray⟩] 27))
      have k1 : ((w.alloc (.cells #[.int .i64 h.k, .string ⟨h.l.toArray⟩, .slice aa h.ats.length ca, .int .i64 h.n, .int .i64 h.d, .string ⟨h.x.toArray⟩] 27)).alloc (.cells #[.int .i64 i.k, .string ⟨i.l.toArray⟩, .slice ab i.ats.length cb, .int .i64 i.n, .int .i64 i.d, .string ⟨i.x.toArray⟩] 27)).heap[w.heap.size + 1]? = some (.cells #[.int .i64 i.k, .string ⟨i.l.toArray⟩, .slice ab i.ats.length cb, .int .i64 i.n, .int .i64 i.d, .string ⟨i.x.toArray⟩] 27) := by
        have := World.alloc_heap_new (w.alloc (.cells #[.int .i64 h.k, .string ⟨h.l.toArray⟩, .slice aa h.ats.length ca, .int .i64 h.n, .int .i64 h.d, .string ⟨h.x.toArray⟩] 27)) (.cells #[.int .i64 i.k, .string ⟨i.l.toArray⟩, .slice ab i.ats.length cb, .int .i64 i.n, .int .i64 i.d, .string ⟨i.x.toArray⟩] 27)
        rw [show (w.alloc (.cells #[.int .i64 h.k, .string ⟨h.l.toArray⟩, .slice aa h.ats.length ca, .int .i64 h.n, .int .i64 h.d, .string ⟨h.x.toArray⟩] 27)).heap.size = w.heap.size + 1 by simp] at this
        exact this
      have BX0 : Below w.heap.size w ((w.alloc (.cells #[.int .i64 h.k, .string ⟨h.l.toArray⟩, .slice aa h.ats.length ca, .int .i64 h.n, .int .i64 h.d, .string ⟨h.x.toArray⟩] 27)).alloc (.cells #[.int .i64 i.k, .string ⟨i.l.toArray⟩, .slice ab i.ats.length cb, .int .i64 i.n, .int .i64 i.d, .string ⟨i.x.toArray⟩] 27)) := by ((repeat' (first | exact Below.refl _ _ | assumption | refine Below.setCell ?_ ?_ _ | refine bdrewN ?_ _ | refine Below.drew ?_ | refine Below.alloc ?_ ?_ _ | refine bbehind ?_ (by assumption) ?_)); all_goals first | (simp; done) | (simp; omega) | omega)
      have hs0 : w.heap.size + 2 ≤ ((w.alloc (.cells #[.int .i64 h.k, .string ⟨h.l.toArray⟩, .slice aa h.ats.length ca, .int .i64 h.n, .int .i64 h.d, .string ⟨h.x.toArray⟩] 27)).alloc (.cells #[.int .i64 i.k, .string ⟨i.l.toArray⟩, .slice ab i.ats.length cb, .int .i64 i.n, .int .i64 i.d, .string ⟨i.x.toArray⟩] 27)).heap.size := by simp
      generalize (w.alloc (.cells #[.int .i64 h.k, .string ⟨h.l.toArray⟩, .slice aa h.ats.length ca, .int .i64 h.n, .int .i64 h.d, .string ⟨h.x.toArray⟩] 27)).alloc (.cells #[.int .i64 i.k, .string ⟨i.l.toArray⟩, .slice ab i.ats.length cb, .int .i64 i.n, .int .i64 i.d, .string ⟨i.x.toArray⟩] 27) = X0 at *
      have KA0 := Lib.hid k0
      have KB0 := Lib.hid k1
      clear k0 k1
      have d00 : X0.cell? ⟨w.heap.size, 0, none⟩ = some (.int .i64 h.k) := cell_of_block KA0.out rfl
      have d01 : X0.cell? ⟨w.heap.size, 1, none⟩ = some (.string ⟨h.l.toArray⟩) := cell_of_block KA0.out rfl
      have d02 : X0.cell? ⟨w.heap.size, 2, none⟩ = some (.slice aa h.ats.length ca) := cell_of_block KA0.out rfl
      have d03 : X0.cell? ⟨w.heap.size, 3, none⟩ = some (.int .i64 h.n) := cell_of_block KA0.out rfl
      have d04 : X0.cell? ⟨w.heap.size, 4, none⟩ = some (.int .i64 h.d) := cell_of_block KA0.out rfl
      have d05 : X0.cell? ⟨w.heap.size, 5, none⟩ = some (.string ⟨h.x.toArray⟩) := cell_of_block KA0.out rfl
      have f00 : X0.cell? ⟨w.heap.size + 1, 0, none⟩ = some (.int .i64 i.k) := cell_of_block KB0.out rfl
      have f01 : X0.cell? ⟨w.heap.size + 1, 1, none⟩ = some (.string ⟨i.l.toArray⟩) := cell_of_block KB0.out rfl
      have f02 : X0.cell? ⟨w.heap.size + 1, 2, none⟩ = some (.slice ab i.ats.length cb) := cell_of_block KB0.out rfl
      have f03 : X0.cell? ⟨w.heap.size + 1, 3, none⟩ = some (.int .i64 i.n) := cell_of_block KB0.out rfl
      have f04 : X0.cell? ⟨w.heap.size + 1, 4, none⟩ = some (.int .i64 i.d) := cell_of_block KB0.out rfl
      have f05 : X0.cell? ⟨w.heap.size + 1, 5, none⟩ = some (.string ⟨i.x.toArray⟩) := cell_of_block KB0.out rfl
      go_wp2_with fail
      refine (HG.out X0 BX0).mono ?_
      rintro e X1 ⟨rfl, hb1⟩
      have BX1 : Below w.heap.size w X1 := BX0.trans (hb1.mono BX0.size)
      have hs1 : w.heap.size + 2 ≤ X1.heap.size := Nat.le_trans hs0 hb1.size
      have KA1 := Lib.hid ((hb1.block _ (by omega)).trans KA0.out)
      have KB1 := Lib.hid ((hb1.block _ (by omega)).trans KB0.out)
      clear hb1
      clear d00 d01 d02 d03 d04 d05 f00 f01 f02 f03 f04 f05
      have d10 : X1.cell? ⟨w.heap.size, 0, none⟩ = some (.int .i64 h.k) := cell_of_block KA1.out rfl
      have d11 : X1.cell? ⟨w.heap.size, 1, none⟩ = some (.string ⟨h.l.toArray⟩) := cell_of_block KA1.out rfl
      have d12 : X1.cell? ⟨w.heap.size, 2, none⟩ = some (.slice aa h.ats.length ca) := cell_of_block KA1.out rfl
      have d13 : X1.cell? ⟨w.heap.size, 3, none⟩ = some (.int .i64 h.n) := cell_of_block KA1.out rfl
      have d14 : X1.cell? ⟨w.heap.size, 4, none⟩ = some (.int .i64 h.d) := cell_of_block KA1.out rfl
      have d15 : X1.cell? ⟨w.heap.size, 5, none⟩ = some (.string ⟨h.x.toArray⟩) := cell_of_block KA1.out rfl
      have f10 : X1.cell? ⟨w.heap.size + 1, 0, none⟩ = some (.int .i64 i.k) := cell_of_block KB1.out rfl
      have f11 : X1.cell? ⟨w.heap.size + 1, 1, none⟩ = some (.string ⟨i.l.toArray⟩) := cell_of_block KB1.out rfl
      have f12 : X1.cell? ⟨w.heap.size + 1, 2, none⟩ = some (.slice ab i.ats.length cb) := cell_of_block KB1.out rfl
      have f13 : X1.cell? ⟨w.heap.size + 1, 3, none⟩ = some (.int .i64 i.n) := cell_of_block KB1.out rfl
      have f14 : X1.cell? ⟨w.heap.size + 1, 4, none⟩ = some (.int .i64 i.d) := cell_of_block KB1.out rfl
      have f15 : X1.cell? ⟨w.heap.size + 1, 5, none⟩ = some (.string ⟨i.x.toArray⟩) := cell_of_block KB1.out rfl
      go_wp2_with fail
      refine (IG.out X1 BX1).mono ?_
      rintro e X2 ⟨rfl, hb2⟩
      have BX2 : Below w.heap.size w X2 := BX1.trans (hb2.mono BX1.size)
      have hs2 : w.heap.size + 2 ≤ X2.heap.size := Nat.le_trans hs1 hb2.size
      have KA2 := Lib.hid ((hb2.block _ (by omega)).trans KA1.out)
      have KB2 := Lib.hid ((hb2.block _ (by omega)).trans KB1.out)
      clear hb2
      clear d10 d11 d12 d13 d14 d15 f10 f11 f12 f13 f14 f15
      have d20 : X2.cell? ⟨w.heap.size, 0, none⟩ = some (.int .i64 h.k) := cell_of_block KA2.out rfl
      have d21 : X2.cell? ⟨w.heap.size, 1, none⟩ = some (.string ⟨h.l.toArray⟩) := cell_of_block KA2.out rfl
      have d22 : X2.cell? ⟨w.heap.size, 2, none⟩ = some (.slice aa h.ats.length ca) := cell_of_block KA2.out rfl
      have d23 : X2.cell? ⟨w.heap.size, 3, none⟩ = some (.int .i64 h.n) := cell_of_block KA2.out rfl
      have d24 : X2.cell? ⟨w.heap.size, 4, none⟩ = some (.int .i64 h.d) := cell_of_block KA2.out rfl
      have d25 : X2.cell? ⟨w.heap.size, 5, none⟩ = some (.string ⟨h.x.toArray⟩) := cell_of_block KA2.out rfl
      have f20 : X2.cell? ⟨w.heap.size + 1, 0, none⟩ = some (.int .i64 i.k) := cell_of_block KB2.out rfl
      have f21 : X2.cell? ⟨w.heap.size + 1, 1, none⟩ = some (.string ⟨i.l.toArray⟩) := cell_of_block KB2.out rfl
      have f22 : X2.cell? ⟨w.heap.size + 1, 2, none⟩ = some (.slice ab i.ats.length cb) := cell_of_block KB2.out rfl
      have f23 : X2.cell? ⟨w.heap.size + 1, 3, none⟩ = some (.int .i64 i.n) := cell_of_block KB2.out rfl
      have f24 : X2.cell? ⟨w.heap.size + 1, 4, none⟩ = some (.int .i64 i.d) := cell_of_block KB2.out rfl
      have f25 : X2.cell? ⟨w.heap.size + 1, 5, none⟩ = some (.string ⟨i.x.toArray⟩) := cell_of_block KB2.out rfl
      go_wp2_with fail
      refine (GR.out _).mono ?_
      rintro e X3 ⟨rfl, hb3⟩
      have BX3 : Below w.heap.size w X3 := BX2.trans (hb3.mono BX2.size)
      have hs3 : w.heap.size + 2 ≤ X3.heap.size := Nat.le_trans hs2 hb3.size
      have KA3 := Lib.hid ((hb3.block _ (by omega)).trans KA2.out)
      have KB3 := Lib.hid ((hb3.block _ (by omega)).trans KB2.out)
      clear hb3
      clear d20 d21 d22 d23 d24 d25 f20 f21 f22 f23 f24 f25
      go_wp2_with fail
      go_ret
      exact ⟨rfl, BX3⟩
    | false =>
      rw [h2] at IG
      cases h3 : great f with
      | true =>
        rw [h3] at FG
        clear ha hb hl hg h1 h2 h3
        go_enter Tryz.func4, Tryz.ntmps4
        go_upto_region 1 with fail

        have k0 : ((w.alloc (.cells #[.int .i64 h.k, .string ⟨h.l.toArray⟩, .slice aa h.ats.length ca, .int .i64 h.n, .int .i64 h.d, .string ⟨h.x.toArray⟩] 27)).alloc (.cells #[.int .i64 i.k, .string ⟨i.l.toArray⟩, .slice ab i.ats.length cb, .int .i64 i.n, .int .i64 i.d, .string ⟨i.x.toArray⟩] 27)).heap[w.heap.size]? = some (.cells #[.int .i64 h.k, .string ⟨h.l.toArray⟩, .slice aa h.ats.length ca, .int .i64 h.n, .int .i64 h.d, .string ⟨h.x.toArray⟩] 27) := (Below.heap_alloc _ _ _ (by simp)).trans (World.alloc_heap_new w (.cells #[.int .i64 h.k, .string ⟨h.l.toArray⟩, .slice aa h.ats.length ca, .int .i64 h.n, .int .i64 h.d, .string ⟨h.x.toArray⟩] 27))
        have k1 : ((w.alloc (.cells #[.int .i64 h.k, .string ⟨h.l.toArray⟩, .slice aa h.ats.length ca, .int .i64 h.n, .int .i64 h.d, .string ⟨h.x.toArray⟩] 27)).alloc (.cells #[.int .i64 i.k, .string ⟨i.l.toArray⟩, .slice ab i.ats.length cb, .int .i64 i.n, .int .i64 i.d, .string ⟨i.x.toArray⟩] 27)).heap[w.heap.size + 1]? = some (.cells #[.int .i64 i.k, .string ⟨i.l.toArray⟩, .slice ab i.ats.length cb, .int .i64 i.n, .int .i64 i.d, .string ⟨i.x.toArray⟩] 27) := by
          have := World.alloc_heap_new (w.alloc (.cells #[.int .i64 h.k, .string ⟨h.l.toArray⟩, .slice aa h.ats.length ca, .int .i64 h.n, .int .i64 h.d, .string ⟨h.x.toArray⟩] 27)) (.cells #[.int .i64 i.k, .string ⟨i.l.toArray⟩, .slice ab i.ats.length cb, .int .i64 i.n, .int .i64 i.d, .string ⟨i.x.toArray⟩] 27)
          rw [show (w.alloc (.cells #[.int .i64 h.k, .string ⟨h.l.toArray⟩, .slice aa h.ats.length ca, .int .i64 h.n, .int .i64 h.d, .string ⟨h.x.toArray⟩] 27)).heap.size = w.heap.size + 1 by simp] at this
          exact this
        have BX0 : Below w.heap.size w ((w.alloc (.cells #[.int .i64 h.k, .string ⟨h.l.toArray⟩, .slice aa h.ats.length ca, .int .i64 h.n, .int .i64 h.d, .string ⟨h.x.toArray⟩] 27)).alloc (.cells #[.int .i64 i.k, .string ⟨i.l.toArray⟩, .slice ab i.ats.length cb, .int .i64 i.n, .int .i64 i.d, .string ⟨i.x.toArray⟩] 27)) := by ((repeat' (first | exact Below.refl _ _ | assumption | refine Below.setCell ?_ ?_ _ | refine bdrewN ?_ _ | refine Below.drew ?_ | refine Below.alloc ?_ ?_ _ | refine bbehind ?_ (by assumption) ?_)); all_goals first | (simp; done) | (simp; omega) | omega)
        have hs0 : w.heap.size + 2 ≤ ((w.alloc (.cells #[.int .i64 h.k, .string ⟨h.l.toArray⟩, .slice aa h.ats.length ca, .int .i64 h.n, .int .i64 h.d, .string ⟨h.x.toArray⟩] 27)).alloc (.cells #[.int .i64 i.k, .string ⟨i.l.toArray⟩, .slice ab i.ats.length cb, .int .i64 i.n, .int .i64 i.d, .string ⟨i.x.toArray⟩] 27)).heap.size := by simp
        generalize (w.alloc (.cells #[.int .i64 h.k, .string ⟨h.l.toArray⟩, .slice aa h.ats.length ca, .int .i64 h.n, .int .i64 h.d, .string ⟨h.x.toArray⟩] 27)).alloc (.cells #[.int .i64 i.k, .string ⟨i.l.toArray⟩, .slice ab i.ats.length cb, .int .i64 i.n, .int .i64 i.d, .string ⟨i.x.toArray⟩] 27) = X0 at *
        have KA0 := Lib.hid k0
        have KB0 := Lib.hid k1
        clear k0 k1
        have d00 : X0.cell? ⟨w.heap.size, 0, none⟩ = some (.int .i64 h.k) := cell_of_block KA0.out rfl
        have d01 : X0.cell? ⟨w.heap.size, 1, none⟩ = some (.string ⟨h.l.toArray⟩) := cell_of_block KA0.out rfl
        have d02 : X0.cell? ⟨w.heap.size, 2, none⟩ = some (.slice aa h.ats.length ca) := cell_of_block KA0.out rfl
        have d03 : X0.cell? ⟨w.heap.size, 3, none⟩ = some (.int .i64 h.n) := cell_of_block KA0.out rfl
        have d04 : X0.cell? ⟨w.heap.size, 4, none⟩ = some (.int .i64 h.d) := cell_of_block KA0.out rfl
        have d05 : X0.cell? ⟨w.heap.size, 5, none⟩ = some (.string ⟨h.x.toArray⟩) := cell_of_block KA0.out rfl
        have f00 : X0.cell? ⟨w.heap.size + 1, 0, none⟩ = some (.int .i64 i.k) := cell_of_block KB0.out rfl
        have f01 : X0.cell? ⟨w.heap.size + 1, 1, none⟩ = some (.string ⟨i.l.toArray⟩) := cell_of_block KB0.out rfl
        have f02 : X0.cell? ⟨w.heap.size + 1, 2, none⟩ = some (.slice ab i.ats.length cb) := cell_of_block KB0.out rfl
        have f03 : X0.cell? ⟨w.heap.size + 1, 3, none⟩ = some (.int .i64 i.n) := cell_of_block KB0.out rfl
        have f04 : X0.cell? ⟨w.heap.size + 1, 4, none⟩ = some (.int .i64 i.d) := cell_of_block KB0.out rfl
        have f05 : X0.cell? ⟨w.heap.size + 1, 5, none⟩ = some (.string ⟨i.x.toArray⟩) := cell_of_block KB0.out rfl
        go_wp2_with fail
        refine (HG.out X0 BX0).mono ?_
        rintro e X1 ⟨rfl, hb1⟩
        have BX1 : Below w.heap.size w X1 := BX0.trans (hb1.mono BX0.size)
        have hs1 : w.heap.size + 2 ≤ X1.heap.size := Nat.le_trans hs0 hb1.size
        have KA1 := Lib.hid ((hb1.block _ (by omega)).trans KA0.out)
        have KB1 := Lib.hid ((hb1.block _ (by omega)).trans KB0.out)
        clear hb1
        clear d00 d01 d02 d03 d04 d05 f00 f01 f02 f03 f04 f05
        have d10 : X1.cell? ⟨w.heap.size, 0, none⟩ = some (.int .i64 h.k) := cell_of_block KA1.out rfl
        have d11 : X1.cell? ⟨w.heap.size, 1, none⟩ = some (.string ⟨h.l.toArray⟩) := cell_of_block KA1.out rfl
        have d12 : X1.cell? ⟨w.heap.size, 2, none⟩ = some (.slice aa h.ats.length ca) := cell_of_block KA1.out rfl
        have d13 : X1.cell? ⟨w.heap.size, 3, none⟩ = some (.int .i64 h.n) := cell_of_block KA1.out rfl
        have d14 : X1.cell? ⟨w.heap.size, 4, none⟩ = some (.int .i64 h.d) := cell_of_block KA1.out rfl
        have d15 : X1.cell? ⟨w.heap.size, 5, none⟩ = some (.string ⟨h.x.toArray⟩) := cell_of_block KA1.out rfl
        have f10 : X1.cell? ⟨w.heap.size + 1, 0, none⟩ = some (.int .i64 i.k) := cell_of_block KB1.out rfl
        have f11 : X1.cell? ⟨w.heap.size + 1, 1, none⟩ = some (.string ⟨i.l.toArray⟩) := cell_of_block KB1.out rfl
        have f12 : X1.cell? ⟨w.heap.size + 1, 2, none⟩ = some (.slice ab i.ats.length cb) := cell_of_block KB1.out rfl
        have f13 : X1.cell? ⟨w.heap.size + 1, 3, none⟩ = some (.int .i64 i.n) := cell_of_block KB1.out rfl
        have f14 : X1.cell? ⟨w.heap.size + 1, 4, none⟩ = some (.int .i64 i.d) := cell_of_block KB1.out rfl
        have f15 : X1.cell? ⟨w.heap.size + 1, 5, none⟩ = some (.string ⟨i.x.toArray⟩) := cell_of_block KB1.out rfl
        go_wp2_with fail
        refine (IG.out X1 BX1).mono ?_
        rintro e X2 ⟨rfl, hb2⟩
        have BX2 : Below w.heap.size w X2 := BX1.trans (hb2.mono BX1.size)
        have hs2 : w.heap.size + 2 ≤ X2.heap.size := Nat.le_trans hs1 hb2.size
        have KA2 := Lib.hid ((hb2.block _ (by omega)).trans KA1.out)
        have KB2 := Lib.hid ((hb2.block _ (by omega)).trans KB1.out)
        clear hb2
        clear d10 d11 d12 d13 d14 d15 f10 f11 f12 f13 f14 f15
        have d20 : X2.cell? ⟨w.heap.size, 0, none⟩ = some (.int .i64 h.k) := cell_of_block KA2.out rfl
        have d21 : X2.cell? ⟨w.heap.size, 1, none⟩ = some (.string ⟨h.l.toArray⟩) := cell_of_block KA2.out rfl
        have d22 : X2.cell? ⟨w.heap.size, 2, none⟩ = some (.slice aa h.ats.length ca) := cell_of_block KA2.out rfl
        have d23 : X2.cell? ⟨w.heap.size, 3, none⟩ = some (.int .i64 h.n) := cell_of_block KA2.out rfl
        have d24 : X2.cell? ⟨w.heap.size, 4, none⟩ = some (.int .i64 h.d) := cell_of_block KA2.out rfl
        have d25 : X2.cell? ⟨w.heap.size, 5, none⟩ = some (.string ⟨h.x.toArray⟩) := cell_of_block KA2.out rfl
        have f20 : X2.cell? ⟨w.heap.size + 1, 0, none⟩ = some (.int .i64 i.k) := cell_of_block KB2.out rfl
        have f21 : X2.cell? ⟨w.heap.size + 1, 1, none⟩ = some (.string ⟨i.l.toArray⟩) := cell_of_block KB2.out rfl
        have f22 : X2.cell? ⟨w.heap.size + 1, 2, none⟩ = some (.slice ab i.ats.length cb) := cell_of_block KB2.out rfl
        have f23 : X2.cell? ⟨w.heap.size + 1, 3, none⟩ = some (.int .i64 i.n) := cell_of_block KB2.out rfl
        have f24 : X2.cell? ⟨w.heap.size + 1, 4, none⟩ = some (.int .i64 i.d) := cell_of_block KB2.out rfl
        have f25 : X2.cell? ⟨w.heap.size + 1, 5, none⟩ = some (.string ⟨i.x.toArray⟩) := cell_of_block KB2.out rfl
        go_wp2_with fail
        refine (FG.out X2 BX2).mono ?_
        rintro e X3 ⟨rfl, hb3⟩
        have BX3 : Below w.heap.size w X3 := BX2.trans (hb3.mono BX2.size)
        have hs3 : w.heap.size + 2 ≤ X3.heap.size := Nat.le_trans hs2 hb3.size
        have KA3 := Lib.hid ((hb3.block _ (by omega)).trans KA2.out)
        have KB3 := Lib.hid ((hb3.block _ (by omega)).trans KB2.out)
        clear hb3
        clear d20 d21 d22 d23 d24 d25 f20 f21 f22 f23 f24 f25
        have d30 : X3.cell? ⟨w.heap.size, 0, none⟩ = some (.int .i64 h.k) := cell_of_block KA3.out rfl
        have d31 : X3.cell? ⟨w.heap.size, 1, none⟩ = some (.string ⟨h.l.toArray⟩) := cell_of_block KA3.out rfl
        have d32 : X3.cell? ⟨w.heap.size, 2, none⟩ = some (.slice aa h.ats.length ca) := cell_of_block KA3.out rfl
        have d33 : X3.cell? ⟨w.heap.size, 3, none⟩ = some (.int .i64 h.n) := cell_of_block KA3.out rfl
        have d34 : X3.cell? ⟨w.heap.size, 4, none⟩ = some (.int .i64 h.d) := cell_of_block KA3.out rfl
        have d35 : X3.cell? ⟨w.heap.size, 5, none⟩ = some (.string ⟨h.x.toArray⟩) := cell_of_block KA3.out rfl
        have f30 : X3.cell? ⟨w.heap.size + 1, 0, none⟩ = some (.int .i64 i.k) := cell_of_block KB3.out rfl
        have f31 : X3.cell? ⟨w.heap.size + 1, 1, none⟩ = some (.string ⟨i.l.toArray⟩) := cell_of_block KB3.out rfl
        have f32 : X3.cell? ⟨w.heap.size + 1, 2, none⟩ = some (.slice ab i.ats.length cb) := cell_of_block KB3.out rfl
        have f33 : X3.cell? ⟨w.heap.size + 1, 3, none⟩ = some (.int .i64 i.n) := cell_of_block KB3.out rfl
        have f34 : X3.cell? ⟨w.heap.size + 1, 4, none⟩ = some (.int .i64 i.d) := cell_of_block KB3.out rfl
        have f35 : X3.cell? ⟨w.heap.size + 1, 5, none⟩ = some (.string ⟨i.x.toArray⟩) := cell_of_block KB3.out rfl
        go_wp2_with fail
        refine (GR.out _).mono ?_
        rintro e X4 ⟨rfl, hb4⟩
        have BX4 : Below w.heap.size w X4 := BX3.trans (hb4.mono BX3.size)
        have hs4 : w.heap.size + 2 ≤ X4.heap.size := Nat.le_trans hs3 hb4.size
        have KA4 := Lib.hid ((hb4.block _ (by omega)).trans KA3.out)
        have KB4 := Lib.hid ((hb4.block _ (by omega)).trans KB3.out)
        clear hb4
        clear d30 d31 d32 d33 d34 d35 f30 f31 f32 f33 f34 f35
        go_wp2_with fail
        go_ret
        exact ⟨rfl, BX4⟩
      | false =>
        rw [h3] at FG
        cases h4 : great g with
        | true =>
          rw [h4] at GG
          clear ha hb hl hg h1 h2 h3 h4
          go_enter Tryz.func4, Tryz.ntmps4
          go_upto_region 1 with fail

          have k0 : ((w.alloc (.cells #[.int .i64 h.k, .string ⟨h.l.toArray⟩, .slice aa h.ats.length ca, .int .i64 h.n, .int .i64 h.d, .string ⟨h.x.toArray⟩] 27)).alloc (.cells #[.int .i64 i.k, .string ⟨i.l.toArray⟩, .slice ab i.ats.length cb, .int .i64 i.n, .int .i64 i.d, .string ⟨i.x.toArray⟩] 27)).heap[w.heap.size]? = some (.cells #[.int .i64 h.k, .string ⟨h.l.toArray⟩, .slice aa h.ats.length ca, .int .i64 h.n, .int .i64 h.d, .string ⟨h.x.toArray⟩] 27) := (Below.heap_alloc _ _ _ (by simp)).trans (World.alloc_heap_new w (.cells #[.int .i64 h.k, .string ⟨h.l.toArray⟩, .slice aa h.ats.length ca, .int .i64 h.n, .int .i64 h.d, .string ⟨h.x.toArray⟩] 27))
          have k1 : ((w.alloc (.cells #[.int .i64 h.k, .string ⟨h.l.toArray⟩, .slice aa h.ats.length ca, .int .i64 h.n, .int .i64 h.d, .string ⟨h.x.toArray⟩] 27)).alloc (.cells #[.int .i64 i.k, .string ⟨i.l.toArray⟩, .slice ab i.ats.length cb, .int .i64 i.n, .int .i64 i.d, .string ⟨i.x.toArray⟩] 27)).heap[w.heap.size + 1]? = some (.cells #[.int .i64 i.k, .string ⟨i.l.toArray⟩, .slice ab i.ats.length cb, .int .i64 i.n, .int .i64 i.d, .string ⟨i.x.toArray⟩] 27) := by
            have := World.alloc_heap_new (w.alloc (.cells #[.int .i64 h.k, .string ⟨h.l.toArray⟩, .slice aa h.ats.length ca, .int .i64 h.n, .int .i64 h.d, .string ⟨h.x.toArray⟩] 27)) (.cells #[.int .i64 i.k, .string ⟨i.l.toArray⟩, .slice ab i.ats.length cb, .int .i64 i.n, .int .i64 i.d, .string ⟨i.x.toArray⟩] 27)
            rw [show (w.alloc (.cells #[.int .i64 h.k, .string ⟨h.l.toArray⟩, .slice aa h.ats.length ca, .int .i64 h.n, .int .i64 h.d, .string ⟨h.x.toArray⟩] 27)).heap.size = w.heap.size + 1 by simp] at this
            exact this
          have BX0 : Below w.heap.size w ((w.alloc (.cells #[.int .i64 h.k, .string ⟨h.l.toArray⟩, .slice aa h.ats.length ca, .int .i64 h.n, .int .i64 h.d, .string ⟨h.x.toArray⟩] 27)).alloc (.cells #[.int .i64 i.k, .string ⟨i.l.toArray⟩, .slice ab i.ats.length cb, .int .i64 i.n, .int .i64 i.d, .string ⟨i.x.toArray⟩] 27)) := by ((repeat' (first | exact Below.refl _ _ | assumption | refine Below.setCell ?_ ?_ _ | refine bdrewN ?_ _ | refine Below.drew ?_ | refine Below.alloc ?_ ?_ _ | refine bbehind ?_ (by assumption) ?_)); all_goals first | (simp; done) | (simp; omega) | omega)
          have hs0 : w.heap.size + 2 ≤ ((w.alloc (.cells #[.int .i64 h.k, .string ⟨h.l.toArray⟩, .slice aa h.ats.length ca, .int .i64 h.n, .int .i64 h.d, .string ⟨h.x.toArray⟩] 27)).alloc (.cells #[.int .i64 i.k, .string ⟨i.l.toArray⟩, .slice ab i.ats.length cb, .int .i64 i.n, .int .i64 i.d, .string ⟨i.x.toArray⟩] 27)).heap.size := by simp
          generalize (w.alloc (.cells #[.int .i64 h.k, .string ⟨h.l.toArray⟩, .slice aa h.ats.length ca, .int .i64 h.n, .int .i64 h.d, .string ⟨h.x.toArray⟩] 27)).alloc (.cells #[.int .i64 i.k, .string ⟨i.l.toArray⟩, .slice ab i.ats.length cb, .int .i64 i.n, .int .i64 i.d, .string ⟨i.x.toArray⟩] 27) = X0 at *
          have KA0 := Lib.hid k0
          have KB0 := Lib.hid k1
          clear k0 k1
          have d00 : X0.cell? ⟨w.heap.size, 0, none⟩ = some (.int .i64 h.k) := cell_of_block KA0.out rfl
          have d01 : X0.cell? ⟨w.heap.size, 1, none⟩ = some (.string ⟨h.l.toArray⟩) := cell_of_block KA0.out rfl
          have d02 : X0.cell? ⟨w.heap.size, 2, none⟩ = some (.slice aa h.ats.length ca) := cell_of_block KA0.out rfl
          have d03 : X0.cell? ⟨w.heap.size, 3, none⟩ = some (.int .i64 h.n) := cell_of_block KA0.out rfl
          have d04 : X0.cell? ⟨w.heap.size, 4, none⟩ = some (.int .i64 h.d) := cell_of_block KA0.out rfl
          have d05 : X0.cell? ⟨w.heap.size, 5, none⟩ = some (.string ⟨h.x.toArray⟩) := cell_of_block KA0.out rfl
          have f00 : X0.cell? ⟨w.heap.size + 1, 0, none⟩ = some (.int .i64 i.k) := cell_of_block KB0.out rfl
          have f01 : X0.cell? ⟨w.heap.size + 1, 1, none⟩ = some (.string ⟨i.l.toArray⟩) := cell_of_block KB0.out rfl
          have f02 : X0.cell? ⟨w.heap.size + 1, 2, none⟩ = some (.slice ab i.ats.length cb) := cell_of_block KB0.out rfl
          have f03 : X0.cell? ⟨w.heap.size + 1, 3, none⟩ = some (.int .i64 i.n) := cell_of_block KB0.out rfl
          have f04 : X0.cell? ⟨w.heap.size + 1, 4, none⟩ = some (.int .i64 i.d) := cell_of_block KB0.out rfl
          have f05 : X0.cell? ⟨w.heap.size + 1, 5, none⟩ = some (.string ⟨i.x.toArray⟩) := cell_of_block KB0.out rfl
          go_wp2_with fail
          refine (HG.out X0 BX0).mono ?_
          rintro e X1 ⟨rfl, hb1⟩
          have BX1 : Below w.heap.size w X1 := BX0.trans (hb1.mono BX0.size)
          have hs1 : w.heap.size + 2 ≤ X1.heap.size := Nat.le_trans hs0 hb1.size
          have KA1 := Lib.hid ((hb1.block _ (by omega)).trans KA0.out)
          have KB1 := Lib.hid ((hb1.block _ (by omega)).trans KB0.out)
          clear hb1
          clear d00 d01 d02 d03 d04 d05 f00 f01 f02 f03 f04 f05
          have d10 : X1.cell? ⟨w.heap.size, 0, none⟩ = some (.int .i64 h.k) := cell_of_block KA1.out rfl
          have d11 : X1.cell? ⟨w.heap.size, 1, none⟩ = some (.string ⟨h.l.toArray⟩) := cell_of_block KA1.out rfl
          have d12 : X1.cell? ⟨w.heap.size, 2, none⟩ = some (.slice aa h.ats.length ca) := cell_of_block KA1.out rfl
          have d13 : X1.cell? ⟨w.heap.size, 3, none⟩ = some (.int .i64 h.n) := cell_of_block KA1.out rfl
          have d14 : X1.cell? ⟨w.heap.size, 4, none⟩ = some (.int .i64 h.d) := cell_of_block KA1.out rfl
          have d15 : X1.cell? ⟨w.heap.size, 5, none⟩ = some (.string ⟨h.x.toArray⟩) := cell_of_block KA1.out rfl
          have f10 : X1.cell? ⟨w.heap.size + 1, 0, none⟩ = some (.int .i64 i.k) := cell_of_block KB1.out rfl
          have f11 : X1.cell? ⟨w.heap.size + 1, 1, none⟩ = some (.string ⟨i.l.toArray⟩) := cell_of_block KB1.out rfl
          have f12 : X1.cell? ⟨w.heap.size + 1, 2, none⟩ = some (.slice ab i.ats.length cb) := cell_of_block KB1.out rfl
          have f13 : X1.cell? ⟨w.heap.size + 1, 3, none⟩ = some (.int .i64 i.n) := cell_of_block KB1.out rfl
          have f14 : X1.cell? ⟨w.heap.size + 1, 4, none⟩ = some (.int .i64 i.d) := cell_of_block KB1.out rfl
          have f15 : X1.cell? ⟨w.heap.size + 1, 5, none⟩ = some (.string ⟨i.x.toArray⟩) := cell_of_block KB1.out rfl
          go_wp2_with fail
          refine (IG.out X1 BX1).mono ?_
          rintro e X2 ⟨rfl, hb2⟩
          have BX2 : Below w.heap.size w X2 := BX1.trans (hb2.mono BX1.size)
          have hs2 : w.heap.size + 2 ≤ X2.heap.size := Nat.le_trans hs1 hb2.size
          have KA2 := Lib.hid ((hb2.block _ (by omega)).trans KA1.out)
          have KB2 := Lib.hid ((hb2.block _ (by omega)).trans KB1.out)
          clear hb2
          clear d10 d11 d12 d13 d14 d15 f10 f11 f12 f13 f14 f15
          have d20 : X2.cell? ⟨w.heap.size, 0, none⟩ = some (.int .i64 h.k) := cell_of_block KA2.out rfl
          have d21 : X2.cell? ⟨w.heap.size, 1, none⟩ = some (.string ⟨h.l.toArray⟩) := cell_of_block KA2.out rfl
          have d22 : X2.cell? ⟨w.heap.size, 2, none⟩ = some (.slice aa h.ats.length ca) := cell_of_block KA2.out rfl
          have d23 : X2.cell? ⟨w.heap.size, 3, none⟩ = some (.int .i64 h.n) := cell_of_block KA2.out rfl
          have d24 : X2.cell? ⟨w.heap.size, 4, none⟩ = some (.int .i64 h.d) := cell_of_block KA2.out rfl
          have d25 : X2.cell? ⟨w.heap.size, 5, none⟩ = some (.string ⟨h.x.toArray⟩) := cell_of_block KA2.out rfl
          have f20 : X2.cell? ⟨w.heap.size + 1, 0, none⟩ = some (.int .i64 i.k) := cell_of_block KB2.out rfl
          have f21 : X2.cell? ⟨w.heap.size + 1, 1, none⟩ = some (.string ⟨i.l.toArray⟩) := cell_of_block KB2.out rfl
          have f22 : X2.cell? ⟨w.heap.size + 1, 2, none⟩ = some (.slice ab i.ats.length cb) := cell_of_block KB2.out rfl
          have f23 : X2.cell? ⟨w.heap.size + 1, 3, none⟩ = some (.int .i64 i.n) := cell_of_block KB2.out rfl
          have f24 : X2.cell? ⟨w.heap.size + 1, 4, none⟩ = some (.int .i64 i.d) := cell_of_block KB2.out rfl
          have f25 : X2.cell? ⟨w.heap.size + 1, 5, none⟩ = some (.string ⟨i.x.toArray⟩) := cell_of_block KB2.out rfl
          go_wp2_with fail
          refine (FG.out X2 BX2).mono ?_
          rintro e X3 ⟨rfl, hb3⟩
          have BX3 : Below w.heap.size w X3 := BX2.trans (hb3.mono BX2.size)
          have hs3 : w.heap.size + 2 ≤ X3.heap.size := Nat.le_trans hs2 hb3.size
          have KA3 := Lib.hid ((hb3.block _ (by omega)).trans KA2.out)
          have KB3 := Lib.hid ((hb3.block _ (by omega)).trans KB2.out)
          clear hb3
          clear d20 d21 d22 d23 d24 d25 f20 f21 f22 f23 f24 f25
          have d30 : X3.cell? ⟨w.heap.size, 0, none⟩ = some (.int .i64 h.k) := cell_of_block KA3.out rfl
          have d31 : X3.cell? ⟨w.heap.size, 1, none⟩ = some (.string ⟨h.l.toArray⟩) := cell_of_block KA3.out rfl
          have d32 : X3.cell? ⟨w.heap.size, 2, none⟩ = some (.slice aa h.ats.length ca) := cell_of_block KA3.out rfl
          have d33 : X3.cell? ⟨w.heap.size, 3, none⟩ = some (.int .i64 h.n) := cell_of_block KA3.out rfl
          have d34 : X3.cell? ⟨w.heap.size, 4, none⟩ = some (.int .i64 h.d) := cell_of_block KA3.out rfl
          have d35 : X3.cell? ⟨w.heap.size, 5, none⟩ = some (.string ⟨h.x.toArray⟩) := cell_of_block KA3.out rfl
          have f30 : X3.cell? ⟨w.heap.size + 1, 0, none⟩ = some (.int .i64 i.k) := cell_of_block KB3.out rfl
          have f31 : X3.cell? ⟨w.heap.size + 1, 1, none⟩ = some (.string ⟨i.l.toArray⟩) := cell_of_block KB3.out rfl
          have f32 : X3.cell? ⟨w.heap.size + 1, 2, none⟩ = some (.slice ab i.ats.length cb) := cell_of_block KB3.out rfl
          have f33 : X3.cell? ⟨w.heap.size + 1, 3, none⟩ = some (.int .i64 i.n) := cell_of_block KB3.out rfl
          have f34 : X3.cell? ⟨w.heap.size + 1, 4, none⟩ = some (.int .i64 i.d) := cell_of_block KB3.out rfl
          have f35 : X3.cell? ⟨w.heap.size + 1, 5, none⟩ = some (.string ⟨i.x.toArray⟩) := cell_of_block KB3.out rfl
          go_wp2_with fail
          refine (GG.out X3 BX3).mono ?_
          rintro e X4 ⟨rfl, hb4⟩
          have BX4 : Below w.heap.size w X4 := BX3.trans (hb4.mono BX3.size)
          have hs4 : w.heap.size + 2 ≤ X4.heap.size := Nat.le_trans hs3 hb4.size
          have KA4 := Lib.hid ((hb4.block _ (by omega)).trans KA3.out)
          have KB4 := Lib.hid ((hb4.block _ (by omega)).trans KB3.out)
          clear hb4
          clear d30 d31 d32 d33 d34 d35 f30 f31 f32 f33 f34 f35
          have d40 : X4.cell? ⟨w.heap.size, 0, none⟩ = some (.int .i64 h.k) := cell_of_block KA4.out rfl
          have d41 : X4.cell? ⟨w.heap.size, 1, none⟩ = some (.string ⟨h.l.toArray⟩) := cell_of_block KA4.out rfl
          have d42 : X4.cell? ⟨w.heap.size, 2, none⟩ = some (.slice aa h.ats.length ca) := cell_of_block KA4.out rfl
          have d43 : X4.cell? ⟨w.heap.size, 3, none⟩ = some (.int .i64 h.n) := cell_of_block KA4.out rfl
          have d44 : X4.cell? ⟨w.heap.size, 4, none⟩ = some (.int .i64 h.d) := cell_of_block KA4.out rfl
          have d45 : X4.cell? ⟨w.heap.size, 5, none⟩ = some (.string ⟨h.x.toArray⟩) := cell_of_block KA4.out rfl
          have f40 : X4.cell? ⟨w.heap.size + 1, 0, none⟩ = some (.int .i64 i.k) := cell_of_block KB4.out rfl
          have f41 : X4.cell? ⟨w.heap.size + 1, 1, none⟩ = some (.string ⟨i.l.toArray⟩) := cell_of_block KB4.out rfl
          have f42 : X4.cell? ⟨w.heap.size + 1, 2, none⟩ = some (.slice ab i.ats.length cb) := cell_of_block KB4.out rfl
          have f43 : X4.cell? ⟨w.heap.size + 1, 3, none⟩ = some (.int .i64 i.n) := cell_of_block KB4.out rfl
          have f44 : X4.cell? ⟨w.heap.size + 1, 4, none⟩ = some (.int .i64 i.d) := cell_of_block KB4.out rfl
          have f45 : X4.cell? ⟨w.heap.size + 1, 5, none⟩ = some (.string ⟨i.x.toArray⟩) := cell_of_block KB4.out rfl
          go_wp2_with fail
          refine (GR.out _).mono ?_
          rintro e X5 ⟨rfl, hb5⟩
          have BX5 : Below w.heap.size w X5 := BX4.trans (hb5.mono BX4.size)
          have hs5 : w.heap.size + 2 ≤ X5.heap.size := Nat.le_trans hs4 hb5.size
          have KA5 := Lib.hid ((hb5.block _ (by omega)).trans KA4.out)
          have KB5 := Lib.hid ((hb5.block _ (by omega)).trans KB4.out)
          clear hb5
          clear d40 d41 d42 d43 d44 d45 f40 f41 f42 f43 f44 f45
          go_wp2_with fail
          go_ret
          exact ⟨rfl, BX5⟩
        | false =>
          rw [h4] at GG
          have SF := small_lies hl h3
          have SG := small_lies hg h4
          have FH := (hdFit_of h1).1
          have FI := (hdFit_of h2).1
          have TH := Lib.hid (fun w1 (hw : Below w.heap.size w w1) => tcmpHeads_any h i aa ab ca cb w1 (attrs_below ha hw) (attrs_below hb hw) FH FI)
          have QH := Lib.hid (fun w1 (hw : Below w.heap.size w w1) => qcmpHeads_any h i aa ab ca cb w1 (attrs_below ha hw) (attrs_below hb hw) FH FI)
          have TF := Lib.hid (fun w1 (hw : Below w.heap.size w w1) => tcompare_any f g _ _ w1 (lies_below hl hw) (lies_below hg hw) SF SG)
          have QF := Lib.hid (fun w1 (hw : Below w.heap.size w w1) => qcompare_any f g _ _ w1 (lies_below hl hw) (lies_below hg hw) SF SG)
          generalize cmpH h i = R1 at *
          generalize cmpF f g = R2 at *
          obtain ⟨r1, e1⟩ := R1
          obtain ⟨r2, e2⟩ := R2
          simp only at TH QH TF QF
          clear ha hb hl hg h1 h2 h3 h4 SF SG FH FI
          go_enter Tryz.func4, Tryz.ntmps4
          go_upto_region 1 with fail

          have k0 : ((w.alloc (.cells #[.int .i64 h.k, .string ⟨h.l.toArray⟩, .slice aa h.ats.length ca, .int .i64 h.n, .int .i64 h.d, .string ⟨h.x.toArray⟩] 27)).alloc (.cells #[.int .i64 i.k, .string ⟨i.l.toArray⟩, .slice ab i.ats.length cb, .int .i64 i.n, .int .i64 i.d, .string ⟨i.x.toArray⟩] 27)).heap[w.heap.size]? = some (.cells #[.int .i64 h.k, .string ⟨h.l.toArray⟩, .slice aa h.ats.length ca, .int .i64 h.n, .int .i64 h.d, .string ⟨h.x.toArray⟩] 27) := (Below.heap_alloc _ _ _ (by simp)).trans (World.alloc_heap_new w (.cells #[.int .i64 h.k, .string ⟨h.l.toArray⟩, .slice aa h.ats.length ca, .int .i64 h.n, .int .i64 h.d, .string ⟨h.x.toArray⟩] 27))
          have k1 : ((w.alloc (.cells #[.int .i64 h.k, .string ⟨h.l.toArray⟩, .slice aa h.ats.length ca, .int .i64 h.n, .int .i64 h.d, .string ⟨h.x.toArray⟩] 27)).alloc (.cells #[.int .i64 i.k, .string ⟨i.l.toArray⟩, .slice ab i.ats.length cb, .int .i64 i.n, .int .i64 i.d, .string ⟨i.x.toArray⟩] 27)).heap[w.heap.size + 1]? = some (.cells #[.int .i64 i.k, .string ⟨i.l.toArray⟩, .slice ab i.ats.length cb, .int .i64 i.n, .int .i64 i.d, .string ⟨i.x.toArray⟩] 27) := by
            have := World.alloc_heap_new (w.alloc (.cells #[.int .i64 h.k, .string ⟨h.l.toArray⟩, .slice aa h.ats.length ca, .int .i64 h.n, .int .i64 h.d, .string ⟨h.x.toArray⟩] 27)) (.cells #[.int .i64 i.k, .string ⟨i.l.toArray⟩, .slice ab i.ats.length cb, .int .i64 i.n, .int .i64 i.d, .string ⟨i.x.toArray⟩] 27)
            rw [show (w.alloc (.cells #[.int .i64 h.k, .string ⟨h.l.toArray⟩, .slice aa h.ats.length ca, .int .i64 h.n, .int .i64 h.d, .string ⟨h.x.toArray⟩] 27)).heap.size = w.heap.size + 1 by simp] at this
            exact this
          have BX0 : Below w.heap.size w ((w.alloc (.cells #[.int .i64 h.k, .string ⟨h.l.toArray⟩, .slice aa h.ats.length ca, .int .i64 h.n, .int .i64 h.d, .string ⟨h.x.toArray⟩] 27)).alloc (.cells #[.int .i64 i.k, .string ⟨i.l.toArray⟩, .slice ab i.ats.length cb, .int .i64 i.n, .int .i64 i.d, .string ⟨i.x.toArray⟩] 27)) := by ((repeat' (first | exact Below.refl _ _ | assumption | refine Below.setCell ?_ ?_ _ | refine bdrewN ?_ _ | refine Below.drew ?_ | refine Below.alloc ?_ ?_ _ | refine bbehind ?_ (by assumption) ?_)); all_goals first | (simp; done) | (simp; omega) | omega)
          have hs0 : w.heap.size + 2 ≤ ((w.alloc (.cells #[.int .i64 h.k, .string ⟨h.l.toArray⟩, .slice aa h.ats.length ca, .int .i64 h.n, .int .i64 h.d, .string ⟨h.x.toArray⟩] 27)).alloc (.cells #[.int .i64 i.k, .string ⟨i.l.toArray⟩, .slice ab i.ats.length cb, .int .i64 i.n, .int .i64 i.d, .string ⟨i.x.toArray⟩] 27)).heap.size := by simp
          generalize (w.alloc (.cells #[.int .i64 h.k, .string ⟨h.l.toArray⟩, .slice aa h.ats.length ca, .int .i64 h.n, .int .i64 h.d, .string ⟨h.x.toArray⟩] 27)).alloc (.cells #[.int .i64 i.k, .string ⟨i.l.toArray⟩, .slice ab i.ats.length cb, .int .i64 i.n, .int .i64 i.d, .string ⟨i.x.toArray⟩] 27) = X0 at *
          have KA0 := Lib.hid k0
          have KB0 := Lib.hid k1
          clear k0 k1
          have d00 : X0.cell? ⟨w.heap.size, 0, none⟩ = some (.int .i64 h.k) := cell_of_block KA0.out rfl
          have d01 : X0.cell? ⟨w.heap.size, 1, none⟩ = some (.string ⟨h.l.toArray⟩) := cell_of_block KA0.out rfl
          have d02 : X0.cell? ⟨w.heap.size, 2, none⟩ = some (.slice aa h.ats.length ca) := cell_of_block KA0.out rfl
          have d03 : X0.cell? ⟨w.heap.size, 3, none⟩ = some (.int .i64 h.n) := cell_of_block KA0.out rfl
          have d04 : X0.cell? ⟨w.heap.size, 4, none⟩ = some (.int .i64 h.d) := cell_of_block KA0.out rfl
          have d05 : X0.cell? ⟨w.heap.size, 5, none⟩ = some (.string ⟨h.x.toArray⟩) := cell_of_block KA0.out rfl
          have f00 : X0.cell? ⟨w.heap.size + 1, 0, none⟩ = some (.int .i64 i.k) := cell_of_block KB0.out rfl
          have f01 : X0.cell? ⟨w.heap.size + 1, 1, none⟩ = some (.string ⟨i.l.toArray⟩) := cell_of_block KB0.out rfl
          have f02 : X0.cell? ⟨w.heap.size + 1, 2, none⟩ = some (.slice ab i.ats.length cb) := cell_of_block KB0.out rfl
          have f03 : X0.cell? ⟨w.heap.size + 1, 3, none⟩ = some (.int .i64 i.n) := cell_of_block KB0.out rfl
          have f04 : X0.cell? ⟨w.heap.size + 1, 4, none⟩ = some (.int .i64 i.d) := cell_of_block KB0.out rfl
          have f05 : X0.cell? ⟨w.heap.size + 1, 5, none⟩ = some (.string ⟨i.x.toArray⟩) := cell_of_block KB0.out rfl
          go_wp2_with fail
          refine (HG.out X0 BX0).mono ?_
          rintro e X1 ⟨rfl, hb1⟩
          have BX1 : Below w.heap.size w X1 := BX0.trans (hb1.mono BX0.size)
          have hs1 : w.heap.size + 2 ≤ X1.heap.size := Nat.le_trans hs0 hb1.size
          have KA1 := Lib.hid ((hb1.block _ (by omega)).trans KA0.out)
          have KB1 := Lib.hid ((hb1.block _ (by omega)).trans KB0.out)
          clear hb1
          clear d00 d01 d02 d03 d04 d05 f00 f01 f02 f03 f04 f05
          have d10 : X1.cell? ⟨w.heap.size, 0, none⟩ = some (.int .i64 h.k) := cell_of_block KA1.out rfl
          have d11 : X1.cell? ⟨w.heap.size, 1, none⟩ = some (.string ⟨h.l.toArray⟩) := cell_of_block KA1.out rfl
          have d12 : X1.cell? ⟨w.heap.size, 2, none⟩ = some (.slice aa h.ats.length ca) := cell_of_block KA1.out rfl
          have d13 : X1.cell? ⟨w.heap.size, 3, none⟩ = some (.int .i64 h.n) := cell_of_block KA1.out rfl
          have d14 : X1.cell? ⟨w.heap.size, 4, none⟩ = some (.int .i64 h.d) := cell_of_block KA1.out rfl
          have d15 : X1.cell? ⟨w.heap.size, 5, none⟩ = some (.string ⟨h.x.toArray⟩) := cell_of_block KA1.out rfl
          have f10 : X1.cell? ⟨w.heap.size + 1, 0, none⟩ = some (.int .i64 i.k) := cell_of_block KB1.out rfl
          have f11 : X1.cell? ⟨w.heap.size + 1, 1, none⟩ = some (.string ⟨i.l.toArray⟩) := cell_of_block KB1.out rfl
          have f12 : X1.cell? ⟨w.heap.size + 1, 2, none⟩ = some (.slice ab i.ats.length cb) := cell_of_block KB1.out rfl
          have f13 : X1.cell? ⟨w.heap.size + 1, 3, none⟩ = some (.int .i64 i.n) := cell_of_block KB1.out rfl
          have f14 : X1.cell? ⟨w.heap.size + 1, 4, none⟩ = some (.int .i64 i.d) := cell_of_block KB1.out rfl
          have f15 : X1.cell? ⟨w.heap.size + 1, 5, none⟩ = some (.string ⟨i.x.toArray⟩) := cell_of_block KB1.out rfl
          go_wp2_with fail
          refine (IG.out X1 BX1).mono ?_
          rintro e X2 ⟨rfl, hb2⟩
          have BX2 : Below w.heap.size w X2 := BX1.trans (hb2.mono BX1.size)
          have hs2 : w.heap.size + 2 ≤ X2.heap.size := Nat.le_trans hs1 hb2.size
          have KA2 := Lib.hid ((hb2.block _ (by omega)).trans KA1.out)
          have KB2 := Lib.hid ((hb2.block _ (by omega)).trans KB1.out)
          clear hb2
          clear d10 d11 d12 d13 d14 d15 f10 f11 f12 f13 f14 f15
          have d20 : X2.cell? ⟨w.heap.size, 0, none⟩ = some (.int .i64 h.k) := cell_of_block KA2.out rfl
          have d21 : X2.cell? ⟨w.heap.size, 1, none⟩ = some (.string ⟨h.l.toArray⟩) := cell_of_block KA2.out rfl
          have d22 : X2.cell? ⟨w.heap.size, 2, none⟩ = some (.slice aa h.ats.length ca) := cell_of_block KA2.out rfl
          have d23 : X2.cell? ⟨w.heap.size, 3, none⟩ = some (.int .i64 h.n) := cell_of_block KA2.out rfl
          have d24 : X2.cell? ⟨w.heap.size, 4, none⟩ = some (.int .i64 h.d) := cell_of_block KA2.out rfl
          have d25 : X2.cell? ⟨w.heap.size, 5, none⟩ = some (.string ⟨h.x.toArray⟩) := cell_of_block KA2.out rfl
          have f20 : X2.cell? ⟨w.heap.size + 1, 0, none⟩ = some (.int .i64 i.k) := cell_of_block KB2.out rfl
          have f21 : X2.cell? ⟨w.heap.size + 1, 1, none⟩ = some (.string ⟨i.l.toArray⟩) := cell_of_block KB2.out rfl
          have f22 : X2.cell? ⟨w.heap.size + 1, 2, none⟩ = some (.slice ab i.ats.length cb) := cell_of_block KB2.out rfl
          have f23 : X2.cell? ⟨w.heap.size + 1, 3, none⟩ = some (.int .i64 i.n) := cell_of_block KB2.out rfl
          have f24 : X2.cell? ⟨w.heap.size + 1, 4, none⟩ = some (.int .i64 i.d) := cell_of_block KB2.out rfl
          have f25 : X2.cell? ⟨w.heap.size + 1, 5, none⟩ = some (.string ⟨i.x.toArray⟩) := cell_of_block KB2.out rfl
          go_wp2_with fail
          refine (FG.out X2 BX2).mono ?_
          rintro e X3 ⟨rfl, hb3⟩
          have BX3 : Below w.heap.size w X3 := BX2.trans (hb3.mono BX2.size)
          have hs3 : w.heap.size + 2 ≤ X3.heap.size := Nat.le_trans hs2 hb3.size
          have KA3 := Lib.hid ((hb3.block _ (by omega)).trans KA2.out)
          have KB3 := Lib.hid ((hb3.block _ (by omega)).trans KB2.out)
          clear hb3
          clear d20 d21 d22 d23 d24 d25 f20 f21 f22 f23 f24 f25
          have d30 : X3.cell? ⟨w.heap.size, 0, none⟩ = some (.int .i64 h.k) := cell_of_block KA3.out rfl
          have d31 : X3.cell? ⟨w.heap.size, 1, none⟩ = some (.string ⟨h.l.toArray⟩) := cell_of_block KA3.out rfl
          have d32 : X3.cell? ⟨w.heap.size, 2, none⟩ = some (.slice aa h.ats.length ca) := cell_of_block KA3.out rfl
          have d33 : X3.cell? ⟨w.heap.size, 3, none⟩ = some (.int .i64 h.n) := cell_of_block KA3.out rfl
          have d34 : X3.cell? ⟨w.heap.size, 4, none⟩ = some (.int .i64 h.d) := cell_of_block KA3.out rfl
          have d35 : X3.cell? ⟨w.heap.size, 5, none⟩ = some (.string ⟨h.x.toArray⟩) := cell_of_block KA3.out rfl
          have f30 : X3.cell? ⟨w.heap.size + 1, 0, none⟩ = some (.int .i64 i.k) := cell_of_block KB3.out rfl
          have f31 : X3.cell? ⟨w.heap.size + 1, 1, none⟩ = some (.string ⟨i.l.toArray⟩) := cell_of_block KB3.out rfl
          have f32 : X3.cell? ⟨w.heap.size + 1, 2, none⟩ = some (.slice ab i.ats.length cb) := cell_of_block KB3.out rfl
          have f33 : X3.cell? ⟨w.heap.size + 1, 3, none⟩ = some (.int .i64 i.n) := cell_of_block KB3.out rfl
          have f34 : X3.cell? ⟨w.heap.size + 1, 4, none⟩ = some (.int .i64 i.d) := cell_of_block KB3.out rfl
          have f35 : X3.cell? ⟨w.heap.size + 1, 5, none⟩ = some (.string ⟨i.x.toArray⟩) := cell_of_block KB3.out rfl
          go_wp2_with fail
          refine (GG.out X3 BX3).mono ?_
          rintro e X4 ⟨rfl, hb4⟩
          have BX4 : Below w.heap.size w X4 := BX3.trans (hb4.mono BX3.size)
          have hs4 : w.heap.size + 2 ≤ X4.heap.size := Nat.le_trans hs3 hb4.size
          have KA4 := Lib.hid ((hb4.block _ (by omega)).trans KA3.out)
          have KB4 := Lib.hid ((hb4.block _ (by omega)).trans KB3.out)
          clear hb4
          clear d30 d31 d32 d33 d34 d35 f30 f31 f32 f33 f34 f35
          have d40 : X4.cell? ⟨w.heap.size, 0, none⟩ = some (.int .i64 h.k) := cell_of_block KA4.out rfl
          have d41 : X4.cell? ⟨w.heap.size, 1, none⟩ = some (.string ⟨h.l.toArray⟩) := cell_of_block KA4.out rfl
          have d42 : X4.cell? ⟨w.heap.size, 2, none⟩ = some (.slice aa h.ats.length ca) := cell_of_block KA4.out rfl
          have d43 : X4.cell? ⟨w.heap.size, 3, none⟩ = some (.int .i64 h.n) := cell_of_block KA4.out rfl
          have d44 : X4.cell? ⟨w.heap.size, 4, none⟩ = some (.int .i64 h.d) := cell_of_block KA4.out rfl
          have d45 : X4.cell? ⟨w.heap.size, 5, none⟩ = some (.string ⟨h.x.toArray⟩) := cell_of_block KA4.out rfl
          have f40 : X4.cell? ⟨w.heap.size + 1, 0, none⟩ = some (.int .i64 i.k) := cell_of_block KB4.out rfl
          have f41 : X4.cell? ⟨w.heap.size + 1, 1, none⟩ = some (.string ⟨i.l.toArray⟩) := cell_of_block KB4.out rfl
          have f42 : X4.cell? ⟨w.heap.size + 1, 2, none⟩ = some (.slice ab i.ats.length cb) := cell_of_block KB4.out rfl
          have f43 : X4.cell? ⟨w.heap.size + 1, 3, none⟩ = some (.int .i64 i.n) := cell_of_block KB4.out rfl
          have f44 : X4.cell? ⟨w.heap.size + 1, 4, none⟩ = some (.int .i64 i.d) := cell_of_block KB4.out rfl
          have f45 : X4.cell? ⟨w.heap.size + 1, 5, none⟩ = some (.string ⟨i.x.toArray⟩) := cell_of_block KB4.out rfl
          go_wp2_with fail
          refine (TH.out X4 BX4).mono ?_
          rintro e X5 ⟨rfl, hb5⟩
          have BX5 : Below w.heap.size w X5 := BX4.trans (hb5.mono BX4.size)
          have hs5 : w.heap.size + 2 ≤ X5.heap.size := Nat.le_trans hs4 hb5.size
          have KA5 := Lib.hid ((hb5.block _ (by omega)).trans KA4.out)
          have KB5 := Lib.hid ((hb5.block _ (by omega)).trans KB4.out)
          clear hb5
          clear d40 d41 d42 d43 d44 d45 f40 f41 f42 f43 f44 f45
          have d50 : X5.cell? ⟨w.heap.size, 0, none⟩ = some (.int .i64 h.k) := cell_of_block KA5.out rfl
          have d51 : X5.cell? ⟨w.heap.size, 1, none⟩ = some (.string ⟨h.l.toArray⟩) := cell_of_block KA5.out rfl
          have d52 : X5.cell? ⟨w.heap.size, 2, none⟩ = some (.slice aa h.ats.length ca) := cell_of_block KA5.out rfl
          have d53 : X5.cell? ⟨w.heap.size, 3, none⟩ = some (.int .i64 h.n) := cell_of_block KA5.out rfl
          have d54 : X5.cell? ⟨w.heap.size, 4, none⟩ = some (.int .i64 h.d) := cell_of_block KA5.out rfl
          have d55 : X5.cell? ⟨w.heap.size, 5, none⟩ = some (.string ⟨h.x.toArray⟩) := cell_of_block KA5.out rfl
          have f50 : X5.cell? ⟨w.heap.size + 1, 0, none⟩ = some (.int .i64 i.k) := cell_of_block KB5.out rfl
          have f51 : X5.cell? ⟨w.heap.size + 1, 1, none⟩ = some (.string ⟨i.l.toArray⟩) := cell_of_block KB5.out rfl
          have f52 : X5.cell? ⟨w.heap.size + 1, 2, none⟩ = some (.slice ab i.ats.length cb) := cell_of_block KB5.out rfl
          have f53 : X5.cell? ⟨w.heap.size + 1, 3, none⟩ = some (.int .i64 i.n) := cell_of_block KB5.out rfl
          have f54 : X5.cell? ⟨w.heap.size + 1, 4, none⟩ = some (.int .i64 i.d) := cell_of_block KB5.out rfl
          have f55 : X5.cell? ⟨w.heap.size + 1, 5, none⟩ = some (.string ⟨i.x.toArray⟩) := cell_of_block KB5.out rfl
          go_wp2_with fail
          refine (QH.out X5 BX5).mono ?_
          rintro e X6 ⟨rfl, hb6⟩
          have BX6 : Below w.heap.size w X6 := BX5.trans (hb6.mono BX5.size)
          have hs6 : w.heap.size + 2 ≤ X6.heap.size := Nat.le_trans hs5 hb6.size
          have KA6 := Lib.hid ((hb6.block _ (by omega)).trans KA5.out)
          have KB6 := Lib.hid ((hb6.block _ (by omega)).trans KB5.out)
          clear hb6
          clear d50 d51 d52 d53 d54 d55 f50 f51 f52 f53 f54 f55
          have d60 : X6.cell? ⟨w.heap.size, 0, none⟩ = some (.int .i64 h.k) := cell_of_block KA6.out rfl
          have d61 : X6.cell? ⟨w.heap.size, 1, none⟩ = some (.string ⟨h.l.toArray⟩) := cell_of_block KA6.out rfl
          have d62 : X6.cell? ⟨w.heap.size, 2, none⟩ = some (.slice aa h.ats.length ca) := cell_of_block KA6.out rfl
          have d63 : X6.cell? ⟨w.heap.size, 3, none⟩ = some (.int .i64 h.n) := cell_of_block KA6.out rfl
          have d64 : X6.cell? ⟨w.heap.size, 4, none⟩ = some (.int .i64 h.d) := cell_of_block KA6.out rfl
          have d65 : X6.cell? ⟨w.heap.size, 5, none⟩ = some (.string ⟨h.x.toArray⟩) := cell_of_block KA6.out rfl
          have f60 : X6.cell? ⟨w.heap.size + 1, 0, none⟩ = some (.int .i64 i.k) := cell_of_block KB6.out rfl
          have f61 : X6.cell? ⟨w.heap.size + 1, 1, none⟩ = some (.string ⟨i.l.toArray⟩) := cell_of_block KB6.out rfl
          have f62 : X6.cell? ⟨w.heap.size + 1, 2, none⟩ = some (.slice ab i.ats.length cb) := cell_of_block KB6.out rfl
          have f63 : X6.cell? ⟨w.heap.size + 1, 3, none⟩ = some (.int .i64 i.n) := cell_of_block KB6.out rfl
          have f64 : X6.cell? ⟨w.heap.size + 1, 4, none⟩ = some (.int .i64 i.d) := cell_of_block KB6.out rfl
          have f65 : X6.cell? ⟨w.heap.size + 1, 5, none⟩ = some (.string ⟨i.x.toArray⟩) := cell_of_block KB6.out rfl
          go_wp2_with fail
          refine (TF.out X6 BX6).mono ?_
          rintro e X7 ⟨rfl, hb7⟩
          have BX7 : Below w.heap.size w X7 := BX6.trans (hb7.mono BX6.size)
          have hs7 : w.heap.size + 2 ≤ X7.heap.size := Nat.le_trans hs6 hb7.size
          have KA7 := Lib.hid ((hb7.block _ (by omega)).trans KA6.out)
          have KB7 := Lib.hid ((hb7.block _ (by omega)).trans KB6.out)
          clear hb7
          clear d60 d61 d62 d63 d64 d65 f60 f61 f62 f63 f64 f65
          have d70 : X7.cell? ⟨w.heap.size, 0, none⟩ = some (.int .i64 h.k) := cell_of_block KA7.out rfl
          have d71 : X7.cell? ⟨w.heap.size, 1, none⟩ = some (.string ⟨h.l.toArray⟩) := cell_of_block KA7.out rfl
          have d72 : X7.cell? ⟨w.heap.size, 2, none⟩ = some (.slice aa h.ats.length ca) := cell_of_block KA7.out rfl
          have d73 : X7.cell? ⟨w.heap.size, 3, none⟩ = some (.int .i64 h.n) := cell_of_block KA7.out rfl
          have d74 : X7.cell? ⟨w.heap.size, 4, none⟩ = some (.int .i64 h.d) := cell_of_block KA7.out rfl
          have d75 : X7.cell? ⟨w.heap.size, 5, none⟩ = some (.string ⟨h.x.toArray⟩) := cell_of_block KA7.out rfl
          have f70 : X7.cell? ⟨w.heap.size + 1, 0, none⟩ = some (.int .i64 i.k) := cell_of_block KB7.out rfl
          have f71 : X7.cell? ⟨w.heap.size + 1, 1, none⟩ = some (.string ⟨i.l.toArray⟩) := cell_of_block KB7.out rfl
          have f72 : X7.cell? ⟨w.heap.size + 1, 2, none⟩ = some (.slice ab i.ats.length cb) := cell_of_block KB7.out rfl
          have f73 : X7.cell? ⟨w.heap.size + 1, 3, none⟩ = some (.int .i64 i.n) := cell_of_block KB7.out rfl
          have f74 : X7.cell? ⟨w.heap.size + 1, 4, none⟩ = some (.int .i64 i.d) := cell_of_block KB7.out rfl
          have f75 : X7.cell? ⟨w.heap.size + 1, 5, none⟩ = some (.string ⟨i.x.toArray⟩) := cell_of_block KB7.out rfl
          go_wp2_with fail
          refine (QF.out X7 BX7).mono ?_
          rintro e X8 ⟨rfl, hb8⟩
          have BX8 : Below w.heap.size w X8 := BX7.trans (hb8.mono BX7.size)
          have hs8 : w.heap.size + 2 ≤ X8.heap.size := Nat.le_trans hs7 hb8.size
          have KA8 := Lib.hid ((hb8.block _ (by omega)).trans KA7.out)
          have KB8 := Lib.hid ((hb8.block _ (by omega)).trans KB7.out)
          clear hb8
          clear d70 d71 d72 d73 d74 d75 f70 f71 f72 f73 f74 f75
          have d80 : X8.cell? ⟨w.heap.size, 0, none⟩ = some (.int .i64 h.k) := cell_of_block KA8.out rfl
          have d81 : X8.cell? ⟨w.heap.size, 1, none⟩ = some (.string ⟨h.l.toArray⟩) := cell_of_block KA8.out rfl
          have d82 : X8.cell? ⟨w.heap.size, 2, none⟩ = some (.slice aa h.ats.length ca) := cell_of_block KA8.out rfl
          have d83 : X8.cell? ⟨w.heap.size, 3, none⟩ = some (.int .i64 h.n) := cell_of_block KA8.out rfl
          have d84 : X8.cell? ⟨w.heap.size, 4, none⟩ = some (.int .i64 h.d) := cell_of_block KA8.out rfl
          have d85 : X8.cell? ⟨w.heap.size, 5, none⟩ = some (.string ⟨h.x.toArray⟩) := cell_of_block KA8.out rfl
          have f80 : X8.cell? ⟨w.heap.size + 1, 0, none⟩ = some (.int .i64 i.k) := cell_of_block KB8.out rfl
          have f81 : X8.cell? ⟨w.heap.size + 1, 1, none⟩ = some (.string ⟨i.l.toArray⟩) := cell_of_block KB8.out rfl
          have f82 : X8.cell? ⟨w.heap.size + 1, 2, none⟩ = some (.slice ab i.ats.length cb) := cell_of_block KB8.out rfl
          have f83 : X8.cell? ⟨w.heap.size + 1, 3, none⟩ = some (.int .i64 i.n) := cell_of_block KB8.out rfl
          have f84 : X8.cell? ⟨w.heap.size + 1, 4, none⟩ = some (.int .i64 i.d) := cell_of_block KB8.out rfl
          have f85 : X8.cell? ⟨w.heap.size + 1, 5, none⟩ = some (.string ⟨i.x.toArray⟩) := cell_of_block KB8.out rfl
          go_wp2_with fail
          refine (GR.out _).mono ?_
          rintro e X9 ⟨rfl, hb9⟩
          have BX9 : Below w.heap.size w X9 := BX8.trans (hb9.mono BX8.size)
          have hs9 : w.heap.size + 2 ≤ X9.heap.size := Nat.le_trans hs8 hb9.size
          have KA9 := Lib.hid ((hb9.block _ (by omega)).trans KA8.out)
          have KB9 := Lib.hid ((hb9.block _ (by omega)).trans KB8.out)
          clear hb9
          clear d80 d81 d82 d83 d84 d85 f80 f81 f82 f83 f84 f85
          go_wp2_with fail
          go_ret
          exact ⟨rfl, BX9⟩
end Go.Proofs.YtefongoinlcgaaaGreat
