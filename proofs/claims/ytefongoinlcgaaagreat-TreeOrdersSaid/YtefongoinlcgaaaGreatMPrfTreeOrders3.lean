/- What the proof of PrfTreeOrders rests on, part 3 of 4. -/
import Derived.Test.YtefongoinlcgaaaGreatMPrfTreeOrders2
/- CompareHeads of package tree. -/
namespace Go.Proofs.YtefongoinlcgaaaGreat
open Go.RowKit

def cmpH (h i : Hd) : Int × Int := if firstNZ [headErr h, headErr i] = 0 then (headL h i, 0) else (0, firstNZ [headErr h, headErr i])
theorem AspAt.at_below {w w' : World} {b : Nat} (h : AspAt w b) (k : Below w.heap.size w w') : AspAt w' b :=
  (k.block b (Array.getElem?_eq_some_iff.1 h).1).trans h
set_option linter.unusedSimpArgs false in
set_option maxRecDepth 100000 in
set_option maxHeartbeats 8000000 in
theorem tcmpHeads_any (h i : Hd) (aa ab : Option Addr) (ca cb : Nat) (w : World) (ha : AttrsLie w (.slice aa h.ats.length ca) h.ats) (hb : AttrsLie w (.slice ab i.ats.length cb) i.ats) (hf : HdFit h) (hf' : HdFit i) :
    Calls Tryz.prog 27 #[.agg #[.int .i64 h.k, .string ⟨h.l.toArray⟩, .slice aa h.ats.length ca, .int .i64 h.n, .int .i64 h.d, .string ⟨h.x.toArray⟩], .agg #[.int .i64 i.k, .string ⟨i.l.toArray⟩, .slice ab i.ats.length cb, .int .i64 i.n, .int .i64 i.d, .string ⟨i.x.toArray⟩]] w fun e w' => e = .returned (.tuple #[.int .i64 (cmpH h i).1, .int .i64 (cmpH h i).2]) ∧ Below w.heap.size w w' := by
  have OF := Lib.hid (fun b w1 (hw : Below w.heap.size w w1) hA => compareBy_any h i aa ab ca cb b w1 (attrs_below ha hw) (attrs_below hb hw) hA)
  obtain ⟨R, hR⟩ : ∃ R, cmpH h i = R := ⟨_, rfl⟩
  rw [hR]
  have HR := Lib.hid hR.symm
  have PF := Lib.hid (show AttrsLie w (.slice aa h.ats.length ca) h.ats ∧ HdFit h from ⟨ha, hf⟩)
  have PG := Lib.hid (show AttrsLie w (.slice ab i.ats.length cb) i.ats ∧ HdFit i from ⟨hb, hf'⟩)
  clear ha hb hf hf' hR
  unfold cmpH at HR
  go_enter Tryz.func27, Tryz.ntmps27
  go_upto_region 1 with fail
  have k0 : ((w.alloc (.cells #[.int .i64 h.k, .string ⟨h.l.toArray⟩, .slice aa h.ats.length ca, .int .i64 h.n, .int .i64 h.d, .string ⟨h.x.toArray⟩] 27)).alloc (.cells #[.int .i64 i.k, .string ⟨i.l.toArray⟩, .slice ab i.ats.length cb, .int .i64 i.n, .int .i64 i.d, .string ⟨i.x.toArray⟩] 27)).heap[w.heap.size]? = some (.cells #[.int .i64 h.k, .string ⟨h.l.toArray⟩, .slice aa h.ats.length ca, .int .i64 h.n, .int .i64 h.d, .string ⟨h.x.toArray⟩] 27) := (Below.heap_alloc _ _ _ (by simp)).trans (World.alloc_heap_new w (.cells #[.int .i64 h.k, .string ⟨h.l.toArray⟩, .slice aa h.ats.length ca, .int .i64 h.n, .int .i64 h.d, .string ⟨h.x.toArray⟩] 27))
  have k1 : ((w.alloc (.cells #[.int .i64 h.k, .string ⟨h.l.toArray⟩, .slice aa h.ats.length ca, .int .i64 h.n, .int .i64 h.d, .string ⟨h.x.toArray⟩] 27)).alloc (.cells #[.int .i64 i.k, .string ⟨i.l.toArray⟩, .slice ab i.ats.length cb, .int .i64 i.n, .int .i64 i.d, .string ⟨i.x.toArray⟩] 27)).heap[w.heap.size + 1]? = some (.cells #[.int .i64 i.k, .string ⟨i.l.toArray⟩, .slice ab i.ats.length cb, .int .i64 i.n, .int .i64 i.d, .string ⟨i.x.toArray⟩] 27) := by
    have := World.alloc_heap_new (w.alloc (.cells #[.int .i64 h.k, .string ⟨h.l.toArray⟩, .slice aa h.ats.length ca, .int .i64 h.n, .int .i64 h.d, .string ⟨h.x.toArray⟩] 27)) (.cells #[.int .i64 i.k, .string ⟨i.l.toArray⟩, .slice ab i.ats.length cb, .int .i64 i.n, .int .i64 i.d, .string ⟨i.x.toArray⟩] 27)
    rw [show (w.alloc (.cells #[.int .i64 h.k, .string ⟨h.l.toArray⟩, .slice aa h.ats.length ca, .int .i64 h.n, .int .i64 h.d, .string ⟨h.x.toArray⟩] 27)).heap.size = w.heap.size + 1 by simp] at this
    exact this
  have BW : Below w.heap.size w ((w.alloc (.cells #[.int .i64 h.k, .string ⟨h.l.toArray⟩, .slice aa h.ats.length ca, .int .i64 h.n, .int .i64 h.d, .string ⟨h.x.toArray⟩] 27)).alloc (.cells #[.int .i64 i.k, .string ⟨i.l.toArray⟩, .slice ab i.ats.length cb, .int .i64 i.n, .int .i64 i.d, .string ⟨i.x.toArray⟩] 27)) := by ((repeat' (first | exact Below.refl _ _ | assumption | refine Below.setCell ?_ ?_ _ | refine bdrewN ?_ _ | refine Below.drew ?_ | refine Below.alloc ?_ ?_ _ | refine bbehind ?_ (by assumption) ?_)); all_goals first | (simp; done) | (simp; omega) | omega)
  have hs0 : w.heap.size + 2 ≤ ((w.alloc (.cells #[.int .i64 h.k, .string ⟨h.l.toArray⟩, .slice aa h.ats.length ca, .int .i64 h.n, .int .i64 h.d, .string ⟨h.x.toArray⟩] 27)).alloc (.cells #[.int .i64 i.k, .string ⟨i.l.toArray⟩, .slice ab i.ats.length cb, .int .i64 i.n, .int .i64 i.d, .string ⟨i.x.toArray⟩] 27)).heap.size := by simp
  generalize (w.alloc (.cells #[.int .i64 h.k, .string ⟨h.l.toArray⟩, .slice aa h.ats.length ca, .int .i64 h.n, .int .i64 h.d, .string ⟨h.x.toArray⟩] 27)).alloc (.cells #[.int .i64 i.k, .string ⟨i.l.toArray⟩, .slice ab i.ats.length cb, .int .i64 i.n, .int .i64 i.d, .string ⟨i.x.toArray⟩] 27) = W at *
  have d0 : W.cell? ⟨w.heap.size, 0, none⟩ = some (.int .i64 h.k) := cell_of_block k0 rfl
  have d1 : W.cell? ⟨w.heap.size, 1, none⟩ = some (.string ⟨h.l.toArray⟩) := cell_of_block k0 rfl
  have d2 : W.cell? ⟨w.heap.size, 2, none⟩ = some (.slice aa h.ats.length ca) := cell_of_block k0 rfl
  have d3 : W.cell? ⟨w.heap.size, 3, none⟩ = some (.int .i64 h.n) := cell_of_block k0 rfl
  have d4 : W.cell? ⟨w.heap.size, 4, none⟩ = some (.int .i64 h.d) := cell_of_block k0 rfl
  have d5 : W.cell? ⟨w.heap.size, 5, none⟩ = some (.string ⟨h.x.toArray⟩) := cell_of_block k0 rfl
  have f0 : W.cell? ⟨w.heap.size + 1, 0, none⟩ = some (.int .i64 i.k) := cell_of_block k1 rfl
  have f1 : W.cell? ⟨w.heap.size + 1, 1, none⟩ = some (.string ⟨i.l.toArray⟩) := cell_of_block k1 rfl
  have f2 : W.cell? ⟨w.heap.size + 1, 2, none⟩ = some (.slice ab i.ats.length cb) := cell_of_block k1 rfl
  have f3 : W.cell? ⟨w.heap.size + 1, 3, none⟩ = some (.int .i64 i.n) := cell_of_block k1 rfl
  have f4 : W.cell? ⟨w.heap.size + 1, 4, none⟩ = some (.int .i64 i.d) := cell_of_block k1 rfl
  have f5 : W.cell? ⟨w.heap.size + 1, 5, none⟩ = some (.string ⟨i.x.toArray⟩) := cell_of_block k1 rfl
  have n0 : w.heap.size < W.heap.size := by omega
  have n1 : w.heap.size + 1 < W.heap.size := by omega
  have K0 := Lib.hid k0
  have K1 := Lib.hid k1
  have XH := Lib.hid (fun (x : Lower W) (hd : Hd) (a : Option Addr) (c : Nat) (hp : AttrsLie w (.slice a hd.ats.length c) hd.ats ∧ HdFit hd) => thead_any hd (.slice a hd.ats.length c) x.val (attrs_below hp.1 (BW.trans (x.prop.mono BW.size))) hp.2)
  clear k0 k1
  refine wp_region_quiet_tail (fun w' => ∃ x : Lower W, w' = x.val) 4 (by kernel_rfl) (by kernel_rfl) ⟨⟨_, (Below.refl _ _).drew⟩, rfl⟩ ?_
  simp only [List.take_succ_cons, List.take_zero, List.drop_succ_cons, List.drop_zero]
  repeat (go_big_quiet_step ((go_at_call 17; exact calls_lower _ (XH.out _ _ _ _ (by first | exact PF.out | exact PG.out)))))
  refine wpQuiet_nil ?_
  intro w2 hx1
  obtain ⟨x1, hx1⟩ := hx1
  have hb1 := x1.prop
  rw [← hx1] at hb1
  clear hx1 x1 d0 d1 d2 d3 d4 d5 f0 f1 f2 f3 f4 f5 XH PF PG
  generalize headErr h = e1 at *
  generalize headErr i = e2 at *
  generalize headL h i = c at *
  have hs1 := hb1.size
  have B2 := BW.trans (hb1.mono (by omega))
  have K02 := Lib.hid ((hb1.block _ (by omega)).trans K0.out)
  have K12 := Lib.hid ((hb1.block _ (by omega)).trans K1.out)
  clear hb1
  go_wp2_with fail
  have B3 : Below w.heap.size w (w2.alloc (.cells #[.int .i64 e1, .int .i64 e2] 32)) := B2.alloc B2.size _
  have hi3 := ints_pair (World.alloc_heap_new w2 (.cells #[.int .i64 e1, .int .i64 e2] 32)) (by simp)
  have k03 : (w2.alloc (.cells #[.int .i64 e1, .int .i64 e2] 32)).heap[w.heap.size]? = _ := (Below.heap_alloc _ _ _ (by omega)).trans K02.out
  have k13 : (w2.alloc (.cells #[.int .i64 e1, .int .i64 e2] 32)).heap[w.heap.size + 1]? = _ := (Below.heap_alloc _ _ _ (by omega)).trans K12.out
  have hs3 : (w2.alloc (.cells #[.int .i64 e1, .int .i64 e2] 32)).heap.size = w2.heap.size + 1 := by simp
  generalize w2.alloc (.cells #[.int .i64 e1, .int .i64 e2] 32) = w3 at *
  refine (terr_any _ _ _ hi3 (by simp)).mono ?_
  rintro e w4 ⟨rfl, hw⟩
  obtain rfl := hw
  generalize firstNZ [e1, e2] = ee at *
  have K03 := Lib.hid k03
  have K13 := Lib.hid k13
  clear hi3 k03 k13
  by_cases h0 : ee = 0
  · have HX := HR.out.trans (if_pos h0)
    subst HX
    have b0 : (ee != 0) = false := by simpa using h0
    clear h0
    go_wp2_with fail
    refine wp_region_any (by kernel_rfl) ?_
    change wpAny _ _ _ _ _ _ _ (World.drew _)
    have B4 := B3.drew
    have K04 := Lib.hid (show (World.drew w3).heap[w.heap.size]? = _ from K03.out)
    have K14 := Lib.hid (show (World.drew w3).heap[w.heap.size + 1]? = _ from K13.out)
    have hs4 : (World.drew w3).heap.size = w2.heap.size + 1 := hs3
    generalize World.drew w3 = X at *
    have d0 : X.cell? ⟨w.heap.size, 0, none⟩ = some (.int .i64 h.k) := cell_of_block K04.out rfl
    have d1 : X.cell? ⟨w.heap.size, 1, none⟩ = some (.string ⟨h.l.toArray⟩) := cell_of_block K04.out rfl
    have d2 : X.cell? ⟨w.heap.size, 2, none⟩ = some (.slice aa h.ats.length ca) := cell_of_block K04.out rfl
    have d3 : X.cell? ⟨w.heap.size, 3, none⟩ = some (.int .i64 h.n) := cell_of_block K04.out rfl
    have d4 : X.cell? ⟨w.heap.size, 4, none⟩ = some (.int .i64 h.d) := cell_of_block K04.out rfl
    have d5 : X.cell? ⟨w.heap.size, 5, none⟩ = some (.string ⟨h.x.toArray⟩) := cell_of_block K04.out rfl
    have f0 : X.cell? ⟨w.heap.size + 1, 0, none⟩ = some (.int .i64 i.k) := cell_of_block K14.out rfl
    have f1 : X.cell? ⟨w.heap.size + 1, 1, none⟩ = some (.string ⟨i.l.toArray⟩) := cell_of_block K14.out rfl
    have f2 : X.cell? ⟨w.heap.size + 1, 2, none⟩ = some (.slice ab i.ats.length cb) := cell_of_block K14.out rfl
    have f3 : X.cell? ⟨w.heap.size + 1, 3, none⟩ = some (.int .i64 i.n) := cell_of_block K14.out rfl
    have f4 : X.cell? ⟨w.heap.size + 1, 4, none⟩ = some (.int .i64 i.d) := cell_of_block K14.out rfl
    have f5 : X.cell? ⟨w.heap.size + 1, 5, none⟩ = some (.string ⟨i.x.toArray⟩) := cell_of_block K14.out rfl
    refine wpAny_ready (rs := [0, 1, 2]) (by decide +kernel) (by simp) ?_
    refine AllReady.cons rfl (fun K hK => ?_) (AllReady.cons rfl (fun K hK => ?_) (AllReady.cons rfl (fun K hK => ?_) AllReady.nil))
    · go_simp
      refine hK _ _ ?_; clear hK K
      refine wpAny_ready (rs := [1, 2]) (by decide +kernel) (by simp) ?_
      refine AllReady.cons rfl (fun K hK => ?_) (AllReady.cons rfl (fun K hK => ?_) AllReady.nil)
      · go_simp
        refine hK _ _ ?_; clear hK K
        refine wpAny_ready (rs := [2]) (by decide +kernel) (by simp) ?_
        refine AllReady.cons rfl (fun K hK => ?_) AllReady.nil
        go_simp
        go_wp2_with (go_at_call 87; refine (aspects_any _).mono ?_; rintro e w5 ⟨b5, rfl, hbb5, hA5, hb5⟩; have B5 := B4.trans (hb5.mono B4.size); have K05 := (hb5.block w.heap.size (by omega)).trans K04.out; have K15 := (hb5.block (w.heap.size + 1) (by omega)).trans K14.out)
        have g0 : w5.cell? ⟨w.heap.size, 0, none⟩ = some (.int .i64 h.k) := cell_of_block K05 rfl
        have g1 : w5.cell? ⟨w.heap.size, 1, none⟩ = some (.string ⟨h.l.toArray⟩) := cell_of_block K05 rfl
        have g2 : w5.cell? ⟨w.heap.size, 2, none⟩ = some (.slice aa h.ats.length ca) := cell_of_block K05 rfl
        have g3 : w5.cell? ⟨w.heap.size, 3, none⟩ = some (.int .i64 h.n) := cell_of_block K05 rfl
        have g4 : w5.cell? ⟨w.heap.size, 4, none⟩ = some (.int .i64 h.d) := cell_of_block K05 rfl
        have g5 : w5.cell? ⟨w.heap.size, 5, none⟩ = some (.string ⟨h.x.toArray⟩) := cell_of_block K05 rfl
        have m0 : w5.cell? ⟨w.heap.size + 1, 0, none⟩ = some (.int .i64 i.k) := cell_of_block K15 rfl
        have m1 : w5.cell? ⟨w.heap.size + 1, 1, none⟩ = some (.string ⟨i.l.toArray⟩) := cell_of_block K15 rfl
        have m2 : w5.cell? ⟨w.heap.size + 1, 2, none⟩ = some (.slice ab i.ats.length cb) := cell_of_block K15 rfl
        have m3 : w5.cell? ⟨w.heap.size + 1, 3, none⟩ = some (.int .i64 i.n) := cell_of_block K15 rfl
        have m4 : w5.cell? ⟨w.heap.size + 1, 4, none⟩ = some (.int .i64 i.d) := cell_of_block K15 rfl
        have m5 : w5.cell? ⟨w.heap.size + 1, 5, none⟩ = some (.string ⟨i.x.toArray⟩) := cell_of_block K15 rfl
        clear K05 K15
        refine wpAny_ready (rs := [3]) (by decide +kernel) (by simp) ?_
        refine AllReady.cons rfl (fun K hK => ?_) AllReady.nil
        go_simp
        go_wp2_with (go_at_call 86; refine (OF.out b5 w5 B5 hA5).mono ?_; rintro e w6 ⟨rfl, hb6⟩)
        have B6 := B5.trans (hb6.mono B5.size)
        refine wpAny_ready (rs := [4]) (by decide +kernel) (by simp) ?_
        refine AllReady.cons rfl (fun K hK => ?_) AllReady.nil
        go_simp
        refine hK _ _ ?_; clear hK K
        refine wpAny_ready (rs := [5]) (by decide +kernel) (by simp) ?_
        refine AllReady.cons rfl (fun K hK => ?_) AllReady.nil
        go_simp
        refine hK _ _ ?_; clear hK K
        refine wpAny_done (by decide +kernel) ?_ _
        go_wp2_with fail
        go_ret2
        exact ⟨rfl, B6⟩
      · go_simp
        go_wp2_with (go_at_call 87; refine (aspects_any _).mono ?_; rintro e w5 ⟨b5, rfl, hbb5, hA5, hb5⟩; have B5 := B4.trans (hb5.mono B4.size); have K05 := (hb5.block w.heap.size (by omega)).trans K04.out; have K15 := (hb5.block (w.heap.size + 1) (by omega)).trans K14.out)
        have g0 : w5.cell? ⟨w.heap.size, 0, none⟩ = some (.int .i64 h.k) := cell_of_block K05 rfl
        have g1 : w5.cell? ⟨w.heap.size, 1, none⟩ = some (.string ⟨h.l.toArray⟩) := cell_of_block K05 rfl
        have g2 : w5.cell? ⟨w.heap.size, 2, none⟩ = some (.slice aa h.ats.length ca) := cell_of_block K05 rfl
        have g3 : w5.cell? ⟨w.heap.size, 3, none⟩ = some (.int .i64 h.n) := cell_of_block K05 rfl
        have g4 : w5.cell? ⟨w.heap.size, 4, none⟩ = some (.int .i64 h.d) := cell_of_block K05 rfl
        have g5 : w5.cell? ⟨w.heap.size, 5, none⟩ = some (.string ⟨h.x.toArray⟩) := cell_of_block K05 rfl
        have m0 : w5.cell? ⟨w.heap.size + 1, 0, none⟩ = some (.int .i64 i.k) := cell_of_block K15 rfl
        have m1 : w5.cell? ⟨w.heap.size + 1, 1, none⟩ = some (.string ⟨i.l.toArray⟩) := cell_of_block K15 rfl
        have m2 : w5.cell? ⟨w.heap.size + 1, 2, none⟩ = some (.slice ab i.ats.length cb) := cell_of_block K15 rfl
        have m3 : w5.cell? ⟨w.heap.size + 1, 3, none⟩ = some (.int .i64 i.n) := cell_of_block K15 rfl
        have m4 : w5.cell? ⟨w.heap.size + 1, 4, none⟩ = some (.int .i64 i.d) := cell_of_block K15 rfl
        have m5 : w5.cell? ⟨w.heap.size + 1, 5, none⟩ = some (.string ⟨i.x.toArray⟩) := cell_of_block K15 rfl
        clear K05 K15
        refine wpAny_ready (rs := [1]) (by decide +kernel) (by simp) ?_
        refine AllReady.cons rfl (fun K hK => ?_) AllReady.nil
        go_simp
        refine hK _ _ ?_; clear hK K
        refine wpAny_ready (rs := [3]) (by decide +kernel) (by simp) ?_
        refine AllReady.cons rfl (fun K hK => ?_) AllReady.nil
        go_simp
        go_wp2_with (go_at_call 86; refine (OF.out b5 w5 B5 hA5).mono ?_; rintro e w6 ⟨rfl, hb6⟩)
        have B6 := B5.trans (hb6.mono B5.size)
        refine wpAny_ready (rs := [4]) (by decide +kernel) (by simp) ?_
        refine AllReady.cons rfl (fun K hK => ?_) AllReady.nil
        go_simp
        refine hK _ _ ?_; clear hK K
        refine wpAny_ready (rs := [5]) (by decide +kernel) (by simp) ?_
        refine AllReady.cons rfl (fun K hK => ?_) AllReady.nil
        go_simp
        refine hK _ _ ?_; clear hK K
        refine wpAny_done (by decide +kernel) ?_ _
        go_wp2_with fail
        go_ret2
        exact ⟨rfl, B6⟩
    · go_simp
      refine hK _ _ ?_; clear hK K
      refine wpAny_ready (rs := [0, 2]) (by decide +kernel) (by simp) ?_
      refine AllReady.cons rfl (fun K hK => ?_) (AllReady.cons rfl (fun K hK => ?_) AllReady.nil)
      · go_simp
        refine hK _ _ ?_; clear hK K
        refine wpAny_ready (rs := [2]) (by decide +kernel) (by simp) ?_
        refine AllReady.cons rfl (fun K hK => ?_) AllReady.nil
        go_simp
        go_wp2_with (go_at_call 87; refine (aspects_any _).mono ?_; rintro e w5 ⟨b5, rfl, hbb5, hA5, hb5⟩; have B5 := B4.trans (hb5.mono B4.size); have K05 := (hb5.block w.heap.size (by omega)).trans K04.out; have K15 := (hb5.block (w.heap.size + 1) (by omega)).trans K14.out)
        have g0 : w5.cell? ⟨w.heap.size, 0, none⟩ = some (.int .i64 h.k) := cell_of_block K05 rfl
        have g1 : w5.cell? ⟨w.heap.size, 1, none⟩ = some (.string ⟨h.l.toArray⟩) := cell_of_block K05 rfl
        have g2 : w5.cell? ⟨w.heap.size, 2, none⟩ = some (.slice aa h.ats.length ca) := cell_of_block K05 rfl
        have g3 : w5.cell? ⟨w.heap.size, 3, none⟩ = some (.int .i64 h.n) := cell_of_block K05 rfl
        have g4 : w5.cell? ⟨w.heap.size, 4, none⟩ = some (.int .i64 h.d) := cell_of_block K05 rfl
        have g5 : w5.cell? ⟨w.heap.size, 5, none⟩ = some (.string ⟨h.x.toArray⟩) := cell_of_block K05 rfl
        have m0 : w5.cell? ⟨w.heap.size + 1, 0, none⟩ = some (.int .i64 i.k) := cell_of_block K15 rfl
        have m1 : w5.cell? ⟨w.heap.size + 1, 1, none⟩ = some (.string ⟨i.l.toArray⟩) := cell_of_block K15 rfl
        have m2 : w5.cell? ⟨w.heap.size + 1, 2, none⟩ = some (.slice ab i.ats.length cb) := cell_of_block K15 rfl
        have m3 : w5.cell? ⟨w.heap.size + 1, 3, none⟩ = some (.int .i64 i.n) := cell_of_block K15 rfl
        have m4 : w5.cell? ⟨w.heap.size + 1, 4, none⟩ = some (.int .i64 i.d) := cell_of_block K15 rfl
        have m5 : w5.cell? ⟨w.heap.size + 1, 5, none⟩ = some (.string ⟨i.x.toArray⟩) := cell_of_block K15 rfl
        clear K05 K15
        refine wpAny_ready (rs := [3]) (by decide +kernel) (by simp) ?_
        refine AllReady.cons rfl (fun K hK => ?_) AllReady.nil
        go_simp
        go_wp2_with (go_at_call 86; refine (OF.out b5 w5 B5 hA5).mono ?_; rintro e w6 ⟨rfl, hb6⟩)
        have B6 := B5.trans (hb6.mono B5.size)
        refine wpAny_ready (rs := [4]) (by decide +kernel) (by simp) ?_
        refine AllReady.cons rfl (fun K hK => ?_) AllReady.nil
        go_simp
        refine hK _ _ ?_; clear hK K
        refine wpAny_ready (rs := [5]) (by decide +kernel) (by simp) ?_
        refine AllReady.cons rfl (fun K hK => ?_) AllReady.nil
        go_simp
        refine hK _ _ ?_; clear hK K
        refine wpAny_done (by decide +kernel) ?_ _
        go_wp2_with fail
        go_ret2
        exact ⟨rfl, B6⟩
      · go_simp
        go_wp2_with (go_at_call 87; refine (aspects_any _).mono ?_; rintro e w5 ⟨b5, rfl, hbb5, hA5, hb5⟩; have B5 := B4.trans (hb5.mono B4.size); have K05 := (hb5.block w.heap.size (by omega)).trans K04.out; have K15 := (hb5.block (w.heap.size + 1) (by omega)).trans K14.out)
        have g0 : w5.cell? ⟨w.heap.size, 0, none⟩ = some (.int .i64 h.k) := cell_of_block K05 rfl
        have g1 : w5.cell? ⟨w.heap.size, 1, none⟩ = some (.string ⟨h.l.toArray⟩) := cell_of_block K05 rfl
        have g2 : w5.cell? ⟨w.heap.size, 2, none⟩ = some (.slice aa h.ats.length ca) := cell_of_block K05 rfl
        have g3 : w5.cell? ⟨w.heap.size, 3, none⟩ = some (.int .i64 h.n) := cell_of_block K05 rfl
        have g4 : w5.cell? ⟨w.heap.size, 4, none⟩ = some (.int .i64 h.d) := cell_of_block K05 rfl
        have g5 : w5.cell? ⟨w.heap.size, 5, none⟩ = some (.string ⟨h.x.toArray⟩) := cell_of_block K05 rfl
        have m0 : w5.cell? ⟨w.heap.size + 1, 0, none⟩ = some (.int .i64 i.k) := cell_of_block K15 rfl
        have m1 : w5.cell? ⟨w.heap.size + 1, 1, none⟩ = some (.string ⟨i.l.toArray⟩) := cell_of_block K15 rfl
        have m2 : w5.cell? ⟨w.heap.size + 1, 2, none⟩ = some (.slice ab i.ats.length cb) := cell_of_block K15 rfl
        have m3 : w5.cell? ⟨w.heap.size + 1, 3, none⟩ = some (.int .i64 i.n) := cell_of_block K15 rfl
        have m4 : w5.cell? ⟨w.heap.size + 1, 4, none⟩ = some (.int .i64 i.d) := cell_of_block K15 rfl
        have m5 : w5.cell? ⟨w.heap.size + 1, 5, none⟩ = some (.string ⟨i.x.toArray⟩) := cell_of_block K15 rfl
        clear K05 K15
        refine wpAny_ready (rs := [0]) (by decide +kernel) (by simp) ?_
        refine AllReady.cons rfl (fun K hK => ?_) AllReady.nil
        go_simp
        refine hK _ _ ?_; clear hK K
        refine wpAny_ready (rs := [3]) (by decide +kernel) (by simp) ?_
        refine AllReady.cons rfl (fun K hK => ?_) AllReady.nil
        go_simp
        go_wp2_with (go_at_call 86; refine (OF.out b5 w5 B5 hA5).mono ?_; rintro e w6 ⟨rfl, hb6⟩)
        have B6 := B5.trans (hb6.mono B5.size)
        refine wpAny_ready (rs := [4]) (by decide +kernel) (by simp) ?_
        refine AllReady.cons rfl (fun K hK => ?_) AllReady.nil
        go_simp
        refine hK _ _ ?_; clear hK K
        refine wpAny_ready (rs := [5]) (by decide +kernel) (by simp) ?_
        refine AllReady.cons rfl (fun K hK => ?_) AllReady.nil
        go_simp
        refine hK _ _ ?_; clear hK K
        refine wpAny_done (by decide +kernel) ?_ _
        go_wp2_with fail
        go_ret2
        exact ⟨rfl, B6⟩
    · go_simp
      go_wp2_with (go_at_call 87; refine (aspects_any _).mono ?_; rintro e w5 ⟨b5, rfl, hbb5, hA5, hb5⟩; have B5 := B4.trans (hb5.mono B4.size); have K05 := (hb5.block w.heap.size (by omega)).trans K04.out; have K15 := (hb5.block (w.heap.size + 1) (by omega)).trans K14.out)
      have g0 : w5.cell? ⟨w.heap.size, 0, none⟩ = some (.int .i64 h.k) := cell_of_block K05 rfl
      have g1 : w5.cell? ⟨w.heap.size, 1, none⟩ = some (.string ⟨h.l.toArray⟩) := cell_of_block K05 rfl
      have g2 : w5.cell? ⟨w.heap.size, 2, none⟩ = some (.slice aa h.ats.length ca) := cell_of_block K05 rfl
      have g3 : w5.cell? ⟨w.heap.size, 3, none⟩ = some (.int .i64 h.n) := cell_of_block K05 rfl
      have g4 : w5.cell? ⟨w.heap.size, 4, none⟩ = some (.int .i64 h.d) := cell_of_block K05 rfl
      have g5 : w5.cell? ⟨w.heap.size, 5, none⟩ = some (.string ⟨h.x.toArray⟩) := cell_of_block K05 rfl
      have m0 : w5.cell? ⟨w.heap.size + 1, 0, none⟩ = some (.int .i64 i.k) := cell_of_block K15 rfl
      have m1 : w5.cell? ⟨w.heap.size + 1, 1, none⟩ = some (.string ⟨i.l.toArray⟩) := cell_of_block K15 rfl
      have m2 : w5.cell? ⟨w.heap.size + 1, 2, none⟩ = some (.slice ab i.ats.length cb) := cell_of_block K15 rfl
      have m3 : w5.cell? ⟨w.heap.size + 1, 3, none⟩ = some (.int .i64 i.n) := cell_of_block K15 rfl
      have m4 : w5.cell? ⟨w.heap.size + 1, 4, none⟩ = some (.int .i64 i.d) := cell_of_block K15 rfl
      have m5 : w5.cell? ⟨w.heap.size + 1, 5, none⟩ = some (.string ⟨i.x.toArray⟩) := cell_of_block K15 rfl
      clear K05 K15
      refine wpAny_ready (rs := [0, 1]) (by decide +kernel) (by simp) ?_
      refine AllReady.cons rfl (fun K hK => ?_) (AllReady.cons rfl (fun K hK => ?_) AllReady.nil)
      · go_simp
        refine hK _ _ ?_; clear hK K
        refine wpAny_ready (rs := [1]) (by decide +kernel) (by simp) ?_
        refine AllReady.cons rfl (fun K hK => ?_) AllReady.nil
        go_simp
        refine hK _ _ ?_; clear hK K
        refine wpAny_ready (rs := [3]) (by decide +kernel) (by simp) ?_
        refine AllReady.cons rfl (fun K hK => ?_) AllReady.nil
        go_simp
        go_wp2_with (go_at_call 86; refine (OF.out b5 w5 B5 hA5).mono ?_; rintro e w6 ⟨rfl, hb6⟩)
        have B6 := B5.trans (hb6.mono B5.size)
        refine wpAny_ready (rs := [4]) (by decide +kernel) (by simp) ?_
        refine AllReady.cons rfl (fun K hK => ?_) AllReady.nil
        go_simp
        refine hK _ _ ?_; clear hK K
        refine wpAny_ready (rs := [5]) (by decide +kernel) (by simp) ?_
        refine AllReady.cons rfl (fun K hK => ?_) AllReady.nil
        go_simp
        refine hK _ _ ?_; clear hK K
        refine wpAny_done (by decide +kernel) ?_ _
        go_wp2_with fail
        go_ret2
        exact ⟨rfl, B6⟩
      · go_simp
        refine hK _ _ ?_; clear hK K
        refine wpAny_ready (rs := [0]) (by decide +kernel) (by simp) ?_
        refine AllReady.cons rfl (fun K hK => ?_) AllReady.nil
        go_simp
        refine hK _ _ ?_; clear hK K
        refine wpAny_ready (rs := [3]) (by decide +kernel) (by simp) ?_
        refine AllReady.cons rfl (fun K hK => ?_) AllReady.nil
        go_simp
        go_wp2_with (go_at_call 86; refine (OF.out b5 w5 B5 hA5).mono ?_; rintro e w6 ⟨rfl, hb6⟩)
        have B6 := B5.trans (hb6.mono B5.size)
        refine wpAny_ready (rs := [4]) (by decide +kernel) (by simp) ?_
        refine AllReady.cons rfl (fun K hK => ?_) AllReady.nil
        go_simp
        refine hK _ _ ?_; clear hK K
        refine wpAny_ready (rs := [5]) (by decide +kernel) (by simp) ?_
        refine AllReady.cons rfl (fun K hK => ?_) AllReady.nil
        go_simp
        refine hK _ _ ?_; clear hK K
        refine wpAny_done (by decide +kernel) ?_ _
        go_wp2_with fail
        go_ret2
        exact ⟨rfl, B6⟩
  · have HX := HR.out.trans (if_neg h0)
    subst HX
    have b0 : (ee != 0) = true := by simpa using h0
    clear h0
    go_wp2_with fail
    go_ret2
    exact ⟨rfl, B3⟩
end Go.Proofs.YtefongoinlcgaaaGreat

/- the reference's order of forests. -/
namespace Go.Proofs.YtefongoinlcgaaaGreat
open Go.RowKit

theorem heads_drop : ∀ (f : Fo) (k : Nat), headsErr f = 0 → headsErr (f.drop k) = 0
  | .nil, k, _ => by cases k <;> rfl
  | .cons h ks r, 0, e => e
  | .cons h ks r, k + 1, e => heads_drop r k (heads_parts e).2.2.2
theorem heads_at {f : Fo} {k : Nat} {h : Hd} {ks : Fo} (e : headsErr f = 0) (hd : f.drop k = .cons h ks (f.drop (k + 1))) : headErr h = 0 ∧ headsErr ks = 0 := by
  have := heads_drop f k e
  rw [hd] at this
  exact ⟨(heads_parts this).1, (heads_parts this).2.2.1⟩

set_option maxRecDepth 100000 in
set_option maxHeartbeats 8000000 in
theorem qorder_step (f g : Fo) (v u : Value) (w : World) (hl : Lies w v f) (hg : Lies w u g) (ef : headsErr f = 0) (eg : headsErr g = 0)
    (HT : ∀ k h ks js v u w1, k < f.len → f.drop k = .cons h ks (f.drop (k + 1)) → headsErr ks = 0 → headsErr js = 0 → Lies w1 v ks → Lies w1 u js → Calls Tryz.prog 90 #[v, u] w1 fun e w' => e = .returned (.int .i64 (foL ks js)) ∧ Below w1.heap.size w1 w') :
    Calls Tryz.prog 90 #[v, u] w fun e w' => e = .returned (.int .i64 (foL f g)) ∧ Below w.heap.size w w' := by
  have HL := Lib.hid hl
  have HG := Lib.hid hg
  have HTT := Lib.hid HT
  have EF := Lib.hid ef
  have EG := Lib.hid eg
  have hfl := lies_len hl
  have hgl := lies_len hg
  obtain ⟨a, cap, rfl⟩ := lies_form hl
  obtain ⟨a', cap', rfl⟩ := lies_form hg
  clear hl hg HT ef eg
  go_enter Tryz.func90, Tryz.ntmps90
  go_wp2_with fail
  go_loopw [5] (fun i wr => ∃ k : Nat, i = .int .i64 k ∧ k ≤ min f.len g.len ∧ foL f g = foL (f.drop k) (g.drop k) ∧ Below w.heap.size w wr) (fun i _ => min f.len g.len - (intOf i).toNat)
  case atStart => exact ⟨0, rfl, Nat.zero_le _, by cases f <;> cases g <;> rfl, Below.refl _ _⟩
  case round =>
    obtain ⟨k, rfl, hk, he, hbw⟩ := hrel
    have HE := Lib.hid he
    have BW := Lib.hid hbw
    have hsr := hbw.size
    clear he
    by_cases hlt : k < min f.len g.len
    · have hka : k < f.len := by omega
      have hkb : k < g.len := by omega
      obtain ⟨bf, of, cp, hs, -, -, hbf, hrow⟩ := lies_row HL.out (by omega)
      simp only [Value.slice.injEq] at hs
      obtain ⟨rfl, -, rfl⟩ := hs
      obtain ⟨bg, og, cp', hs, -, -, hbg, hrow'⟩ := lies_row HG.out (by omega)
      simp only [Value.slice.injEq] at hs
      obtain ⟨rfl, -, rfl⟩ := hs
      obtain ⟨h, ks, e, ⟨qa0, qa1, ⟨va, qa2, ha⟩, qa3, qa4, qa5⟩, vk, qa6, hlk⟩ := row_get hrow hka
      obtain ⟨i, js, e', ⟨qb0, qb1, ⟨vb, qb2, hb⟩, qb3, qb4, qb5⟩, vl, qb6, hlk'⟩ := row_get hrow' hkb
      obtain ⟨aa, ca, rfl⟩ := attrs_form ha
      obtain ⟨ab, cb, rfl⟩ := attrs_form hb
      obtain ⟨ak, ck, rfl⟩ := lies_form hlk
      obtain ⟨al, cl, rfl⟩ := lies_form hlk'
      have ra0 := (hbw.cell (p := ⟨bf, of + k * 7, none⟩) hbf).trans qa0
      have ra1 := (hbw.cell (p := ⟨bf, of + k * 7 + 1, none⟩) hbf).trans qa1
      have ra2 := (hbw.cell (p := ⟨bf, of + k * 7 + 2, none⟩) hbf).trans qa2
      have ra3 := (hbw.cell (p := ⟨bf, of + k * 7 + 3, none⟩) hbf).trans qa3
      have ra4 := (hbw.cell (p := ⟨bf, of + k * 7 + 4, none⟩) hbf).trans qa4
      have ra5 := (hbw.cell (p := ⟨bf, of + k * 7 + 5, none⟩) hbf).trans qa5
      have ra6 := (hbw.cell (p := ⟨bf, of + k * 7 + 6, none⟩) hbf).trans qa6
      have rb0 := (hbw.cell (p := ⟨bg, og + k * 7, none⟩) hbg).trans qb0
      have rb1 := (hbw.cell (p := ⟨bg, og + k * 7 + 1, none⟩) hbg).trans qb1
      have rb2 := (hbw.cell (p := ⟨bg, og + k * 7 + 2, none⟩) hbg).trans qb2
      have rb3 := (hbw.cell (p := ⟨bg, og + k * 7 + 3, none⟩) hbg).trans qb3
      have rb4 := (hbw.cell (p := ⟨bg, og + k * 7 + 4, none⟩) hbg).trans qb4
      have rb5 := (hbw.cell (p := ⟨bg, og + k * 7 + 5, none⟩) hbg).trans qb5
      have rb6 := (hbw.cell (p := ⟨bg, og + k * 7 + 6, none⟩) hbg).trans qb6
      have k1 : bf < wr.heap.size := by omega
      have k2 : bg < wr.heap.size := by omega
      have HS := Lib.hid (HE.out.trans (foL_drop e e'))
      obtain ⟨eh, ek⟩ := heads_at EF.out e
      obtain ⟨ei, ej⟩ := heads_at EG.out e'
      have HH := Lib.hid (fun w1 (hw : Below w.heap.size w w1) => horder_any h i aa ab ca cb w1 (attrs_below ha hw) (attrs_below hb hw) eh ei)
      have HC := Lib.hid (fun w1 (hw : Below w.heap.size w w1) => HTT.out k h ks js _ _ w1 hka e ek ej (lies_below hlk hw) (lies_below hlk' hw))
      unfold treeL at HS
      clear e e' ha hb hlk hlk' hrow hrow' qa0 qa1 qa2 qa3 qa4 qa5 qa6 qb0 qb1 qb2 qb3 qb4 qb5 qb6 hbw eh ek ei ej
      go_wp2_with fail
      refine wp_region_quiet_tail (fun w' => ∃ x : Lower _, w' = x.val) 10 (by kernel_rfl) (by kernel_rfl) ⟨⟨_, (Below.refl _ _).drew⟩, rfl⟩ ?_
      simp only [List.take_succ_cons, List.take_zero, List.drop_succ_cons, List.drop_zero]
      repeat (go_big_quiet_step (fail))
      refine wpQuiet_nil ?_
      intro w1 hx1
      obtain ⟨x1, hx1⟩ := hx1
      have hb1 := x1.prop
      rw [← hx1] at hb1
      clear hx1 x1
      obtain ⟨hc1, hf1⟩ := bcell hb1
      have hs1 := hb1.size
      try simp at hs1
      try have hz10 : w.heap.size < w1.heap.size := by omega
      try have hz11 : w.heap.size + 1 < w1.heap.size := by omega
      try have hz12 : w.heap.size + 1 + 1 < w1.heap.size := by omega
      try have hz13 : w.heap.size + 1 + 1 + 1 < w1.heap.size := by omega
      try have hz14 : w.heap.size + 1 + 1 + 1 + 1 < w1.heap.size := by omega
      try have hz15 : w.heap.size + 1 + 1 + 1 + 1 + 1 < w1.heap.size := by omega
      have s6 := (hc1 _ _ k1).trans ra6
      have t6 := (hc1 _ _ k2).trans rb6
      clear hc1 hf1 ra0 ra1 ra2 ra3 ra4 ra5 ra6 rb0 rb1 rb2 rb3 rb4 rb5 rb6
      have B1 := Lib.hid (BW.out.trans (hb1.mono hsr))
      have n1 : bf < w1.heap.size := by omega
      have n2 : bg < w1.heap.size := by omega
      clear hb1
      go_wp2_with fail
      refine (HH.out _ B1.out).mono ?_
      rintro e w2 ⟨rfl, hb2⟩
      have B2 := Lib.hid (B1.out.trans (hb2.mono B1.out.size))
      have hs2 := hb2.size
      have s6' := ((bcell hb2).1 _ _ n1).trans s6
      have t6' := ((bcell hb2).1 _ _ n2).trans t6
      have n3 : bf < w2.heap.size := by omega
      have n4 : bg < w2.heap.size := by omega
      clear hb2 s6 t6
      generalize headL h i = c at *
      by_cases hx : c = 0
      rotate_left
      · have HX := Lib.hid (HS.out.trans (show _ = c by simp [hx]))
        have b0 : (c != 0) = true := by simpa using hx
        clear hx
        go_wp2_with fail
        go_ret
        exact ⟨ret_int' HX.out.symm, B2.out⟩
      have HS2 := Lib.hid (HS.out.trans (show _ = if foL ks js ≠ 0 then foL ks js else foL (f.drop (k + 1)) (g.drop (k + 1)) by simp [hx]))
      have b0 : (c != 0) = false := by simpa using hx
      clear hx HS
      go_wp2_with fail
      refine wp_region_quiet_tail (fun w' => ∃ x : Lower _, w' = x.val) 10 (by kernel_rfl) (by kernel_rfl) ⟨⟨_, (Below.refl _ _).drew⟩, rfl⟩ ?_
      simp only [List.take_succ_cons, List.take_zero, List.drop_succ_cons, List.drop_zero]
      repeat (go_big_quiet_step (fail))
      refine wpQuiet_nil ?_
      intro w3 hx3
      obtain ⟨x3, hx3⟩ := hx3
      have hb3 := x3.prop
      rw [← hx3] at hb3
      clear hx3 x3
      obtain ⟨hc3, hf3⟩ := bcell hb3
      have hs3 := hb3.size
      try simp at hs3
      try have hz30 : w.heap.size < w3.heap.size := by omega
      try have hz31 : w.heap.size + 1 < w3.heap.size := by omega
      try have hz32 : w.heap.size + 1 + 1 < w3.heap.size := by omega
      try have hz33 : w.heap.size + 1 + 1 + 1 < w3.heap.size := by omega
      try have hz34 : w.heap.size + 1 + 1 + 1 + 1 < w3.heap.size := by omega
      try have hz35 : w.heap.size + 1 + 1 + 1 + 1 + 1 < w3.heap.size := by omega
      try have hy1_3 : w1.heap.size < w3.heap.size := by omega
      try have hy2_3 : w2.heap.size < w3.heap.size := by omega
      have B3 := Lib.hid (B2.out.trans (hb3.mono B2.out.size))
      clear hc3 hf3 hb3 s6' t6'
      go_wp2_with fail
      refine (HC.out _ B3.out).mono ?_
      rintro e w4 ⟨rfl, hb4⟩
      have B4 := Lib.hid (B3.out.trans (hb4.mono B3.out.size))
      clear hb4
      generalize foL ks js = c2 at *
      by_cases hx : c2 = 0
      · have HX := Lib.hid (HS2.out.trans (if_neg (by simpa using hx)))
        have b1 : (c2 != 0) = false := by simpa using hx
        clear hx
        go_wp2_with fail
        go_roundw
        case rel => exact ⟨k + 1, by go_num, by omega, HX.out, B4.out⟩
        case measure => simp [intOf]; omega
      · have HX := Lib.hid (HS2.out.trans (if_pos hx))
        have b1 : (c2 != 0) = true := by simpa using hx
        clear hx
        go_wp2_with fail
        go_ret
        exact ⟨ret_int' HX.out.symm, B4.out⟩
    · have HX := Lib.hid (HE.out.trans (foL_end (show k = min f.len g.len by omega)))
      clear hbw
      by_cases hja : k < f.len
      · have d1 : decide (k < f.len) = true := by simpa using hja
        have hjb : ¬ k < g.len := by omega
        have d2 : decide (k < g.len) = false := by simpa using hjb
        go_wp2_with fail
        refine (qsign_any _ _).mono ?_
        rintro e w2 ⟨rfl, hw⟩
        obtain rfl := hw
        go_wp2_with fail
        go_ret
        exact ⟨ret_int' (by rw [HX.out, sign_cmp]), BW.out⟩
      · have d1 : decide (k < f.len) = false := by simpa using hja
        go_wp2_with fail
        refine (qsign_any _ _).mono ?_
        rintro e w2 ⟨rfl, hw⟩
        obtain rfl := hw
        go_wp2_with fail
        go_ret
        exact ⟨ret_int' (by rw [HX.out, sign_cmp]), BW.out⟩
theorem qOrder_any : ∀ (N : Nat) (f g : Fo) (v u : Value) (w : World), f.size ≤ N → Lies w v f → Lies w u g → headsErr f = 0 → headsErr g = 0 →
    Calls Tryz.prog 90 #[v, u] w fun e w' => e = .returned (.int .i64 (foL f g)) ∧ Below w.heap.size w w' := by
  intro N
  induction N with
  | zero =>
    intro f g v u w hN hl hg ef eg
    refine qorder_step f g v u w hl hg ef eg fun k h ks js v u w1 hk e => ?_
    have := kid_size e
    omega
  | succ N ih =>
    intro f g v u w hN hl hg ef eg
    refine qorder_step f g v u w hl hg ef eg fun k h ks js v u w1 hk e ek ej h1 h2 => ?_
    have := kid_size e
    exact ih ks js v u w1 (by omega) h1 h2 ek ej

theorem cmpF_parts (f g : Fo) : (foErr f ≠ 0 ∧ cmpF f g = (0, foErr f)) ∨ (foErr f = 0 ∧ foErr g ≠ 0 ∧ cmpF f g = (0, foErr g)) ∨ (foErr f = 0 ∧ foErr g = 0 ∧ cmpF f g = (foL f g, 0)) := by
  unfold cmpF
  rw [firstNZ_two]
  by_cases h1 : foErr f = 0
  · by_cases h2 : foErr g = 0
    · exact .inr (.inr ⟨h1, h2, by simp [h1, h2]⟩)
    · exact .inr (.inl ⟨h1, h2, by simp [h1, h2]⟩)
  · exact .inl ⟨h1, by simp [h1]⟩
theorem cmpH_parts (h i : Hd) : (headErr h ≠ 0 ∧ cmpH h i = (0, headErr h)) ∨ (headErr h = 0 ∧ headErr i ≠ 0 ∧ cmpH h i = (0, headErr i)) ∨ (headErr h = 0 ∧ headErr i = 0 ∧ cmpH h i = (headL h i, 0)) := by
  unfold cmpH
  rw [firstNZ_two]
  by_cases h1 : headErr h = 0
  · by_cases h2 : headErr i = 0
    · exact .inr (.inr ⟨h1, h2, by simp [h1, h2]⟩)
    · exact .inr (.inl ⟨h1, h2, by simp [h1, h2]⟩)
  · exact .inl ⟨h1, by simp [h1]⟩
set_option maxRecDepth 100000 in
set_option maxHeartbeats 4000000 in
theorem qcompare_any (f g : Fo) (v u : Value) (w : World) (hl : Lies w v f) (hg : Lies w u g) (hs : Small f) (hs' : Small g) :
    Calls Tryz.prog 30 #[v, u] w fun e w' => e = .returned (.tuple #[.int .i64 (cmpF f g).1, .int .i64 (cmpF f g).2]) ∧ Below w.heap.size w w' := by
  have CF := Lib.hid (fun w1 (hw : Below w.heap.size w w1) => qcheck_any f v w1 (lies_below hl hw) hs)
  have CG := Lib.hid (fun w1 (hw : Below w.heap.size w w1) => qcheck_any g u w1 (lies_below hg hw) hs')
  have OF := Lib.hid (fun w1 (hw : Below w.heap.size w w1) e1 e2 => qOrder_any f.size f g v u w1 (Nat.le_refl _) (lies_below hl hw) (lies_below hg hw) e1 e2)
  have HP := cmpF_parts f g
  have EF := Lib.hid (fun h => heads_of (f := f) h)
  have EG := Lib.hid (fun h => heads_of (f := g) h)
  generalize cmpF f g = R at *
  obtain ⟨a, cap, rfl⟩ := lies_form hl
  obtain ⟨a', cap', rfl⟩ := lies_form hg
  clear hl hg hs hs'
  rcases HP with ⟨h1, rfl⟩ | ⟨h1, h2, rfl⟩ | ⟨h1, h2, rfl⟩
  · have b1 : (foErr f != 0) = true := by simpa using h1
    clear h1
    go_enter Tryz.func30, Tryz.ntmps30
    go_wp2_with fail
    refine (CF.out w (Below.refl _ _)).mono ?_
    rintro e w1 ⟨rfl, hb1⟩
    go_wp2_with fail
    go_ret2
    exact ⟨rfl, hb1⟩
  · have b2 : (foErr g != 0) = true := by simpa using h2
    rw [h1] at CF
    clear h1 h2
    go_enter Tryz.func30, Tryz.ntmps30
    go_wp2_with fail
    refine (CF.out w (Below.refl _ _)).mono ?_
    rintro e w1 ⟨rfl, hb1⟩
    go_wp2_with fail
    refine (CG.out w1 hb1).mono ?_
    rintro e w2 ⟨rfl, hb2⟩
    go_wp2_with fail
    go_ret2
    exact ⟨rfl, hb1.trans (hb2.mono hb1.size)⟩
  · rw [h1] at CF
    rw [h2] at CG
    have e1 := EF.out h1
    have e2 := EG.out h2
    have OO := Lib.hid (fun w1 hw => OF.out w1 hw e1 e2)
    clear h1 h2 e1 e2
    go_enter Tryz.func30, Tryz.ntmps30
    go_wp2_with fail
    refine (CF.out w (Below.refl _ _)).mono ?_
    rintro e w1 ⟨rfl, hb1⟩
    go_wp2_with fail
    refine (CG.out w1 hb1).mono ?_
    rintro e w2 ⟨rfl, hb2⟩
    have B2 := hb1.trans (hb2.mono hb1.size)
    go_wp2_with fail
    refine (OO.out w2 B2).mono ?_
    rintro e w3 ⟨rfl, hb3⟩
    go_wp2_with fail
    go_ret2
    exact ⟨rfl, B2.trans (hb3.mono B2.size)⟩

set_option maxRecDepth 100000 in
set_option maxHeartbeats 8000000 in
theorem qcmpHeads_any (h i : Hd) (aa ab : Option Addr) (ca cb : Nat) (w : World) (ha : AttrsLie w (.slice aa h.ats.length ca) h.ats) (hb : AttrsLie w (.slice ab i.ats.length cb) i.ats) (hf : HdFit h) (hf' : HdFit i) :
    Calls Tryz.prog 28 #[.agg #[.int .i64 h.k, .string ⟨h.l.toArray⟩, .slice aa h.ats.length ca, .int .i64 h.n, .int .i64 h.d, .string ⟨h.x.toArray⟩], .agg #[.int .i64 i.k, .string ⟨i.l.toArray⟩, .slice ab i.ats.length cb, .int .i64 i.n, .int .i64 i.d, .string ⟨i.x.toArray⟩]] w fun e w' => e = .returned (.tuple #[.int .i64 (cmpH h i).1, .int .i64 (cmpH h i).2]) ∧ Below w.heap.size w w' := by
  have CF := Lib.hid (fun w1 (hw : Below w.heap.size w w1) => qhead_any h _ w1 (attrs_below ha hw) hf)
  have CG := Lib.hid (fun w1 (hw : Below w.heap.size w w1) => qhead_any i _ w1 (attrs_below hb hw) hf')
  have OF := Lib.hid (fun w1 (hw : Below w.heap.size w w1) e1 e2 => horder_any h i aa ab ca cb w1 (attrs_below ha hw) (attrs_below hb hw) e1 e2)
  have HP := cmpH_parts h i
  generalize cmpH h i = R at *
  clear ha hb hf hf'
  rcases HP with ⟨h1, rfl⟩ | ⟨h1, h2, rfl⟩ | ⟨h1, h2, rfl⟩
  · have b1 : (headErr h != 0) = true := by simpa using h1
    clear h1
    go_enter Tryz.func28, Tryz.ntmps28
    go_upto_region 1 with fail
    have k0 : ((w.alloc (.cells #[.int .i64 h.k, .string ⟨h.l.toArray⟩, .slice aa h.ats.length ca, .int .i64 h.n, .int .i64 h.d, .string ⟨h.x.toArray⟩] 27)).alloc (.cells #[.int .i64 i.k, .string ⟨i.l.toArray⟩, .slice ab i.ats.length cb, .int .i64 i.n, .int .i64 i.d, .string ⟨i.x.toArray⟩] 27)).heap[w.heap.size]? = some (.cells #[.int .i64 h.k, .string ⟨h.l.toArray⟩, .slice aa h.ats.length ca, .int .i64 h.n, .int .i64 h.d, .string ⟨h.x.toArray⟩] 27) := (Below.heap_alloc _ _ _ (by simp)).trans (World.alloc_heap_new w (.cells #[.int .i64 h.k, .string ⟨h.l.toArray⟩, .slice aa h.ats.length ca, .int .i64 h.n, .int .i64 h.d, .string ⟨h.x.toArray⟩] 27))
    have k1 : ((w.alloc (.cells #[.int .i64 h.k, .string ⟨h.l.toArray⟩, .slice aa h.ats.length ca, .int .i64 h.n, .int .i64 h.d, .string ⟨h.x.toArray⟩] 27)).alloc (.cells #[.int .i64 i.k, .string ⟨i.l.toArray⟩, .slice ab i.ats.length cb, .int .i64 i.n, .int .i64 i.d, .string ⟨i.x.toArray⟩] 27)).heap[w.heap.size + 1]? = some (.cells #[.int .i64 i.k, .string ⟨i.l.toArray⟩, .slice ab i.ats.length cb, .int .i64 i.n, .int .i64 i.d, .string ⟨i.x.toArray⟩] 27) := by
      have := World.alloc_heap_new (w.alloc (.cells #[.int .i64 h.k, .string ⟨h.l.toArray⟩, .slice aa h.ats.length ca, .int .i64 h.n, .int .i64 h.d, .string ⟨h.x.toArray⟩] 27)) (.cells #[.int .i64 i.k, .string ⟨i.l.toArray⟩, .slice ab i.ats.length cb, .int .i64 i.n, .int .i64 i.d, .string ⟨i.x.toArray⟩] 27)
      rw [show (w.alloc (.cells #[.int .i64 h.k, .string ⟨h.l.toArray⟩, .slice aa h.ats.length ca, .int .i64 h.n, .int .i64 h.d, .string ⟨h.x.toArray⟩] 27)).heap.size = w.heap.size + 1 by simp] at this
      exact this
    have BW : Below w.heap.size w ((w.alloc (.cells #[.int .i64 h.k, .string ⟨h.l.toArray⟩, .slice aa h.ats.length ca, .int .i64 h.n, .int .i64 h.d, .string ⟨h.x.toArray⟩] 27)).alloc (.cells #[.int .i64 i.k, .string ⟨i.l.toArray⟩, .slice ab i.ats.length cb, .int .i64 i.n, .int .i64 i.d, .string ⟨i.x.toArray⟩] 27)) := by ((repeat' (first | exact Below.refl _ _ | assumption | refine Below.setCell ?_ ?_ _ | refine bdrewN ?_ _ | refine Below.drew ?_ | refine Below.alloc ?_ ?_ _ | refine bbehind ?_ (by assumption) ?_)); all_goals first | (simp; done) | (simp; omega) | omega)
    have hs0 : w.heap.size + 2 ≤ ((w.alloc (.cells #[.int .i64 h.k, .string ⟨h.l.toArray⟩, .slice aa h.ats.length ca, .int .i64 h.n, .int .i64 h.d, .string ⟨h.x.toArray⟩] 27)).alloc (.cells #[.int .i64 i.k, .string ⟨i.l.toArray⟩, .slice ab i.ats.length cb, .int .i64 i.n, .int .i64 i.d, .string ⟨i.x.toArray⟩] 27)).heap.size := by simp
    generalize (w.alloc (.cells #[.int .i64 h.k, .string ⟨h.l.toArray⟩, .slice aa h.ats.length ca, .int .i64 h.n, .int .i64 h.d, .string ⟨h.x.toArray⟩] 27)).alloc (.cells #[.int .i64 i.k, .string ⟨i.l.toArray⟩, .slice ab i.ats.length cb, .int .i64 i.n, .int .i64 i.d, .string ⟨i.x.toArray⟩] 27) = W at *
    have d0 : W.cell? ⟨w.heap.size, 0, none⟩ = some (.int .i64 h.k) := cell_of_block k0 rfl
    have d1 : W.cell? ⟨w.heap.size, 1, none⟩ = some (.string ⟨h.l.toArray⟩) := cell_of_block k0 rfl
    have d2 : W.cell? ⟨w.heap.size, 2, none⟩ = some (.slice aa h.ats.length ca) := cell_of_block k0 rfl
    have d3 : W.cell? ⟨w.heap.size, 3, none⟩ = some (.int .i64 h.n) := cell_of_block k0 rfl
    have d4 : W.cell? ⟨w.heap.size, 4, none⟩ = some (.int .i64 h.d) := cell_of_block k0 rfl
    have d5 : W.cell? ⟨w.heap.size, 5, none⟩ = some (.string ⟨h.x.toArray⟩) := cell_of_block k0 rfl
    have f0 : W.cell? ⟨w.heap.size + 1, 0, none⟩ = some (.int .i64 i.k) := cell_of_block k1 rfl
    have f1 : W.cell? ⟨w.heap.size + 1, 1, none⟩ = some (.string ⟨i.l.toArray⟩) := cell_of_block k1 rfl
    have f2 : W.cell? ⟨w.heap.size + 1, 2, none⟩ = some (.slice ab i.ats.length cb) := cell_of_block k1 rfl
    have f3 : W.cell? ⟨w.heap.size + 1, 3, none⟩ = some (.int .i64 i.n) := cell_of_block k1 rfl
    have f4 : W.cell? ⟨w.heap.size + 1, 4, none⟩ = some (.int .i64 i.d) := cell_of_block k1 rfl
    have f5 : W.cell? ⟨w.heap.size + 1, 5, none⟩ = some (.string ⟨i.x.toArray⟩) := cell_of_block k1 rfl

    have K0 := Lib.hid k0
    have K1 := Lib.hid k1
    clear k0 k1
    go_wp2_with fail
    refine (CF.out W BW).mono ?_
    rintro e w1 ⟨rfl, hb1⟩
    go_wp2_with fail
    go_ret2
    exact ⟨rfl, BW.trans (hb1.mono BW.size)⟩
  · have b2 : (headErr i != 0) = true := by simpa using h2
    rw [h1] at CF
    clear h1 h2
    go_enter Tryz.func28, Tryz.ntmps28
    go_upto_region 1 with fail
    have k0 : ((w.alloc (.cells #[.int .i64 h.k, .string ⟨h.l.toArray⟩, .slice aa h.ats.length ca, .int .i64 h.n, .int .i64 h.d, .string ⟨h.x.toArray⟩] 27)).alloc (.cells #[.int .i64 i.k, .string ⟨i.l.toArray⟩, .slice ab i.ats.length cb, .int .i64 i.n, .int .i64 i.d, .string ⟨i.x.toArray⟩] 27)).heap[w.heap.size]? = some (.cells #[.int .i64 h.k, .string ⟨h.l.toArray⟩, .slice aa h.ats.length ca, .int .i64 h.n, .int .i64 h.d, .string ⟨h.x.toArray⟩] 27) := (Below.heap_alloc _ _ _ (by simp)).trans (World.alloc_heap_new w (.cells #[.int .i64 h.k, .string ⟨h.l.toArray⟩, .slice aa h.ats.length ca, .int .i64 h.n, .int .i64 h.d, .string ⟨h.x.toArray⟩] 27))
    have k1 : ((w.alloc (.cells #[.int .i64 h.k, .string ⟨h.l.toArray⟩, .slice aa h.ats.length ca, .int .i64 h.n, .int .i64 h.d, .string ⟨h.x.toArray⟩] 27)).alloc (.cells #[.int .i64 i.k, .string ⟨i.l.toArray⟩, .slice ab i.ats.length cb, .int .i64 i.n, .int .i64 i.d, .string ⟨i.x.toArray⟩] 27)).heap[w.heap.size + 1]? = some (.cells #[.int .i64 i.k, .string ⟨i.l.toArray⟩, .slice ab i.ats.length cb, .int .i64 i.n, .int .i64 i.d, .string ⟨i.x.toArray⟩] 27) := by
      have := World.alloc_heap_new (w.alloc (.cells #[.int .i64 h.k, .string ⟨h.l.toArray⟩, .slice aa h.ats.length ca, .int .i64 h.n, .int .i64 h.d, .string ⟨h.x.toArray⟩] 27)) (.cells #[.int .i64 i.k, .string ⟨i.l.toArray⟩, .slice ab i.ats.length cb, .int .i64 i.n, .int .i64 i.d, .string ⟨i.x.toArray⟩] 27)
      rw [show (w.alloc (.cells #[.int .i64 h.k, .string ⟨h.l.toArray⟩, .slice aa h.ats.length ca, .int .i64 h.n, .int .i64 h.d, .string ⟨h.x.toArray⟩] 27)).heap.size = w.heap.size + 1 by simp] at this
      exact this
    have BW : Below w.heap.size w ((w.alloc (.cells #[.int .i64 h.k, .string ⟨h.l.toArray⟩, .slice aa h.ats.length ca, .int .i64 h.n, .int .i64 h.d, .string ⟨h.x.toArray⟩] 27)).alloc (.cells #[.int .i64 i.k, .string ⟨i.l.toArray⟩, .slice ab i.ats.length cb, .int .i64 i.n, .int .i64 i.d, .string ⟨i.x.toArray⟩] 27)) := by ((repeat' (first | exact Below.refl _ _ | assumption | refine Below.setCell ?_ ?_ _ | refine bdrewN ?_ _ | refine Below.drew ?_ | refine Below.alloc ?_ ?_ _ | refine bbehind ?_ (by assumption) ?_)); all_goals first | (simp; done) | (simp; omega) | omega)
    have hs0 : w.heap.size + 2 ≤ ((w.alloc (.cells #[.int .i64 h.k, .string ⟨h.l.toArray⟩, .slice aa h.ats.length ca, .int .i64 h.n, .int .i64 h.d, .string ⟨h.x.toArray⟩] 27)).alloc (.cells #[.int .i64 i.k, .string ⟨i.l.toArray⟩, .slice ab i.ats.length cb, .int .i64 i.n, .int .i64 i.d, .string ⟨i.x.toArray⟩] 27)).heap.size := by simp
    generalize (w.alloc (.cells #[.int .i64 h.k, .string ⟨h.l.toArray⟩, .slice aa h.ats.length ca, .int .i64 h.n, .int .i64 h.d, .string ⟨h.x.toArray⟩] 27)).alloc (.cells #[.int .i64 i.k, .string ⟨i.l.toArray⟩, .slice ab i.ats.length cb, .int .i64 i.n, .int .i64 i.d, .string ⟨i.x.toArray⟩] 27) = W at *
    have d0 : W.cell? ⟨w.heap.size, 0, none⟩ = some (.int .i64 h.k) := cell_of_block k0 rfl
    have d1 : W.cell? ⟨w.heap.size, 1, none⟩ = some (.string ⟨h.l.toArray⟩) := cell_of_block k0 rfl
    have d2 : W.cell? ⟨w.heap.size, 2, none⟩ = some (.slice aa h.ats.length ca) := cell_of_block k0 rfl
    have d3 : W.cell? ⟨w.heap.size, 3, none⟩ = some (.int .i64 h.n) := cell_of_block k0 rfl
    have d4 : W.cell? ⟨w.heap.size, 4, none⟩ = some (.int .i64 h.d) := cell_of_block k0 rfl
    have d5 : W.cell? ⟨w.heap.size, 5, none⟩ = some (.string ⟨h.x.toArray⟩) := cell_of_block k0 rfl
    have f0 : W.cell? ⟨w.heap.size + 1, 0, none⟩ = some (.int .i64 i.k) := cell_of_block k1 rfl
    have f1 : W.cell? ⟨w.heap.size + 1, 1, none⟩ = some (.string ⟨i.l.toArray⟩) := cell_of_block k1 rfl
    have f2 : W.cell? ⟨w.heap.size + 1, 2, none⟩ = some (.slice ab i.ats.length cb) := cell_of_block k1 rfl
    have f3 : W.cell? ⟨w.heap.size + 1, 3, none⟩ = some (.int .i64 i.n) := cell_of_block k1 rfl
    have f4 : W.cell? ⟨w.heap.size + 1, 4, none⟩ = some (.int .i64 i.d) := cell_of_block k1 rfl
    have f5 : W.cell? ⟨w.heap.size + 1, 5, none⟩ = some (.string ⟨i.x.toArray⟩) := cell_of_block k1 rfl

    have K0 := Lib.hid k0
    have K1 := Lib.hid k1
    clear k0 k1
    go_wp2_with fail
    refine (CF.out W BW).mono ?_
    rintro e w1 ⟨rfl, hb1⟩
    have B1 := BW.trans (hb1.mono BW.size)
    have K2 := Lib.hid ((hb1.block _ (by have := hs0; omega)).trans K0.out)
    have K3 := Lib.hid ((hb1.block _ (by have := hs0; omega)).trans K1.out)
    have g0 : w1.cell? ⟨w.heap.size, 0, none⟩ = some (.int .i64 h.k) := cell_of_block K2.out rfl
    have g1 : w1.cell? ⟨w.heap.size, 1, none⟩ = some (.string ⟨h.l.toArray⟩) := cell_of_block K2.out rfl
    have g2 : w1.cell? ⟨w.heap.size, 2, none⟩ = some (.slice aa h.ats.length ca) := cell_of_block K2.out rfl
    have g3 : w1.cell? ⟨w.heap.size, 3, none⟩ = some (.int .i64 h.n) := cell_of_block K2.out rfl
    have g4 : w1.cell? ⟨w.heap.size, 4, none⟩ = some (.int .i64 h.d) := cell_of_block K2.out rfl
    have g5 : w1.cell? ⟨w.heap.size, 5, none⟩ = some (.string ⟨h.x.toArray⟩) := cell_of_block K2.out rfl
    have m0 : w1.cell? ⟨w.heap.size + 1, 0, none⟩ = some (.int .i64 i.k) := cell_of_block K3.out rfl
    have m1 : w1.cell? ⟨w.heap.size + 1, 1, none⟩ = some (.string ⟨i.l.toArray⟩) := cell_of_block K3.out rfl
    have m2 : w1.cell? ⟨w.heap.size + 1, 2, none⟩ = some (.slice ab i.ats.length cb) := cell_of_block K3.out rfl
    have m3 : w1.cell? ⟨w.heap.size + 1, 3, none⟩ = some (.int .i64 i.n) := cell_of_block K3.out rfl
    have m4 : w1.cell? ⟨w.heap.size + 1, 4, none⟩ = some (.int .i64 i.d) := cell_of_block K3.out rfl
    have m5 : w1.cell? ⟨w.heap.size + 1, 5, none⟩ = some (.string ⟨i.x.toArray⟩) := cell_of_block K3.out rfl
    go_wp2_with fail
    refine (CG.out w1 B1).mono ?_
    rintro e w2 ⟨rfl, hb2⟩
    go_wp2_with fail
    go_ret2
    exact ⟨rfl, B1.trans (hb2.mono B1.size)⟩
  · rw [h1] at CF
    rw [h2] at CG
    have OO := Lib.hid (fun w1 hw => OF.out w1 hw h1 h2)
    clear h1 h2
    go_enter Tryz.func28, Tryz.ntmps28
    go_upto_region 1 with fail
    have k0 : ((w.alloc (.cells #[.int .i64 h.k, .string ⟨h.l.toArray⟩, .slice aa h.ats.length ca, .int .i64 h.n, .int .i64 h.d, .string ⟨h.x.toArray⟩] 27)).alloc (.cells #[.int .i64 i.k, .string ⟨i.l.toArray⟩, .slice ab i.ats.length cb, .int .i64 i.n, .int .i64 i.d, .string ⟨i.x.toArray⟩] 27)).heap[w.heap.size]? = some (.cells #[.int .i64 h.k, .string ⟨h.l.toArray⟩, .slice aa h.ats.length ca, .int .i64 h.n, .int .i64 h.d, .string ⟨h.x.toArray⟩] 27) := (Below.heap_alloc _ _ _ (by simp)).trans (World.alloc_heap_new w (.cells #[.int .i64 h.k, .string ⟨h.l.toArray⟩, .slice aa h.ats.length ca, .int .i64 h.n, .int .i64 h.d, .string ⟨h.x.toArray⟩] 27))
    have k1 : ((w.alloc (.cells #[.int .i64 h.k, .string ⟨h.l.toArray⟩, .slice aa h.ats.length ca, .int .i64 h.n, .int .i64 h.d, .string ⟨h.x.toArray⟩] 27)).alloc (.cells #[.int .i64 i.k, .string ⟨i.l.toArray⟩, .slice ab i.ats.length cb, .int .i64 i.n, .int .i64 i.d, .string ⟨i.x.toArray⟩] 27)).heap[w.heap.size + 1]? = some (.cells #[.int .i64 i.k, .string ⟨i.l.toArray⟩, .slice ab i.ats.length cb, .int .i64 i.n, .int .i64 i.d, .string ⟨i.x.toArray⟩] 27) := by
      have := World.alloc_heap_new (w.alloc (.cells #[.int .i64 h.k, .string ⟨h.l.toArray⟩, .slice aa h.ats.length ca, .int .i64 h.n, .int .i64 h.d, .string ⟨h.x.toArray⟩] 27)) (.cells #[.int .i64 i.k, .string ⟨i.l.toArray⟩, .slice ab i.ats.length cb, .int .i64 i.n, .int .i64 i.d, .string ⟨i.x.toArray⟩] 27)
      rw [show (w.alloc (.cells #[.int .i64 h.k, .string ⟨h.l.toArray⟩, .slice aa h.ats.length ca, .int .i64 h.n, .int .i64 h.d, .string ⟨h.x.toArray⟩] 27)).heap.size = w.heap.size + 1 by simp] at this
      exact this
    have BW : Below w.heap.size w ((w.alloc (.cells #[.int .i64 h.k, .string ⟨h.l.toArray⟩, .slice aa h.ats.length ca, .int .i64 h.n, .int .i64 h.d, .string ⟨h.x.toArray⟩] 27)).alloc (.cells #[.int .i64 i.k, .string ⟨i.l.toArray⟩, .slice ab i.ats.length cb, .int .i64 i.n, .int .i64 i.d, .string ⟨i.x.toArray⟩] 27)) := by ((repeat' (first | exact Below.refl _ _ | assumption | refine Below.setCell ?_ ?_ _ | refine bdrewN ?_ _ | refine Below.drew ?_ | refine Below.alloc ?_ ?_ _ | refine bbehind ?_ (by assumption) ?_)); all_goals first | (simp; done) | (simp; omega) | omega)
    have hs0 : w.heap.size + 2 ≤ ((w.alloc (.cells #[.int .i64 h.k, .string ⟨h.l.toArray⟩, .slice aa h.ats.length ca, .int .i64 h.n, .int .i64 h.d, .string ⟨h.x.toArray⟩] 27)).alloc (.cells #[.int .i64 i.k, .string ⟨i.l.toArray⟩, .slice ab i.ats.length cb, .int .i64 i.n, .int .i64 i.d, .string ⟨i.x.toArray⟩] 27)).heap.size := by simp
    generalize (w.alloc (.cells #[.int .i64 h.k, .string ⟨h.l.toArray⟩, .slice aa h.ats.length ca, .int .i64 h.n, .int .i64 h.d, .string ⟨h.x.toArray⟩] 27)).alloc (.cells #[.int .i64 i.k, .string ⟨i.l.toArray⟩, .slice ab i.ats.length cb, .int .i64 i.n, .int .i64 i.d, .string ⟨i.x.toArray⟩] 27) = W at *
    have d0 : W.cell? ⟨w.heap.size, 0, none⟩ = some (.int .i64 h.k) := cell_of_block k0 rfl
    have d1 : W.cell? ⟨w.heap.size, 1, none⟩ = some (.string ⟨h.l.toArray⟩) := cell_of_block k0 rfl
    have d2 : W.cell? ⟨w.heap.size, 2, none⟩ = some (.slice aa h.ats.length ca) := cell_of_block k0 rfl
    have d3 : W.cell? ⟨w.heap.size, 3, none⟩ = some (.int .i64 h.n) := cell_of_block k0 rfl
    have d4 : W.cell? ⟨w.heap.size, 4, none⟩ = some (.int .i64 h.d) := cell_of_block k0 rfl
    have d5 : W.cell? ⟨w.heap.size, 5, none⟩ = some (.string ⟨h.x.toArray⟩) := cell_of_block k0 rfl
    have f0 : W.cell? ⟨w.heap.size + 1, 0, none⟩ = some (.int .i64 i.k) := cell_of_block k1 rfl
    have f1 : W.cell? ⟨w.heap.size + 1, 1, none⟩ = some (.string ⟨i.l.toArray⟩) := cell_of_block k1 rfl
    have f2 : W.cell? ⟨w.heap.size + 1, 2, none⟩ = some (.slice ab i.ats.length cb) := cell_of_block k1 rfl
    have f3 : W.cell? ⟨w.heap.size + 1, 3, none⟩ = some (.int .i64 i.n) := cell_of_block k1 rfl
    have f4 : W.cell? ⟨w.heap.size + 1, 4, none⟩ = some (.int .i64 i.d) := cell_of_block k1 rfl
    have f5 : W.cell? ⟨w.heap.size + 1, 5, none⟩ = some (.string ⟨i.x.toArray⟩) := cell_of_block k1 rfl

    have K0 := Lib.hid k0
    have K1 := Lib.hid k1
    clear k0 k1
    go_wp2_with fail
    refine (CF.out W BW).mono ?_
    rintro e w1 ⟨rfl, hb1⟩
    have B1 := BW.trans (hb1.mono BW.size)
    have hs1 := hb1.size
    have K2 := Lib.hid ((hb1.block _ (by have := hs0; omega)).trans K0.out)
    have K3 := Lib.hid ((hb1.block _ (by have := hs0; omega)).trans K1.out)
    have g0 : w1.cell? ⟨w.heap.size, 0, none⟩ = some (.int .i64 h.k) := cell_of_block K2.out rfl
    have g1 : w1.cell? ⟨w.heap.size, 1, none⟩ = some (.string ⟨h.l.toArray⟩) := cell_of_block K2.out rfl
    have g2 : w1.cell? ⟨w.heap.size, 2, none⟩ = some (.slice aa h.ats.length ca) := cell_of_block K2.out rfl
    have g3 : w1.cell? ⟨w.heap.size, 3, none⟩ = some (.int .i64 h.n) := cell_of_block K2.out rfl
    have g4 : w1.cell? ⟨w.heap.size, 4, none⟩ = some (.int .i64 h.d) := cell_of_block K2.out rfl
    have g5 : w1.cell? ⟨w.heap.size, 5, none⟩ = some (.string ⟨h.x.toArray⟩) := cell_of_block K2.out rfl
    have m0 : w1.cell? ⟨w.heap.size + 1, 0, none⟩ = some (.int .i64 i.k) := cell_of_block K3.out rfl
    have m1 : w1.cell? ⟨w.heap.size + 1, 1, none⟩ = some (.string ⟨i.l.toArray⟩) := cell_of_block K3.out rfl
    have m2 : w1.cell? ⟨w.heap.size + 1, 2, none⟩ = some (.slice ab i.ats.length cb) := cell_of_block K3.out rfl
    have m3 : w1.cell? ⟨w.heap.size + 1, 3, none⟩ = some (.int .i64 i.n) := cell_of_block K3.out rfl
    have m4 : w1.cell? ⟨w.heap.size + 1, 4, none⟩ = some (.int .i64 i.d) := cell_of_block K3.out rfl
    have m5 : w1.cell? ⟨w.heap.size + 1, 5, none⟩ = some (.string ⟨i.x.toArray⟩) := cell_of_block K3.out rfl
    go_wp2_with fail
    refine (CG.out w1 B1).mono ?_
    rintro e w2 ⟨rfl, hb2⟩
    have B2 := B1.trans (hb2.mono B1.size)
    have K4 := Lib.hid ((hb2.block _ (by have := hs0; omega)).trans K2.out)
    have K5 := Lib.hid ((hb2.block _ (by have := hs0; omega)).trans K3.out)
    have p0 : w2.cell? ⟨w.heap.size, 0, none⟩ = some (.int .i64 h.k) := cell_of_block K4.out rfl
    have p1 : w2.cell? ⟨w.heap.size, 1, none⟩ = some (.string ⟨h.l.toArray⟩) := cell_of_block K4.out rfl
    have p2 : w2.cell? ⟨w.heap.size, 2, none⟩ = some (.slice aa h.ats.length ca) := cell_of_block K4.out rfl
    have p3 : w2.cell? ⟨w.heap.size, 3, none⟩ = some (.int .i64 h.n) := cell_of_block K4.out rfl
    have p4 : w2.cell? ⟨w.heap.size, 4, none⟩ = some (.int .i64 h.d) := cell_of_block K4.out rfl
    have p5 : w2.cell? ⟨w.heap.size, 5, none⟩ = some (.string ⟨h.x.toArray⟩) := cell_of_block K4.out rfl
    have q0 : w2.cell? ⟨w.heap.size + 1, 0, none⟩ = some (.int .i64 i.k) := cell_of_block K5.out rfl
    have q1 : w2.cell? ⟨w.heap.size + 1, 1, none⟩ = some (.string ⟨i.l.toArray⟩) := cell_of_block K5.out rfl
    have q2 : w2.cell? ⟨w.heap.size + 1, 2, none⟩ = some (.slice ab i.ats.length cb) := cell_of_block K5.out rfl
    have q3 : w2.cell? ⟨w.heap.size + 1, 3, none⟩ = some (.int .i64 i.n) := cell_of_block K5.out rfl
    have q4 : w2.cell? ⟨w.heap.size + 1, 4, none⟩ = some (.int .i64 i.d) := cell_of_block K5.out rfl
    have q5 : w2.cell? ⟨w.heap.size + 1, 5, none⟩ = some (.string ⟨i.x.toArray⟩) := cell_of_block K5.out rfl
    clear hb1 hb2
    go_wp2_with fail
    refine (OO.out w2 B2).mono ?_
    rintro e w3 ⟨rfl, hb3⟩
    go_wp2_with fail
    go_ret2
    exact ⟨rfl, B2.trans (hb3.mono B2.size)⟩
end Go.Proofs.YtefongoinlcgaaaGreat
