/- What the proof of PrfTreeEdits rests on, part 12 of 14. -/
import Derived.IntWalk
import Derived.Deep.DeepCutAuto
import Derived.Test.YtcgedpfolloinaaGreatPPrfTreeEdits11
namespace Go.Proofs.YtcgedpfolloinaaGreat
open Go.RowKit

theorem cut_val {f g : Fo} {q : List Nat} {i : Nat} {y : Hd × Fo} (z : foErr f = 0) (hg : goTo f q = some g) (hn : nth g i = some y) : cutV f (pathInts (q ++ [i])) = (changeF f (q ++ [i]) 1 .nil, 0) := by
  obtain ⟨hw, kw⟩ := y
  obtain ⟨z2, z3, hz⟩ := fo_zero.1 z
  have hi := nth_lt hn
  obtain ⟨c1, -⟩ := chg_facts (b := .nil) (i := i) (n := 1) hz rfl hg (owns_go q f hg (by omega) hz)
  have dL := change_deep q f _ hg (spl_deep g i)
  have s1 := changeAt_size q f (spl g i 1 .nil) hg
  have s2 := spl_le g i 1 .nil
  rw [← changeF_at q f i 1 .nil hg] at dL s1
  simp only [Fo.size] at s2
  have zL : foErr (changeF f (q ++ [i]) 1 .nil) = 0 := fo_zero.2 ⟨by omega, by omega, c1⟩
  unfold cutV
  rw [z, place_zero hg hn, if_pos (by rfl), nat_path, in_ok zL]
theorem pl_split (f : Fo) (p : List Int) (b : Fo) : (plE f p b ≠ 0 → firstNZ [foErr f, foErr b, placeErr f p] = plE f p b) ∧ (plE f p b = 0 → foErr f = 0 ∧ foErr b = 0 ∧ p ≠ []) := by
  unfold plE
  simp only [firstNZ]
  by_cases h1 : foErr f = 0
  · by_cases h2 : foErr b = 0
    · by_cases h3 : p = []
      · subst h3
        simp [h1, h2, placeErr]
      · simp [h1, h2, h3]
    · simp [h1, h2]
  · simp [h1]
set_option maxRecDepth 100000 in
set_option maxHeartbeats 8000000 in
theorem qput_bad (f : Fo) (p : List Int) (h : Hd) (ks : Fo) (v pv : Value) (aa : Option Addr) (ca : Nat) (ak : Option Addr) (ck : Nat) (w : World) (hl : Lies w v f) (hp : IntsLie w pv p) (_ : p.length ≤ 1000000) (ha : AttrsLie w (.slice aa h.ats.length ca) h.ats) (hk : Lies w (.slice ak ks.len ck) ks) (hs : Small f) (hs1 : Small (.cons h ks .nil)) (hpe : plE f p (.cons h ks .nil) ≠ 0) :
    Calls Tryz.prog 45 #[v, pv, aggOf h aa ca ak ks.len ck] w (FoE w (putV f p (.cons h ks .nil))) := by
  have PL := Lib.hid (fun W (hW : Below w.heap.size w W) y (hy : Lies W y (.cons h ks .nil)) => placed_any f p (.cons h ks .nil) v pv y W (lies_below hl hW) (ints_below hp hW) hy hs hs1)
  obtain ⟨sp1, sp2⟩ := pl_split f p (.cons h ks .nil)
  obtain ⟨R, hR⟩ : ∃ R, putV f p (.cons h ks .nil) = R := ⟨_, rfl⟩
  rw [hR]
  have HX := Lib.hid (show R = (.nil, plE f p (.cons h ks .nil)) by
    rw [← hR]
    unfold putV
    rw [sp1 hpe, if_neg hpe])
  generalize plE f p (.cons h ks .nil) = ee at *
  have b0 : (ee != 0) = true := by simpa using hpe
  have HA := Lib.hid ha
  have HK := Lib.hid hk
  obtain ⟨av, cv, rfl⟩ := lies_form hl
  obtain ⟨pa, pc, rfl⟩ := ints_form hp
  clear hl hp ha hk hs hs1 hR sp1 sp2 hpe
  unfold aggOf
  go_enter Tryz.func45, Tryz.ntmps45
  go_upto_region 1 with fail
  have kk := World.alloc_heap_new w (.cells #[.int .i64 h.k, .string ⟨h.l.toArray⟩, .slice aa h.ats.length ca, .int .i64 h.n, .int .i64 h.d, .string ⟨h.x.toArray⟩, .slice ak ks.len ck] 43)
  have hb1 : Below w.heap.size w (w.alloc (.cells #[.int .i64 h.k, .string ⟨h.l.toArray⟩, .slice aa h.ats.length ca, .int .i64 h.n, .int .i64 h.d, .string ⟨h.x.toArray⟩, .slice ak ks.len ck] 43)) := (Below.refl _ _).alloc (Nat.le_refl _) _
  have zt0 : w.heap.size < (w.alloc (.cells #[.int .i64 h.k, .string ⟨h.l.toArray⟩, .slice aa h.ats.length ca, .int .i64 h.n, .int .i64 h.d, .string ⟨h.x.toArray⟩, .slice ak ks.len ck] 43)).heap.size := by simp
  generalize w.alloc (.cells #[.int .i64 h.k, .string ⟨h.l.toArray⟩, .slice aa h.ats.length ca, .int .i64 h.n, .int .i64 h.d, .string ⟨h.x.toArray⟩, .slice ak ks.len ck] 43) = X1 at *
  have BX1 : Below w.heap.size w X1 := hb1
  have Kt0 := Lib.hid kk
  clear kk
  have HA := Lib.hid (attrs_below HA.out hb1)
  have HK := Lib.hid (lies_below HK.out hb1)
  obtain ⟨t0, ht⟩ : ∃ t, t = w.heap.size := ⟨_, rfl⟩
  rw [← ht] at Kt0 zt0
  have hpp : (Value.pointer (some ⟨w.heap.size, 0, none⟩)) = .pointer (some ⟨t0, 0, none⟩) := by rw [ht]
  rw [hpp]
  clear hpp ht hb1
  have d0 : X1.cell? ⟨t0, 0, none⟩ = some (.int .i64 h.k) := cell_of_block Kt0.out rfl
  have d1 : X1.cell? ⟨t0, 1, none⟩ = some (.string ⟨h.l.toArray⟩) := cell_of_block Kt0.out rfl
  have d2 : X1.cell? ⟨t0, 2, none⟩ = some (.slice aa h.ats.length ca) := cell_of_block Kt0.out rfl
  have d3 : X1.cell? ⟨t0, 3, none⟩ = some (.int .i64 h.n) := cell_of_block Kt0.out rfl
  have d4 : X1.cell? ⟨t0, 4, none⟩ = some (.int .i64 h.d) := cell_of_block Kt0.out rfl
  have d5 : X1.cell? ⟨t0, 5, none⟩ = some (.string ⟨h.x.toArray⟩) := cell_of_block Kt0.out rfl
  have d6 : X1.cell? ⟨t0, 6, none⟩ = some (.slice ak ks.len ck) := cell_of_block Kt0.out rfl
  have kk := World.alloc_heap_new X1 (.cells #[.int .i64 h.k, .string ⟨h.l.toArray⟩, .slice aa h.ats.length ca, .int .i64 h.n, .int .i64 h.d, .string ⟨h.x.toArray⟩, .slice ak ks.len ck] 43)
  have hb2 : Below X1.heap.size X1 (X1.alloc (.cells #[.int .i64 h.k, .string ⟨h.l.toArray⟩, .slice aa h.ats.length ca, .int .i64 h.n, .int .i64 h.d, .string ⟨h.x.toArray⟩, .slice ak ks.len ck] 43)) := (Below.refl _ _).alloc (Nat.le_refl _) _
  have HA := Lib.hid (attrs_below HA.out hb2)
  have HK := Lib.hid (lies_below HK.out hb2)
  have Kt0 := Lib.hid ((hb2.block _ zt0).trans Kt0.out)
  have zt0 := Nat.lt_of_lt_of_le zt0 hb2.size
  have LT := Lib.hid (lies_one kk HA.out HK.out)
  have BX2 : Below w.heap.size w (X1.alloc (.cells #[.int .i64 h.k, .string ⟨h.l.toArray⟩, .slice aa h.ats.length ca, .int .i64 h.n, .int .i64 h.d, .string ⟨h.x.toArray⟩, .slice ak ks.len ck] 43)) := BX1.trans (hb2.mono BX1.size)
  clear kk hb2
  go_wp2_with fail
  generalize X1.alloc (.cells #[.int .i64 h.k, .string ⟨h.l.toArray⟩, .slice aa h.ats.length ca, .int .i64 h.n, .int .i64 h.d, .string ⟨h.x.toArray⟩, .slice ak ks.len ck] 43) = X2 at *
  clear d0 d1 d2 d3 d4 d5 d6

  refine (PL.out X2 BX2 _ LT.out).mono ?_
  rintro e X3 ⟨rfl, hb3⟩
  have BX3 : Below w.heap.size w X3 := BX2.trans (hb3.mono BX2.size)
  have HA := Lib.hid (attrs_below HA.out hb3)
  have HK := Lib.hid (lies_below HK.out hb3)
  have Kt0 := Lib.hid ((hb3.block _ zt0).trans Kt0.out)
  have zt0 := Nat.lt_of_lt_of_le zt0 hb3.size
  clear LT
  clear hb3
  go_wp2_with fail
  go_ret2
  rw [HX.out]
  exact foE_none BX3

set_option maxRecDepth 100000 in
set_option maxHeartbeats 8000000 in
theorem qput_none (f : Fo) (p : List Int) (h : Hd) (ks : Fo) (v pv : Value) (aa : Option Addr) (ca : Nat) (ak : Option Addr) (ck : Nat) (w : World) (hl : Lies w v f) (hp : IntsLie w pv p) (hpl : p.length ≤ 1000000) (ha : AttrsLie w (.slice aa h.ats.length ca) h.ats) (hk : Lies w (.slice ak ks.len ck) ks) (hs : Small f) (hs1 : Small (.cons h ks .nil)) (hpe : plE f p (.cons h ks .nil) = 0) (hno : placeF f p = none) :
    Calls Tryz.prog 45 #[v, pv, aggOf h aa ca ak ks.len ck] w (FoE w (putV f p (.cons h ks .nil))) := by
  have PL := Lib.hid (fun W (hW : Below w.heap.size w W) y (hy : Lies W y (.cons h ks .nil)) => placed_any f p (.cons h ks .nil) v pv y W (lies_below hl hW) (ints_below hp hW) hy hs hs1)
  obtain ⟨sp1, sp2⟩ := pl_split f p (.cons h ks .nil)
  obtain ⟨R, hR⟩ : ∃ R, putV f p (.cons h ks .nil) = R := ⟨_, rfl⟩
  rw [hR]
  obtain ⟨z1, z2, z3⟩ := sp2 hpe
  rw [hpe] at PL
  obtain ⟨V, ⟨h0, ks0, aa0, ca0, ak0, ck0, rfl, pa1, pk1, -⟩, hV⟩ := place_any p f v pv w hl hp hpl
  rw [hno] at hV
  have HV := Lib.hid hV
  have HX := Lib.hid (show R = (.nil, 6) by
    rw [← hR]
    unfold putV
    rw [z1, z2, show placeErr f p = 6 by unfold placeErr; rw [if_neg z3, hno]; rfl]; rfl)
  have HA := Lib.hid ha
  have HK := Lib.hid hk
  obtain ⟨av, cv, rfl⟩ := lies_form hl
  obtain ⟨pa, pc, rfl⟩ := ints_form hp
  clear hl hp ha hk hs hs1 hR sp1 sp2 hpe z1 z2 z3 hno hV pa1 pk1
  unfold aggOf at *
  go_enter Tryz.func45, Tryz.ntmps45
  go_upto_region 1 with fail
  have kk := World.alloc_heap_new w (.cells #[.int .i64 h.k, .string ⟨h.l.toArray⟩, .slice aa h.ats.length ca, .int .i64 h.n, .int .i64 h.d, .string ⟨h.x.toArray⟩, .slice ak ks.len ck] 43)
  have hb1 : Below w.heap.size w (w.alloc (.cells #[.int .i64 h.k, .string ⟨h.l.toArray⟩, .slice aa h.ats.length ca, .int .i64 h.n, .int .i64 h.d, .string ⟨h.x.toArray⟩, .slice ak ks.len ck] 43)) := (Below.refl _ _).alloc (Nat.le_refl _) _
  have zt0 : w.heap.size < (w.alloc (.cells #[.int .i64 h.k, .string ⟨h.l.toArray⟩, .slice aa h.ats.length ca, .int .i64 h.n, .int .i64 h.d, .string ⟨h.x.toArray⟩, .slice ak ks.len ck] 43)).heap.size := by simp
  generalize w.alloc (.cells #[.int .i64 h.k, .string ⟨h.l.toArray⟩, .slice aa h.ats.length ca, .int .i64 h.n, .int .i64 h.d, .string ⟨h.x.toArray⟩, .slice ak ks.len ck] 43) = X1 at *
  have BX1 : Below w.heap.size w X1 := hb1
  have Kt0 := Lib.hid kk
  clear kk
  have HA := Lib.hid (attrs_below HA.out hb1)
  have HK := Lib.hid (lies_below HK.out hb1)
  obtain ⟨t0, ht⟩ : ∃ t, t = w.heap.size := ⟨_, rfl⟩
  rw [← ht] at Kt0 zt0
  have hpp : (Value.pointer (some ⟨w.heap.size, 0, none⟩)) = .pointer (some ⟨t0, 0, none⟩) := by rw [ht]
  rw [hpp]
  clear hpp ht hb1
  have d0 : X1.cell? ⟨t0, 0, none⟩ = some (.int .i64 h.k) := cell_of_block Kt0.out rfl
  have d1 : X1.cell? ⟨t0, 1, none⟩ = some (.string ⟨h.l.toArray⟩) := cell_of_block Kt0.out rfl
  have d2 : X1.cell? ⟨t0, 2, none⟩ = some (.slice aa h.ats.length ca) := cell_of_block Kt0.out rfl
  have d3 : X1.cell? ⟨t0, 3, none⟩ = some (.int .i64 h.n) := cell_of_block Kt0.out rfl
  have d4 : X1.cell? ⟨t0, 4, none⟩ = some (.int .i64 h.d) := cell_of_block Kt0.out rfl
  have d5 : X1.cell? ⟨t0, 5, none⟩ = some (.string ⟨h.x.toArray⟩) := cell_of_block Kt0.out rfl
  have d6 : X1.cell? ⟨t0, 6, none⟩ = some (.slice ak ks.len ck) := cell_of_block Kt0.out rfl
  have kk := World.alloc_heap_new X1 (.cells #[.int .i64 h.k, .string ⟨h.l.toArray⟩, .slice aa h.ats.length ca, .int .i64 h.n, .int .i64 h.d, .string ⟨h.x.toArray⟩, .slice ak ks.len ck] 43)
  have hb2 : Below X1.heap.size X1 (X1.alloc (.cells #[.int .i64 h.k, .string ⟨h.l.toArray⟩, .slice aa h.ats.length ca, .int .i64 h.n, .int .i64 h.d, .string ⟨h.x.toArray⟩, .slice ak ks.len ck] 43)) := (Below.refl _ _).alloc (Nat.le_refl _) _
  have HA := Lib.hid (attrs_below HA.out hb2)
  have HK := Lib.hid (lies_below HK.out hb2)
  have Kt0 := Lib.hid ((hb2.block _ zt0).trans Kt0.out)
  have zt0 := Nat.lt_of_lt_of_le zt0 hb2.size
  have LT := Lib.hid (lies_one kk HA.out HK.out)
  have BX2 : Below w.heap.size w (X1.alloc (.cells #[.int .i64 h.k, .string ⟨h.l.toArray⟩, .slice aa h.ats.length ca, .int .i64 h.n, .int .i64 h.d, .string ⟨h.x.toArray⟩, .slice ak ks.len ck] 43)) := BX1.trans (hb2.mono BX1.size)
  clear kk hb2
  go_wp2_with fail
  generalize X1.alloc (.cells #[.int .i64 h.k, .string ⟨h.l.toArray⟩, .slice aa h.ats.length ca, .int .i64 h.n, .int .i64 h.d, .string ⟨h.x.toArray⟩, .slice ak ks.len ck] 43) = X2 at *
  clear d0 d1 d2 d3 d4 d5 d6

  refine (PL.out X2 BX2 _ LT.out).mono ?_
  rintro e X3 ⟨rfl, hb3⟩
  have BX3 : Below w.heap.size w X3 := BX2.trans (hb3.mono BX2.size)
  have HA := Lib.hid (attrs_below HA.out hb3)
  have HK := Lib.hid (lies_below HK.out hb3)
  have Kt0 := Lib.hid ((hb3.block _ zt0).trans Kt0.out)
  have zt0 := Nat.lt_of_lt_of_le zt0 hb3.size
  clear LT
  clear hb3
  go_wp2_with fail
  refine (HV.out X3 BX3).mono ?_
  rintro e X4 ⟨rfl, hb4⟩
  have BX4 : Below w.heap.size w X4 := BX3.trans (hb4.mono BX3.size)
  have HA := Lib.hid (attrs_below HA.out hb4)
  have HK := Lib.hid (lies_below HK.out hb4)
  have Kt0 := Lib.hid ((hb4.block _ zt0).trans Kt0.out)
  have zt0 := Nat.lt_of_lt_of_le zt0 hb4.size
  clear hb4
  go_upto_region 5 with fail
  have kk := World.alloc_heap_new X4 (.cells #[.int .i64 h0.k, .string ⟨h0.l.toArray⟩, .slice aa0 h0.ats.length ca0, .int .i64 h0.n, .int .i64 h0.d, .string ⟨h0.x.toArray⟩, .slice ak0 ks0.len ck0] 43)
  have hb5 : Below X4.heap.size X4 (X4.alloc (.cells #[.int .i64 h0.k, .string ⟨h0.l.toArray⟩, .slice aa0 h0.ats.length ca0, .int .i64 h0.n, .int .i64 h0.d, .string ⟨h0.x.toArray⟩, .slice ak0 ks0.len ck0] 43)) := (Below.refl _ _).alloc (Nat.le_refl _) _
  have zt1 : X4.heap.size < (X4.alloc (.cells #[.int .i64 h0.k, .string ⟨h0.l.toArray⟩, .slice aa0 h0.ats.length ca0, .int .i64 h0.n, .int .i64 h0.d, .string ⟨h0.x.toArray⟩, .slice ak0 ks0.len ck0] 43)).heap.size := by simp
  generalize X4.alloc (.cells #[.int .i64 h0.k, .string ⟨h0.l.toArray⟩, .slice aa0 h0.ats.length ca0, .int .i64 h0.n, .int .i64 h0.d, .string ⟨h0.x.toArray⟩, .slice ak0 ks0.len ck0] 43) = X5 at *
  have BX5 : Below w.heap.size w X5 := BX4.trans (hb5.mono BX4.size)
  have Kt1 := Lib.hid kk
  clear kk
  have HA := Lib.hid (attrs_below HA.out hb5)
  have HK := Lib.hid (lies_below HK.out hb5)
  have Kt0 := Lib.hid ((hb5.block _ zt0).trans Kt0.out)
  have zt0 := Nat.lt_of_lt_of_le zt0 hb5.size
  obtain ⟨t1, ht⟩ : ∃ t, t = X4.heap.size := ⟨_, rfl⟩
  rw [← ht] at Kt1 zt1
  rw [← ht]
  clear ht hb5
  clear Kt1 zt1
  go_wp2_with fail
  go_ret2
  rw [HX.out]
  exact foE_none BX5

set_option maxRecDepth 100000 in
set_option maxHeartbeats 8000000 in
theorem qput_some (f : Fo) (p : List Int) (h : Hd) (ks : Fo) (v pv : Value) (aa : Option Addr) (ca : Nat) (ak : Option Addr) (ck : Nat) (w : World) (hl : Lies w v f) (hp : IntsLie w pv p) (hpl : p.length ≤ 1000000) (ha : AttrsLie w (.slice aa h.ats.length ca) h.ats) (hk : Lies w (.slice ak ks.len ck) ks) (hs : Small f) (hs1 : Small (.cons h ks .nil)) (hpe : plE f p (.cons h ks .nil) = 0) (x : Hd × Fo) (hno : placeF f p = some x) :
    Calls Tryz.prog 45 #[v, pv, aggOf h aa ca ak ks.len ck] w (FoE w (putV f p (.cons h ks .nil))) := by
  have PL := Lib.hid (fun W (hW : Below w.heap.size w W) y (hy : Lies W y (.cons h ks .nil)) => placed_any f p (.cons h ks .nil) v pv y W (lies_below hl hW) (ints_below hp hW) hy hs hs1)
  obtain ⟨sp1, sp2⟩ := pl_split f p (.cons h ks .nil)
  obtain ⟨R, hR⟩ : ∃ R, putV f p (.cons h ks .nil) = R := ⟨_, rfl⟩
  rw [hR]
  obtain ⟨z1, z2, z3⟩ := sp2 hpe
  rw [hpe] at PL
  obtain ⟨V, ⟨h0, ks0, aa0, ca0, ak0, ck0, rfl, pa1, pk1, -⟩, hV⟩ := place_any p f v pv w hl hp hpl
  rw [hno] at hV
  have HV := Lib.hid hV
  have hpz : placeErr f p = 0 := by unfold placeErr; rw [if_neg z3, hno]; rfl
  obtain ⟨q, i, g, e1, e2, e3, e4⟩ := place_cut hpz
  have hz := (fo_zero.1 z1).2.2
  obtain ⟨c1, c2⟩ := chg_facts (b := .cons h ks .nil) (i := i) (n := 1) hz (fo_zero.1 z2).2.2 e3 (owns_go q f e3 (by omega) hz)
  have HX := Lib.hid (show R = inBnd (changeF f (q ++ [i]) 1 (.cons h ks .nil)) by
    rw [← hR]
    unfold putV
    rw [z1, z2, hpz, if_pos (by rfl), e2])
  have CH := Lib.hid (fun W (hW : Below w.heap.size w W) y (hy : Lies W y (.cons h ks .nil)) => changed_any (q ++ [i]) f 1 (.cons h ks .nil) v pv y W (lies_below hl hW) (e1 ▸ ints_below hp hW) hy (okC_of q f e3 e4) hs.size hs1.size (by have := congrArg List.length e2; rw [List.length_map] at this; omega))
  have BD := Lib.hid (fun a c W (hW : Lies W (.slice a (changeF f (q ++ [i]) 1 (.cons h ks .nil)).len c) (changeF f (q ++ [i]) 1 (.cons h ks .nil))) => bounded_any _ a c W hW c1 (by have := hs.size; have := (fo_zero.1 z2).1; have := (fo_zero.1 z1).1; omega))
  generalize changeF f (q ++ [i]) 1 (.cons h ks .nil) = F at *
  clear hpz e1 e2 e3 e4 hz c1 c2
  have HA := Lib.hid ha
  have HK := Lib.hid hk
  obtain ⟨av, cv, rfl⟩ := lies_form hl
  obtain ⟨pa, pc, rfl⟩ := ints_form hp
  clear hl hp ha hk hs hs1 hR sp1 sp2 hpe z1 z2 z3 hno hV pa1 pk1
  unfold aggOf at *
  go_enter Tryz.func45, Tryz.ntmps45
  go_upto_region 1 with fail
  have kk := World.alloc_heap_new w (.cells #[.int .i64 h.k, .string ⟨h.l.toArray⟩, .slice aa h.ats.length ca, .int .i64 h.n, .int .i64 h.d, .string ⟨h.x.toArray⟩, .slice ak ks.len ck] 43)
  have hb1 : Below w.heap.size w (w.alloc (.cells #[.int .i64 h.k, .string ⟨h.l.toArray⟩, .slice aa h.ats.length ca, .int .i64 h.n, .int .i64 h.d, .string ⟨h.x.toArray⟩, .slice ak ks.len ck] 43)) := (Below.refl _ _).alloc (Nat.le_refl _) _
  have zt0 : w.heap.size < (w.alloc (.cells #[.int .i64 h.k, .string ⟨h.l.toArray⟩, .slice aa h.ats.length ca, .int .i64 h.n, .int .i64 h.d, .string ⟨h.x.toArray⟩, .slice ak ks.len ck] 43)).heap.size := by simp
  generalize w.alloc (.cells #[.int .i64 h.k, .string ⟨h.l.toArray⟩, .slice aa h.ats.length ca, .int .i64 h.n, .int .i64 h.d, .string ⟨h.x.toArray⟩, .slice ak ks.len ck] 43) = X1 at *
  have BX1 : Below w.heap.size w X1 := hb1
  have Kt0 := Lib.hid kk
  clear kk
  have HA := Lib.hid (attrs_below HA.out hb1)
  have HK := Lib.hid (lies_below HK.out hb1)
  obtain ⟨t0, ht⟩ : ∃ t, t = w.heap.size := ⟨_, rfl⟩
  rw [← ht] at Kt0 zt0
  have hpp : (Value.pointer (some ⟨w.heap.size, 0, none⟩)) = .pointer (some ⟨t0, 0, none⟩) := by rw [ht]
  rw [hpp]
  clear hpp ht hb1
  have d0 : X1.cell? ⟨t0, 0, none⟩ = some (.int .i64 h.k) := cell_of_block Kt0.out rfl
  have d1 : X1.cell? ⟨t0, 1, none⟩ = some (.string ⟨h.l.toArray⟩) := cell_of_block Kt0.out rfl
  have d2 : X1.cell? ⟨t0, 2, none⟩ = some (.slice aa h.ats.length ca) := cell_of_block Kt0.out rfl
  have d3 : X1.cell? ⟨t0, 3, none⟩ = some (.int .i64 h.n) := cell_of_block Kt0.out rfl
  have d4 : X1.cell? ⟨t0, 4, none⟩ = some (.int .i64 h.d) := cell_of_block Kt0.out rfl
  have d5 : X1.cell? ⟨t0, 5, none⟩ = some (.string ⟨h.x.toArray⟩) := cell_of_block Kt0.out rfl
  have d6 : X1.cell? ⟨t0, 6, none⟩ = some (.slice ak ks.len ck) := cell_of_block Kt0.out rfl
  have kk := World.alloc_heap_new X1 (.cells #[.int .i64 h.k, .string ⟨h.l.toArray⟩, .slice aa h.ats.length ca, .int .i64 h.n, .int .i64 h.d, .string ⟨h.x.toArray⟩, .slice ak ks.len ck] 43)
  have hb2 : Below X1.heap.size X1 (X1.alloc (.cells #[.int .i64 h.k, .string ⟨h.l.toArray⟩, .slice aa h.ats.length ca, .int .i64 h.n, .int .i64 h.d, .string ⟨h.x.toArray⟩, .slice ak ks.len ck] 43)) := (Below.refl _ _).alloc (Nat.le_refl _) _
  have HA := Lib.hid (attrs_below HA.out hb2)
  have HK := Lib.hid (lies_below HK.out hb2)
  have Kt0 := Lib.hid ((hb2.block _ zt0).trans Kt0.out)
  have zt0 := Nat.lt_of_lt_of_le zt0 hb2.size
  have LT := Lib.hid (lies_one kk HA.out HK.out)
  have BX2 : Below w.heap.size w (X1.alloc (.cells #[.int .i64 h.k, .string ⟨h.l.toArray⟩, .slice aa h.ats.length ca, .int .i64 h.n, .int .i64 h.d, .string ⟨h.x.toArray⟩, .slice ak ks.len ck] 43)) := BX1.trans (hb2.mono BX1.size)
  clear kk hb2
  go_wp2_with fail
  generalize X1.alloc (.cells #[.int .i64 h.k, .string ⟨h.l.toArray⟩, .slice aa h.ats.length ca, .int .i64 h.n, .int .i64 h.d, .string ⟨h.x.toArray⟩, .slice ak ks.len ck] 43) = X2 at *
  clear d0 d1 d2 d3 d4 d5 d6

  refine (PL.out X2 BX2 _ LT.out).mono ?_
  rintro e X3 ⟨rfl, hb3⟩
  have BX3 : Below w.heap.size w X3 := BX2.trans (hb3.mono BX2.size)
  have HA := Lib.hid (attrs_below HA.out hb3)
  have HK := Lib.hid (lies_below HK.out hb3)
  have Kt0 := Lib.hid ((hb3.block _ zt0).trans Kt0.out)
  have zt0 := Nat.lt_of_lt_of_le zt0 hb3.size
  clear LT
  clear hb3
  go_wp2_with fail
  refine (HV.out X3 BX3).mono ?_
  rintro e X4 ⟨rfl, hb4⟩
  have BX4 : Below w.heap.size w X4 := BX3.trans (hb4.mono BX3.size)
  have HA := Lib.hid (attrs_below HA.out hb4)
  have HK := Lib.hid (lies_below HK.out hb4)
  have Kt0 := Lib.hid ((hb4.block _ zt0).trans Kt0.out)
  have zt0 := Nat.lt_of_lt_of_le zt0 hb4.size
  clear hb4
  go_upto_region 5 with fail
  have kk := World.alloc_heap_new X4 (.cells #[.int .i64 h0.k, .string ⟨h0.l.toArray⟩, .slice aa0 h0.ats.length ca0, .int .i64 h0.n, .int .i64 h0.d, .string ⟨h0.x.toArray⟩, .slice ak0 ks0.len ck0] 43)
  have hb5 : Below X4.heap.size X4 (X4.alloc (.cells #[.int .i64 h0.k, .string ⟨h0.l.toArray⟩, .slice aa0 h0.ats.length ca0, .int .i64 h0.n, .int .i64 h0.d, .string ⟨h0.x.toArray⟩, .slice ak0 ks0.len ck0] 43)) := (Below.refl _ _).alloc (Nat.le_refl _) _
  have zt1 : X4.heap.size < (X4.alloc (.cells #[.int .i64 h0.k, .string ⟨h0.l.toArray⟩, .slice aa0 h0.ats.length ca0, .int .i64 h0.n, .int .i64 h0.d, .string ⟨h0.x.toArray⟩, .slice ak0 ks0.len ck0] 43)).heap.size := by simp
  generalize X4.alloc (.cells #[.int .i64 h0.k, .string ⟨h0.l.toArray⟩, .slice aa0 h0.ats.length ca0, .int .i64 h0.n, .int .i64 h0.d, .string ⟨h0.x.toArray⟩, .slice ak0 ks0.len ck0] 43) = X5 at *
  have BX5 : Below w.heap.size w X5 := BX4.trans (hb5.mono BX4.size)
  have Kt1 := Lib.hid kk
  clear kk
  have HA := Lib.hid (attrs_below HA.out hb5)
  have HK := Lib.hid (lies_below HK.out hb5)
  have Kt0 := Lib.hid ((hb5.block _ zt0).trans Kt0.out)
  have zt0 := Nat.lt_of_lt_of_le zt0 hb5.size
  obtain ⟨t1, ht⟩ : ∃ t, t = X4.heap.size := ⟨_, rfl⟩
  rw [← ht] at Kt1 zt1
  rw [← ht]
  clear ht hb5
  clear Kt1 zt1
  have d0 : X5.cell? ⟨t0, 0, none⟩ = some (.int .i64 h.k) := cell_of_block Kt0.out rfl
  have d1 : X5.cell? ⟨t0, 1, none⟩ = some (.string ⟨h.l.toArray⟩) := cell_of_block Kt0.out rfl
  have d2 : X5.cell? ⟨t0, 2, none⟩ = some (.slice aa h.ats.length ca) := cell_of_block Kt0.out rfl
  have d3 : X5.cell? ⟨t0, 3, none⟩ = some (.int .i64 h.n) := cell_of_block Kt0.out rfl
  have d4 : X5.cell? ⟨t0, 4, none⟩ = some (.int .i64 h.d) := cell_of_block Kt0.out rfl
  have d5 : X5.cell? ⟨t0, 5, none⟩ = some (.string ⟨h.x.toArray⟩) := cell_of_block Kt0.out rfl
  have d6 : X5.cell? ⟨t0, 6, none⟩ = some (.slice ak ks.len ck) := cell_of_block Kt0.out rfl
  have kk := World.alloc_heap_new X5 (.cells #[.int .i64 h.k, .string ⟨h.l.toArray⟩, .slice aa h.ats.length ca, .int .i64 h.n, .int .i64 h.d, .string ⟨h.x.toArray⟩, .slice ak ks.len ck] 43)
  have hb6 : Below X5.heap.size X5 (X5.alloc (.cells #[.int .i64 h.k, .string ⟨h.l.toArray⟩, .slice aa h.ats.length ca, .int .i64 h.n, .int .i64 h.d, .string ⟨h.x.toArray⟩, .slice ak ks.len ck] 43)) := (Below.refl _ _).alloc (Nat.le_refl _) _
  have HA := Lib.hid (attrs_below HA.out hb6)
  have HK := Lib.hid (lies_below HK.out hb6)
  have Kt0 := Lib.hid ((hb6.block _ zt0).trans Kt0.out)
  have zt0 := Nat.lt_of_lt_of_le zt0 hb6.size
  have LT := Lib.hid (lies_one kk HA.out HK.out)
  have BX6 : Below w.heap.size w (X5.alloc (.cells #[.int .i64 h.k, .string ⟨h.l.toArray⟩, .slice aa h.ats.length ca, .int .i64 h.n, .int .i64 h.d, .string ⟨h.x.toArray⟩, .slice ak ks.len ck] 43)) := BX5.trans (hb6.mono BX5.size)
  clear kk hb6
  go_wp2_with fail
  generalize X5.alloc (.cells #[.int .i64 h.k, .string ⟨h.l.toArray⟩, .slice aa h.ats.length ca, .int .i64 h.n, .int .i64 h.d, .string ⟨h.x.toArray⟩, .slice ak ks.len ck] 43) = X6 at *
  clear d0 d1 d2 d3 d4 d5 d6

  refine (CH.out X6 BX6 _ LT.out).mono ?_
  rintro e X7 ⟨a9, c9, rfl, hF, hb7⟩
  have BX7 : Below w.heap.size w X7 := BX6.trans (hb7.mono BX6.size)
  have HA := Lib.hid (attrs_below HA.out hb7)
  have HK := Lib.hid (lies_below HK.out hb7)
  have Kt0 := Lib.hid ((hb7.block _ zt0).trans Kt0.out)
  have zt0 := Nat.lt_of_lt_of_le zt0 hb7.size
  have HO := Lib.hid (liesF_mono (B' := w.heap.size) BX6.size hF)
  have HF := Lib.hid (liesF_lies hF)
  clear LT hF
  clear hb7
  have WI := Lib.hid (BD.out _ _ X7 HF.out)
  by_cases hbd : bndErr F = 0
  · have EX := Lib.hid (show inBnd F = (F, 0) by unfold inBnd; rw [if_pos hbd])
    rw [hbd, if_pos rfl] at WI
    clear hbd
    go_wp2_with fail
    refine WI.out.mono ?_
    rintro e X8 ⟨rfl, hb8⟩
    have HG := Lib.hid (liesF_keeps HO.out (Keeps.of_below hb8 : Keeps w.heap.size X7 X8))
    have BX8 := BX7.trans (hb8.mono BX7.size)
    clear hb8
    go_wp2_with fail
    go_ret2
    rw [HX.out, EX.out]
    exact ⟨_, rfl, HG.out, BX8⟩
  · have EX := Lib.hid (show inBnd F = (.nil, bndErr F) by unfold inBnd; rw [if_neg hbd])
    rw [if_neg hbd] at WI
    clear hbd
    go_wp2_with fail
    refine WI.out.mono ?_
    rintro e X8 ⟨rfl, hb8⟩
    have BX8 := BX7.trans (hb8.mono BX7.size)
    clear hb8
    go_wp2_with fail
    go_ret2
    rw [HX.out, EX.out]
    exact foE_none BX8

theorem qput_any (f : Fo) (p : List Int) (h : Hd) (ks : Fo) (v pv : Value) (aa : Option Addr) (ca : Nat) (ak : Option Addr) (ck : Nat) (w : World) (hl : Lies w v f) (hp : IntsLie w pv p) (hpl : p.length ≤ 1000000) (ha : AttrsLie w (.slice aa h.ats.length ca) h.ats) (hk : Lies w (.slice ak ks.len ck) ks) (hs : Small f) (hs1 : Small (.cons h ks .nil)) :
    Calls Tryz.prog 45 #[v, pv, aggOf h aa ca ak ks.len ck] w (FoE w (putV f p (.cons h ks .nil))) := by
  by_cases hpe : plE f p (.cons h ks .nil) = 0
  · cases hno : placeF f p with
    | none => exact qput_none f p h ks v pv aa ca ak ck w hl hp hpl ha hk hs hs1 hpe hno
    | some x => exact qput_some f p h ks v pv aa ca ak ck w hl hp hpl ha hk hs hs1 hpe x hno
  · exact qput_bad f p h ks v pv aa ca ak ck w hl hp hpl ha hk hs hs1 hpe
theorem pl_cut (f : Fo) (p : List Int) : (plE f p .nil ≠ 0 → firstNZ [foErr f, placeErr f p] = plE f p .nil) ∧ (plE f p .nil = 0 → foErr f = 0 ∧ p ≠ []) := by
  have hz : foErr .nil = 0 := rfl
  unfold plE
  rw [hz]
  simp only [firstNZ]
  by_cases h1 : foErr f = 0
  · by_cases h3 : p = []
    · subst h3
      simp [h1, placeErr]
    · simp [h1, h3]
  · simp [h1]
set_option maxRecDepth 100000 in
set_option maxHeartbeats 8000000 in
theorem qcut_bad (f : Fo) (p : List Int) (v pv : Value) (w : World) (hl : Lies w v f) (hp : IntsLie w pv p) (_ : p.length ≤ 1000000) (hs : Small f) (hpe : plE f p .nil ≠ 0) :
    Calls Tryz.prog 49 #[v, pv] w (FoE w (cutV f p)) := by
  have PL := Lib.hid (fun W (hW : Below w.heap.size w W) => placed_any f p .nil v pv (.slice none 0 0) W (lies_below hl hW) (ints_below hp hW) (.inl ⟨_, _, rfl, rfl⟩) hs (small_ok rfl))
  obtain ⟨sp1, sp2⟩ := pl_cut f p
  obtain ⟨R, hR⟩ : ∃ R, cutV f p = R := ⟨_, rfl⟩
  rw [hR]
  have HX := Lib.hid (show R = (.nil, plE f p .nil) by
    rw [← hR]
    unfold cutV
    rw [sp1 hpe, if_neg hpe])
  generalize plE f p .nil = ee at *
  have b0 : (ee != 0) = true := by simpa using hpe
  obtain ⟨av, cv, rfl⟩ := lies_form hl
  obtain ⟨pa, pc, rfl⟩ := ints_form hp
  have BX0 := Below.refl w.heap.size w
  clear hl hp hs hR sp1 sp2 hpe
  go_enter Tryz.func49, Tryz.ntmps49
  go_wp2_with fail
  refine (PL.out w BX0).mono ?_
  rintro e X1 ⟨rfl, hb1⟩
  have BX1 : Below w.heap.size w X1 := hb1
  clear hb1
  go_wp2_with fail
  go_ret2
  rw [HX.out]
  exact foE_none BX1

set_option maxRecDepth 100000 in
set_option maxHeartbeats 8000000 in
theorem qcut_none (f : Fo) (p : List Int) (v pv : Value) (w : World) (hl : Lies w v f) (hp : IntsLie w pv p) (hpl : p.length ≤ 1000000) (hs : Small f) (hpe : plE f p .nil = 0) (hno : placeF f p = none) :
    Calls Tryz.prog 49 #[v, pv] w (FoE w (cutV f p)) := by
  have PL := Lib.hid (fun W (hW : Below w.heap.size w W) => placed_any f p .nil v pv (.slice none 0 0) W (lies_below hl hW) (ints_below hp hW) (.inl ⟨_, _, rfl, rfl⟩) hs (small_ok rfl))
  obtain ⟨sp1, sp2⟩ := pl_cut f p
  obtain ⟨R, hR⟩ : ∃ R, cutV f p = R := ⟨_, rfl⟩
  rw [hR]
  obtain ⟨z1, z3⟩ := sp2 hpe
  rw [hpe] at PL
  obtain ⟨V, ⟨h0, ks0, aa0, ca0, ak0, ck0, rfl, pa1, pk1, -⟩, hV⟩ := place_any p f v pv w hl hp hpl
  rw [hno] at hV
  have HV := Lib.hid hV
  have HX := Lib.hid (show R = (.nil, 6) by
    rw [← hR]
    unfold cutV
    rw [z1, show placeErr f p = 6 by unfold placeErr; rw [if_neg z3, hno]; rfl]; rfl)
  obtain ⟨av, cv, rfl⟩ := lies_form hl
  obtain ⟨pa, pc, rfl⟩ := ints_form hp
  have BX0 := Below.refl w.heap.size w
  clear hl hp hs hR sp1 sp2 hpe z1 z3 hno hV pa1 pk1
  unfold aggOf at *
  go_enter Tryz.func49, Tryz.ntmps49
  go_wp2_with fail
  refine (PL.out w BX0).mono ?_
  rintro e X1 ⟨rfl, hb1⟩
  have BX1 : Below w.heap.size w X1 := hb1
  clear hb1
  go_wp2_with fail
  refine (HV.out X1 BX1).mono ?_
  rintro e X2 ⟨rfl, hb2⟩
  have BX2 : Below w.heap.size w X2 := BX1.trans (hb2.mono BX1.size)
  clear hb2
  go_upto_region 5 with fail
  have kk := World.alloc_heap_new X2 (.cells #[.int .i64 h0.k, .string ⟨h0.l.toArray⟩, .slice aa0 h0.ats.length ca0, .int .i64 h0.n, .int .i64 h0.d, .string ⟨h0.x.toArray⟩, .slice ak0 ks0.len ck0] 43)
  have hb3 : Below X2.heap.size X2 (X2.alloc (.cells #[.int .i64 h0.k, .string ⟨h0.l.toArray⟩, .slice aa0 h0.ats.length ca0, .int .i64 h0.n, .int .i64 h0.d, .string ⟨h0.x.toArray⟩, .slice ak0 ks0.len ck0] 43)) := (Below.refl _ _).alloc (Nat.le_refl _) _
  have zt1 : X2.heap.size < (X2.alloc (.cells #[.int .i64 h0.k, .string ⟨h0.l.toArray⟩, .slice aa0 h0.ats.length ca0, .int .i64 h0.n, .int .i64 h0.d, .string ⟨h0.x.toArray⟩, .slice ak0 ks0.len ck0] 43)).heap.size := by simp
  generalize X2.alloc (.cells #[.int .i64 h0.k, .string ⟨h0.l.toArray⟩, .slice aa0 h0.ats.length ca0, .int .i64 h0.n, .int .i64 h0.d, .string ⟨h0.x.toArray⟩, .slice ak0 ks0.len ck0] 43) = X3 at *
  have BX3 : Below w.heap.size w X3 := BX2.trans (hb3.mono BX2.size)
  have Kt1 := Lib.hid kk
  clear kk
  obtain ⟨t1, ht⟩ : ∃ t, t = X2.heap.size := ⟨_, rfl⟩
  rw [← ht] at Kt1 zt1
  rw [← ht]
  clear ht hb3
  clear Kt1 zt1
  go_wp2_with fail
  go_ret2
  rw [HX.out]
  exact foE_none BX3

set_option maxRecDepth 100000 in
set_option maxHeartbeats 8000000 in
theorem qcut_some (f : Fo) (p : List Int) (v pv : Value) (w : World) (hl : Lies w v f) (hp : IntsLie w pv p) (hpl : p.length ≤ 1000000) (hs : Small f) (hpe : plE f p .nil = 0) (x : Hd × Fo) (hno : placeF f p = some x) :
    Calls Tryz.prog 49 #[v, pv] w (FoE w (cutV f p)) := by
  have PL := Lib.hid (fun W (hW : Below w.heap.size w W) => placed_any f p .nil v pv (.slice none 0 0) W (lies_below hl hW) (ints_below hp hW) (.inl ⟨_, _, rfl, rfl⟩) hs (small_ok rfl))
  obtain ⟨sp1, sp2⟩ := pl_cut f p
  obtain ⟨R, hR⟩ : ∃ R, cutV f p = R := ⟨_, rfl⟩
  rw [hR]
  obtain ⟨z1, z3⟩ := sp2 hpe
  rw [hpe] at PL
  obtain ⟨V, ⟨h0, ks0, aa0, ca0, ak0, ck0, rfl, pa1, pk1, -⟩, hV⟩ := place_any p f v pv w hl hp hpl
  rw [hno] at hV
  have HV := Lib.hid hV
  have hpz : placeErr f p = 0 := by unfold placeErr; rw [if_neg z3, hno]; rfl
  obtain ⟨q, i, g, e1, e2, e3, e4⟩ := place_cut hpz
  obtain ⟨y, hy⟩ : ∃ y, nth g i = some y := by
    obtain ⟨a, b, e⟩ := nth_some (f := g) (j := i) (by omega)
    exact ⟨_, e⟩
  have c1 := cut_val z1 e3 hy
  have HX := Lib.hid (show R = (changeF f (q ++ [i]) 1 .nil, 0) by
    rw [← hR, e1, c1])
  have CH := Lib.hid (fun W (hW : Below w.heap.size w W) => changed_any (q ++ [i]) f 1 .nil v pv (.slice none 0 0) W (lies_below hl hW) (e1 ▸ ints_below hp hW) (.inl ⟨_, _, rfl, rfl⟩) (okC_of q f e3 e4) hs.size (Nat.zero_le _) (by have := congrArg List.length e2; rw [List.length_map] at this; omega))
  generalize changeF f (q ++ [i]) 1 .nil = F at *
  clear hpz e1 e2 e3 e4 hy c1
  obtain ⟨av, cv, rfl⟩ := lies_form hl
  obtain ⟨pa, pc, rfl⟩ := ints_form hp
  have BX0 := Below.refl w.heap.size w
  clear hl hp hs hR sp1 sp2 hpe z1 z3 hno hV pa1 pk1
  unfold aggOf at *
  go_enter Tryz.func49, Tryz.ntmps49
  go_wp2_with fail
  refine (PL.out w BX0).mono ?_
  rintro e X1 ⟨rfl, hb1⟩
  have BX1 : Below w.heap.size w X1 := hb1
  clear hb1
  go_wp2_with fail
  refine (HV.out X1 BX1).mono ?_
  rintro e X2 ⟨rfl, hb2⟩
  have BX2 : Below w.heap.size w X2 := BX1.trans (hb2.mono BX1.size)
  clear hb2
  go_upto_region 5 with fail
  have kk := World.alloc_heap_new X2 (.cells #[.int .i64 h0.k, .string ⟨h0.l.toArray⟩, .slice aa0 h0.ats.length ca0, .int .i64 h0.n, .int .i64 h0.d, .string ⟨h0.x.toArray⟩, .slice ak0 ks0.len ck0] 43)
  have hb3 : Below X2.heap.size X2 (X2.alloc (.cells #[.int .i64 h0.k, .string ⟨h0.l.toArray⟩, .slice aa0 h0.ats.length ca0, .int .i64 h0.n, .int .i64 h0.d, .string ⟨h0.x.toArray⟩, .slice ak0 ks0.len ck0] 43)) := (Below.refl _ _).alloc (Nat.le_refl _) _
  have zt1 : X2.heap.size < (X2.alloc (.cells #[.int .i64 h0.k, .string ⟨h0.l.toArray⟩, .slice aa0 h0.ats.length ca0, .int .i64 h0.n, .int .i64 h0.d, .string ⟨h0.x.toArray⟩, .slice ak0 ks0.len ck0] 43)).heap.size := by simp
  generalize X2.alloc (.cells #[.int .i64 h0.k, .string ⟨h0.l.toArray⟩, .slice aa0 h0.ats.length ca0, .int .i64 h0.n, .int .i64 h0.d, .string ⟨h0.x.toArray⟩, .slice ak0 ks0.len ck0] 43) = X3 at *
  have BX3 : Below w.heap.size w X3 := BX2.trans (hb3.mono BX2.size)
  have Kt1 := Lib.hid kk
  clear kk
  obtain ⟨t1, ht⟩ : ∃ t, t = X2.heap.size := ⟨_, rfl⟩
  rw [← ht] at Kt1 zt1
  rw [← ht]
  clear ht hb3
  clear Kt1 zt1
  go_wp2_with fail
  refine (CH.out X3 BX3).mono ?_
  rintro e X4 ⟨a9, c9, rfl, hF, hb4⟩
  have BX4 : Below w.heap.size w X4 := BX3.trans (hb4.mono BX3.size)
  have HO := Lib.hid (liesF_mono (B' := w.heap.size) BX3.size hF)
  clear hF
  clear hb4
  go_wp2_with fail
  go_ret2
  rw [HX.out]
  exact ⟨_, rfl, HO.out, BX4⟩

theorem qcut_any (f : Fo) (p : List Int) (v pv : Value) (w : World) (hl : Lies w v f) (hp : IntsLie w pv p) (hpl : p.length ≤ 1000000) (hs : Small f) :
    Calls Tryz.prog 49 #[v, pv] w (FoE w (cutV f p)) := by
  by_cases hpe : plE f p .nil = 0
  · cases hno : placeF f p with
    | none => exact qcut_none f p v pv w hl hp hpl hs hpe hno
    | some x => exact qcut_some f p v pv w hl hp hpl hs hpe x hno
  · exact qcut_bad f p v pv w hl hp hpl hs hpe
end Go.Proofs.YtcgedpfolloinaaGreat

namespace Go.Proofs.YtcgedpfolloinaaGreat
open Go.RowKit

theorem tinsert_any (f : Fo) (p : List Int) (h : Hd) (ks : Fo) (v pv : Value) (aa : Option Addr) (ca : Nat) (ak : Option Addr) (ck : Nat) (w : World) (hl : Lies w v f) (hp : IntsLie w pv p) (hpl : p.length ≤ 1000000) (ha : AttrsLie w (.slice aa h.ats.length ca) h.ats) (hk : Lies w (.slice ak ks.len ck) ks) (hs : Small f) (hs1 : Small (.cons h ks .nil)) :
    Calls Tryz.prog 46 #[v, pv, aggOf h aa ca ak ks.len ck] w (FoE w (insV f p (.cons h ks .nil))) := by
  by_cases hp0 : p = []
  · subst hp0
    exact tinsert_nil f h ks v pv aa ca ak ck w hl hp ha hk hs hs1
  · obtain ⟨q, x, rfl⟩ := snoc_of p hp0
    exact tinsert_snoc f q x h ks v pv aa ca ak ck w hl hp (by rw [List.length_append] at hpl; simp at hpl; omega) ha hk hs hs1
end Go.Proofs.YtcgedpfolloinaaGreat

namespace Go.Proofs.YtcgedpfolloinaaGreat
open Go.RowKit

theorem pl_ins (f : Fo) (p : List Int) (b : Fo) : (plE f p b ≠ 0 → insV f p b = (.nil, plE f p b)) ∧ (plE f p b = 0 → foErr f = 0 ∧ foErr b = 0 ∧ p ≠ []) := by
  refine ⟨fun hne => ?_, (pl_split f p b).2⟩
  unfold insV plE at *
  simp only [firstNZ] at *
  by_cases h1 : foErr f = 0
  · by_cases h2 : foErr b = 0
    · by_cases h3 : p = []
      · simp [h1, h2, h3]
      · simp [h1, h2, h3] at hne
    · simp [h1, h2]
  · simp [h1]
theorem kids_forest {f : Fo} {q : List Int} (z : foErr f = 0) : kidsV f q = forestV f q := by
  unfold kidsV forestV
  rw [if_neg (by simpa using z)]
theorem forest_ok {f : Fo} {q : List Int} {g : Fo} (h : forestV f q = (g, 0)) : ownsOk f (q.map Int.toNat) ∨ headsErr f ≠ 0 := by
  by_cases hz : headsErr f = 0
  · left
    obtain ⟨h1, h2⟩ := forest_go h
    by_cases hg : g.len = 0
    · unfold forestV at h
      by_cases hq : q = []
      · subst hq; trivial
      · rw [if_neg hq] at h
        cases hx : placeF f q with
        | none => rw [hx] at h; cases h
        | some y =>
          obtain ⟨hd, ks⟩ := y
          rw [hx] at h
          simp only at h
          by_cases hk : hd.k ≠ 0
          · rw [if_pos hk] at h; cases h
          · obtain ⟨r, j, e⟩ := snoc_of (q.map Int.toNat) (by simpa using hq)
            rw [h1, e] at hx
            obtain ⟨g0, k1, k2⟩ := place_last r j f hx
            rw [e]
            have ho := owns_go r f k1 (by have := nth_lt k2; omega) hz
            clear hx h1 h2 h e hq hz
            have gen : ∀ (r : List Nat) (f : Fo), goTo f r = some g0 → ownsOk f r → ownsOk f (r ++ [j]) := by
              intro r
              induction r with
              | nil => intro f k1 _; cases k1; exact ⟨hd, ks, k2, by simpa using hk, trivial⟩
              | cons a r ih =>
                intro f k1 ho
                obtain ⟨h', ks', n1, n2, n3⟩ := ho
                rw [goTo, n1] at k1
                exact ⟨h', ks', n1, n2, ih ks' k1 n3⟩
            exact gen r f k1 ho
    · exact owns_go _ f h2 hg hz
  · exact .inr hz
set_option maxRecDepth 100000 in
set_option maxHeartbeats 8000000 in
theorem qins_bad (f : Fo) (p : List Int) (h : Hd) (ks : Fo) (v pv : Value) (aa : Option Addr) (ca : Nat) (ak : Option Addr) (ck : Nat) (w : World) (hl : Lies w v f) (hp : IntsLie w pv p) (ha : AttrsLie w (.slice aa h.ats.length ca) h.ats) (hk : Lies w (.slice ak ks.len ck) ks) (hs : Small f) (hs1 : Small (.cons h ks .nil)) (hpe : plE f p (.cons h ks .nil) ≠ 0) :
    Calls Tryz.prog 47 #[v, pv, aggOf h aa ca ak ks.len ck] w (FoE w (insV f p (.cons h ks .nil))) := by
  have PL := Lib.hid (fun W (hW : Below w.heap.size w W) y (hy : Lies W y (.cons h ks .nil)) => placed_any f p (.cons h ks .nil) v pv y W (lies_below hl hW) (ints_below hp hW) hy hs hs1)
  have HX := Lib.hid ((pl_ins f p (.cons h ks .nil)).1 hpe)
  generalize insV f p (.cons h ks .nil) = R at *
  generalize plE f p (.cons h ks .nil) = ee at *
  have b0 : (ee != 0) = true := by simpa using hpe
  have HA := Lib.hid ha
  have HK := Lib.hid hk
  obtain ⟨av, cv, rfl⟩ := lies_form hl
  obtain ⟨pa, pc, rfl⟩ := ints_form hp
  clear hl hp ha hk hs hs1 hpe
  unfold aggOf
  go_enter Tryz.func47, Tryz.ntmps47
  go_upto_region 1 with fail
  have kk := World.alloc_heap_new w (.cells #[.int .i64 h.k, .string ⟨h.l.toArray⟩, .slice aa h.ats.length ca, .int .i64 h.n, .int .i64 h.d, .string ⟨h.x.toArray⟩, .slice ak ks.len ck] 43)
  have hb1 : Below w.heap.size w (w.alloc (.cells #[.int .i64 h.k, .string ⟨h.l.toArray⟩, .slice aa h.ats.length ca, .int .i64 h.n, .int .i64 h.d, .string ⟨h.x.toArray⟩, .slice ak ks.len ck] 43)) := (Below.refl _ _).alloc (Nat.le_refl _) _
  have zt0 : w.heap.size < (w.alloc (.cells #[.int .i64 h.k, .string ⟨h.l.toArray⟩, .slice aa h.ats.length ca, .int .i64 h.n, .int .i64 h.d, .string ⟨h.x.toArray⟩, .slice ak ks.len ck] 43)).heap.size := by simp
  generalize w.alloc (.cells #[.int .i64 h.k, .string ⟨h.l.toArray⟩, .slice aa h.ats.length ca, .int .i64 h.n, .int .i64 h.d, .string ⟨h.x.toArray⟩, .slice ak ks.len ck] 43) = X1 at *
  have BX1 : Below w.heap.size w X1 := hb1
  have Kt0 := Lib.hid kk
  clear kk
  have HA := Lib.hid (attrs_below HA.out hb1)
  have HK := Lib.hid (lies_below HK.out hb1)
  obtain ⟨t0, ht⟩ : ∃ t, t = w.heap.size := ⟨_, rfl⟩
  rw [← ht] at Kt0 zt0
  have hpp : (Value.pointer (some ⟨w.heap.size, 0, none⟩)) = .pointer (some ⟨t0, 0, none⟩) := by rw [ht]
  rw [hpp]
  clear hpp ht hb1
  have d0 : X1.cell? ⟨t0, 0, none⟩ = some (.int .i64 h.k) := cell_of_block Kt0.out rfl
  have d1 : X1.cell? ⟨t0, 1, none⟩ = some (.string ⟨h.l.toArray⟩) := cell_of_block Kt0.out rfl
  have d2 : X1.cell? ⟨t0, 2, none⟩ = some (.slice aa h.ats.length ca) := cell_of_block Kt0.out rfl
  have d3 : X1.cell? ⟨t0, 3, none⟩ = some (.int .i64 h.n) := cell_of_block Kt0.out rfl
  have d4 : X1.cell? ⟨t0, 4, none⟩ = some (.int .i64 h.d) := cell_of_block Kt0.out rfl
  have d5 : X1.cell? ⟨t0, 5, none⟩ = some (.string ⟨h.x.toArray⟩) := cell_of_block Kt0.out rfl
  have d6 : X1.cell? ⟨t0, 6, none⟩ = some (.slice ak ks.len ck) := cell_of_block Kt0.out rfl
  have kk := World.alloc_heap_new X1 (.cells #[.int .i64 h.k, .string ⟨h.l.toArray⟩, .slice aa h.ats.length ca, .int .i64 h.n, .int .i64 h.d, .string ⟨h.x.toArray⟩, .slice ak ks.len ck] 43)
  have hb2 : Below X1.heap.size X1 (X1.alloc (.cells #[.int .i64 h.k, .string ⟨h.l.toArray⟩, .slice aa h.ats.length ca, .int .i64 h.n, .int .i64 h.d, .string ⟨h.x.toArray⟩, .slice ak ks.len ck] 43)) := (Below.refl _ _).alloc (Nat.le_refl _) _
  have HA := Lib.hid (attrs_below HA.out hb2)
  have HK := Lib.hid (lies_below HK.out hb2)
  have Kt0 := Lib.hid ((hb2.block _ zt0).trans Kt0.out)
  have zt0 := Nat.lt_of_lt_of_le zt0 hb2.size
  have LT := Lib.hid (lies_one kk HA.out HK.out)
  have BX2 : Below w.heap.size w (X1.alloc (.cells #[.int .i64 h.k, .string ⟨h.l.toArray⟩, .slice aa h.ats.length ca, .int .i64 h.n, .int .i64 h.d, .string ⟨h.x.toArray⟩, .slice ak ks.len ck] 43)) := BX1.trans (hb2.mono BX1.size)
  clear kk hb2
  go_wp2_with fail
  generalize X1.alloc (.cells #[.int .i64 h.k, .string ⟨h.l.toArray⟩, .slice aa h.ats.length ca, .int .i64 h.n, .int .i64 h.d, .string ⟨h.x.toArray⟩, .slice ak ks.len ck] 43) = X2 at *
  clear d0 d1 d2 d3 d4 d5 d6

  refine (PL.out X2 BX2 _ LT.out).mono ?_
  rintro e X3 ⟨rfl, hb3⟩
  have BX3 : Below w.heap.size w X3 := BX2.trans (hb3.mono BX2.size)
  have HA := Lib.hid (attrs_below HA.out hb3)
  have HK := Lib.hid (lies_below HK.out hb3)
  have Kt0 := Lib.hid ((hb3.block _ zt0).trans Kt0.out)
  have zt0 := Nat.lt_of_lt_of_le zt0 hb3.size
  clear LT
  clear hb3
  go_wp2_with fail
  go_ret2
  rw [HX.out]
  exact foE_none BX3

set_option maxRecDepth 100000 in
set_option maxHeartbeats 8000000 in
theorem qins_kids (f : Fo) (q : List Int) (x : Int) (h : Hd) (ks : Fo) (v pv : Value) (aa : Option Addr) (ca : Nat) (ak : Option Addr) (ck : Nat) (w : World) (hl : Lies w v f) (hp : IntsLie w pv (q ++ [x])) (hpl : q.length ≤ 999999) (ha : AttrsLie w (.slice aa h.ats.length ca) h.ats) (hk : Lies w (.slice ak ks.len ck) ks) (hs : Small f) (hs1 : Small (.cons h ks .nil)) (hpe : plE f (q ++ [x]) (.cons h ks .nil) = 0) (hge : (forestV f q).2 ≠ 0) :
    Calls Tryz.prog 47 #[v, pv, aggOf h aa ca ak ks.len ck] w (FoE w (insV f (q ++ [x]) (.cons h ks .nil))) := by
  have PL := Lib.hid (fun W (hW : Below w.heap.size w W) y (hy : Lies W y (.cons h ks .nil)) => placed_any f (q ++ [x]) (.cons h ks .nil) v pv y W (lies_below hl hW) (ints_below hp hW) hy hs hs1)
  obtain ⟨z1, z2, -⟩ := (pl_ins f (q ++ [x]) (.cons h ks .nil)).2 hpe
  rw [hpe] at PL
  obtain ⟨pb0, po0, pcap, rfl, hcp, hpb, hpc, hq⟩ := ints_init hp
  have KI := Lib.hid (fun W (hW : Below w.heap.size w W) => qkids_any f q v _ W (lies_below hl hW) hs (ints_below hq hW) (by omega))
  rw [kids_forest z1] at KI
  obtain ⟨R, hR⟩ : ∃ R, insV f (q ++ [x]) (.cons h ks .nil) = R := ⟨_, rfl⟩
  rw [hR]
  rw [insV_snoc, z1, z2, if_pos (by rfl)] at hR
  have HX := Lib.hid (show R = (.nil, (forestV f q).2) by rw [← hR]; unfold insU; rw [if_pos hge])
  have b1 : ((forestV f q).2 != 0) = true := by simpa using hge
  simp only [List.length_append, List.length_cons, List.length_nil, Nat.zero_add] at hcp PL ⊢
  obtain ⟨L1, hL1⟩ : ∃ n, q.length + 1 = n := ⟨_, rfl⟩
  rw [hL1] at PL ⊢
  have eL : ((L1 : Int) - 1) = (q.length : Int) := by omega
  have dq : decide (q.length < L1) = true := by simp; omega
  have hLc : q.length ≤ pcap := by omega
  generalize forestV f q = fv at *
  obtain ⟨g, ge⟩ := fv
  have HA := Lib.hid ha
  have HK := Lib.hid hk
  have DP := Lib.hid hpc
  obtain ⟨av, cv, rfl⟩ := lies_form hl
  simp only at b1 
  clear hl hp ha hk hs hs1 hR hpe z1 z2 hge hpc hq hcp hL1
  unfold aggOf
  go_enter Tryz.func47, Tryz.ntmps47
  go_upto_region 1 with fail
  have kk := World.alloc_heap_new w (.cells #[.int .i64 h.k, .string ⟨h.l.toArray⟩, .slice aa h.ats.length ca, .int .i64 h.n, .int .i64 h.d, .string ⟨h.x.toArray⟩, .slice ak ks.len ck] 43)
  have hb1 : Below w.heap.size w (w.alloc (.cells #[.int .i64 h.k, .string ⟨h.l.toArray⟩, .slice aa h.ats.length ca, .int .i64 h.n, .int .i64 h.d, .string ⟨h.x.toArray⟩, .slice ak ks.len ck] 43)) := (Below.refl _ _).alloc (Nat.le_refl _) _
  have zt0 : w.heap.size < (w.alloc (.cells #[.int .i64 h.k, .string ⟨h.l.toArray⟩, .slice aa h.ats.length ca, .int .i64 h.n, .int .i64 h.d, .string ⟨h.x.toArray⟩, .slice ak ks.len ck] 43)).heap.size := by simp
  generalize w.alloc (.cells #[.int .i64 h.k, .string ⟨h.l.toArray⟩, .slice aa h.ats.length ca, .int .i64 h.n, .int .i64 h.d, .string ⟨h.x.toArray⟩, .slice ak ks.len ck] 43) = X1 at *
  have BX1 : Below w.heap.size w X1 := hb1
  have Kt0 := Lib.hid kk
  clear kk
  have HA := Lib.hid (attrs_below HA.out hb1)
  have HK := Lib.hid (lies_below HK.out hb1)
  obtain ⟨t0, ht⟩ : ∃ t, t = w.heap.size := ⟨_, rfl⟩
  rw [← ht] at Kt0 zt0
  have hpp : (Value.pointer (some ⟨w.heap.size, 0, none⟩)) = .pointer (some ⟨t0, 0, none⟩) := by rw [ht]
  rw [hpp]
  clear hpp ht hb1
  have d0 : X1.cell? ⟨t0, 0, none⟩ = some (.int .i64 h.k) := cell_of_block Kt0.out rfl
  have d1 : X1.cell? ⟨t0, 1, none⟩ = some (.string ⟨h.l.toArray⟩) := cell_of_block Kt0.out rfl
  have d2 : X1.cell? ⟨t0, 2, none⟩ = some (.slice aa h.ats.length ca) := cell_of_block Kt0.out rfl
  have d3 : X1.cell? ⟨t0, 3, none⟩ = some (.int .i64 h.n) := cell_of_block Kt0.out rfl
  have d4 : X1.cell? ⟨t0, 4, none⟩ = some (.int .i64 h.d) := cell_of_block Kt0.out rfl
  have d5 : X1.cell? ⟨t0, 5, none⟩ = some (.string ⟨h.x.toArray⟩) := cell_of_block Kt0.out rfl
  have d6 : X1.cell? ⟨t0, 6, none⟩ = some (.slice ak ks.len ck) := cell_of_block Kt0.out rfl
  have kk := World.alloc_heap_new X1 (.cells #[.int .i64 h.k, .string ⟨h.l.toArray⟩, .slice aa h.ats.length ca, .int .i64 h.n, .int .i64 h.d, .string ⟨h.x.toArray⟩, .slice ak ks.len ck] 43)
  have hb2 : Below X1.heap.size X1 (X1.alloc (.cells #[.int .i64 h.k, .string ⟨h.l.toArray⟩, .slice aa h.ats.length ca, .int .i64 h.n, .int .i64 h.d, .string ⟨h.x.toArray⟩, .slice ak ks.len ck] 43)) := (Below.refl _ _).alloc (Nat.le_refl _) _
  have HA := Lib.hid (attrs_below HA.out hb2)
  have HK := Lib.hid (lies_below HK.out hb2)
  have Kt0 := Lib.hid ((hb2.block _ zt0).trans Kt0.out)
  have zt0 := Nat.lt_of_lt_of_le zt0 hb2.size
  have LT := Lib.hid (lies_one kk HA.out HK.out)
  have BX2 : Below w.heap.size w (X1.alloc (.cells #[.int .i64 h.k, .string ⟨h.l.toArray⟩, .slice aa h.ats.length ca, .int .i64 h.n, .int .i64 h.d, .string ⟨h.x.toArray⟩, .slice ak ks.len ck] 43)) := BX1.trans (hb2.mono BX1.size)
  clear kk hb2
  go_wp2_with fail
  generalize X1.alloc (.cells #[.int .i64 h.k, .string ⟨h.l.toArray⟩, .slice aa h.ats.length ca, .int .i64 h.n, .int .i64 h.d, .string ⟨h.x.toArray⟩, .slice ak ks.len ck] 43) = X2 at *
  clear d0 d1 d2 d3 d4 d5 d6

  refine (PL.out X2 BX2 _ LT.out).mono ?_
  rintro e X3 ⟨rfl, hb3⟩
  have BX3 : Below w.heap.size w X3 := BX2.trans (hb3.mono BX2.size)
  have HA := Lib.hid (attrs_below HA.out hb3)
  have HK := Lib.hid (lies_below HK.out hb3)
  have Kt0 := Lib.hid ((hb3.block _ zt0).trans Kt0.out)
  have zt0 := Nat.lt_of_lt_of_le zt0 hb3.size
  clear LT
  clear hb3
  go_wp2_with fail
  refine (KI.out X3 BX3).mono ?_
  rintro e X4 ⟨a3, c3, rfl, hL3, hb4⟩
  have BX4 : Below w.heap.size w X4 := BX3.trans (hb4.mono BX3.size)
  have HA := Lib.hid (attrs_below HA.out hb4)
  have HK := Lib.hid (lies_below HK.out hb4)
  have Kt0 := Lib.hid ((hb4.block _ zt0).trans Kt0.out)
  have zt0 := Nat.lt_of_lt_of_le zt0 hb4.size
  clear hL3
  clear hb4
  go_wp2_with fail
  go_ret2
  rw [HX.out]
  exact foE_none BX4

set_option maxRecDepth 100000 in
set_option maxHeartbeats 8000000 in
theorem qins_out (f : Fo) (q : List Int) (x : Int) (h : Hd) (ks : Fo) (v pv : Value) (aa : Option Addr) (ca : Nat) (ak : Option Addr) (ck : Nat) (w : World) (hl : Lies w v f) (hp : IntsLie w pv (q ++ [x])) (hpl : q.length ≤ 999999) (ha : AttrsLie w (.slice aa h.ats.length ca) h.ats) (hk : Lies w (.slice ak ks.len ck) ks) (hs : Small f) (hs1 : Small (.cons h ks .nil)) (hpe : plE f (q ++ [x]) (.cons h ks .nil) = 0) (hge : (forestV f q).2 = 0) (hx : x < 0 ∨ ((forestV f q).1.len : Int) < x) :
    Calls Tryz.prog 47 #[v, pv, aggOf h aa ca ak ks.len ck] w (FoE w (insV f (q ++ [x]) (.cons h ks .nil))) := by
  have PL := Lib.hid (fun W (hW : Below w.heap.size w W) y (hy : Lies W y (.cons h ks .nil)) => placed_any f (q ++ [x]) (.cons h ks .nil) v pv y W (lies_below hl hW) (ints_below hp hW) hy hs hs1)
  obtain ⟨z1, z2, -⟩ := (pl_ins f (q ++ [x]) (.cons h ks .nil)).2 hpe
  rw [hpe] at PL
  obtain ⟨pb0, po0, pcap, rfl, hcp, hpb, hpc, hq⟩ := ints_init hp
  have KI := Lib.hid (fun W (hW : Below w.heap.size w W) => qkids_any f q v _ W (lies_below hl hW) hs (ints_below hq hW) (by omega))
  rw [kids_forest z1] at KI
  obtain ⟨R, hR⟩ : ∃ R, insV f (q ++ [x]) (.cons h ks .nil) = R := ⟨_, rfl⟩
  rw [hR]
  rw [insV_snoc, z1, z2, if_pos (by rfl)] at hR
  have HX := Lib.hid (show R = (.nil, 6) by rw [← hR]; unfold insU; rw [if_neg (by simpa using hge), if_pos hx])
  have b1 : ((forestV f q).2 != 0) = false := by simpa using hge
  have IN := Lib.hid (fun W => in_any x 0 ((forestV f q).1.len) W)
  rw [show inB x 0 ((forestV f q).1.len) = false by unfold inB; simp; omega] at IN
  simp only [List.length_append, List.length_cons, List.length_nil, Nat.zero_add] at hcp PL ⊢
  obtain ⟨L1, hL1⟩ : ∃ n, q.length + 1 = n := ⟨_, rfl⟩
  rw [hL1] at PL ⊢
  have eL : ((L1 : Int) - 1) = (q.length : Int) := by omega
  have dq : decide (q.length < L1) = true := by simp; omega
  have hLc : q.length ≤ pcap := by omega
  generalize forestV f q = fv at *
  obtain ⟨g, ge⟩ := fv
  have HA := Lib.hid ha
  have HK := Lib.hid hk
  have DP := Lib.hid hpc
  obtain ⟨av, cv, rfl⟩ := lies_form hl
  simp only at b1 IN
  clear hl hp ha hk hs hs1 hR hpe z1 z2 hge hpc hq hcp hL1 hx
  unfold aggOf
  go_enter Tryz.func47, Tryz.ntmps47
  go_upto_region 1 with fail
  have kk := World.alloc_heap_new w (.cells #[.int .i64 h.k, .string ⟨h.l.toArray⟩, .slice aa h.ats.length ca, .int .i64 h.n, .int .i64 h.d, .string ⟨h.x.toArray⟩, .slice ak ks.len ck] 43)
  have hb1 : Below w.heap.size w (w.alloc (.cells #[.int .i64 h.k, .string ⟨h.l.toArray⟩, .slice aa h.ats.length ca, .int .i64 h.n, .int .i64 h.d, .string ⟨h.x.toArray⟩, .slice ak ks.len ck] 43)) := (Below.refl _ _).alloc (Nat.le_refl _) _
  have zt0 : w.heap.size < (w.alloc (.cells #[.int .i64 h.k, .string ⟨h.l.toArray⟩, .slice aa h.ats.length ca, .int .i64 h.n, .int .i64 h.d, .string ⟨h.x.toArray⟩, .slice ak ks.len ck] 43)).heap.size := by simp
  generalize w.alloc (.cells #[.int .i64 h.k, .string ⟨h.l.toArray⟩, .slice aa h.ats.length ca, .int .i64 h.n, .int .i64 h.d, .string ⟨h.x.toArray⟩, .slice ak ks.len ck] 43) = X1 at *
  have BX1 : Below w.heap.size w X1 := hb1
  have Kt0 := Lib.hid kk
  clear kk
  have HA := Lib.hid (attrs_below HA.out hb1)
  have HK := Lib.hid (lies_below HK.out hb1)
  obtain ⟨t0, ht⟩ : ∃ t, t = w.heap.size := ⟨_, rfl⟩
  rw [← ht] at Kt0 zt0
  have hpp : (Value.pointer (some ⟨w.heap.size, 0, none⟩)) = .pointer (some ⟨t0, 0, none⟩) := by rw [ht]
  rw [hpp]
  clear hpp ht hb1
  have d0 : X1.cell? ⟨t0, 0, none⟩ = some (.int .i64 h.k) := cell_of_block Kt0.out rfl
  have d1 : X1.cell? ⟨t0, 1, none⟩ = some (.string ⟨h.l.toArray⟩) := cell_of_block Kt0.out rfl
  have d2 : X1.cell? ⟨t0, 2, none⟩ = some (.slice aa h.ats.length ca) := cell_of_block Kt0.out rfl
  have d3 : X1.cell? ⟨t0, 3, none⟩ = some (.int .i64 h.n) := cell_of_block Kt0.out rfl
  have d4 : X1.cell? ⟨t0, 4, none⟩ = some (.int .i64 h.d) := cell_of_block Kt0.out rfl
  have d5 : X1.cell? ⟨t0, 5, none⟩ = some (.string ⟨h.x.toArray⟩) := cell_of_block Kt0.out rfl
  have d6 : X1.cell? ⟨t0, 6, none⟩ = some (.slice ak ks.len ck) := cell_of_block Kt0.out rfl
  have kk := World.alloc_heap_new X1 (.cells #[.int .i64 h.k, .string ⟨h.l.toArray⟩, .slice aa h.ats.length ca, .int .i64 h.n, .int .i64 h.d, .string ⟨h.x.toArray⟩, .slice ak ks.len ck] 43)
  have hb2 : Below X1.heap.size X1 (X1.alloc (.cells #[.int .i64 h.k, .string ⟨h.l.toArray⟩, .slice aa h.ats.length ca, .int .i64 h.n, .int .i64 h.d, .string ⟨h.x.toArray⟩, .slice ak ks.len ck] 43)) := (Below.refl _ _).alloc (Nat.le_refl _) _
  have HA := Lib.hid (attrs_below HA.out hb2)
  have HK := Lib.hid (lies_below HK.out hb2)
  have Kt0 := Lib.hid ((hb2.block _ zt0).trans Kt0.out)
  have zt0 := Nat.lt_of_lt_of_le zt0 hb2.size
  have LT := Lib.hid (lies_one kk HA.out HK.out)
  have BX2 : Below w.heap.size w (X1.alloc (.cells #[.int .i64 h.k, .string ⟨h.l.toArray⟩, .slice aa h.ats.length ca, .int .i64 h.n, .int .i64 h.d, .string ⟨h.x.toArray⟩, .slice ak ks.len ck] 43)) := BX1.trans (hb2.mono BX1.size)
  clear kk hb2
  go_wp2_with fail
  generalize X1.alloc (.cells #[.int .i64 h.k, .string ⟨h.l.toArray⟩, .slice aa h.ats.length ca, .int .i64 h.n, .int .i64 h.d, .string ⟨h.x.toArray⟩, .slice ak ks.len ck] 43) = X2 at *
  clear d0 d1 d2 d3 d4 d5 d6

  refine (PL.out X2 BX2 _ LT.out).mono ?_
  rintro e X3 ⟨rfl, hb3⟩
  have BX3 : Below w.heap.size w X3 := BX2.trans (hb3.mono BX2.size)
  have HA := Lib.hid (attrs_below HA.out hb3)
  have HK := Lib.hid (lies_below HK.out hb3)
  have Kt0 := Lib.hid ((hb3.block _ zt0).trans Kt0.out)
  have zt0 := Nat.lt_of_lt_of_le zt0 hb3.size
  clear LT
  clear hb3
  go_wp2_with fail
  refine (KI.out X3 BX3).mono ?_
  rintro e X4 ⟨a3, c3, rfl, hL3, hb4⟩
  have BX4 : Below w.heap.size w X4 := BX3.trans (hb4.mono BX3.size)
  have HA := Lib.hid (attrs_below HA.out hb4)
  have HK := Lib.hid (lies_below HK.out hb4)
  have Kt0 := Lib.hid ((hb4.block _ zt0).trans Kt0.out)
  have zt0 := Nat.lt_of_lt_of_le zt0 hb4.size
  clear hL3
  clear hb4
  have d0 := (BX4.cell (p := ⟨pb0, po0 + q.length, none⟩) hpb).trans DP.out
  have hpb2 : pb0 < X4.heap.size := by have := BX4.size; omega
  go_wp2_with fail
  refine (IN.out X4).mono ?_
  rintro e X5 ⟨rfl, hww⟩
  obtain rfl := hww
  clear d0 hpb2
  go_wp2_with fail
  go_ret2
  rw [HX.out]
  exact foE_none BX4

set_option maxRecDepth 100000 in
set_option maxHeartbeats 8000000 in
theorem qins_in (f : Fo) (q : List Int) (x : Int) (h : Hd) (ks : Fo) (v pv : Value) (aa : Option Addr) (ca : Nat) (ak : Option Addr) (ck : Nat) (w : World) (hl : Lies w v f) (hp : IntsLie w pv (q ++ [x])) (hpl : q.length ≤ 999999) (ha : AttrsLie w (.slice aa h.ats.length ca) h.ats) (hk : Lies w (.slice ak ks.len ck) ks) (hs : Small f) (hs1 : Small (.cons h ks .nil)) (hpe : plE f (q ++ [x]) (.cons h ks .nil) = 0) (hge : (forestV f q).2 = 0) (hx : ¬ (x < 0 ∨ ((forestV f q).1.len : Int) < x)) :
    Calls Tryz.prog 47 #[v, pv, aggOf h aa ca ak ks.len ck] w (FoE w (insV f (q ++ [x]) (.cons h ks .nil))) := by
  have PL := Lib.hid (fun W (hW : Below w.heap.size w W) y (hy : Lies W y (.cons h ks .nil)) => placed_any f (q ++ [x]) (.cons h ks .nil) v pv y W (lies_below hl hW) (ints_below hp hW) hy hs hs1)
  obtain ⟨z1, z2, -⟩ := (pl_ins f (q ++ [x]) (.cons h ks .nil)).2 hpe
  rw [hpe] at PL
  obtain ⟨pb0, po0, pcap, rfl, hcp, hpb, hpc, hq⟩ := ints_init hp
  have KI := Lib.hid (fun W (hW : Below w.heap.size w W) => qkids_any f q v _ W (lies_below hl hW) hs (ints_below hq hW) (by omega))
  rw [kids_forest z1] at KI
  obtain ⟨R, hR⟩ : ∃ R, insV f (q ++ [x]) (.cons h ks .nil) = R := ⟨_, rfl⟩
  rw [hR]
  rw [insV_snoc, z1, z2, if_pos (by rfl)] at hR
  have hff : forestV f q = ((forestV f q).1, 0) := by rw [← hge]
  obtain ⟨i1, i2, i3, i4⟩ := insU_there (t := .cons h ks .nil) hff hx
  have hz := (fo_zero.1 z1).2.2
  have ho : ownsOk f (q.map Int.toNat) := by
    rcases forest_ok hff with h | h
    · exact h
    · exact absurd hz h
  obtain ⟨c1, c2⟩ := chg_facts (b := .cons h ks .nil) (i := x.toNat) (n := 0) hz (fo_zero.1 z2).2.2 i3 ho
  have HX := Lib.hid (show R = inBnd (changeF f (q.map Int.toNat ++ [x.toNat]) 0 (.cons h ks .nil)) by rw [← hR, i1, changeF_at _ f _ _ _ i3])
  have b1 : ((forestV f q).2 != 0) = false := by simpa using hge
  have IN := Lib.hid (fun W => in_any x 0 ((forestV f q).1.len) W)
  rw [show inB x 0 ((forestV f q).1.len) = true by unfold inB; simp; omega] at IN
  have CH := Lib.hid (fun W (hW : Below w.heap.size w W) y (hy : Lies W y (.cons h ks .nil)) => changed_any (q.map Int.toNat ++ [x.toNat]) f 0 (.cons h ks .nil) v (.slice (some ⟨pb0, po0, none⟩) (q ++ [x]).length pcap) y W (lies_below hl hW) (i2 ▸ ints_below hp hW) hy (okC_of _ f i3 (by omega)) hs.size hs1.size (by rw [List.length_append, List.length_map]; simp; omega))
  have BD := Lib.hid (fun a c W (hW : Lies W (.slice a (changeF f (q.map Int.toNat ++ [x.toNat]) 0 (.cons h ks .nil)).len c) (changeF f (q.map Int.toNat ++ [x.toNat]) 0 (.cons h ks .nil))) => bounded_any _ a c W hW c1 (by have := (fo_zero.1 z2).1; have := (fo_zero.1 z1).1; omega))
  simp only [List.length_append, List.length_cons, List.length_nil, Nat.zero_add] at CH
  generalize changeF f (q.map Int.toNat ++ [x.toNat]) 0 (.cons h ks .nil) = F at *
  clear hff i1 i2 i3 i4 hz ho c1 c2
  simp only [List.length_append, List.length_cons, List.length_nil, Nat.zero_add] at hcp PL ⊢
  obtain ⟨L1, hL1⟩ : ∃ n, q.length + 1 = n := ⟨_, rfl⟩
  rw [hL1] at PL CH ⊢
  have eL : ((L1 : Int) - 1) = (q.length : Int) := by omega
  have dq : decide (q.length < L1) = true := by simp; omega
  have hLc : q.length ≤ pcap := by omega
  generalize forestV f q = fv at *
  obtain ⟨g, ge⟩ := fv
  have HA := Lib.hid ha
  have HK := Lib.hid hk
  have DP := Lib.hid hpc
  obtain ⟨av, cv, rfl⟩ := lies_form hl
  simp only at b1 IN
  clear hl hp ha hk hs hs1 hR hpe z1 z2 hge hpc hq hcp hL1 hx
  unfold aggOf
  go_enter Tryz.func47, Tryz.ntmps47
  go_upto_region 1 with fail
  have kk := World.alloc_heap_new w (.cells #[.int .i64 h.k, .string ⟨h.l.toArray⟩, .slice aa h.ats.length ca, .int .i64 h.n, .int .i64 h.d, .string ⟨h.x.toArray⟩, .slice ak ks.len ck] 43)
  have hb1 : Below w.heap.size w (w.alloc (.cells #[.int .i64 h.k, .string ⟨h.l.toArray⟩, .slice aa h.ats.length ca, .int .i64 h.n, .int .i64 h.d, .string ⟨h.x.toArray⟩, .slice ak ks.len ck] 43)) := (Below.refl _ _).alloc (Nat.le_refl _) _
  have zt0 : w.heap.size < (w.alloc (.cells #[.int .i64 h.k, .string ⟨h.l.toArray⟩, .slice aa h.ats.length ca, .int .i64 h.n, .int .i64 h.d, .string ⟨h.x.toArray⟩, .slice ak ks.len ck] 43)).heap.size := by simp
  generalize w.alloc (.cells #[.int .i64 h.k, .string ⟨h.l.toArray⟩, .slice aa h.ats.length ca, .int .i64 h.n, .int .i64 h.d, .string ⟨h.x.toArray⟩, .slice ak ks.len ck] 43) = X1 at *
  have BX1 : Below w.heap.size w X1 := hb1
  have Kt0 := Lib.hid kk
  clear kk
  have HA := Lib.hid (attrs_below HA.out hb1)
  have HK := Lib.hid (lies_below HK.out hb1)
  obtain ⟨t0, ht⟩ : ∃ t, t = w.heap.size := ⟨_, rfl⟩
  rw [← ht] at Kt0 zt0
  have hpp : (Value.pointer (some ⟨w.heap.size, 0, none⟩)) = .pointer (some ⟨t0, 0, none⟩) := by rw [ht]
  rw [hpp]
  clear hpp ht hb1
  have d0 : X1.cell? ⟨t0, 0, none⟩ = some (.int .i64 h.k) := cell_of_block Kt0.out rfl
  have d1 : X1.cell? ⟨t0, 1, none⟩ = some (.string ⟨h.l.toArray⟩) := cell_of_block Kt0.out rfl
  have d2 : X1.cell? ⟨t0, 2, none⟩ = some (.slice aa h.ats.length ca) := cell_of_block Kt0.out rfl
  have d3 : X1.cell? ⟨t0, 3, none⟩ = some (.int .i64 h.n) := cell_of_block Kt0.out rfl
  have d4 : X1.cell? ⟨t0, 4, none⟩ = some (.int .i64 h.d) := cell_of_block Kt0.out rfl
  have d5 : X1.cell? ⟨t0, 5, none⟩ = some (.string ⟨h.x.toArray⟩) := cell_of_block Kt0.out rfl
  have d6 : X1.cell? ⟨t0, 6, none⟩ = some (.slice ak ks.len ck) := cell_of_block Kt0.out rfl
  have kk := World.alloc_heap_new X1 (.cells #[.int .i64 h.k, .string ⟨h.l.toArray⟩, .slice aa h.ats.length ca, .int .i64 h.n, .int .i64 h.d, .string ⟨h.x.toArray⟩, .slice ak ks.len ck] 43)
  have hb2 : Below X1.heap.size X1 (X1.alloc (.cells #[.int .i64 h.k, .string ⟨h.l.toArray⟩, .slice aa h.ats.length ca, .int .i64 h.n, .int .i64 h.d, .string ⟨h.x.toArray⟩, .slice ak ks.len ck] 43)) := (Below.refl _ _).alloc (Nat.le_refl _) _
  have HA := Lib.hid (attrs_below HA.out hb2)
  have HK := Lib.hid (lies_below HK.out hb2)
  have Kt0 := Lib.hid ((hb2.block _ zt0).trans Kt0.out)
  have zt0 := Nat.lt_of_lt_of_le zt0 hb2.size
  have LT := Lib.hid (lies_one kk HA.out HK.out)
  have BX2 : Below w.heap.size w (X1.alloc (.cells #[.int .i64 h.k, .string ⟨h.l.toArray⟩, .slice aa h.ats.length ca, .int .i64 h.n, .int .i64 h.d, .string ⟨h.x.toArray⟩, .slice ak ks.len ck] 43)) := BX1.trans (hb2.mono BX1.size)
  clear kk hb2
  go_wp2_with fail
  generalize X1.alloc (.cells #[.int .i64 h.k, .string ⟨h.l.toArray⟩, .slice aa h.ats.length ca, .int .i64 h.n, .int .i64 h.d, .string ⟨h.x.toArray⟩, .slice ak ks.len ck] 43) = X2 at *
  clear d0 d1 d2 d3 d4 d5 d6

  refine (PL.out X2 BX2 _ LT.out).mono ?_
  rintro e X3 ⟨rfl, hb3⟩
  have BX3 : Below w.heap.size w X3 := BX2.trans (hb3.mono BX2.size)
  have HA := Lib.hid (attrs_below HA.out hb3)
  have HK := Lib.hid (lies_below HK.out hb3)
  have Kt0 := Lib.hid ((hb3.block _ zt0).trans Kt0.out)
  have zt0 := Nat.lt_of_lt_of_le zt0 hb3.size
  clear LT
  clear hb3
  go_wp2_with fail
  refine (KI.out X3 BX3).mono ?_
  rintro e X4 ⟨a3, c3, rfl, hL3, hb4⟩
  have BX4 : Below w.heap.size w X4 := BX3.trans (hb4.mono BX3.size)
  have HA := Lib.hid (attrs_below HA.out hb4)
  have HK := Lib.hid (lies_below HK.out hb4)
  have Kt0 := Lib.hid ((hb4.block _ zt0).trans Kt0.out)
  have zt0 := Nat.lt_of_lt_of_le zt0 hb4.size
  clear hL3
  clear hb4
  have d0 := (BX4.cell (p := ⟨pb0, po0 + q.length, none⟩) hpb).trans DP.out
  have hpb2 : pb0 < X4.heap.size := by have := BX4.size; omega
  go_wp2_with fail
  refine (IN.out X4).mono ?_
  rintro e X5 ⟨rfl, hww⟩
  obtain rfl := hww
  clear d0 hpb2
  have d0 : X4.cell? ⟨t0, 0, none⟩ = some (.int .i64 h.k) := cell_of_block Kt0.out rfl
  have d1 : X4.cell? ⟨t0, 1, none⟩ = some (.string ⟨h.l.toArray⟩) := cell_of_block Kt0.out rfl
  have d2 : X4.cell? ⟨t0, 2, none⟩ = some (.slice aa h.ats.length ca) := cell_of_block Kt0.out rfl
  have d3 : X4.cell? ⟨t0, 3, none⟩ = some (.int .i64 h.n) := cell_of_block Kt0.out rfl
  have d4 : X4.cell? ⟨t0, 4, none⟩ = some (.int .i64 h.d) := cell_of_block Kt0.out rfl
  have d5 : X4.cell? ⟨t0, 5, none⟩ = some (.string ⟨h.x.toArray⟩) := cell_of_block Kt0.out rfl
  have d6 : X4.cell? ⟨t0, 6, none⟩ = some (.slice ak ks.len ck) := cell_of_block Kt0.out rfl
  have kk := World.alloc_heap_new X4 (.cells #[.int .i64 h.k, .string ⟨h.l.toArray⟩, .slice aa h.ats.length ca, .int .i64 h.n, .int .i64 h.d, .string ⟨h.x.toArray⟩, .slice ak ks.len ck] 43)
  have hb5 : Below X4.heap.size X4 (X4.alloc (.cells #[.int .i64 h.k, .string ⟨h.l.toArray⟩, .slice aa h.ats.length ca, .int .i64 h.n, .int .i64 h.d, .string ⟨h.x.toArray⟩, .slice ak ks.len ck] 43)) := (Below.refl _ _).alloc (Nat.le_refl _) _
  have HA := Lib.hid (attrs_below HA.out hb5)
  have HK := Lib.hid (lies_below HK.out hb5)
  have Kt0 := Lib.hid ((hb5.block _ zt0).trans Kt0.out)
  have zt0 := Nat.lt_of_lt_of_le zt0 hb5.size
  have LT := Lib.hid (lies_one kk HA.out HK.out)
  have BX5 : Below w.heap.size w (X4.alloc (.cells #[.int .i64 h.k, .string ⟨h.l.toArray⟩, .slice aa h.ats.length ca, .int .i64 h.n, .int .i64 h.d, .string ⟨h.x.toArray⟩, .slice ak ks.len ck] 43)) := BX4.trans (hb5.mono BX4.size)
  clear kk hb5
  go_wp2_with fail
  generalize X4.alloc (.cells #[.int .i64 h.k, .string ⟨h.l.toArray⟩, .slice aa h.ats.length ca, .int .i64 h.n, .int .i64 h.d, .string ⟨h.x.toArray⟩, .slice ak ks.len ck] 43) = X5 at *
  clear d0 d1 d2 d3 d4 d5 d6

  refine (CH.out X5 BX5 _ LT.out).mono ?_
  rintro e X6 ⟨a9, c9, rfl, hF, hb6⟩
  have BX6 : Below w.heap.size w X6 := BX5.trans (hb6.mono BX5.size)
  have HA := Lib.hid (attrs_below HA.out hb6)
  have HK := Lib.hid (lies_below HK.out hb6)
  have Kt0 := Lib.hid ((hb6.block _ zt0).trans Kt0.out)
  have zt0 := Nat.lt_of_lt_of_le zt0 hb6.size
  have HO := Lib.hid (liesF_mono (B' := w.heap.size) BX5.size hF)
  have HF := Lib.hid (liesF_lies hF)
  clear LT hF
  clear hb6
  have WI := Lib.hid (BD.out _ _ X6 HF.out)
  by_cases hbd : bndErr F = 0
  · have EX := Lib.hid (show inBnd F = (F, 0) by unfold inBnd; rw [if_pos hbd])
    rw [hbd, if_pos rfl] at WI
    clear hbd
    go_wp2_with fail
    refine WI.out.mono ?_
    rintro e X7 ⟨rfl, hb7⟩
    have HG := Lib.hid (liesF_keeps HO.out (Keeps.of_below hb7 : Keeps w.heap.size X6 X7))
    have BX7 := BX6.trans (hb7.mono BX6.size)
    clear hb7
    go_wp2_with fail
    go_ret2
    rw [HX.out, EX.out]
    exact ⟨_, rfl, HG.out, BX7⟩
  · have EX := Lib.hid (show inBnd F = (.nil, bndErr F) by unfold inBnd; rw [if_neg hbd])
    rw [if_neg hbd] at WI
    clear hbd
    go_wp2_with fail
    refine WI.out.mono ?_
    rintro e X7 ⟨rfl, hb7⟩
    have BX7 := BX6.trans (hb7.mono BX6.size)
    clear hb7
    go_wp2_with fail
    go_ret2
    rw [HX.out, EX.out]
    exact foE_none BX7

theorem qins_any (f : Fo) (p : List Int) (h : Hd) (ks : Fo) (v pv : Value) (aa : Option Addr) (ca : Nat) (ak : Option Addr) (ck : Nat) (w : World) (hl : Lies w v f) (hp : IntsLie w pv p) (hpl : p.length ≤ 1000000) (ha : AttrsLie w (.slice aa h.ats.length ca) h.ats) (hk : Lies w (.slice ak ks.len ck) ks) (hs : Small f) (hs1 : Small (.cons h ks .nil)) :
    Calls Tryz.prog 47 #[v, pv, aggOf h aa ca ak ks.len ck] w (FoE w (insV f p (.cons h ks .nil))) := by
  by_cases hpe : plE f p (.cons h ks .nil) = 0
  · obtain ⟨-, -, hp0⟩ := (pl_ins f p (.cons h ks .nil)).2 hpe
    obtain ⟨q, x, rfl⟩ := snoc_of p hp0
    have hql : q.length ≤ 999999 := by rw [List.length_append] at hpl; simp at hpl; omega
    by_cases hge : (forestV f q).2 = 0
    · by_cases hx : x < 0 ∨ ((forestV f q).1.len : Int) < x
      · exact qins_out f q x h ks v pv aa ca ak ck w hl hp hql ha hk hs hs1 hpe hge hx
      · exact qins_in f q x h ks v pv aa ca ak ck w hl hp hql ha hk hs hs1 hpe hge hx
    · exact qins_kids f q x h ks v pv aa ca ak ck w hl hp hql ha hk hs hs1 hpe hge
  · exact qins_bad f p h ks v pv aa ca ak ck w hl hp ha hk hs hs1 hpe
end Go.Proofs.YtcgedpfolloinaaGreat

namespace Go.Proofs.YtcgedpfolloinaaGreat
open Go.RowKit Go.BigFrame

@[go_sem] theorem str_app (a b : List UInt8) : (⟨a.toArray⟩ ++ ⟨b.toArray⟩ : ByteArray) = ⟨(a ++ b).toArray⟩ := by
  apply ByteArray.ext; rw [ByteArray.data_append]; simp
end Go.Proofs.YtcgedpfolloinaaGreat

namespace Go.Proofs.YtcgedpfolloinaaGreat
open Go.RowKit Go.BigFrame

def lenOf : Value → Nat | .string b => b.data.size | _ => 0
end Go.Proofs.YtcgedpfolloinaaGreat

namespace Go.Proofs.YtcgedpfolloinaaGreat
open Go.RowKit

/-- a head's value. -/
def hdA (h : Hd) (va : Value) : Value := .agg #[.int .i64 h.k, .string ⟨h.l.toArray⟩, va, .int .i64 h.n, .int .i64 h.d, .string ⟨h.x.toArray⟩]

end Go.Proofs.YtcgedpfolloinaaGreat

namespace Go.Proofs.YtcgedpfolloinaaGreat
open Go.RowKit

def wrapV (h : Hd) (f : Fo) : Fo × Int :=
  if firstNZ [headErr h, foErr f] = 0 then (if h.k = 0 then inBnd (.cons h f .nil) else (.nil, 9)) else (.nil, firstNZ [headErr h, foErr f])

set_option maxRecDepth 100000 in
set_option maxHeartbeats 8000000 in
theorem twrap_any (h : Hd) (va : Value) (f : Fo) (v : Value) (w : World) (ha : AttrsLie w va h.ats) (hl : Lies w v f) (hf : HdFit h) (hs : Small f) :
    Calls Tryz.prog 52 #[hdA h va, v] w (FoE w (wrapV h f)) := by
  have CH := Lib.hid (fun w1 (hw : Below w.heap.size w w1) => thead_any h _ w1 (attrs_below ha hw) hf)
  have CF := Lib.hid (fun w1 (hw : Below w.heap.size w w1) => tcheck_any f v w1 (lies_below hl hw) hs)
  obtain ⟨aa, ca, rfl⟩ := attrs_form ha
  obtain ⟨a, cap, rfl⟩ := lies_form hl
  have CT := Lib.hid (fun w1 (hw : Below w.heap.size w w1) => cloneTree_any h f aa ca a cap w1 (attrs_below ha hw) (lies_below hl hw))
  obtain ⟨R, hR⟩ : ∃ R, wrapV h f = R := ⟨_, rfl⟩
  rw [hR]
  have HR := Lib.hid hR.symm
  have hsz : f.size + 1 ≤ 1000000 := by have := hs.1; omega
  clear ha hl hs hf hR
  unfold wrapV at HR
  unfold aggOf at CT
  unfold hdA
  generalize headErr h = e1 at *
  generalize foErr f = e2 at *
  go_enter Tryz.func52, Tryz.ntmps52
  go_upto_region 1 with fail
  have kz : (w.alloc (.cells #[.int .i64 h.k, .string ⟨h.l.toArray⟩, .slice aa h.ats.length ca, .int .i64 h.n, .int .i64 h.d, .string ⟨h.x.toArray⟩] 27)).heap[w.heap.size]? = some (.cells #[.int .i64 h.k, .string ⟨h.l.toArray⟩, .slice aa h.ats.length ca, .int .i64 h.n, .int .i64 h.d, .string ⟨h.x.toArray⟩] 27) := World.alloc_heap_new w (.cells #[.int .i64 h.k, .string ⟨h.l.toArray⟩, .slice aa h.ats.length ca, .int .i64 h.n, .int .i64 h.d, .string ⟨h.x.toArray⟩] 27)
  have B0 : Below w.heap.size w (w.alloc (.cells #[.int .i64 h.k, .string ⟨h.l.toArray⟩, .slice aa h.ats.length ca, .int .i64 h.n, .int .i64 h.d, .string ⟨h.x.toArray⟩] 27)) := by ((repeat' (first | exact Below.refl _ _ | assumption | refine Below.setCell ?_ ?_ _ | refine bdrewN ?_ _ | refine Below.drew ?_ | refine Below.alloc ?_ ?_ _ | refine bbehind ?_ (by assumption) ?_)); all_goals first | (simp; done) | (simp; omega) | omega)
  have hs0 : w.heap.size + 1 ≤ (w.alloc (.cells #[.int .i64 h.k, .string ⟨h.l.toArray⟩, .slice aa h.ats.length ca, .int .i64 h.n, .int .i64 h.d, .string ⟨h.x.toArray⟩] 27)).heap.size := by simp
  generalize w.alloc (.cells #[.int .i64 h.k, .string ⟨h.l.toArray⟩, .slice aa h.ats.length ca, .int .i64 h.n, .int .i64 h.d, .string ⟨h.x.toArray⟩] 27) = W at *
  have d0 : W.cell? ⟨w.heap.size, 0, none⟩ = some (.int .i64 h.k) := cell_of_block kz rfl
  have d1 : W.cell? ⟨w.heap.size, 1, none⟩ = some (.string ⟨h.l.toArray⟩) := cell_of_block kz rfl
  have d2 : W.cell? ⟨w.heap.size, 2, none⟩ = some (.slice aa h.ats.length ca) := cell_of_block kz rfl
  have d3 : W.cell? ⟨w.heap.size, 3, none⟩ = some (.int .i64 h.n) := cell_of_block kz rfl
  have d4 : W.cell? ⟨w.heap.size, 4, none⟩ = some (.int .i64 h.d) := cell_of_block kz rfl
  have d5 : W.cell? ⟨w.heap.size, 5, none⟩ = some (.string ⟨h.x.toArray⟩) := cell_of_block kz rfl

  have KZ := Lib.hid kz
  clear kz
  go_wp2_with fail
  refine (CH.out W B0).mono ?_
  rintro e w1 ⟨rfl, hb1⟩
  have B1 := B0.trans (hb1.mono B0.size)
  have K1 := Lib.hid ((hb1.block _ (by omega)).trans KZ.out)
  have hs1 := hb1.size
  clear hb1 d0 d1 d2 d3 d4 d5
  go_wp2_with fail
  refine (CF.out w1 B1).mono ?_
  rintro e w2 ⟨rfl, hb2⟩
  have B2 := B1.trans (hb2.mono B1.size)
  have K2 := Lib.hid ((hb2.block _ (by omega)).trans K1.out)
  have hs2 := hb2.size
  clear hb2
  go_wp2_with fail
  have B3 : Below w.heap.size w (w2.alloc (.cells #[.int .i64 e1, .int .i64 e2] 32)) := B2.alloc B2.size _
  have hi3 := ints_pair (World.alloc_heap_new w2 (.cells #[.int .i64 e1, .int .i64 e2] 32)) (by simp)
  have k3 : (w2.alloc (.cells #[.int .i64 e1, .int .i64 e2] 32)).heap[w.heap.size]? = _ := (Below.heap_alloc _ _ _ (by omega)).trans K2.out
  generalize w2.alloc (.cells #[.int .i64 e1, .int .i64 e2] 32) = w3 at *
  refine (terr_any _ _ _ hi3 (by simp)).mono ?_
  rintro e w4 ⟨rfl, hw⟩
  obtain rfl := hw
  generalize firstNZ [e1, e2] = ee at *
  clear hi3 B2
  have g0 : w3.cell? ⟨w.heap.size, 0, none⟩ = some (.int .i64 h.k) := cell_of_block k3 rfl
  have g1 : w3.cell? ⟨w.heap.size, 1, none⟩ = some (.string ⟨h.l.toArray⟩) := cell_of_block k3 rfl
  have g2 : w3.cell? ⟨w.heap.size, 2, none⟩ = some (.slice aa h.ats.length ca) := cell_of_block k3 rfl
  have g3 : w3.cell? ⟨w.heap.size, 3, none⟩ = some (.int .i64 h.n) := cell_of_block k3 rfl
  have g4 : w3.cell? ⟨w.heap.size, 4, none⟩ = some (.int .i64 h.d) := cell_of_block k3 rfl
  have g5 : w3.cell? ⟨w.heap.size, 5, none⟩ = some (.string ⟨h.x.toArray⟩) := cell_of_block k3 rfl

  clear k3
  by_cases h0 : ee = 0
  rotate_left
  · have HX := HR.out.trans (if_neg h0)
    subst HX
    have b0 : (ee != 0) = true := by simpa using h0
    clear h0
    go_wp2_with fail
    go_ret2
    exact ⟨.slice none 0 0, rfl, .inl ⟨_, _, rfl, rfl⟩, B3⟩
  have HX := Lib.hid (HR.out.trans (if_pos h0))
  have b0 : (ee != 0) = false := by simpa using h0
  clear h0 HR
  by_cases hk : h.k = 0
  rotate_left
  · have HY := HX.out.trans (if_neg hk)
    subst HY
    have bk : (h.k != 0) = true := by simpa using hk
    clear hk
    go_wp2_with fail
    go_ret2
    exact ⟨.slice none 0 0, rfl, .inl ⟨_, _, rfl, rfl⟩, B3⟩
  have HY := Lib.hid (HX.out.trans (if_pos hk))
  have bk : (h.k != 0) = false := by simpa using hk
  clear hk HX
  go_wp2_with fail
  refine (CT.out w3 B3).mono ?_
  rintro e w5 ⟨a5, c5, a6, c6, rfl, hfa, hfk, hb5⟩
  have B5 := B3.trans (hb5.mono B3.size)
  have FA := Lib.hid (attrsF_mono B3.size hfa)
  have FK := Lib.hid (liesF_mono B3.size hfk)
  clear hfa hfk hb5 g0 g1 g2 g3 g4 g5
  unfold aggOf
  go_wp2_with fail
  have kk := World.alloc_heap_new w5 (.cells #[.int .i64 h.k, .string ⟨h.l.toArray⟩, .slice a5 h.ats.length c5, .int .i64 h.n, .int .i64 h.d, .string ⟨h.x.toArray⟩, .slice a6 f.len c6] 43)
  have B6 : Below w.heap.size w (w5.alloc (.cells #[.int .i64 h.k, .string ⟨h.l.toArray⟩, .slice a5 h.ats.length c5, .int .i64 h.n, .int .i64 h.d, .string ⟨h.x.toArray⟩, .slice a6 f.len c6] 43)) := B5.alloc B5.size _
  have hk6 : Keeps w.heap.size w5 (w5.alloc (.cells #[.int .i64 h.k, .string ⟨h.l.toArray⟩, .slice a5 h.ats.length c5, .int .i64 h.n, .int .i64 h.d, .string ⟨h.x.toArray⟩, .slice a6 f.len c6] 43)) := Keeps.of_below ((Below.refl _ _).alloc (Nat.le_refl _) _)
  have HL6 := Lib.hid (show LiesF w.heap.size (w5.alloc (.cells #[.int .i64 h.k, .string ⟨h.l.toArray⟩, .slice a5 h.ats.length c5, .int .i64 h.n, .int .i64 h.d, .string ⟨h.x.toArray⟩, .slice a6 f.len c6] 43)) (.slice (some ⟨w5.heap.size, 0, none⟩) 1 1) (.cons h f .nil) from
    .inr ⟨w5.heap.size, 0, 1, rfl, Nat.le_refl _, by simp [Fo.len], B5.size, by simp, ⟨cell_of_block kk rfl, cell_of_block kk rfl, ⟨_, cell_of_block kk rfl, attrsF_keeps FA.out hk6⟩, cell_of_block kk rfl, cell_of_block kk rfl, cell_of_block kk rfl⟩, ⟨_, cell_of_block kk rfl, liesF_keeps FK.out hk6⟩, trivial⟩)
  clear kk hk6
  generalize w5.alloc (.cells #[.int .i64 h.k, .string ⟨h.l.toArray⟩, .slice a5 h.ats.length c5, .int .i64 h.n, .int .i64 h.d, .string ⟨h.x.toArray⟩, .slice a6 f.len c6] 43) = w6 at *
  have WI := Lib.hid (show Calls Tryz.prog 109 #[.slice (some ⟨w5.heap.size, 0, none⟩) 1 1] w6 fun e w' => e = .returned (.tuple #[if bndErr (.cons h f .nil) = 0 then .slice (some ⟨w5.heap.size, 0, none⟩) 1 1 else .slice none 0 0, .int .i64 (bndErr (.cons h f .nil))]) ∧ Below w6.heap.size w6 w' from
    within_any (.cons h f .nil) _ 1 w6 (liesF_lies HL6.out) (by simp only [Fo.size]; omega))
  by_cases hb : bndErr (.cons h f .nil) = 0
  · have HZ := HY.out.trans (if_pos hb)
    subst HZ
    rw [hb, if_pos rfl] at WI
    clear hb
    refine WI.out.mono ?_
    rintro e w8 ⟨rfl, hb8⟩
    have HL8 := Lib.hid (liesF_keeps HL6.out (Keeps.of_below hb8 : Keeps w.heap.size w6 w8))
    have B8 := Lib.hid (B6.trans (hb8.mono B6.size))
    clear hb8
    go_wp2_with fail
    go_ret2
    exact ⟨_, rfl, HL8.out, B8.out⟩
  · have HZ := HY.out.trans (if_neg hb)
    subst HZ
    rw [if_neg hb] at WI
    clear hb
    refine WI.out.mono ?_
    rintro e w8 ⟨rfl, hb8⟩
    have B8 := Lib.hid (B6.trans (hb8.mono B6.size))
    clear hb8
    go_wp2_with fail
    go_ret2
    exact ⟨.slice none 0 0, rfl, .inl ⟨_, _, rfl, rfl⟩, B8.out⟩
end Go.Proofs.YtcgedpfolloinaaGreat

namespace Go.Proofs.YtcgedpfolloinaaGreat
open Go.RowKit

set_option maxRecDepth 100000 in
set_option maxHeartbeats 8000000 in
theorem qconcat_any (f g : Fo) (v u : Value) (w : World) (hl : Lies w v f) (hu : Lies w u g) (hs : Small f) (hsg : Small g) :
    Calls Tryz.prog 51 #[v, u] w (FoE w (concatV f g)) := by
  obtain ⟨i0, hi0, hz0, hz1, hz2⟩ := info_parts info_tree
  have CF := Lib.hid (fun W (hW : Below w.heap.size w W) => qcheck_any f v W (lies_below hl hW) hs)
  have CG := Lib.hid (fun W (hW : Below w.heap.size w W) => qcheck_any g u W (lies_below hu hW) hsg)
  have KF := Lib.hid (fun W (hW : Below w.heap.size w W) => (copyOfS_any f (by have := hs.size; omega) _ W (lies_below hl hW)).mono fun _ _ H => CopyRes.own rfl H)
  have KG := Lib.hid (fun W (hW : Below w.heap.size w W) => (copyOfS_any g (by have := hsg.size; omega) _ W (lies_below hu hW)).mono fun _ _ H => CopyRes.own rfl H)
  have hfl := len_size f
  have hgl := len_size g
  have hfs := hs.size
  have hgs := hsg.size
  have BD := Lib.hid (fun (h1 : foErr f = 0) (h2 : foErr g = 0) a c W (hW : Lies W (.slice a (f.app g).len c) (f.app g)) => bounded_any (f.app g) a c W hW (heads_app2.2 ⟨(fo_zero.1 h1).2.2, (fo_zero.1 h2).2.2⟩) (by have := (fo_zero.1 h1).1; have := (fo_zero.1 h2).1; rw [Fo.size_app]; omega))
  rw [Fo.len_app] at BD
  obtain ⟨R, hR⟩ : ∃ R, concatV f g = R := ⟨_, rfl⟩
  rw [hR]
  have HR := Lib.hid hR.symm
  unfold concatV at HR
  obtain ⟨av, cv, rfl⟩ := lies_form hl
  obtain ⟨au, cu, rfl⟩ := lies_form hu
  obtain ⟨pb, hpb⟩ : ∃ z : Nat, z = w.heap.size := ⟨_, rfl⟩
  clear hl hu hs hsg hR hpb
  generalize foErr f = e1 at *
  generalize foErr g = e2 at *
  have BX0 := Below.refl w.heap.size w
  by_cases h1 : e1 = 0
  · subst h1
    by_cases h2 : e2 = 0
    · subst h2
      have HX := Lib.hid (HR.out.trans (if_pos rfl))
      have BD2 := Lib.hid (BD.out rfl rfl)
      clear BD HR
      go_enter Tryz.func51, Tryz.ntmps51
      go_wp2_with fail
      refine (CF.out w BX0).mono ?_
      rintro e X1 ⟨rfl, hb1⟩
      go_wp2_with fail
      refine (CG.out X1 hb1).mono ?_
      rintro e X2 ⟨rfl, hb2⟩
      have BX2 := hb1.trans (hb2.mono hb1.size)
      clear hb1 hb2
      go_wp2_with fail
      refine (KF.out X2 BX2).mono ?_
      rintro e X3 ⟨g3, a3, c3, cs3, rfl, R3, hb3⟩
      have BX3 := BX2.trans (hb3.mono BX2.size)
      have R3' := Lib.hid R3
      have hs23 := hb3.size
      clear R3 hb3
      go_wp2_with fail
      refine (KG.out X3 BX3).mono ?_
      rintro e X4 ⟨g4, a4, c4, cs4, rfl, R4, hb4⟩
      have BX4 := Lib.hid (BX3.trans (hb4.mono BX3.size))
      have hz3 : 0 < X3.heap.size ∨ X3.heap.size = 0 := by omega
      have hex : ∃ g', OwnR X2.heap.size g' X3 a3 f.len c3 f cs3 ∧ (g' < X3.heap.size ∨ ∀ k, X3.heap.size ≤ k → k < X4.heap.size → g' ≠ k) := by
        rcases hz3 with h | h
        · obtain ⟨g', r, h1, -⟩ := R3'.out.pick h
          exact ⟨g', r, .inl h1⟩
        · cases a3 with
          | none =>
            refine ⟨X4.heap.size, ⟨fun b hb => by simp [Value.ownBlock] at hb, R3'.out.own, ?_⟩, .inr (fun k _ hk e => by omega)⟩
            have hn := R3'.out.src.2.1 rfl
            have hc : cs3 = [] := List.eq_nil_of_length_eq_zero (by rw [R3'.out.src.1, hn])
            subst hc
            intro W' _ _
            rw [Fo.len_nil hn]; rfl
          | some ad =>
            have hh : ∃ g0, (Value.slice (some ad) f.len c3).ownBlock = some g0 := by
              rcases R3'.out.own.2 with ⟨e, _⟩ | ⟨g', cap, cur, e, _⟩
              · cases e
              · exact ⟨g', by rw [e]; rfl⟩
            obtain ⟨g0, hg0⟩ := hh
            have := (R3'.out.own.lt g0 hg0).2
            omega
      obtain ⟨g3', R3p, hg3⟩ := hex
      have R3b := Lib.hid ((R3p.mono (B' := w.heap.size) BX2.size).below hb4)
      have hs34 := hb4.size
      have S4 := Lib.hid (show Stab w.heap.size g3' X4 g cs4 from fun W hW hc => rowL_mono (B := X3.heap.size) BX3.size g cs4 (R4.st W hW fun k o h1 h2 h3 => hc k o (Nat.le_trans BX3.size h1) h2 (by
        rcases hg3 with h | h
        · omega
        · exact fun e => h k h1 h2 e.symm)))
      have SR4 := Lib.hid R4.src
      have hx4 : w.heap.size ≤ X4.heap.size := BX4.out.size
      clear R4 hb4 hg3 R3p hz3
      go_wp2_with (at_builtin; refine wpList_append_both _ rfl _ _ 28 rfl w.heap.size 43 i0 _ 7 104 Tryz.underlying28 hi0 hz0 hz1 hz2 rfl (by decide) (.slice a3 f.len c3) f.len cs3 rfl R3b.out.own a4 g.len c4 cs4 rfl SR4.out.1 SR4.out.2.1 SR4.out.2.2.1 SR4.out.2.2.2 ?c3 ?c4 ?c5 ?stop)
      case c3 => unfold maxLen; omega
      case c4 => omega
      case c5 => omega
      case stop =>
        intro v' X5 hown hgrow hat
        obtain ⟨g5, a5, c5, rfl, R5, -⟩ := OwnR.append R3b.out S4.out hown hgrow hat
        have BX5 : Below w.heap.size w X5 := BX4.out.grown hgrow (by omega) (fun k hk => (R3b.out.own.lt k hk).1)
        have HO := Lib.hid (R5.lies (Fo.len_app f g) (by omega))
        have WI := Lib.hid (BD2.out a5 c5 X5 (liesF_lies HO.out))
        clear hown hgrow hat R5
        by_cases hbd : bndErr (f.app g) = 0
        · have EX := Lib.hid (show inBnd (f.app g) = (f.app g, 0) by unfold inBnd; rw [if_pos hbd])
          rw [hbd, if_pos rfl] at WI
          clear hbd
          go_wp2_with fail
          refine WI.out.mono ?_
          rintro e X6 ⟨rfl, hb6⟩
          have HG := Lib.hid (liesF_keeps HO.out (Keeps.of_below hb6 : Keeps w.heap.size X5 X6))
          have BX6 := BX5.trans (hb6.mono BX5.size)
          clear hb6
          go_wp2_with fail
          go_ret2
          rw [HX.out, EX.out]
          exact ⟨_, rfl, HG.out, BX6⟩
        · have EX := Lib.hid (show inBnd (f.app g) = (.nil, bndErr (f.app g)) by unfold inBnd; rw [if_neg hbd])
          rw [if_neg hbd] at WI
          clear hbd
          go_wp2_with fail
          refine WI.out.mono ?_
          rintro e X6 ⟨rfl, hb6⟩
          have BX6 := BX5.trans (hb6.mono BX5.size)
          clear hb6
          go_wp2_with fail
          go_ret2
          rw [HX.out, EX.out]
          exact foE_none BX6
    · have HX := Lib.hid (show R = (.nil, e2) by rw [HR.out]; simp [firstNZ, h2])
      have b2 : (e2 != 0) = true := by simpa using h2
      clear h2 HR
      go_enter Tryz.func51, Tryz.ntmps51
      go_wp2_with fail
      refine (CF.out w BX0).mono ?_
      rintro e X1 ⟨rfl, hb1⟩
      go_wp2_with fail
      refine (CG.out X1 hb1).mono ?_
      rintro e X2 ⟨rfl, hb2⟩
      have BX2 := hb1.trans (hb2.mono hb1.size)
      clear hb1 hb2
      go_wp2_with fail
      go_ret2
      rw [HX.out]
      exact foE_none BX2
  · have HX := Lib.hid (show R = (.nil, e1) by rw [HR.out]; simp [firstNZ, h1])
    have b1 : (e1 != 0) = true := by simpa using h1
    clear h1 HR
    go_enter Tryz.func51, Tryz.ntmps51
    go_wp2_with fail
    refine (CF.out w BX0).mono ?_
    rintro e X1 ⟨rfl, hb1⟩
    go_wp2_with fail
    go_ret2
    rw [HX.out]
    exact foE_none hb1
end Go.Proofs.YtcgedpfolloinaaGreat
