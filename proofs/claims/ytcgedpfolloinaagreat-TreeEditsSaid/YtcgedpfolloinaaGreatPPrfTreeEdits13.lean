/- What the proof of PrfTreeEdits rests on, part 13 of 14. -/
import Derived.Shelf.SlicesQ.Reverse
import Derived.Test.YtcgedpfolloinaaGreatPPrfTreeEdits12
namespace Go.Proofs.YtcgedpfolloinaaGreat
open Go.RowKit

theorem liesF_one {B : Nat} {w : World} {b : Nat} {h : Hd} {ks : Fo} {aa : Option Addr} {ca : Nat} {ak : Option Addr} {ck : Nat} (hB : B ≤ b) (hb : w.heap[b]? = some (.cells #[.int .i64 h.k, .string ⟨h.l.toArray⟩, .slice aa h.ats.length ca, .int .i64 h.n, .int .i64 h.d, .string ⟨h.x.toArray⟩, .slice ak ks.len ck] 43)) (ha : AttrsF B w (.slice aa h.ats.length ca) h.ats) (hk : LiesF B w (.slice ak ks.len ck) ks) :
    LiesF B w (.slice (some ⟨b, 0, none⟩) 1 1) (.cons h ks .nil) := by
  have hlt : b < w.heap.size := (Array.getElem?_eq_some_iff.1 hb).1
  exact .inr ⟨b, 0, 1, rfl, Nat.le_refl _, by simp [Fo.len], hB, hlt, ⟨⟨cell_of_block hb rfl, cell_of_block hb rfl, ⟨_, cell_of_block hb rfl, ha⟩, cell_of_block hb rfl, cell_of_block hb rfl, cell_of_block hb rfl⟩, ⟨_, cell_of_block hb rfl, hk⟩, trivial⟩⟩
set_option maxRecDepth 100000 in
set_option maxHeartbeats 8000000 in
theorem qwrap_head (h : Hd) (va : Value) (f : Fo) (v : Value) (w : World) (ha : AttrsLie w va h.ats) (hl : Lies w v f) (hf : HdFit h) (hs : Small f) (h1 : headErr h ≠ 0) :
    Calls Tryz.prog 53 #[hdA h va, v] w (FoE w (wrapV h f)) := by
  have CH := Lib.hid (fun W (hW : Below w.heap.size w W) => qhead_any h _ W (attrs_below ha hW) hf)
  have CF := Lib.hid (fun W (hW : Below w.heap.size w W) => qcheck_any f v W (lies_below hl hW) hs)
  have AO := Lib.hid (fun W (hW : Below w.heap.size w W) => attrsOf_any _ _ W (attrs_below ha hW))
  have CO := Lib.hid (fun W (hW : Below w.heap.size w W) => copyOf_any f.size f (Nat.le_refl _) (by have := hs.size; omega) v W (lies_below hl hW))
  have HR := Lib.hid (show wrapV h f = if firstNZ [headErr h, foErr f] = 0 then (if h.k = 0 then inBnd (.cons h f .nil) else (.nil, 9)) else (.nil, firstNZ [headErr h, foErr f]) from rfl)
  have BD := Lib.hid (fun (z1 : headErr h = 0) (z2 : foErr f = 0) (z3 : h.k = 0) a c W (hW : Lies W (.slice a 1 c) (.cons h f .nil)) => bounded_any (.cons h f .nil) a c W hW (heads_zero.2 ⟨z1, fun hh => hh.1 z3, (fo_zero.1 z2).2.2, rfl⟩) (by have := (fo_zero.1 z2).1; simp only [Fo.size]; omega))
  obtain ⟨aa, ca, rfl⟩ := attrs_form ha
  obtain ⟨av, cv, rfl⟩ := lies_form hl
  obtain ⟨R, hR⟩ : ∃ R, wrapV h f = R := ⟨_, rfl⟩
  rw [hR] at HR ⊢
  clear ha hl hf hs hR
  unfold hdA
  have HX := Lib.hid (show R = (.nil, headErr h) by rw [HR.out]; simp [firstNZ, h1])
  generalize headErr h = e1 at *
  have b1 : (e1 != 0) = true := by simpa using h1
  clear h1 HR BD
  go_enter Tryz.func53, Tryz.ntmps53
  go_upto_region 1 with fail
  have kk := World.alloc_heap_new w (.cells #[.int .i64 h.k, .string ⟨h.l.toArray⟩, .slice aa h.ats.length ca, .int .i64 h.n, .int .i64 h.d, .string ⟨h.x.toArray⟩] 27)
  have B0 : Below w.heap.size w (w.alloc (.cells #[.int .i64 h.k, .string ⟨h.l.toArray⟩, .slice aa h.ats.length ca, .int .i64 h.n, .int .i64 h.d, .string ⟨h.x.toArray⟩] 27)) := by ((repeat' (first | exact Below.refl _ _ | assumption | refine Below.setCell ?_ ?_ _ | refine bdrewN ?_ _ | refine Below.drew ?_ | refine Below.alloc ?_ ?_ _ | refine bbehind ?_ (by assumption) ?_)); all_goals first | (simp; done) | (simp; omega) | omega)
  have zt : w.heap.size < (w.alloc (.cells #[.int .i64 h.k, .string ⟨h.l.toArray⟩, .slice aa h.ats.length ca, .int .i64 h.n, .int .i64 h.d, .string ⟨h.x.toArray⟩] 27)).heap.size := by simp
  generalize w.alloc (.cells #[.int .i64 h.k, .string ⟨h.l.toArray⟩, .slice aa h.ats.length ca, .int .i64 h.n, .int .i64 h.d, .string ⟨h.x.toArray⟩] 27) = X0 at *
  have KT := Lib.hid kk
  clear kk
  obtain ⟨t0, ht⟩ : ∃ t, t = w.heap.size := ⟨_, rfl⟩
  have ht0 : w.heap.size ≤ t0 := by omega
  rw [← ht] at KT zt
  have hpp : (Value.pointer (some ⟨w.heap.size, 0, none⟩)) = .pointer (some ⟨t0, 0, none⟩) := by rw [ht]
  rw [hpp]
  clear hpp ht
  have d0 : X0.cell? ⟨t0, 0, none⟩ = some (.int .i64 h.k) := cell_of_block KT.out rfl
  have d1 : X0.cell? ⟨t0, 1, none⟩ = some (.string ⟨h.l.toArray⟩) := cell_of_block KT.out rfl
  have d2 : X0.cell? ⟨t0, 2, none⟩ = some (.slice aa h.ats.length ca) := cell_of_block KT.out rfl
  have d3 : X0.cell? ⟨t0, 3, none⟩ = some (.int .i64 h.n) := cell_of_block KT.out rfl
  have d4 : X0.cell? ⟨t0, 4, none⟩ = some (.int .i64 h.d) := cell_of_block KT.out rfl
  have d5 : X0.cell? ⟨t0, 5, none⟩ = some (.string ⟨h.x.toArray⟩) := cell_of_block KT.out rfl
  go_wp2_with fail
  refine (CH.out X0 B0).mono ?_
  rintro e X1 ⟨rfl, hb⟩
  have B1 : Below w.heap.size w X1 := B0.trans (hb.mono B0.size)
  have KT := Lib.hid ((hb.block _ zt).trans KT.out)
  have zt := Nat.lt_of_lt_of_le zt hb.size
  clear hb d0 d1 d2 d3 d4 d5
  go_wp2_with fail
  go_ret2
  rw [HX.out]
  exact foE_none B1

set_option maxRecDepth 100000 in
set_option maxHeartbeats 8000000 in
theorem qwrap_fo (h : Hd) (va : Value) (f : Fo) (v : Value) (w : World) (ha : AttrsLie w va h.ats) (hl : Lies w v f) (hf : HdFit h) (hs : Small f) (h1 : headErr h = 0) (h2 : foErr f ≠ 0) :
    Calls Tryz.prog 53 #[hdA h va, v] w (FoE w (wrapV h f)) := by
  have CH := Lib.hid (fun W (hW : Below w.heap.size w W) => qhead_any h _ W (attrs_below ha hW) hf)
  have CF := Lib.hid (fun W (hW : Below w.heap.size w W) => qcheck_any f v W (lies_below hl hW) hs)
  have AO := Lib.hid (fun W (hW : Below w.heap.size w W) => attrsOf_any _ _ W (attrs_below ha hW))
  have CO := Lib.hid (fun W (hW : Below w.heap.size w W) => copyOf_any f.size f (Nat.le_refl _) (by have := hs.size; omega) v W (lies_below hl hW))
  have HR := Lib.hid (show wrapV h f = if firstNZ [headErr h, foErr f] = 0 then (if h.k = 0 then inBnd (.cons h f .nil) else (.nil, 9)) else (.nil, firstNZ [headErr h, foErr f]) from rfl)
  have BD := Lib.hid (fun (z1 : headErr h = 0) (z2 : foErr f = 0) (z3 : h.k = 0) a c W (hW : Lies W (.slice a 1 c) (.cons h f .nil)) => bounded_any (.cons h f .nil) a c W hW (heads_zero.2 ⟨z1, fun hh => hh.1 z3, (fo_zero.1 z2).2.2, rfl⟩) (by have := (fo_zero.1 z2).1; simp only [Fo.size]; omega))
  obtain ⟨aa, ca, rfl⟩ := attrs_form ha
  obtain ⟨av, cv, rfl⟩ := lies_form hl
  obtain ⟨R, hR⟩ : ∃ R, wrapV h f = R := ⟨_, rfl⟩
  rw [hR] at HR ⊢
  clear ha hl hf hs hR
  unfold hdA
  have HX := Lib.hid (show R = (.nil, foErr f) by rw [HR.out]; simp [firstNZ, h1, h2])
  rw [h1] at CH
  generalize foErr f = e2 at *
  have b2 : (e2 != 0) = true := by simpa using h2
  clear h1 h2 HR BD
  go_enter Tryz.func53, Tryz.ntmps53
  go_upto_region 1 with fail
  have kk := World.alloc_heap_new w (.cells #[.int .i64 h.k, .string ⟨h.l.toArray⟩, .slice aa h.ats.length ca, .int .i64 h.n, .int .i64 h.d, .string ⟨h.x.toArray⟩] 27)
  have B0 : Below w.heap.size w (w.alloc (.cells #[.int .i64 h.k, .string ⟨h.l.toArray⟩, .slice aa h.ats.length ca, .int .i64 h.n, .int .i64 h.d, .string ⟨h.x.toArray⟩] 27)) := by ((repeat' (first | exact Below.refl _ _ | assumption | refine Below.setCell ?_ ?_ _ | refine bdrewN ?_ _ | refine Below.drew ?_ | refine Below.alloc ?_ ?_ _ | refine bbehind ?_ (by assumption) ?_)); all_goals first | (simp; done) | (simp; omega) | omega)
  have zt : w.heap.size < (w.alloc (.cells #[.int .i64 h.k, .string ⟨h.l.toArray⟩, .slice aa h.ats.length ca, .int .i64 h.n, .int .i64 h.d, .string ⟨h.x.toArray⟩] 27)).heap.size := by simp
  generalize w.alloc (.cells #[.int .i64 h.k, .string ⟨h.l.toArray⟩, .slice aa h.ats.length ca, .int .i64 h.n, .int .i64 h.d, .string ⟨h.x.toArray⟩] 27) = X0 at *
  have KT := Lib.hid kk
  clear kk
  obtain ⟨t0, ht⟩ : ∃ t, t = w.heap.size := ⟨_, rfl⟩
  have ht0 : w.heap.size ≤ t0 := by omega
  rw [← ht] at KT zt
  have hpp : (Value.pointer (some ⟨w.heap.size, 0, none⟩)) = .pointer (some ⟨t0, 0, none⟩) := by rw [ht]
  rw [hpp]
  clear hpp ht
  have d0 : X0.cell? ⟨t0, 0, none⟩ = some (.int .i64 h.k) := cell_of_block KT.out rfl
  have d1 : X0.cell? ⟨t0, 1, none⟩ = some (.string ⟨h.l.toArray⟩) := cell_of_block KT.out rfl
  have d2 : X0.cell? ⟨t0, 2, none⟩ = some (.slice aa h.ats.length ca) := cell_of_block KT.out rfl
  have d3 : X0.cell? ⟨t0, 3, none⟩ = some (.int .i64 h.n) := cell_of_block KT.out rfl
  have d4 : X0.cell? ⟨t0, 4, none⟩ = some (.int .i64 h.d) := cell_of_block KT.out rfl
  have d5 : X0.cell? ⟨t0, 5, none⟩ = some (.string ⟨h.x.toArray⟩) := cell_of_block KT.out rfl
  go_wp2_with fail
  refine (CH.out X0 B0).mono ?_
  rintro e X1 ⟨rfl, hb⟩
  have B1 : Below w.heap.size w X1 := B0.trans (hb.mono B0.size)
  have KT := Lib.hid ((hb.block _ zt).trans KT.out)
  have zt := Nat.lt_of_lt_of_le zt hb.size
  clear hb d0 d1 d2 d3 d4 d5
  go_wp2_with fail
  refine (CF.out X1 B1).mono ?_
  rintro e X2 ⟨rfl, hb⟩
  have B2 : Below w.heap.size w X2 := B1.trans (hb.mono B1.size)
  have KT := Lib.hid ((hb.block _ zt).trans KT.out)
  have zt := Nat.lt_of_lt_of_le zt hb.size
  clear hb
  go_wp2_with fail
  go_ret2
  rw [HX.out]
  exact foE_none B2

set_option maxRecDepth 100000 in
set_option maxHeartbeats 8000000 in
theorem qwrap_kind (h : Hd) (va : Value) (f : Fo) (v : Value) (w : World) (ha : AttrsLie w va h.ats) (hl : Lies w v f) (hf : HdFit h) (hs : Small f) (h1 : headErr h = 0) (h2 : foErr f = 0) (h3 : h.k ≠ 0) :
    Calls Tryz.prog 53 #[hdA h va, v] w (FoE w (wrapV h f)) := by
  have CH := Lib.hid (fun W (hW : Below w.heap.size w W) => qhead_any h _ W (attrs_below ha hW) hf)
  have CF := Lib.hid (fun W (hW : Below w.heap.size w W) => qcheck_any f v W (lies_below hl hW) hs)
  have AO := Lib.hid (fun W (hW : Below w.heap.size w W) => attrsOf_any _ _ W (attrs_below ha hW))
  have CO := Lib.hid (fun W (hW : Below w.heap.size w W) => copyOf_any f.size f (Nat.le_refl _) (by have := hs.size; omega) v W (lies_below hl hW))
  have HR := Lib.hid (show wrapV h f = if firstNZ [headErr h, foErr f] = 0 then (if h.k = 0 then inBnd (.cons h f .nil) else (.nil, 9)) else (.nil, firstNZ [headErr h, foErr f]) from rfl)
  have BD := Lib.hid (fun (z1 : headErr h = 0) (z2 : foErr f = 0) (z3 : h.k = 0) a c W (hW : Lies W (.slice a 1 c) (.cons h f .nil)) => bounded_any (.cons h f .nil) a c W hW (heads_zero.2 ⟨z1, fun hh => hh.1 z3, (fo_zero.1 z2).2.2, rfl⟩) (by have := (fo_zero.1 z2).1; simp only [Fo.size]; omega))
  obtain ⟨aa, ca, rfl⟩ := attrs_form ha
  obtain ⟨av, cv, rfl⟩ := lies_form hl
  obtain ⟨R, hR⟩ : ∃ R, wrapV h f = R := ⟨_, rfl⟩
  rw [hR] at HR ⊢
  clear ha hl hf hs hR
  unfold hdA
  have HX := Lib.hid (show R = (.nil, 9) by rw [HR.out]; simp [firstNZ, h1, h2, h3])
  rw [h1] at CH
  rw [h2] at CF
  have b3 : (h.k != 0) = true := by simpa using h3
  clear h1 h2 h3 HR BD
  go_enter Tryz.func53, Tryz.ntmps53
  go_upto_region 1 with fail
  have kk := World.alloc_heap_new w (.cells #[.int .i64 h.k, .string ⟨h.l.toArray⟩, .slice aa h.ats.length ca, .int .i64 h.n, .int .i64 h.d, .string ⟨h.x.toArray⟩] 27)
  have B0 : Below w.heap.size w (w.alloc (.cells #[.int .i64 h.k, .string ⟨h.l.toArray⟩, .slice aa h.ats.length ca, .int .i64 h.n, .int .i64 h.d, .string ⟨h.x.toArray⟩] 27)) := by ((repeat' (first | exact Below.refl _ _ | assumption | refine Below.setCell ?_ ?_ _ | refine bdrewN ?_ _ | refine Below.drew ?_ | refine Below.alloc ?_ ?_ _ | refine bbehind ?_ (by assumption) ?_)); all_goals first | (simp; done) | (simp; omega) | omega)
  have zt : w.heap.size < (w.alloc (.cells #[.int .i64 h.k, .string ⟨h.l.toArray⟩, .slice aa h.ats.length ca, .int .i64 h.n, .int .i64 h.d, .string ⟨h.x.toArray⟩] 27)).heap.size := by simp
  generalize w.alloc (.cells #[.int .i64 h.k, .string ⟨h.l.toArray⟩, .slice aa h.ats.length ca, .int .i64 h.n, .int .i64 h.d, .string ⟨h.x.toArray⟩] 27) = X0 at *
  have KT := Lib.hid kk
  clear kk
  obtain ⟨t0, ht⟩ : ∃ t, t = w.heap.size := ⟨_, rfl⟩
  have ht0 : w.heap.size ≤ t0 := by omega
  rw [← ht] at KT zt
  have hpp : (Value.pointer (some ⟨w.heap.size, 0, none⟩)) = .pointer (some ⟨t0, 0, none⟩) := by rw [ht]
  rw [hpp]
  clear hpp ht
  have d0 : X0.cell? ⟨t0, 0, none⟩ = some (.int .i64 h.k) := cell_of_block KT.out rfl
  have d1 : X0.cell? ⟨t0, 1, none⟩ = some (.string ⟨h.l.toArray⟩) := cell_of_block KT.out rfl
  have d2 : X0.cell? ⟨t0, 2, none⟩ = some (.slice aa h.ats.length ca) := cell_of_block KT.out rfl
  have d3 : X0.cell? ⟨t0, 3, none⟩ = some (.int .i64 h.n) := cell_of_block KT.out rfl
  have d4 : X0.cell? ⟨t0, 4, none⟩ = some (.int .i64 h.d) := cell_of_block KT.out rfl
  have d5 : X0.cell? ⟨t0, 5, none⟩ = some (.string ⟨h.x.toArray⟩) := cell_of_block KT.out rfl
  go_wp2_with fail
  refine (CH.out X0 B0).mono ?_
  rintro e X1 ⟨rfl, hb⟩
  have B1 : Below w.heap.size w X1 := B0.trans (hb.mono B0.size)
  have KT := Lib.hid ((hb.block _ zt).trans KT.out)
  have zt := Nat.lt_of_lt_of_le zt hb.size
  clear hb d0 d1 d2 d3 d4 d5
  go_wp2_with fail
  refine (CF.out X1 B1).mono ?_
  rintro e X2 ⟨rfl, hb⟩
  have B2 : Below w.heap.size w X2 := B1.trans (hb.mono B1.size)
  have KT := Lib.hid ((hb.block _ zt).trans KT.out)
  have zt := Nat.lt_of_lt_of_le zt hb.size
  clear hb
  have d0 : X2.cell? ⟨t0, 0, none⟩ = some (.int .i64 h.k) := cell_of_block KT.out rfl
  go_wp2_with fail
  go_ret2
  rw [HX.out]
  exact foE_none B2

set_option maxRecDepth 100000 in
set_option maxHeartbeats 8000000 in
theorem qwrap_ok (h : Hd) (va : Value) (f : Fo) (v : Value) (w : World) (ha : AttrsLie w va h.ats) (hl : Lies w v f) (hf : HdFit h) (hs : Small f) (h1 : headErr h = 0) (h2 : foErr f = 0) (h3 : h.k = 0) (hbd : bndErr (.cons h f .nil) = 0) :
    Calls Tryz.prog 53 #[hdA h va, v] w (FoE w (wrapV h f)) := by
  have CH := Lib.hid (fun W (hW : Below w.heap.size w W) => qhead_any h _ W (attrs_below ha hW) hf)
  have CF := Lib.hid (fun W (hW : Below w.heap.size w W) => qcheck_any f v W (lies_below hl hW) hs)
  have AO := Lib.hid (fun W (hW : Below w.heap.size w W) => attrsOf_any _ _ W (attrs_below ha hW))
  have CO := Lib.hid (fun W (hW : Below w.heap.size w W) => copyOf_any f.size f (Nat.le_refl _) (by have := hs.size; omega) v W (lies_below hl hW))
  have HR := Lib.hid (show wrapV h f = if firstNZ [headErr h, foErr f] = 0 then (if h.k = 0 then inBnd (.cons h f .nil) else (.nil, 9)) else (.nil, firstNZ [headErr h, foErr f]) from rfl)
  have BD := Lib.hid (fun (z1 : headErr h = 0) (z2 : foErr f = 0) (z3 : h.k = 0) a c W (hW : Lies W (.slice a 1 c) (.cons h f .nil)) => bounded_any (.cons h f .nil) a c W hW (heads_zero.2 ⟨z1, fun hh => hh.1 z3, (fo_zero.1 z2).2.2, rfl⟩) (by have := (fo_zero.1 z2).1; simp only [Fo.size]; omega))
  obtain ⟨aa, ca, rfl⟩ := attrs_form ha
  obtain ⟨av, cv, rfl⟩ := lies_form hl
  obtain ⟨R, hR⟩ : ∃ R, wrapV h f = R := ⟨_, rfl⟩
  rw [hR] at HR ⊢
  clear ha hl hf hs hR
  unfold hdA
  have HX := Lib.hid (show R = (.cons h f .nil, 0) by rw [HR.out, h1, h2, if_pos (by rfl), if_pos h3]; unfold inBnd; rw [if_pos hbd])
  have BD2 := Lib.hid (fun a c W (hW : Lies W (.slice a 1 c) (.cons h f .nil)) => show Calls Tryz.prog 107 #[.slice a 1 c] W fun e w' => e = .returned (.tuple #[.slice a 1 c, .int .i64 0]) ∧ Below W.heap.size W w' by
    have := BD.out h1 h2 h3 a c W hW
    rw [hbd, if_pos rfl] at this
    exact this)
  rw [h1] at CH
  rw [h2] at CF
  have b3 : (h.k != 0) = false := by simpa using h3
  clear h1 h2 h3 HR BD hbd
  generalize bndErr (.cons h f .nil) = be at *
  go_enter Tryz.func53, Tryz.ntmps53
  go_upto_region 1 with fail
  have kk := World.alloc_heap_new w (.cells #[.int .i64 h.k, .string ⟨h.l.toArray⟩, .slice aa h.ats.length ca, .int .i64 h.n, .int .i64 h.d, .string ⟨h.x.toArray⟩] 27)
  have B0 : Below w.heap.size w (w.alloc (.cells #[.int .i64 h.k, .string ⟨h.l.toArray⟩, .slice aa h.ats.length ca, .int .i64 h.n, .int .i64 h.d, .string ⟨h.x.toArray⟩] 27)) := by ((repeat' (first | exact Below.refl _ _ | assumption | refine Below.setCell ?_ ?_ _ | refine bdrewN ?_ _ | refine Below.drew ?_ | refine Below.alloc ?_ ?_ _ | refine bbehind ?_ (by assumption) ?_)); all_goals first | (simp; done) | (simp; omega) | omega)
  have zt : w.heap.size < (w.alloc (.cells #[.int .i64 h.k, .string ⟨h.l.toArray⟩, .slice aa h.ats.length ca, .int .i64 h.n, .int .i64 h.d, .string ⟨h.x.toArray⟩] 27)).heap.size := by simp
  generalize w.alloc (.cells #[.int .i64 h.k, .string ⟨h.l.toArray⟩, .slice aa h.ats.length ca, .int .i64 h.n, .int .i64 h.d, .string ⟨h.x.toArray⟩] 27) = X0 at *
  have KT := Lib.hid kk
  clear kk
  obtain ⟨t0, ht⟩ : ∃ t, t = w.heap.size := ⟨_, rfl⟩
  have ht0 : w.heap.size ≤ t0 := by omega
  rw [← ht] at KT zt
  have hpp : (Value.pointer (some ⟨w.heap.size, 0, none⟩)) = .pointer (some ⟨t0, 0, none⟩) := by rw [ht]
  rw [hpp]
  clear hpp ht
  have d0 : X0.cell? ⟨t0, 0, none⟩ = some (.int .i64 h.k) := cell_of_block KT.out rfl
  have d1 : X0.cell? ⟨t0, 1, none⟩ = some (.string ⟨h.l.toArray⟩) := cell_of_block KT.out rfl
  have d2 : X0.cell? ⟨t0, 2, none⟩ = some (.slice aa h.ats.length ca) := cell_of_block KT.out rfl
  have d3 : X0.cell? ⟨t0, 3, none⟩ = some (.int .i64 h.n) := cell_of_block KT.out rfl
  have d4 : X0.cell? ⟨t0, 4, none⟩ = some (.int .i64 h.d) := cell_of_block KT.out rfl
  have d5 : X0.cell? ⟨t0, 5, none⟩ = some (.string ⟨h.x.toArray⟩) := cell_of_block KT.out rfl
  go_wp2_with fail
  refine (CH.out X0 B0).mono ?_
  rintro e X1 ⟨rfl, hb⟩
  have B1 : Below w.heap.size w X1 := B0.trans (hb.mono B0.size)
  have KT := Lib.hid ((hb.block _ zt).trans KT.out)
  have zt := Nat.lt_of_lt_of_le zt hb.size
  clear hb d0 d1 d2 d3 d4 d5
  go_wp2_with fail
  refine (CF.out X1 B1).mono ?_
  rintro e X2 ⟨rfl, hb⟩
  have B2 : Below w.heap.size w X2 := B1.trans (hb.mono B1.size)
  have KT := Lib.hid ((hb.block _ zt).trans KT.out)
  have zt := Nat.lt_of_lt_of_le zt hb.size
  clear hb
  have d0 : X2.cell? ⟨t0, 0, none⟩ = some (.int .i64 h.k) := cell_of_block KT.out rfl
  have d2 : X2.cell? ⟨t0, 2, none⟩ = some (.slice aa h.ats.length ca) := cell_of_block KT.out rfl
  have zt2B : t0 < X2.heap.size := zt
  go_wp2_with fail
  refine (AO.out X2 B2).mono ?_
  rintro e X3 ⟨a4, c4, rfl, hA, hb⟩
  have B3 : Below w.heap.size w X3 := B2.trans (hb.mono B2.size)
  have KT := Lib.hid ((hb.block _ zt).trans KT.out)
  have zt := Nat.lt_of_lt_of_le zt hb.size
  have HA := Lib.hid hA
  have ztB := zt2B
  have ff := frozen_of_block (o := 2) KT.out
  have dd : X3.cell? ⟨t0, 2, none⟩ = some (.slice aa h.ats.length ca) := cell_of_block KT.out rfl
  clear hA hb d0 d2
  go_upto_region 10 with fail
  have KT2 := Lib.hid (show (X3.setCell ⟨t0, 2, none⟩ (.slice a4 h.ats.length c4)).heap[t0]? = some (.cells #[.int .i64 h.k, .string ⟨h.l.toArray⟩, .slice a4 h.ats.length c4, .int .i64 h.n, .int .i64 h.d, .string ⟨h.x.toArray⟩] 27) from set_block KT.out)
  have B4 : Below w.heap.size w (X3.setCell ⟨t0, 2, none⟩ (.slice a4 h.ats.length c4)) := B3.setCell ht0 _
  have zt2 : t0 < (X3.setCell ⟨t0, 2, none⟩ (.slice a4 h.ats.length c4)).heap.size := by rw [set_size']; exact zt
  have HA2 := Lib.hid (show AttrsF w.heap.size (X3.setCell ⟨t0, 2, none⟩ (.slice a4 h.ats.length c4)) (.slice a4 h.ats.length c4) h.ats from attrsF_mono B2.size (attrsF_keeps HA.out (Keeps.setCell _ ztB _ _)))
  clear dd ff HA KT zt B3
  refine wp_region_any (by kernel_rfl) ?_
  change wpAny _ _ _ _ _ _ _ (World.drew _)
  have B5 := B4.drew
  have KT3 := Lib.hid (show (World.drew (X3.setCell ⟨t0, 2, none⟩ (.slice a4 h.ats.length c4))).heap[t0]? = some (.cells #[.int .i64 h.k, .string ⟨h.l.toArray⟩, .slice a4 h.ats.length c4, .int .i64 h.n, .int .i64 h.d, .string ⟨h.x.toArray⟩] 27) from KT2.out)
  have HA3 := Lib.hid (attrsF_keeps HA2.out (⟨Nat.le_refl _, fun _ _ _ _ => rfl⟩ : Keeps w.heap.size _ (World.drew (X3.setCell ⟨t0, 2, none⟩ (.slice a4 h.ats.length c4)))))
  have zt3 : t0 < (World.drew (X3.setCell ⟨t0, 2, none⟩ (.slice a4 h.ats.length c4))).heap.size := zt2
  clear KT2 HA2 zt2 B4
  generalize World.drew (X3.setCell ⟨t0, 2, none⟩ (.slice a4 h.ats.length c4)) = X4 at *
  have KT := Lib.hid KT3.out
  have HA := Lib.hid HA3.out
  clear KT3 HA3
  refine wpAny_take (i := 1) (v := .slice av f.len cv) rfl (by decide +kernel) (by decide +kernel) (by decide +kernel) (fun _ _ _ h => h) (Or.inl ⟨by kernel_rfl, by intro w; go_simp <;> with_reducible rfl⟩) ?_
  simp only [Act.put, List.setIfInBounds_toArray]
  refine wpAny_ready (rs := [0, 2]) (by decide +kernel) (by simp) ?_
  refine AllReady.cons rfl (fun K hK => ?_) (AllReady.cons rfl (fun K hK => ?_) AllReady.nil)
  · have d0 : X4.cell? ⟨t0, 0, none⟩ = some (.int .i64 h.k) := cell_of_block KT.out rfl
    have d1 : X4.cell? ⟨t0, 1, none⟩ = some (.string ⟨h.l.toArray⟩) := cell_of_block KT.out rfl
    have d2 : X4.cell? ⟨t0, 2, none⟩ = some (.slice a4 h.ats.length c4) := cell_of_block KT.out rfl
    have d3 : X4.cell? ⟨t0, 3, none⟩ = some (.int .i64 h.n) := cell_of_block KT.out rfl
    have d4 : X4.cell? ⟨t0, 4, none⟩ = some (.int .i64 h.d) := cell_of_block KT.out rfl
    have d5 : X4.cell? ⟨t0, 5, none⟩ = some (.string ⟨h.x.toArray⟩) := cell_of_block KT.out rfl
    go_simp
    refine hK _ _ ?_
    clear hK K d0 d1 d2 d3 d4 d5
    refine wpAny_ready (rs := [2]) (by decide +kernel) (by simp) ?_
    refine AllReady.cons rfl (fun K hK => ?_) AllReady.nil
    go_simp
    go_wp2_with (go_at_call 95; refine (CO.out X4 B5).mono ?_; rintro e X5 ⟨a5, c5, rfl, hF5, hb⟩)
    have B6 : Below w.heap.size w X5 := B5.trans (hb.mono B5.size)
    have KT := Lib.hid ((hb.block _ zt3).trans KT.out)
    have HA := Lib.hid (attrsF_keeps HA.out (Keeps.of_below hb : Keeps w.heap.size X4 X5))
    have HF := Lib.hid (liesF_mono (B' := w.heap.size) B5.size hF5)
    clear hF5 hb
    refine wpAny_ready (rs := [3]) (by decide +kernel) (by simp) ?_
    refine AllReady.cons rfl (fun K hK => ?_) AllReady.nil
    go_simp
    refine hK _ _ ?_
    clear hK K
    refine wpAny_ready (rs := [4]) (by decide +kernel) (by simp) ?_
    refine AllReady.cons rfl (fun K hK => ?_) AllReady.nil
    go_simp
    refine hK _ _ ?_
    clear hK K
    have kk := World.alloc_heap_new X5 (.cells #[.int .i64 h.k, .string ⟨h.l.toArray⟩, .slice a4 h.ats.length c4, .int .i64 h.n, .int .i64 h.d, .string ⟨h.x.toArray⟩, .slice a5 f.len c5] 43)
    have hb : Below X5.heap.size X5 (X5.alloc (.cells #[.int .i64 h.k, .string ⟨h.l.toArray⟩, .slice a4 h.ats.length c4, .int .i64 h.n, .int .i64 h.d, .string ⟨h.x.toArray⟩, .slice a5 f.len c5] 43)) := (Below.refl _ _).alloc (Nat.le_refl _) _
    have B7 : Below w.heap.size w (X5.alloc (.cells #[.int .i64 h.k, .string ⟨h.l.toArray⟩, .slice a4 h.ats.length c4, .int .i64 h.n, .int .i64 h.d, .string ⟨h.x.toArray⟩, .slice a5 f.len c5] 43)) := B6.trans (hb.mono B6.size)
    have HO := Lib.hid (liesF_one (B := w.heap.size) B6.size kk (attrsF_keeps HA.out (Keeps.of_below hb)) (liesF_keeps HF.out (Keeps.of_below hb)))
    clear kk hb
    generalize X5.alloc (.cells #[.int .i64 h.k, .string ⟨h.l.toArray⟩, .slice a4 h.ats.length c4, .int .i64 h.n, .int .i64 h.d, .string ⟨h.x.toArray⟩, .slice a5 f.len c5] 43) = X6 at *
    refine wpAny_ready (rs := [5]) (by decide +kernel) (by simp) ?_
    refine AllReady.cons rfl (fun K hK => ?_) AllReady.nil
    go_simp
    go_wp2_with (go_at_call 107; refine (BD2.out _ _ X6 (liesF_lies HO.out)).mono ?_; rintro e X7 ⟨rfl, hb⟩)
    have B8 : Below w.heap.size w X7 := B7.trans (hb.mono B7.size)
    have HG := Lib.hid (liesF_keeps HO.out (Keeps.of_below hb : Keeps w.heap.size X6 X7))
    clear hb
    refine wpAny_take (i := 6) (v := .slice (some ⟨X5.heap.size, 0, none⟩) 1 1) rfl (by decide +kernel) (by decide +kernel) (by decide +kernel) (fun _ _ _ h => h) (Or.inl ⟨by kernel_rfl, by intro w; go_simp <;> with_reducible rfl⟩) ?_
    simp only [Act.put]
    refine wpAny_take (i := 7) (v := .int .i64 0) rfl (by decide +kernel) (by decide +kernel) (by decide +kernel) (fun _ _ _ h => h) (Or.inl ⟨by kernel_rfl, by intro w; go_simp <;> with_reducible rfl⟩) ?_
    simp only [Act.put]
    refine wpAny_ready (rs := [8]) (by decide +kernel) (by simp) ?_
    refine AllReady.cons rfl (fun K hK => ?_) AllReady.nil
    go_simp
    refine hK _ _ ?_
    clear hK K
    refine wpAny_ready (rs := [9]) (by decide +kernel) (by simp) ?_
    refine AllReady.cons rfl (fun K hK => ?_) AllReady.nil
    go_simp
    refine hK _ _ ?_
    clear hK K
    refine wpAny_done (by decide +kernel) ?_ _
    go_wp2_with fail
    go_ret2
    rw [HX.out]
    exact ⟨_, rfl, HG.out, B8⟩

  · go_simp
    go_wp2_with (go_at_call 95; refine (CO.out X4 B5).mono ?_; rintro e X5 ⟨a5, c5, rfl, hF5, hb⟩)
    have B6 : Below w.heap.size w X5 := B5.trans (hb.mono B5.size)
    have KT := Lib.hid ((hb.block _ zt3).trans KT.out)
    have HA := Lib.hid (attrsF_keeps HA.out (Keeps.of_below hb : Keeps w.heap.size X4 X5))
    have HF := Lib.hid (liesF_mono (B' := w.heap.size) B5.size hF5)
    clear hF5 hb
    refine wpAny_ready (rs := [0]) (by decide +kernel) (by simp) ?_
    refine AllReady.cons rfl (fun K hK => ?_) AllReady.nil
    have d0 : X5.cell? ⟨t0, 0, none⟩ = some (.int .i64 h.k) := cell_of_block KT.out rfl
    have d1 : X5.cell? ⟨t0, 1, none⟩ = some (.string ⟨h.l.toArray⟩) := cell_of_block KT.out rfl
    have d2 : X5.cell? ⟨t0, 2, none⟩ = some (.slice a4 h.ats.length c4) := cell_of_block KT.out rfl
    have d3 : X5.cell? ⟨t0, 3, none⟩ = some (.int .i64 h.n) := cell_of_block KT.out rfl
    have d4 : X5.cell? ⟨t0, 4, none⟩ = some (.int .i64 h.d) := cell_of_block KT.out rfl
    have d5 : X5.cell? ⟨t0, 5, none⟩ = some (.string ⟨h.x.toArray⟩) := cell_of_block KT.out rfl
    go_simp
    refine hK _ _ ?_
    clear hK K d0 d1 d2 d3 d4 d5
    refine wpAny_ready (rs := [3]) (by decide +kernel) (by simp) ?_
    refine AllReady.cons rfl (fun K hK => ?_) AllReady.nil
    go_simp
    refine hK _ _ ?_
    clear hK K
    refine wpAny_ready (rs := [4]) (by decide +kernel) (by simp) ?_
    refine AllReady.cons rfl (fun K hK => ?_) AllReady.nil
    go_simp
    refine hK _ _ ?_
    clear hK K
    have kk := World.alloc_heap_new X5 (.cells #[.int .i64 h.k, .string ⟨h.l.toArray⟩, .slice a4 h.ats.length c4, .int .i64 h.n, .int .i64 h.d, .string ⟨h.x.toArray⟩, .slice a5 f.len c5] 43)
    have hb : Below X5.heap.size X5 (X5.alloc (.cells #[.int .i64 h.k, .string ⟨h.l.toArray⟩, .slice a4 h.ats.length c4, .int .i64 h.n, .int .i64 h.d, .string ⟨h.x.toArray⟩, .slice a5 f.len c5] 43)) := (Below.refl _ _).alloc (Nat.le_refl _) _
    have B7 : Below w.heap.size w (X5.alloc (.cells #[.int .i64 h.k, .string ⟨h.l.toArray⟩, .slice a4 h.ats.length c4, .int .i64 h.n, .int .i64 h.d, .string ⟨h.x.toArray⟩, .slice a5 f.len c5] 43)) := B6.trans (hb.mono B6.size)
    have HO := Lib.hid (liesF_one (B := w.heap.size) B6.size kk (attrsF_keeps HA.out (Keeps.of_below hb)) (liesF_keeps HF.out (Keeps.of_below hb)))
    clear kk hb
    generalize X5.alloc (.cells #[.int .i64 h.k, .string ⟨h.l.toArray⟩, .slice a4 h.ats.length c4, .int .i64 h.n, .int .i64 h.d, .string ⟨h.x.toArray⟩, .slice a5 f.len c5] 43) = X6 at *
    refine wpAny_ready (rs := [5]) (by decide +kernel) (by simp) ?_
    refine AllReady.cons rfl (fun K hK => ?_) AllReady.nil
    go_simp
    go_wp2_with (go_at_call 107; refine (BD2.out _ _ X6 (liesF_lies HO.out)).mono ?_; rintro e X7 ⟨rfl, hb⟩)
    have B8 : Below w.heap.size w X7 := B7.trans (hb.mono B7.size)
    have HG := Lib.hid (liesF_keeps HO.out (Keeps.of_below hb : Keeps w.heap.size X6 X7))
    clear hb
    refine wpAny_take (i := 6) (v := .slice (some ⟨X5.heap.size, 0, none⟩) 1 1) rfl (by decide +kernel) (by decide +kernel) (by decide +kernel) (fun _ _ _ h => h) (Or.inl ⟨by kernel_rfl, by intro w; go_simp <;> with_reducible rfl⟩) ?_
    simp only [Act.put]
    refine wpAny_take (i := 7) (v := .int .i64 0) rfl (by decide +kernel) (by decide +kernel) (by decide +kernel) (fun _ _ _ h => h) (Or.inl ⟨by kernel_rfl, by intro w; go_simp <;> with_reducible rfl⟩) ?_
    simp only [Act.put]
    refine wpAny_ready (rs := [8]) (by decide +kernel) (by simp) ?_
    refine AllReady.cons rfl (fun K hK => ?_) AllReady.nil
    go_simp
    refine hK _ _ ?_
    clear hK K
    refine wpAny_ready (rs := [9]) (by decide +kernel) (by simp) ?_
    refine AllReady.cons rfl (fun K hK => ?_) AllReady.nil
    go_simp
    refine hK _ _ ?_
    clear hK K
    refine wpAny_done (by decide +kernel) ?_ _
    go_wp2_with fail
    go_ret2
    rw [HX.out]
    exact ⟨_, rfl, HG.out, B8⟩


set_option maxRecDepth 100000 in
set_option maxHeartbeats 8000000 in
theorem qwrap_big (h : Hd) (va : Value) (f : Fo) (v : Value) (w : World) (ha : AttrsLie w va h.ats) (hl : Lies w v f) (hf : HdFit h) (hs : Small f) (h1 : headErr h = 0) (h2 : foErr f = 0) (h3 : h.k = 0) (hbd : bndErr (.cons h f .nil) ≠ 0) :
    Calls Tryz.prog 53 #[hdA h va, v] w (FoE w (wrapV h f)) := by
  have CH := Lib.hid (fun W (hW : Below w.heap.size w W) => qhead_any h _ W (attrs_below ha hW) hf)
  have CF := Lib.hid (fun W (hW : Below w.heap.size w W) => qcheck_any f v W (lies_below hl hW) hs)
  have AO := Lib.hid (fun W (hW : Below w.heap.size w W) => attrsOf_any _ _ W (attrs_below ha hW))
  have CO := Lib.hid (fun W (hW : Below w.heap.size w W) => copyOf_any f.size f (Nat.le_refl _) (by have := hs.size; omega) v W (lies_below hl hW))
  have HR := Lib.hid (show wrapV h f = if firstNZ [headErr h, foErr f] = 0 then (if h.k = 0 then inBnd (.cons h f .nil) else (.nil, 9)) else (.nil, firstNZ [headErr h, foErr f]) from rfl)
  have BD := Lib.hid (fun (z1 : headErr h = 0) (z2 : foErr f = 0) (z3 : h.k = 0) a c W (hW : Lies W (.slice a 1 c) (.cons h f .nil)) => bounded_any (.cons h f .nil) a c W hW (heads_zero.2 ⟨z1, fun hh => hh.1 z3, (fo_zero.1 z2).2.2, rfl⟩) (by have := (fo_zero.1 z2).1; simp only [Fo.size]; omega))
  obtain ⟨aa, ca, rfl⟩ := attrs_form ha
  obtain ⟨av, cv, rfl⟩ := lies_form hl
  obtain ⟨R, hR⟩ : ∃ R, wrapV h f = R := ⟨_, rfl⟩
  rw [hR] at HR ⊢
  clear ha hl hf hs hR
  unfold hdA
  have HX := Lib.hid (show R = (.nil, bndErr (.cons h f .nil)) by rw [HR.out, h1, h2, if_pos (by rfl), if_pos h3]; unfold inBnd; rw [if_neg hbd])
  have BD2 := Lib.hid (fun a c W (hW : Lies W (.slice a 1 c) (.cons h f .nil)) => show Calls Tryz.prog 107 #[.slice a 1 c] W fun e w' => e = .returned (.tuple #[.slice none 0 0, .int .i64 (bndErr (.cons h f .nil))]) ∧ Below W.heap.size W w' by
    have := BD.out h1 h2 h3 a c W hW
    rw [if_neg hbd] at this
    exact this)
  rw [h1] at CH
  rw [h2] at CF
  have b3 : (h.k != 0) = false := by simpa using h3
  clear h1 h2 h3 HR BD hbd
  generalize bndErr (.cons h f .nil) = be at *
  go_enter Tryz.func53, Tryz.ntmps53
  go_upto_region 1 with fail
  have kk := World.alloc_heap_new w (.cells #[.int .i64 h.k, .string ⟨h.l.toArray⟩, .slice aa h.ats.length ca, .int .i64 h.n, .int .i64 h.d, .string ⟨h.x.toArray⟩] 27)
  have B0 : Below w.heap.size w (w.alloc (.cells #[.int .i64 h.k, .string ⟨h.l.toArray⟩, .slice aa h.ats.length ca, .int .i64 h.n, .int .i64 h.d, .string ⟨h.x.toArray⟩] 27)) := by ((repeat' (first | exact Below.refl _ _ | assumption | refine Below.setCell ?_ ?_ _ | refine bdrewN ?_ _ | refine Below.drew ?_ | refine Below.alloc ?_ ?_ _ | refine bbehind ?_ (by assumption) ?_)); all_goals first | (simp; done) | (simp; omega) | omega)
  have zt : w.heap.size < (w.alloc (.cells #[.int .i64 h.k, .string ⟨h.l.toArray⟩, .slice aa h.ats.length ca, .int .i64 h.n, .int .i64 h.d, .string ⟨h.x.toArray⟩] 27)).heap.size := by simp
  generalize w.alloc (.cells #[.int .i64 h.k, .string ⟨h.l.toArray⟩, .slice aa h.ats.length ca, .int .i64 h.n, .int .i64 h.d, .string ⟨h.x.toArray⟩] 27) = X0 at *
  have KT := Lib.hid kk
  clear kk
  obtain ⟨t0, ht⟩ : ∃ t, t = w.heap.size := ⟨_, rfl⟩
  have ht0 : w.heap.size ≤ t0 := by omega
  rw [← ht] at KT zt
  have hpp : (Value.pointer (some ⟨w.heap.size, 0, none⟩)) = .pointer (some ⟨t0, 0, none⟩) := by rw [ht]
  rw [hpp]
  clear hpp ht
  have d0 : X0.cell? ⟨t0, 0, none⟩ = some (.int .i64 h.k) := cell_of_block KT.out rfl
  have d1 : X0.cell? ⟨t0, 1, none⟩ = some (.string ⟨h.l.toArray⟩) := cell_of_block KT.out rfl
  have d2 : X0.cell? ⟨t0, 2, none⟩ = some (.slice aa h.ats.length ca) := cell_of_block KT.out rfl
  have d3 : X0.cell? ⟨t0, 3, none⟩ = some (.int .i64 h.n) := cell_of_block KT.out rfl
  have d4 : X0.cell? ⟨t0, 4, none⟩ = some (.int .i64 h.d) := cell_of_block KT.out rfl
  have d5 : X0.cell? ⟨t0, 5, none⟩ = some (.string ⟨h.x.toArray⟩) := cell_of_block KT.out rfl
  go_wp2_with fail
  refine (CH.out X0 B0).mono ?_
  rintro e X1 ⟨rfl, hb⟩
  have B1 : Below w.heap.size w X1 := B0.trans (hb.mono B0.size)
  have KT := Lib.hid ((hb.block _ zt).trans KT.out)
  have zt := Nat.lt_of_lt_of_le zt hb.size
  clear hb d0 d1 d2 d3 d4 d5
  go_wp2_with fail
  refine (CF.out X1 B1).mono ?_
  rintro e X2 ⟨rfl, hb⟩
  have B2 : Below w.heap.size w X2 := B1.trans (hb.mono B1.size)
  have KT := Lib.hid ((hb.block _ zt).trans KT.out)
  have zt := Nat.lt_of_lt_of_le zt hb.size
  clear hb
  have d0 : X2.cell? ⟨t0, 0, none⟩ = some (.int .i64 h.k) := cell_of_block KT.out rfl
  have d2 : X2.cell? ⟨t0, 2, none⟩ = some (.slice aa h.ats.length ca) := cell_of_block KT.out rfl
  have zt2B : t0 < X2.heap.size := zt
  go_wp2_with fail
  refine (AO.out X2 B2).mono ?_
  rintro e X3 ⟨a4, c4, rfl, hA, hb⟩
  have B3 : Below w.heap.size w X3 := B2.trans (hb.mono B2.size)
  have KT := Lib.hid ((hb.block _ zt).trans KT.out)
  have zt := Nat.lt_of_lt_of_le zt hb.size
  have HA := Lib.hid hA
  have ztB := zt2B
  have ff := frozen_of_block (o := 2) KT.out
  have dd : X3.cell? ⟨t0, 2, none⟩ = some (.slice aa h.ats.length ca) := cell_of_block KT.out rfl
  clear hA hb d0 d2
  go_upto_region 10 with fail
  have KT2 := Lib.hid (show (X3.setCell ⟨t0, 2, none⟩ (.slice a4 h.ats.length c4)).heap[t0]? = some (.cells #[.int .i64 h.k, .string ⟨h.l.toArray⟩, .slice a4 h.ats.length c4, .int .i64 h.n, .int .i64 h.d, .string ⟨h.x.toArray⟩] 27) from set_block KT.out)
  have B4 : Below w.heap.size w (X3.setCell ⟨t0, 2, none⟩ (.slice a4 h.ats.length c4)) := B3.setCell ht0 _
  have zt2 : t0 < (X3.setCell ⟨t0, 2, none⟩ (.slice a4 h.ats.length c4)).heap.size := by rw [set_size']; exact zt
  have HA2 := Lib.hid (show AttrsF w.heap.size (X3.setCell ⟨t0, 2, none⟩ (.slice a4 h.ats.length c4)) (.slice a4 h.ats.length c4) h.ats from attrsF_mono B2.size (attrsF_keeps HA.out (Keeps.setCell _ ztB _ _)))
  clear dd ff HA KT zt B3
  refine wp_region_any (by kernel_rfl) ?_
  change wpAny _ _ _ _ _ _ _ (World.drew _)
  have B5 := B4.drew
  have KT3 := Lib.hid (show (World.drew (X3.setCell ⟨t0, 2, none⟩ (.slice a4 h.ats.length c4))).heap[t0]? = some (.cells #[.int .i64 h.k, .string ⟨h.l.toArray⟩, .slice a4 h.ats.length c4, .int .i64 h.n, .int .i64 h.d, .string ⟨h.x.toArray⟩] 27) from KT2.out)
  have HA3 := Lib.hid (attrsF_keeps HA2.out (⟨Nat.le_refl _, fun _ _ _ _ => rfl⟩ : Keeps w.heap.size _ (World.drew (X3.setCell ⟨t0, 2, none⟩ (.slice a4 h.ats.length c4)))))
  have zt3 : t0 < (World.drew (X3.setCell ⟨t0, 2, none⟩ (.slice a4 h.ats.length c4))).heap.size := zt2
  clear KT2 HA2 zt2 B4
  generalize World.drew (X3.setCell ⟨t0, 2, none⟩ (.slice a4 h.ats.length c4)) = X4 at *
  have KT := Lib.hid KT3.out
  have HA := Lib.hid HA3.out
  clear KT3 HA3
  refine wpAny_take (i := 1) (v := .slice av f.len cv) rfl (by decide +kernel) (by decide +kernel) (by decide +kernel) (fun _ _ _ h => h) (Or.inl ⟨by kernel_rfl, by intro w; go_simp <;> with_reducible rfl⟩) ?_
  simp only [Act.put, List.setIfInBounds_toArray]
  refine wpAny_ready (rs := [0, 2]) (by decide +kernel) (by simp) ?_
  refine AllReady.cons rfl (fun K hK => ?_) (AllReady.cons rfl (fun K hK => ?_) AllReady.nil)
  · have d0 : X4.cell? ⟨t0, 0, none⟩ = some (.int .i64 h.k) := cell_of_block KT.out rfl
    have d1 : X4.cell? ⟨t0, 1, none⟩ = some (.string ⟨h.l.toArray⟩) := cell_of_block KT.out rfl
    have d2 : X4.cell? ⟨t0, 2, none⟩ = some (.slice a4 h.ats.length c4) := cell_of_block KT.out rfl
    have d3 : X4.cell? ⟨t0, 3, none⟩ = some (.int .i64 h.n) := cell_of_block KT.out rfl
    have d4 : X4.cell? ⟨t0, 4, none⟩ = some (.int .i64 h.d) := cell_of_block KT.out rfl
    have d5 : X4.cell? ⟨t0, 5, none⟩ = some (.string ⟨h.x.toArray⟩) := cell_of_block KT.out rfl
    go_simp
    refine hK _ _ ?_
    clear hK K d0 d1 d2 d3 d4 d5
    refine wpAny_ready (rs := [2]) (by decide +kernel) (by simp) ?_
    refine AllReady.cons rfl (fun K hK => ?_) AllReady.nil
    go_simp
    go_wp2_with (go_at_call 95; refine (CO.out X4 B5).mono ?_; rintro e X5 ⟨a5, c5, rfl, hF5, hb⟩)
    have B6 : Below w.heap.size w X5 := B5.trans (hb.mono B5.size)
    have KT := Lib.hid ((hb.block _ zt3).trans KT.out)
    have HA := Lib.hid (attrsF_keeps HA.out (Keeps.of_below hb : Keeps w.heap.size X4 X5))
    have HF := Lib.hid (liesF_mono (B' := w.heap.size) B5.size hF5)
    clear hF5 hb
    refine wpAny_ready (rs := [3]) (by decide +kernel) (by simp) ?_
    refine AllReady.cons rfl (fun K hK => ?_) AllReady.nil
    go_simp
    refine hK _ _ ?_
    clear hK K
    refine wpAny_ready (rs := [4]) (by decide +kernel) (by simp) ?_
    refine AllReady.cons rfl (fun K hK => ?_) AllReady.nil
    go_simp
    refine hK _ _ ?_
    clear hK K
    have kk := World.alloc_heap_new X5 (.cells #[.int .i64 h.k, .string ⟨h.l.toArray⟩, .slice a4 h.ats.length c4, .int .i64 h.n, .int .i64 h.d, .string ⟨h.x.toArray⟩, .slice a5 f.len c5] 43)
    have hb : Below X5.heap.size X5 (X5.alloc (.cells #[.int .i64 h.k, .string ⟨h.l.toArray⟩, .slice a4 h.ats.length c4, .int .i64 h.n, .int .i64 h.d, .string ⟨h.x.toArray⟩, .slice a5 f.len c5] 43)) := (Below.refl _ _).alloc (Nat.le_refl _) _
    have B7 : Below w.heap.size w (X5.alloc (.cells #[.int .i64 h.k, .string ⟨h.l.toArray⟩, .slice a4 h.ats.length c4, .int .i64 h.n, .int .i64 h.d, .string ⟨h.x.toArray⟩, .slice a5 f.len c5] 43)) := B6.trans (hb.mono B6.size)
    have HO := Lib.hid (liesF_one (B := w.heap.size) B6.size kk (attrsF_keeps HA.out (Keeps.of_below hb)) (liesF_keeps HF.out (Keeps.of_below hb)))
    clear kk hb
    generalize X5.alloc (.cells #[.int .i64 h.k, .string ⟨h.l.toArray⟩, .slice a4 h.ats.length c4, .int .i64 h.n, .int .i64 h.d, .string ⟨h.x.toArray⟩, .slice a5 f.len c5] 43) = X6 at *
    refine wpAny_ready (rs := [5]) (by decide +kernel) (by simp) ?_
    refine AllReady.cons rfl (fun K hK => ?_) AllReady.nil
    go_simp
    go_wp2_with (go_at_call 107; refine (BD2.out _ _ X6 (liesF_lies HO.out)).mono ?_; rintro e X7 ⟨rfl, hb⟩)
    have B8 : Below w.heap.size w X7 := B7.trans (hb.mono B7.size)
    have HG := Lib.hid (liesF_keeps HO.out (Keeps.of_below hb : Keeps w.heap.size X6 X7))
    clear hb
    refine wpAny_take (i := 6) (v := .slice none 0 0) rfl (by decide +kernel) (by decide +kernel) (by decide +kernel) (fun _ _ _ h => h) (Or.inl ⟨by kernel_rfl, by intro w; go_simp <;> with_reducible rfl⟩) ?_
    simp only [Act.put]
    refine wpAny_take (i := 7) (v := .int .i64 be) rfl (by decide +kernel) (by decide +kernel) (by decide +kernel) (fun _ _ _ h => h) (Or.inl ⟨by kernel_rfl, by intro w; go_simp <;> with_reducible rfl⟩) ?_
    simp only [Act.put]
    refine wpAny_ready (rs := [8]) (by decide +kernel) (by simp) ?_
    refine AllReady.cons rfl (fun K hK => ?_) AllReady.nil
    go_simp
    refine hK _ _ ?_
    clear hK K
    refine wpAny_ready (rs := [9]) (by decide +kernel) (by simp) ?_
    refine AllReady.cons rfl (fun K hK => ?_) AllReady.nil
    go_simp
    refine hK _ _ ?_
    clear hK K
    refine wpAny_done (by decide +kernel) ?_ _
    go_wp2_with fail
    go_ret2
    rw [HX.out]
    exact foE_none B8

  · go_simp
    go_wp2_with (go_at_call 95; refine (CO.out X4 B5).mono ?_; rintro e X5 ⟨a5, c5, rfl, hF5, hb⟩)
    have B6 : Below w.heap.size w X5 := B5.trans (hb.mono B5.size)
    have KT := Lib.hid ((hb.block _ zt3).trans KT.out)
    have HA := Lib.hid (attrsF_keeps HA.out (Keeps.of_below hb : Keeps w.heap.size X4 X5))
    have HF := Lib.hid (liesF_mono (B' := w.heap.size) B5.size hF5)
    clear hF5 hb
    refine wpAny_ready (rs := [0]) (by decide +kernel) (by simp) ?_
    refine AllReady.cons rfl (fun K hK => ?_) AllReady.nil
    have d0 : X5.cell? ⟨t0, 0, none⟩ = some (.int .i64 h.k) := cell_of_block KT.out rfl
    have d1 : X5.cell? ⟨t0, 1, none⟩ = some (.string ⟨h.l.toArray⟩) := cell_of_block KT.out rfl
    have d2 : X5.cell? ⟨t0, 2, none⟩ = some (.slice a4 h.ats.length c4) := cell_of_block KT.out rfl
    have d3 : X5.cell? ⟨t0, 3, none⟩ = some (.int .i64 h.n) := cell_of_block KT.out rfl
    have d4 : X5.cell? ⟨t0, 4, none⟩ = some (.int .i64 h.d) := cell_of_block KT.out rfl
    have d5 : X5.cell? ⟨t0, 5, none⟩ = some (.string ⟨h.x.toArray⟩) := cell_of_block KT.out rfl
    go_simp
    refine hK _ _ ?_
    clear hK K d0 d1 d2 d3 d4 d5
    refine wpAny_ready (rs := [3]) (by decide +kernel) (by simp) ?_
    refine AllReady.cons rfl (fun K hK => ?_) AllReady.nil
    go_simp
    refine hK _ _ ?_
    clear hK K
    refine wpAny_ready (rs := [4]) (by decide +kernel) (by simp) ?_
    refine AllReady.cons rfl (fun K hK => ?_) AllReady.nil
    go_simp
    refine hK _ _ ?_
    clear hK K
    have kk := World.alloc_heap_new X5 (.cells #[.int .i64 h.k, .string ⟨h.l.toArray⟩, .slice a4 h.ats.length c4, .int .i64 h.n, .int .i64 h.d, .string ⟨h.x.toArray⟩, .slice a5 f.len c5] 43)
    have hb : Below X5.heap.size X5 (X5.alloc (.cells #[.int .i64 h.k, .string ⟨h.l.toArray⟩, .slice a4 h.ats.length c4, .int .i64 h.n, .int .i64 h.d, .string ⟨h.x.toArray⟩, .slice a5 f.len c5] 43)) := (Below.refl _ _).alloc (Nat.le_refl _) _
    have B7 : Below w.heap.size w (X5.alloc (.cells #[.int .i64 h.k, .string ⟨h.l.toArray⟩, .slice a4 h.ats.length c4, .int .i64 h.n, .int .i64 h.d, .string ⟨h.x.toArray⟩, .slice a5 f.len c5] 43)) := B6.trans (hb.mono B6.size)
    have HO := Lib.hid (liesF_one (B := w.heap.size) B6.size kk (attrsF_keeps HA.out (Keeps.of_below hb)) (liesF_keeps HF.out (Keeps.of_below hb)))
    clear kk hb
    generalize X5.alloc (.cells #[.int .i64 h.k, .string ⟨h.l.toArray⟩, .slice a4 h.ats.length c4, .int .i64 h.n, .int .i64 h.d, .string ⟨h.x.toArray⟩, .slice a5 f.len c5] 43) = X6 at *
    refine wpAny_ready (rs := [5]) (by decide +kernel) (by simp) ?_
    refine AllReady.cons rfl (fun K hK => ?_) AllReady.nil
    go_simp
    go_wp2_with (go_at_call 107; refine (BD2.out _ _ X6 (liesF_lies HO.out)).mono ?_; rintro e X7 ⟨rfl, hb⟩)
    have B8 : Below w.heap.size w X7 := B7.trans (hb.mono B7.size)
    have HG := Lib.hid (liesF_keeps HO.out (Keeps.of_below hb : Keeps w.heap.size X6 X7))
    clear hb
    refine wpAny_take (i := 6) (v := .slice none 0 0) rfl (by decide +kernel) (by decide +kernel) (by decide +kernel) (fun _ _ _ h => h) (Or.inl ⟨by kernel_rfl, by intro w; go_simp <;> with_reducible rfl⟩) ?_
    simp only [Act.put]
    refine wpAny_take (i := 7) (v := .int .i64 be) rfl (by decide +kernel) (by decide +kernel) (by decide +kernel) (fun _ _ _ h => h) (Or.inl ⟨by kernel_rfl, by intro w; go_simp <;> with_reducible rfl⟩) ?_
    simp only [Act.put]
    refine wpAny_ready (rs := [8]) (by decide +kernel) (by simp) ?_
    refine AllReady.cons rfl (fun K hK => ?_) AllReady.nil
    go_simp
    refine hK _ _ ?_
    clear hK K
    refine wpAny_ready (rs := [9]) (by decide +kernel) (by simp) ?_
    refine AllReady.cons rfl (fun K hK => ?_) AllReady.nil
    go_simp
    refine hK _ _ ?_
    clear hK K
    refine wpAny_done (by decide +kernel) ?_ _
    go_wp2_with fail
    go_ret2
    rw [HX.out]
    exact foE_none B8


theorem qwrap_any (h : Hd) (va : Value) (f : Fo) (v : Value) (w : World) (ha : AttrsLie w va h.ats) (hl : Lies w v f) (hf : HdFit h) (hs : Small f) :
    Calls Tryz.prog 53 #[hdA h va, v] w (FoE w (wrapV h f)) := by
  by_cases h1 : headErr h = 0
  · by_cases h2 : foErr f = 0
    · by_cases h3 : h.k = 0
      · by_cases hbd : bndErr (.cons h f .nil) = 0
        · exact qwrap_ok h va f v w ha hl hf hs h1 h2 h3 hbd
        · exact qwrap_big h va f v w ha hl hf hs h1 h2 h3 hbd
      · exact qwrap_kind h va f v w ha hl hf hs h1 h2 h3
    · exact qwrap_fo h va f v w ha hl hf hs h1 h2
  · exact qwrap_head h va f v w ha hl hf hs h1
end Go.Proofs.YtcgedpfolloinaaGreat

namespace Go.Proofs.YtcgedpfolloinaaGreat
open Go.RowKit

/-- what a call writes: blocks that I holds of, and new ones. -/
def KeptBut (I : Nat → Prop) (w w' : World) : Prop := w'.os = w.os ∧ w'.tape = w.tape ∧ w'.output = w.output ∧ KeepsO (fun x => ¬ I x) w w'
theorem KeptBut.refl (I : Nat → Prop) (w : World) : KeptBut I w w := ⟨rfl, rfl, rfl, .refl _ _⟩
theorem KeptBut.trans {I : Nat → Prop} {a b c : World} (h : KeptBut I a b) (k : KeptBut I b c) : KeptBut I a c :=
  ⟨k.1.trans h.1, k.2.1.trans h.2.1, k.2.2.1.trans h.2.2.1, h.2.2.2.trans k.2.2.2⟩
theorem KeptBut.mono {I J : Nat → Prop} {w w' : World} (hI : ∀ x, I x → J x) (k : KeptBut I w w') : KeptBut J w w' :=
  ⟨k.1, k.2.1, k.2.2.1, k.2.2.2.mono fun x hx h => hx (hI x h)⟩
theorem KeptBut.of_below {I : Nat → Prop} {w w' : World} (k : Below w.heap.size w w') : KeptBut I w w' := ⟨k.os, k.tape, k.output, .of_below k⟩
theorem KeptBut.below {I : Nat → Prop} {B : Nat} {w w' : World} (hI : ∀ x, I x → B ≤ x) (hB : B ≤ w.heap.size) (k : KeptBut I w w') : Below B w w' :=
  ⟨k.1, k.2.1, k.2.2.1, k.2.2.2.1, fun x hx => k.2.2.2.2 x (fun h => by have := hI x h; omega) (by omega)⟩
theorem KeptBut.keeps {I J : Nat → Prop} {w w' : World} (k : KeptBut I w w') (h : ∀ x, J x → ¬ I x) : KeepsO J w w' := k.2.2.2.mono h

/-- what the seven cells of a tree hold. -/
structure Tc where
  h : Hd
  aa : Option Addr
  ca : Nat
  ak : Option Addr
  n : Nat
  ck : Nat
instance : Inhabited Tc := ⟨⟨zeroHd, none, 0, none, 0, 0⟩⟩
def encT (x : Tc) : List Value := treeCells x.h x.aa x.ca x.ak x.n x.ck
theorem encT_one (x : Tc) : ∀ v ∈ encT x, v.oneCell' = true := by
  intro v hv
  simp [encT, treeCells] at hv
  rcases hv with rfl | rfl | rfl | rfl | rfl | rfl | rfl <;> rfl

theorem row_tcs {I : Nat → Prop} {own : Nat → Nat} {w : World} {f : Fo} {b : Nat} (H : TreesO I own w f b 0 f.len) : ∀ n, n ≤ f.len → ∃ d : Array Tc, d.size = n ∧ ∀ j, j < n → ∀ c, c < 7 → w.cell? ⟨b, j * 7 + c, none⟩ = some (encT d[j]!)[c]!
  | 0, _ => ⟨#[], rfl, fun j hj => absurd hj (by omega)⟩
  | n + 1, hn => by
    obtain ⟨d, hd, hc⟩ := row_tcs H n (by omega)
    obtain ⟨h, ks, e⟩ := Fo.drop_lt n f (by omega)
    have H' := H n h ks (by omega) e
    rw [Nat.zero_add] at H'
    obtain ⟨⟨h0, h1, ⟨va, h2, ha⟩, h3, h4, h5⟩, v, h6, hv⟩ := H'
    obtain ⟨aa, ca, rfl⟩ := attrsO_form ha
    obtain ⟨ak, ck, rfl⟩ := liesO_form hv
    refine ⟨d.push ⟨h, aa, ca, ak, ks.len, ck⟩, by simp [hd], fun j hj c hc' => ?_⟩
    rcases Nat.lt_or_ge j n with hlt | hge
    · rw [hc j hlt c hc']
      rw [getElem!_pos (d.push _) j (by simp; omega), Array.getElem_push_lt (by omega), getElem!_pos d j (by omega)]
    · obtain rfl : j = n := by omega
      have e1 : (d.push (⟨h, aa, ca, ak, ks.len, ck⟩ : Tc))[j]! = ⟨h, aa, ca, ak, ks.len, ck⟩ := by
        rw [getElem!_pos (d.push _) j (by simp; omega)]
        simp [← hd]
      rw [e1]
      match c, hc' with
      | 0, _ => exact h0
      | 1, _ => exact h1
      | 2, _ => exact h2
      | 3, _ => exact h3
      | 4, _ => exact h4
      | 5, _ => exact h5
      | 6, _ => exact h6
theorem holds_tcs {w : World} {b : Nat} {C : Array Value} {T : TypeId} {d : Array Tc} (hb : w.heap[b]? = some (.cells C T (0, 0))) (hd : ∀ j, j < d.size → ∀ c, c < 7 → w.cell? ⟨b, j * 7 + c, none⟩ = some (encT d[j]!)[c]!) : Go.Sort.HoldsK encT 7 w b 0 d := by
  intro t ht
  rw [Go.Sort.size_flatK] at ht
  rw [Go.Sort.get_flatK _ _ _ _ ht, Nat.zero_add]
  have := hd (t / 7) (by omega) (t % 7) (by omega)
  rw [show t / 7 * 7 + t % 7 = t by omega] at this
  exact ⟨this, frozen_of_block hb⟩

def revRen : Go.Shelf.Ren := ⟨fun x => if x = 35 then 150 else x, fun x => if x = 0 then 0 else if x = 3 then 3 else if x = 4 then 4 else if x = 22 then 28 else if x = 23 then 43 else x, fun x => x⟩
theorem revLays : SlLaysE0.n35 Tryz.prog revRen where
  mixed := by kernel_rfl
  f35 := ⟨"slices.Reverse[[]withy/api.Tree,withy/api.Tree]", by kernel_rfl, Tryz.func150.trans (congrArg some (by kernel_rfl))⟩
  t0 := Tryz.underlying0
  a0 := Tryz.isAgg0
  z0 := Tryz.sizeOf0
  v0 := Tryz.zeroValue0
  t3 := Tryz.underlying3
  a3 := Tryz.isAgg3
  z3 := Tryz.sizeOf3
  v3 := Tryz.zeroValue3
  t4 := Tryz.underlying4
  a4 := Tryz.isAgg4
  z4 := Tryz.sizeOf4
  v4 := Tryz.zeroValue4
  t22 := Tryz.underlying28
  a22 := Tryz.isAgg28
  z22 := Tryz.sizeOf28
  v22 := Tryz.zeroValue28

theorem reverse_any (d : Array Tc) (b cap : Nat) (C : Array Value) (T : TypeId) (w : World) (hb : w.heap[b]? = some (.cells C T (0, 0))) (hd : ∀ j, j < d.size → ∀ c, c < 7 → w.cell? ⟨b, j * 7 + c, none⟩ = some (encT d[j]!)[c]!) (hsz : d.size ≤ 9223372036854775807) :
    Calls Tryz.prog 150 #[.slice (some ⟨b, 0, none⟩) d.size cap] w fun e w' => e = .returned (.tuple #[]) ∧ (∃ C', w'.heap[b]? = some (.cells C' T (0, 0)) ∧ C'.size = C.size) ∧
      (∀ j, j < d.size → ∀ c, c < 7 → w'.cell? ⟨b, j * 7 + c, none⟩ = some (encT d[d.size - 1 - j]!)[c]!) ∧ KeptBut (fun x => x = b) w w' := by
  have hH := holds_tcs hb hd
  refine (AnyQ.slices_Reverse revLays 7 Tryz.isAgg43 Tryz.sizeOf43 encT (fun _ => rfl) encT_one b 0 cap d w hH hsz).mono ?_
  rintro e w' ⟨rfl, n, rfl⟩
  have hH' : Go.Sort.HoldsK encT 7 (Go.Sort.putRowK encT 7 (Go.Sort.ahead w n) b 0 d.reverse) b 0 d.reverse :=
    Go.Sort.holdsK_putRowK encT 7 _ b 0 d d.reverse (Go.Sort.holdsK_ahead encT 7 w n b 0 d hH) (by simp)
  refine ⟨rfl, ⟨Go.Sort.putCells id 0 (Go.Sort.flatK encT 7 d.reverse) C, ?_, by simp [Go.Sort.putCells]⟩, ?_, rfl, rfl, rfl, ?_, ?_⟩
  · show (w.heap.modify b _)[b]? = _
    rw [Array.getElem?_modify, if_pos rfl, hb]
    rfl
  · intro j hj c hc
    have := (Go.Sort.HoldsK.cell hH' (i := j) (c := c) (by simpa using hj) hc).1
    rw [Nat.zero_add] at this
    rw [this]
    have e1 : d.reverse[j]! = d[d.size - 1 - j]! := by
      rw [getElem!_pos d.reverse j (by simpa using hj), getElem!_pos d (d.size - 1 - j) (by omega), Array.getElem_reverse]
    rw [e1]
  · show w.heap.size ≤ (w.heap.modify b _).size
    simp
  · intro x hx _
    show (w.heap.modify b _)[x]? = _
    rw [Array.getElem?_modify, if_neg (fun e => hx e.symm)]
theorem reverse_empty (a : Option Addr) (cap : Nat) (w : World) : Calls Tryz.prog 150 #[.slice a 0 cap] w fun e w' => e = .returned (.tuple #[]) ∧ w' = w :=
  AnyQ.slices_Reverse_empty revLays a cap w
end Go.Proofs.YtcgedpfolloinaaGreat

namespace Go.Proofs.YtcgedpfolloinaaGreat
open Go.RowKit

/-- which part is which, once the trees are in the other order. -/
def ownR (own : Nat → Nat) (n : Nat) : Nat → Nat := fun x => 2 * (n - 1 - own x / 2) + own x % 2
theorem cls_rev {I : Nat → Prop} {own : Nat → Nat} {b n j : Nat} (hj : j < n) (k : Nat) (hk : k < 2) : ∀ x, cls I own b (2 * (n - 1 - j) + k) x → cls I (ownR own n) b (2 * j + k) x := by
  rintro x ⟨h1, h2, h3⟩
  refine ⟨h1, h2, ?_⟩
  unfold ownR
  rw [h3]
  omega
theorem treesO_rev {I : Nat → Prop} {own : Nat → Nat} {w W : World} {f : Fo} {b : Nat} (H : TreesO I own w f b 0 f.len)
    (hc : ∀ j, j < f.len → ∀ c, c < 7 → W.cell? ⟨b, j * 7 + c, none⟩ = w.cell? ⟨b, (f.len - 1 - j) * 7 + c, none⟩) (hK : KeepsO (fun x => x ≠ b) w W) : TreesO I (ownR own f.len) W (revF f) b 0 f.len := by
  intro j h ks hj e
  rw [Nat.zero_add]
  have e2 := drop_nth ((nth_rev f j hj).symm.trans (nth_drop e))
  have H' := H (f.len - 1 - j) h ks (by omega) e2
  rw [Nat.zero_add] at H'
  obtain ⟨⟨h0, h1, ⟨va, h2, ha⟩, h3, h4, h5⟩, v, h6, hv⟩ := H'
  have hk : ∀ c, KeepsO (cls I own b c) w W := fun c => hK.mono (fun x hx => Nat.ne_of_gt hx.2.1)
  exact ⟨⟨(hc j hj 0 (by omega)).trans h0, (hc j hj 1 (by omega)).trans h1, ⟨va, (hc j hj 2 (by omega)).trans h2, attrsO_mono (fun x hx _ => cls_rev hj 0 (by omega) x hx) (attrsO_keeps ha (hk _))⟩, (hc j hj 3 (by omega)).trans h3, (hc j hj 4 (by omega)).trans h4, (hc j hj 5 (by omega)).trans h5⟩,
    v, (hc j hj 6 (by omega)).trans h6, liesO_mono (fun x hx _ => cls_rev hj 1 (by omega) x hx) (liesO_keeps hv (hk _))⟩
/- one more tree has its kids turned. -/
theorem treesO_turn {I : Nat → Prop} {own : Nat → Nat} {w W : World} {f : Fo} {b k : Nat} {h0 : Hd} {ks0 : Fo} {v0 : Value} (H : TreesO I own w (turnTo k f) b 0 f.len) (hb : b < w.heap.size) (hn : nth f k = some (h0, ks0))
    (hK : KeptBut (cls I own b (2 * k + 1)) w W) (hv0 : w.cell? ⟨b, k * 7 + 6, none⟩ = some v0) (hl : LiesO (cls I own b (2 * k + 1)) W v0 (turnF ks0)) : TreesO I own W (turnTo (k + 1) f) b 0 f.len := by
  intro j h ks hj e
  rw [Nat.zero_add]
  have hkb : KeepsO (fun x => x = b) w W := hK.keeps (fun x hx hc => Nat.ne_of_gt hc.2.1 hx)
  have hcell : ∀ o, W.cell? ⟨b, o, none⟩ = w.cell? ⟨b, o, none⟩ := fun o => hkb.cell rfl hb o
  have hka : ∀ c, c ≠ 2 * k + 1 → KeepsO (cls I own b c) w W := fun c hc => hK.keeps (fun x hx hx' => hc (hx.2.2.symm.trans hx'.2.2))
  have e1 := nth_drop e
  rw [nth_turnTo] at e1
  obtain ⟨ksO, eO, eK⟩ : ∃ ksO, nth f j = some (h, ksO) ∧ ks = if j < k + 1 then turnF ksO else ksO := by
    by_cases hlt : j < k + 1
    · rw [if_pos hlt] at e1
      cases hf : nth f j with
      | none => rw [hf] at e1; cases e1
      | some x => rw [hf] at e1; cases e1; exact ⟨x.2, rfl, by rw [if_pos hlt]⟩
    · rw [if_neg hlt] at e1; exact ⟨ks, e1, by rw [if_neg hlt]⟩
  have e2 : nth (turnTo k f) j = some (h, if j < k then turnF ksO else ksO) := by
    rw [nth_turnTo, eO]; split <;> rfl
  have H' := H j h _ hj (drop_nth e2)
  rw [Nat.zero_add] at H'
  obtain ⟨⟨q0, q1, ⟨va, q2, ha⟩, q3, q4, q5⟩, v, q6, hv⟩ := H'
  refine ⟨⟨(hcell _).trans q0, (hcell _).trans q1, ⟨va, (hcell _).trans q2, attrsO_keeps ha (hka _ (by omega))⟩, (hcell _).trans q3, (hcell _).trans q4, (hcell _).trans q5⟩, v, (hcell _).trans q6, ?_⟩
  by_cases hjk : j = k
  · subst hjk
    rw [hn] at eO
    cases eO
    rw [hv0] at q6
    cases q6
    rw [eK, if_pos (by omega)]
    exact hl
  · have : ks = if j < k then turnF ksO else ksO := by
      rw [eK]
      by_cases hlt : j < k
      · rw [if_pos hlt, if_pos (by omega)]
      · rw [if_neg hlt, if_neg (by omega)]
    rw [this]
    exact liesO_keeps hv (hka _ (by omega))

/-- what turn gives. -/
def TurnRes (I : Nat → Prop) (w : World) (v : Value) (f : Fo) (e : Ending) (w' : World) : Prop := e = .returned (.tuple #[]) ∧ LiesO I w' v (turnF f) ∧ KeptBut I w w'

set_option maxRecDepth 100000 in
set_option maxHeartbeats 4000000 in
theorem turn_of (f : Fo) (I : Nat → Prop) (v : Value) (w : World) (hl : LiesO I w v f)
    (HT : ∀ h ks j, nth f j = some (h, ks) → ∀ I v w, LiesO I w v ks → Calls Tryz.prog 112 #[v] w (TurnRes I w v ks)) :
    Calls Tryz.prog 112 #[v] w (TurnRes I w v f) := by
  rcases hl with ⟨a, cap, rfl, rfl⟩ | ⟨b, cap, own, C, rfl, hcap, hlen, hI, hblk, hC, hrow⟩
  · clear HT
    have HR := Lib.hid (fun w => reverse_empty a cap w)
    go_enter Tryz.func112, Tryz.ntmps112
    go_wp2_with fail
    refine (HR.out w).mono ?_
    rintro e w1 ⟨rfl, hw⟩
    obtain rfl := hw.symm
    go_wp2_with fail
    go_loopw [8] (fun i wr => i = .int .i64 0 ∧ wr = w) (fun _ _ => 0)
    case atStart => exact ⟨rfl, rfl⟩
    case round =>
      obtain ⟨rfl, rfl⟩ := hrel
      go_wp2_with fail
      go_end0
      exact ⟨rfl, .inl ⟨_, _, rfl, rfl⟩, .refl _ _⟩
  · have HT' := Lib.hid HT
    have HTR := Lib.hid (treesO_of f 0 hrow)
    obtain ⟨d, hd, hdc⟩ := row_tcs HTR.out f.len (Nat.le_refl _)
    have HR := Lib.hid (reverse_any d b cap C 43 w hblk (by rw [hd]; exact hdc) (by omega))
    rw [hd] at HR
    have HDC := Lib.hid hdc
    have hb := blk_size hblk
    clear hdc hrow HT hd hblk
    obtain ⟨n, hn⟩ : ∃ n, f.len = n := ⟨_, rfl⟩
    have HN := Lib.hid hn
    rw [hn] at HR hcap hlen hC
    rw [hn]
    clear hn
    have FIN : ∀ wr, TreesO I (ownR own f.len) wr (turnTo f.len (revF f)) b 0 f.len → (∃ C', wr.heap[b]? = some (.cells C' 43 (0, 0)) ∧ n * 7 ≤ C'.size) → LiesO I wr (.slice (some ⟨b, 0, none⟩) n cap) (turnF f) := by
      intro wr hT hbw
      obtain ⟨C', hbk, hC'⟩ := hbw
      rw [turnTo_all] at hT
      have hT' : RowO wr (turnF f) I (ownR own f.len) b 0 := rowO_of (turnF f) 0 (by rw [turn_len]; exact hT)
      have hlt : (turnF f).len = n := (turn_len f).trans HN.out
      exact .inr ⟨b, cap, _, C', by rw [hlt], by rw [hlt]; exact hcap, by rw [hlt]; exact hlen, hI, hbk, by rw [hlt]; exact hC', hT'⟩
    have FIN' := Lib.hid FIN
    clear FIN
    go_enter Tryz.func112, Tryz.ntmps112
    go_wp2_with fail
    refine HR.out.mono ?_
    rintro e w1 ⟨rfl, hb1, hc1, hk1⟩
    have hsw1 := hk1.2.2.2.1
    have T1 := Lib.hid (show TreesO I (ownR own f.len) w1 (turnTo 0 (revF f)) b 0 f.len by
      rw [turnTo_zero]
      refine treesO_rev HTR.out (fun j hj c hc => ?_) (hk1.2.2.2.mono fun x hx => hx)
      rw [hc1 j (by rw [← HN.out]; exact hj) c hc, ← HN.out, HDC.out (f.len - 1 - j) (by omega) c hc])
    have BK1 := Lib.hid (show ∃ C', w1.heap[b]? = some (.cells C' 43 (0, 0)) ∧ n * 7 ≤ C'.size by
      obtain ⟨C', h1, h2⟩ := hb1
      exact ⟨C', h1, by omega⟩)
    have KB1 := Lib.hid (KeptBut.mono (J := I) (fun x (hx : x = b) => hx ▸ hI) hk1)
    clear hb1 hc1 hk1
    go_wp2_with fail
    go_loopw [8] (fun i wr => ∃ k : Nat, i = .int .i64 k ∧ k ≤ n ∧ b < wr.heap.size ∧ (∃ C', wr.heap[b]? = some (.cells C' 43 (0, 0)) ∧ n * 7 ≤ C'.size) ∧ TreesO I (ownR own f.len) wr (turnTo k (revF f)) b 0 f.len ∧ KeptBut I w wr) (fun i _ => n - (intOf i).toNat)
    case atStart => exact ⟨0, rfl, Nat.zero_le _, by omega, BK1.out, T1.out, KB1.out⟩
    case round =>
      obtain ⟨k, rfl, hk, hbr, hbk, hT, hkb⟩ := hrel
      have BK := Lib.hid hbk
      have HTK := Lib.hid hT
      have KB := Lib.hid hkb
      clear hbk hT hkb
      by_cases hlt : k < n
      · have dk : decide (k < n) = true := by simpa using hlt
        obtain ⟨hd, ks, e⟩ := nth_some (f := revF f) (j := k) (by rw [rev_len, HN.out]; exact hlt)
        have e2 : nth (turnTo k (revF f)) k = some (hd, ks) := by rw [nth_turnTo, if_neg (by omega), e]
        have H' := HTK.out k hd ks (by rw [HN.out]; exact hlt) (drop_nth e2)
        rw [Nat.zero_add] at H'
        obtain ⟨⟨r0, r1, ⟨va, r2, ha⟩, r3, r4, r5⟩, vk, r6, hlk⟩ := H'
        obtain ⟨aa, ca, rfl⟩ := attrsO_form ha
        obtain ⟨ak, ck, rfl⟩ := liesO_form hlk
        have HE := Lib.hid e
        have HL := Lib.hid hlk
        have HV := Lib.hid r6
        have hj : nth f (f.len - 1 - k) = some (hd, ks) := by rw [← nth_rev f k (by rw [HN.out]; exact hlt)]; exact e
        have HC := Lib.hid (fun I v w hl => HT'.out hd ks _ hj I v w hl)
        clear ha hlk e e2 hj
        go_wp2_with fail
        obtain ⟨W1, hW1⟩ : ∃ W1, wr.alloc (.cells #[.int .i64 hd.k, .string ⟨hd.l.toArray⟩, .slice aa hd.ats.length ca, .int .i64 hd.n, .int .i64 hd.d, .string ⟨hd.x.toArray⟩, .slice ak ks.len ck] 43) = W1 := ⟨_, rfl⟩
        have hbW : Below wr.heap.size wr W1 := by rw [← hW1]; exact (Below.refl _ _).alloc (Nat.le_refl _) _
        rw [hW1]
        clear hW1 r0 r1 r2 r3 r4 r5 r6
        refine (HC.out (cls I (ownR own f.len) b (2 * k + 1)) _ W1 (liesO_keeps HL.out (KeepsO.of_below hbW))).mono ?_
        rintro e w2 ⟨rfl, hl2, hk2⟩
        have hKK := (KeptBut.of_below (I := cls I (ownR own f.len) b (2 * k + 1)) hbW).trans hk2
        have KB2 := Lib.hid (KB.out.trans (hKK.mono fun x hx => hx.1))
        have T2 := Lib.hid (treesO_turn (f := revF f) (by rw [rev_len]; exact HTK.out) hbr HE.out hKK HV.out hl2)
        have BK2 := Lib.hid (show ∃ C', w2.heap[b]? = some (.cells C' 43 (0, 0)) ∧ n * 7 ≤ C'.size by
          obtain ⟨C', h1, h2⟩ := BK.out
          exact ⟨C', (hKK.2.2.2.2 b (fun hx => Nat.lt_irrefl _ hx.2.1) hbr).trans h1, h2⟩)
        have hs2 := hKK.2.2.2.1
        clear hl2 hk2 hKK hbW
        go_wp2_with fail
        refine ⟨⟨k + 1, by go_num, by omega, by omega, BK2.out, by have := T2.out; rw [rev_len] at this; exact this, KB2.out⟩, ?_⟩
        simp [intOf]; omega
      · have dk : decide (k < n) = false := by simpa using hlt
        obtain rfl : k = n := by omega
        have F := Lib.hid (FIN'.out wr (by rw [HN.out]; have := HTK.out; rw [HN.out] at this; exact this) BK.out)
        go_wp2_with fail
        go_end0
        exact ⟨rfl, F.out, KB.out⟩

/-- turn turns a forest where it lies. -/
theorem turn_any : ∀ (N : Nat) (f : Fo), f.size ≤ N → ∀ (I : Nat → Prop) (v : Value) (w : World), LiesO I w v f → Calls Tryz.prog 112 #[v] w (TurnRes I w v f) := by
  intro N
  induction N with
  | zero =>
    intro f hf I v w hl
    exact turn_of f I v w hl (fun h ks j hj => by have := Fo.len_le_size f; have := nth_lt hj; omega)
  | succ N ih =>
    intro f hf I v w hl
    refine turn_of f I v w hl (fun h ks j hj I v w hl => ih ks ?_ I v w hl)
    have := Fo.size_app (f.take j) (f.drop j)
    rw [Fo.take_app_drop, drop_nth hj] at this
    simp only [Fo.size] at this
    omega
end Go.Proofs.YtcgedpfolloinaaGreat

namespace Go.Proofs.YtcgedpfolloinaaGreat
open Go.RowKit

set_option maxRecDepth 100000 in
set_option maxHeartbeats 2000000 in
theorem tturn_any (f : Fo) (v : Value) (w : World) (hl : Lies w v f) (hs : Small f) : Calls Tryz.prog 54 #[v] w (FoRes w (turnV f)) := by
  have CH := Lib.hid (tcheck_any f v w hl hs)
  have CL := Lib.hid (fun W (hW : Below w.heap.size w W) => cloneO_any f.size f (Nat.le_refl _) v W (lies_below hl hW))
  obtain ⟨a, cap, rfl⟩ := lies_form hl
  clear hl hs
  by_cases h0 : foErr f = 0
  · rw [show turnV f = (turnF f, 0) by unfold turnV; rw [if_pos h0]]
    rw [h0] at CH
    clear h0
    go_enter Tryz.func54, Tryz.ntmps54
    go_wp2_with fail
    refine CH.out.mono ?_
    rintro e X1 ⟨rfl, B1⟩
    go_wp2_with fail
    refine (CL.out X1 B1).mono ?_
    rintro e X2 ⟨a2, c2, rfl, hL2, hb2⟩
    have TU := Lib.hid (turn_any f.size f (Nat.le_refl _) _ _ X2 hL2)
    have B2 := B1.trans (hb2.mono B1.size)
    have hs12 := hb2.size
    clear hL2 hb2
    go_wp2_with fail
    refine TU.out.mono ?_
    rintro e X3 ⟨rfl, hL3, hk3⟩
    have B3 := B2.trans (hk3.below (B := w.heap.size) (fun x (hx : X1.heap.size ≤ x) => Nat.le_trans B1.size hx) B2.size)
    have HL3 := Lib.hid (liesO_F (B := w.heap.size) (fun x (hx : X1.heap.size ≤ x) => Nat.le_trans B1.size hx) hL3)
    have LE := Lib.hid (turn_len f)
    clear hL3 hk3
    go_wp2_with fail
    go_ret2
    exact ⟨a2, c2, by rw [LE.out]; rfl, by rw [LE.out]; exact HL3.out, B3⟩
  · rw [show turnV f = (.nil, foErr f) by unfold turnV; rw [if_neg h0]]
    have b0 : (foErr f != 0) = true := by simpa using h0
    generalize foErr f = ee at *
    clear h0
    go_enter Tryz.func54, Tryz.ntmps54
    go_wp2_with fail
    refine CH.out.mono ?_
    rintro e X1 ⟨rfl, B1⟩
    go_wp2_with fail
    go_ret2
    exact FoRes.none B1
end Go.Proofs.YtcgedpfolloinaaGreat
